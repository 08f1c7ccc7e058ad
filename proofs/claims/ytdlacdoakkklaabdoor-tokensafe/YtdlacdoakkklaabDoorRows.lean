/-
  NARROWER THAN 'FOR EVERY INPUT', by the rows' own cells (each row's printed sentence says how): TokenSafe: laid · TokenParts: laid.
  DERIVED. THE GIVEN ROWS OF THIS SEAT. 2 by the template 'for every input the law returns true; each argument reads behind the call as it read before'; 0 by the template 'total and deterministic' (their statements: YtdlacdoakkklaabDoorTotals.lean).
  GIVEN WITH THE SEED: the statements are not yours to turn. If you find one false, say at which input.
  Laid BY PROGRAM, IN A SANDBOX (cutbox-rows.mjs): the forced cells as the released guide's own fill.sh prints them over the translation 172250e87148d0c4… (all of the seat's roots in one cut). By AI agents, Wed Nov 11 2026. No macro, syntax, notation, axiom, sorry.
-/
import Derived.Test.YtdlacdoakkklaabDoorChecked
import GoSem.PinnedTables
import GoSem.Claim
import GoSem.ClaimJoined
import GoSem.ClaimMapViews
import Derived.JoinedTies
import Derived.KernelRfl
namespace Go.Proofs.YtdlacdoakkklaabDoor
/- THE CELL 'sum', in the pinned program and in every row, IS THE sha256 OF THE DUMP (.gsa) THAT YtdlacdoakkklaabDoorProg.lean LOADS. Nothing in Lean hashes anything: it is a label: what it is worth is what the hold of that sum in a sandbox is worth. -/
noncomputable def Tryd.pinned : Pinned := { name := "ytdlacdoakkklaabdoor", sum := "172250e87148d0c434a22d962cb47eb5cd1ba20c9d8bb8261e0b9283641e1407", checked := Tryd.checked }
namespace Rows
def none {H : Type} : Left H := { results := [], args := [] }

/- WHAT THE LISTED PACKAGE-LEVEL VARIABLES READ AS WHEN THE CALL BEGINS. Each datum BY PROGRAM (the guide's laid-datum.mjs) off the statement by which the dump's own 'gosem.cut.vars' lays the variable. In a bare row this is a premise. The card (YtdlacdoakkklaabDoorCards.lean) ties it to the program's text. -/
def laid_unicode_utf8_acceptRanges {H : Type} : DataW H := .agg [.agg [.lit (.int .u8 128), .lit (.int .u8 191)], .agg [.lit (.int .u8 160), .lit (.int .u8 191)], .agg [.lit (.int .u8 128), .lit (.int .u8 159)], .agg [.lit (.int .u8 144), .lit (.int .u8 191)], .agg [.lit (.int .u8 128), .lit (.int .u8 143)], .agg [.lit (.int .u8 0), .lit (.int .u8 0)], .agg [.lit (.int .u8 0), .lit (.int .u8 0)], .agg [.lit (.int .u8 0), .lit (.int .u8 0)], .agg [.lit (.int .u8 0), .lit (.int .u8 0)], .agg [.lit (.int .u8 0), .lit (.int .u8 0)], .agg [.lit (.int .u8 0), .lit (.int .u8 0)], .agg [.lit (.int .u8 0), .lit (.int .u8 0)], .agg [.lit (.int .u8 0), .lit (.int .u8 0)], .agg [.lit (.int .u8 0), .lit (.int .u8 0)], .agg [.lit (.int .u8 0), .lit (.int .u8 0)], .agg [.lit (.int .u8 0), .lit (.int .u8 0)]]
def laid_manyhands_escape_pairs {H : Type} : DataW H := .agg [.agg [.lit (.int .u8 38), .lit (.string [38, 97, 109, 112, 59])], .agg [.lit (.int .u8 60), .lit (.string [38, 108, 116, 59])], .agg [.lit (.int .u8 62), .lit (.string [38, 103, 116, 59])], .agg [.lit (.int .u8 34), .lit (.string [38, 113, 117, 111, 116, 59])]]
def laid_manyhands_link_schemes {H : Type} : DataW H := .agg [.lit (.string [104, 116, 116, 112]), .lit (.string [104, 116, 116, 112, 115]), .lit (.string [109, 97, 105, 108, 116, 111])]
def laid_manyhands_export_blockNames {H : Type} : DataW H := .agg [.lit (.string [112]), .lit (.string [104, 49]), .lit (.string [108, 105]), .lit (.string [104, 50])]
def laid_manyhands_export_markNames {H : Type} : DataW H := .agg [.agg [.lit (.int .i64 2), .lit (.string [105])], .agg [.lit (.int .i64 1), .lit (.string [98])]]
/-- One of Go's own tables, pinned by name: the form's constant. -/
def laid_unicode_utf8_first : DataW Unit := Go.Pinned.utf8First

/-- 'manyhandslaw.TokenSafe': WHATEVER THE INPUT: true; the input reads as it did. -/
def tokenSafeSpec : ChangeSpec := { name := "tokenSafe", fn := fun _ => fun
  | [d] => { results := [.lit (.bool true)], args := [d] }
  | _ => none }
def tokenSafeRow : OpenClaim := { program := "ytdlacdoakkklaabdoor", sum := "172250e87148d0c434a22d962cb47eb5cd1ba20c9d8bb8261e0b9283641e1407", func := "manyhands/manyhandslaw.TokenSafe", spec := "tokenSafe", inPlace := ["internal/bytealg.IndexByteString", "internal/bytealg.IndexString", "internal/bytealg.CountString", "internal/abi.NoEscape", "internal/bytealg.MakeNoZero"], unfollowed := true, recurses := true, named := ["internal/bytealg.MaxLen", "manyhands/link.schemes", "manyhands/export.blockNames", "manyhands/export.markNames", "manyhands/escape.pairs", "unicode/utf8.first", "unicode/utf8.acceptRanges"], apart := false, laid := [("unicode/utf8.acceptRanges", laid_unicode_utf8_acceptRanges), ("manyhands/escape.pairs", laid_manyhands_escape_pairs), ("manyhands/link.schemes", laid_manyhands_link_schemes), ("manyhands/export.blockNames", laid_manyhands_export_blockNames), ("manyhands/export.markNames", laid_manyhands_export_markNames), ("unicode/utf8.first", laid_unicode_utf8_first)] }
def TokenSafeSaid : Prop := tokenSafeRow.holds Tryd.pinned (OpenSpec.ofChange tokenSafeSpec)

/-- ITS FALSE NEIGHBOUR: 'it returns false'. Refute it at one input. -/
def tokenSafeWrong : ChangeSpec := { name := "tokenSafe", fn := fun _ => fun
  | [d] => { results := [.lit (.bool false)], args := [d] }
  | _ => none }
def TokenSafeWrongFalsely : Prop := tokenSafeRow.holds Tryd.pinned (OpenSpec.ofChange tokenSafeWrong)

/-- 'manyhandslaw.TokenParts': WHATEVER THE INPUT: true; the input reads as it did. -/
def tokenPartsSpec : ChangeSpec := { name := "tokenParts", fn := fun _ => fun
  | [d1, d2] => { results := [.lit (.bool true)], args := [d1, d2] }
  | _ => none }
def tokenPartsRow : OpenClaim := { program := "ytdlacdoakkklaabdoor", sum := "172250e87148d0c434a22d962cb47eb5cd1ba20c9d8bb8261e0b9283641e1407", func := "manyhands/manyhandslaw.TokenParts", spec := "tokenParts", inPlace := ["internal/bytealg.IndexByteString", "internal/bytealg.IndexString"], unfollowed := true, recurses := true, named := ["manyhands/escape.pairs", "internal/bytealg.MaxLen"], apart := false, laid := [("manyhands/escape.pairs", laid_manyhands_escape_pairs)] }
def TokenPartsSaid : Prop := tokenPartsRow.holds Tryd.pinned (OpenSpec.ofChange tokenPartsSpec)

/-- ITS FALSE NEIGHBOUR: 'it returns false'. Refute it at one input. -/
def tokenPartsWrong : ChangeSpec := { name := "tokenParts", fn := fun _ => fun
  | [d1, d2] => { results := [.lit (.bool false)], args := [d1, d2] }
  | _ => none }
def TokenPartsWrongFalsely : Prop := tokenPartsRow.holds Tryd.pinned (OpenSpec.ofChange tokenPartsWrong)

/- THE SECOND FORM. 'bulk': how many values and letters a reading holds, each counted each time it is reached (what is shared counts as often as it is met; a slice's spare places count too). A statement '..UptoSaid' is the law's where the arguments, and the package variables that the reading takes, are together of bulk at most 1048576: NARROWER than '..Said'. Prove '..Said' where nothing that the law and all that it calls make is longer than what came in: it says more and counts as full. Else prove '..UptoSaid'. A law counts once. -/
mutual
def uptoBulk {H : Type} : DataW H → Nat
  | .lit (.string bytes) => bytes.length + 1
  | .lit _ => 1
  | .nil => 1
  | .ptr d => uptoBulk d + 1
  | .slice elems spare => uptoBulkAll elems + uptoBulkAll spare + 1
  | .agg parts => uptoBulkAll parts + 1
  | .iface _ d => uptoBulk d + 1
  | .map entries => uptoBulkEntries entries + 1
  | .held _ => 1
def uptoBulkAll {H : Type} : List (DataW H) → Nat
  | [] => 0
  | d :: r => uptoBulk d + uptoBulkAll r
def uptoBulkEntries {H : Type} : List (Lit × DataW H) → Nat
  | [] => 0
  | x :: r => uptoBulkEntry x + uptoBulkEntries r
def uptoBulkEntry {H : Type} : Lit × DataW H → Nat
  | (.string bytes, d) => bytes.length + uptoBulk d + 1
  | (_, d) => uptoBulk d + 1
 end
def uptoSmall : (H : Type) → List (DataW H) → Bool := fun _ ds => decide (uptoBulkAll ds ≤ 1048576)
def OpenSpec.upto (s : _root_.Go.ChangeSpec) : _root_.Go.OpenSpec := { _root_.Go.OpenSpec.ofChange s with cond := some uptoSmall }

/-- 'manyhandslaw.TokenSafe', WHERE WHAT IT READS IS OF BULK AT MOST 1048576: true; the input reads as it did. -/
def tokenSafeUptoRow : OpenClaim := { program := "ytdlacdoakkklaabdoor", sum := "172250e87148d0c434a22d962cb47eb5cd1ba20c9d8bb8261e0b9283641e1407", func := "manyhands/manyhandslaw.TokenSafe", spec := "tokenSafe", inPlace := ["internal/bytealg.IndexByteString", "internal/bytealg.IndexString", "internal/bytealg.CountString", "internal/abi.NoEscape", "internal/bytealg.MakeNoZero"], unfollowed := true, recurses := true, named := ["internal/bytealg.MaxLen", "manyhands/link.schemes", "manyhands/export.blockNames", "manyhands/export.markNames", "manyhands/escape.pairs", "unicode/utf8.first", "unicode/utf8.acceptRanges"], apart := false, laid := [("unicode/utf8.acceptRanges", laid_unicode_utf8_acceptRanges), ("manyhands/escape.pairs", laid_manyhands_escape_pairs), ("manyhands/link.schemes", laid_manyhands_link_schemes), ("manyhands/export.blockNames", laid_manyhands_export_blockNames), ("manyhands/export.markNames", laid_manyhands_export_markNames), ("unicode/utf8.first", laid_unicode_utf8_first)], narrowed := true }
def TokenSafeUptoSaid : Prop := tokenSafeUptoRow.holds Tryd.pinned (OpenSpec.upto tokenSafeSpec)

/-- 'manyhandslaw.TokenParts', WHERE WHAT IT READS IS OF BULK AT MOST 1048576: true; the input reads as it did. -/
def tokenPartsUptoRow : OpenClaim := { program := "ytdlacdoakkklaabdoor", sum := "172250e87148d0c434a22d962cb47eb5cd1ba20c9d8bb8261e0b9283641e1407", func := "manyhands/manyhandslaw.TokenParts", spec := "tokenParts", inPlace := ["internal/bytealg.IndexByteString", "internal/bytealg.IndexString"], unfollowed := true, recurses := true, named := ["manyhands/escape.pairs", "internal/bytealg.MaxLen"], apart := false, laid := [("manyhands/escape.pairs", laid_manyhands_escape_pairs)], narrowed := true }
def TokenPartsUptoSaid : Prop := tokenPartsUptoRow.holds Tryd.pinned (OpenSpec.upto tokenPartsSpec)

end Rows
end Go.Proofs.YtdlacdoakkklaabDoor
