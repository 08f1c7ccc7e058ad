/-
  NARROWER THAN 'FOR EVERY INPUT', by the rows' own cells (each row's printed sentence says how): WorldApart: laid · WorldMeets: laid · WorldHolds: laid.
  DERIVED. THE GIVEN ROWS OF THIS SEAT. 3 by the template 'for every input the law returns true; each argument reads behind the call as it read before'; 0 by the template 'total and deterministic' (their statements: YthddphjghgdalaaGreatDoorTotals.lean).
  GIVEN WITH THE SEED: the statements are not yours to turn. If you find one false, say at which input.
  Laid BY PROGRAM, IN A SANDBOX (cutbox-rows.mjs): the forced cells as the released guide's own fill.sh prints them over the translation c76807ba4bfd9dc7… (all of the seat's roots in one cut). By AI agents, Wed Nov 11 2026. No macro, syntax, notation, axiom, sorry.
-/
import Derived.Test.YthddphjghgdalaaGreatDoorChecked
import GoSem.PinnedTables
import GoSem.Claim
import GoSem.ClaimJoined
import GoSem.ClaimMapViews
import Derived.JoinedTies
import Derived.KernelRfl
namespace Go.Proofs.YthddphjghgdalaaGreatDoor
/- THE CELL 'sum', in the pinned program and in every row, IS THE sha256 OF THE DUMP (.gsa) THAT YthddphjghgdalaaGreatDoorProg.lean LOADS. Nothing in Lean hashes anything: it is a label: what it is worth is what the hold of that sum in a sandbox is worth. -/
noncomputable def Tryz.pinned : Pinned := { name := "ythddphjghgdalaagreatdoor", sum := "c76807ba4bfd9dc7887766d39a7dcc9a38e2307137a8f84aca6e5a2ce7be7ce9", checked := Tryz.checked }
namespace Rows
def none {H : Type} : Left H := { results := [], args := [] }

/- WHAT THE LISTED PACKAGE-LEVEL VARIABLES READ AS WHEN THE CALL BEGINS. Each datum BY PROGRAM (the guide's laid-datum.mjs) off the statement by which the dump's own 'gosem.cut.vars' lays the variable. In a bare row this is a premise. The card (YthddphjghgdalaaGreatDoorCards.lean) ties it to the program's text. -/
def laid_unicode_utf8_acceptRanges {H : Type} : DataW H := .agg [.agg [.lit (.int .u8 128), .lit (.int .u8 191)], .agg [.lit (.int .u8 160), .lit (.int .u8 191)], .agg [.lit (.int .u8 128), .lit (.int .u8 159)], .agg [.lit (.int .u8 144), .lit (.int .u8 191)], .agg [.lit (.int .u8 128), .lit (.int .u8 143)], .agg [.lit (.int .u8 0), .lit (.int .u8 0)], .agg [.lit (.int .u8 0), .lit (.int .u8 0)], .agg [.lit (.int .u8 0), .lit (.int .u8 0)], .agg [.lit (.int .u8 0), .lit (.int .u8 0)], .agg [.lit (.int .u8 0), .lit (.int .u8 0)], .agg [.lit (.int .u8 0), .lit (.int .u8 0)], .agg [.lit (.int .u8 0), .lit (.int .u8 0)], .agg [.lit (.int .u8 0), .lit (.int .u8 0)], .agg [.lit (.int .u8 0), .lit (.int .u8 0)], .agg [.lit (.int .u8 0), .lit (.int .u8 0)], .agg [.lit (.int .u8 0), .lit (.int .u8 0)]]
def laid_manyhands_escape_pairs {H : Type} : DataW H := .agg [.agg [.lit (.int .u8 38), .lit (.string [38, 97, 109, 112, 59])], .agg [.lit (.int .u8 60), .lit (.string [38, 108, 116, 59])], .agg [.lit (.int .u8 62), .lit (.string [38, 103, 116, 59])], .agg [.lit (.int .u8 34), .lit (.string [38, 113, 117, 111, 116, 59])]]
def laid_manyhands_link_schemes {H : Type} : DataW H := .agg [.lit (.string [104, 116, 116, 112]), .lit (.string [104, 116, 116, 112, 115]), .lit (.string [109, 97, 105, 108, 116, 111])]
def laid_manyhands_sanitize_blockNames {H : Type} : DataW H := .agg [.agg [.lit (.string [112]), .lit (.int .i64 0)], .agg [.lit (.string [100, 105, 118]), .lit (.int .i64 0)], .agg [.lit (.string [104, 49]), .lit (.int .i64 1)], .agg [.lit (.string [108, 105]), .lit (.int .i64 2)], .agg [.lit (.string [104, 50]), .lit (.int .i64 3)]]
def laid_manyhands_sanitize_hidingNames {H : Type} : DataW H := .agg [.lit (.string [115, 99, 114, 105, 112, 116]), .lit (.string [115, 116, 121, 108, 101]), .lit (.string [116, 101, 109, 112, 108, 97, 116, 101]), .lit (.string [115, 118, 103]), .lit (.string [109, 97, 116, 104]), .lit (.string [105, 102, 114, 97, 109, 101]), .lit (.string [116, 105, 116, 108, 101]), .lit (.string [116, 101, 120, 116, 97, 114, 101, 97]), .lit (.string [110, 111, 115, 99, 114, 105, 112, 116])]
/-- One of Go's own tables, pinned by name: the form's constant. -/
def laid_unicode_utf8_first : DataW Unit := Go.Pinned.utf8First

/-- 'manyhandslaw.WorldApart': WHATEVER THE INPUT: true; the input reads as it did. -/
def worldApartSpec : ChangeSpec := { name := "worldApart", fn := fun _ => fun
  | [d1, d2] => { results := [.lit (.bool true)], args := [d1, d2] }
  | _ => none }
def worldApartRow : OpenClaim := { program := "ythddphjghgdalaagreatdoor", sum := "c76807ba4bfd9dc7887766d39a7dcc9a38e2307137a8f84aca6e5a2ce7be7ce9", func := "manyhands/manyhandslaw.WorldApart", spec := "worldApart", inPlace := ["internal/bytealg.IndexByteString", "internal/bytealg.IndexString"], unfollowed := true, recurses := true, named := ["internal/bytealg.MaxLen", "manyhands/link.schemes", "manyhands/escape.pairs", "manyhands/sanitize.blockNames", "unicode/utf8.first", "unicode/utf8.acceptRanges", "manyhands/sanitize.hidingNames"], apart := false, laid := [("unicode/utf8.acceptRanges", laid_unicode_utf8_acceptRanges), ("manyhands/escape.pairs", laid_manyhands_escape_pairs), ("manyhands/link.schemes", laid_manyhands_link_schemes), ("manyhands/sanitize.blockNames", laid_manyhands_sanitize_blockNames), ("manyhands/sanitize.hidingNames", laid_manyhands_sanitize_hidingNames), ("unicode/utf8.first", laid_unicode_utf8_first)] }
def WorldApartSaid : Prop := worldApartRow.holds Tryz.pinned (OpenSpec.ofChange worldApartSpec)

/-- ITS FALSE NEIGHBOUR: 'it returns false'. Refute it at one input. -/
def worldApartWrong : ChangeSpec := { name := "worldApart", fn := fun _ => fun
  | [d1, d2] => { results := [.lit (.bool false)], args := [d1, d2] }
  | _ => none }
def WorldApartWrongFalsely : Prop := worldApartRow.holds Tryz.pinned (OpenSpec.ofChange worldApartWrong)

/-- 'manyhandslaw.WorldMeets': WHATEVER THE INPUT: true; the input reads as it did. -/
def worldMeetsSpec : ChangeSpec := { name := "worldMeets", fn := fun _ => fun
  | [d1, d2, d3] => { results := [.lit (.bool true)], args := [d1, d2, d3] }
  | _ => none }
def worldMeetsRow : OpenClaim := { program := "ythddphjghgdalaagreatdoor", sum := "c76807ba4bfd9dc7887766d39a7dcc9a38e2307137a8f84aca6e5a2ce7be7ce9", func := "manyhands/manyhandslaw.WorldMeets", spec := "worldMeets", inPlace := ["internal/bytealg.IndexByteString", "internal/bytealg.IndexString"], unfollowed := true, recurses := true, named := ["internal/bytealg.MaxLen", "manyhands/link.schemes", "manyhands/escape.pairs", "manyhands/sanitize.blockNames", "unicode/utf8.first", "unicode/utf8.acceptRanges", "manyhands/sanitize.hidingNames"], apart := false, laid := [("unicode/utf8.acceptRanges", laid_unicode_utf8_acceptRanges), ("manyhands/escape.pairs", laid_manyhands_escape_pairs), ("manyhands/link.schemes", laid_manyhands_link_schemes), ("manyhands/sanitize.blockNames", laid_manyhands_sanitize_blockNames), ("manyhands/sanitize.hidingNames", laid_manyhands_sanitize_hidingNames), ("unicode/utf8.first", laid_unicode_utf8_first)] }
def WorldMeetsSaid : Prop := worldMeetsRow.holds Tryz.pinned (OpenSpec.ofChange worldMeetsSpec)

/-- ITS FALSE NEIGHBOUR: 'it returns false'. Refute it at one input. -/
def worldMeetsWrong : ChangeSpec := { name := "worldMeets", fn := fun _ => fun
  | [d1, d2, d3] => { results := [.lit (.bool false)], args := [d1, d2, d3] }
  | _ => none }
def WorldMeetsWrongFalsely : Prop := worldMeetsRow.holds Tryz.pinned (OpenSpec.ofChange worldMeetsWrong)

/-- 'manyhandslaw.WorldHolds': WHATEVER THE INPUT: true; the input reads as it did. -/
def worldHoldsSpec : ChangeSpec := { name := "worldHolds", fn := fun _ => fun
  | [d1, d2, d3] => { results := [.lit (.bool true)], args := [d1, d2, d3] }
  | _ => none }
def worldHoldsRow : OpenClaim := { program := "ythddphjghgdalaagreatdoor", sum := "c76807ba4bfd9dc7887766d39a7dcc9a38e2307137a8f84aca6e5a2ce7be7ce9", func := "manyhands/manyhandslaw.WorldHolds", spec := "worldHolds", inPlace := ["internal/bytealg.IndexByteString", "internal/bytealg.IndexString"], unfollowed := true, recurses := true, named := ["internal/bytealg.MaxLen", "manyhands/link.schemes", "manyhands/escape.pairs", "manyhands/sanitize.blockNames", "unicode/utf8.first", "unicode/utf8.acceptRanges", "manyhands/sanitize.hidingNames"], apart := false, laid := [("unicode/utf8.acceptRanges", laid_unicode_utf8_acceptRanges), ("manyhands/escape.pairs", laid_manyhands_escape_pairs), ("manyhands/link.schemes", laid_manyhands_link_schemes), ("manyhands/sanitize.blockNames", laid_manyhands_sanitize_blockNames), ("manyhands/sanitize.hidingNames", laid_manyhands_sanitize_hidingNames), ("unicode/utf8.first", laid_unicode_utf8_first)] }
def WorldHoldsSaid : Prop := worldHoldsRow.holds Tryz.pinned (OpenSpec.ofChange worldHoldsSpec)

/-- ITS FALSE NEIGHBOUR: 'it returns false'. Refute it at one input. -/
def worldHoldsWrong : ChangeSpec := { name := "worldHolds", fn := fun _ => fun
  | [d1, d2, d3] => { results := [.lit (.bool false)], args := [d1, d2, d3] }
  | _ => none }
def WorldHoldsWrongFalsely : Prop := worldHoldsRow.holds Tryz.pinned (OpenSpec.ofChange worldHoldsWrong)

/- THE SECOND FORM. 'bulk': how many values and letters a reading holds, each counted each time it is reached (what is shared counts as often as it is met; a slice's spare places count too). A statement '..UptoSaid' is the law's where the arguments, and the package variables that the reading takes, are together of bulk at most 1048576: NARROWER than '..Said'. Prove '..Said' where nothing that the law and all that it calls make is longer than what came in: it says more and counts as full. Else prove '..UptoSaid'. A law counts once. -/
mutual
def uptoBulk {H : Type} : DataW H → Nat
  | .lit (.string bytes) => bytes.length + 1
  | .lit _ => 1
  | .nil => 1
  | .ptr d => uptoBulk d + 1
  | .slice elems spare => uptoBulkAll elems + uptoBulkAll spare + 1
  | .agg parts => uptoBulkAll parts + 1
  | .iface _ d => uptoBulk d + 1
  | .map entries => uptoBulkEntries entries + 1
  | .held _ => 1
def uptoBulkAll {H : Type} : List (DataW H) → Nat
  | [] => 0
  | d :: r => uptoBulk d + uptoBulkAll r
def uptoBulkEntries {H : Type} : List (Lit × DataW H) → Nat
  | [] => 0
  | x :: r => uptoBulkEntry x + uptoBulkEntries r
def uptoBulkEntry {H : Type} : Lit × DataW H → Nat
  | (.string bytes, d) => bytes.length + uptoBulk d + 1
  | (_, d) => uptoBulk d + 1
 end
def uptoSmall : (H : Type) → List (DataW H) → Bool := fun _ ds => decide (uptoBulkAll ds ≤ 1048576)
def OpenSpec.upto (s : _root_.Go.ChangeSpec) : _root_.Go.OpenSpec := { _root_.Go.OpenSpec.ofChange s with cond := some uptoSmall }

/-- 'manyhandslaw.WorldApart', WHERE WHAT IT READS IS OF BULK AT MOST 1048576: true; the input reads as it did. -/
def worldApartUptoRow : OpenClaim := { program := "ythddphjghgdalaagreatdoor", sum := "c76807ba4bfd9dc7887766d39a7dcc9a38e2307137a8f84aca6e5a2ce7be7ce9", func := "manyhands/manyhandslaw.WorldApart", spec := "worldApart", inPlace := ["internal/bytealg.IndexByteString", "internal/bytealg.IndexString"], unfollowed := true, recurses := true, named := ["internal/bytealg.MaxLen", "manyhands/link.schemes", "manyhands/escape.pairs", "manyhands/sanitize.blockNames", "unicode/utf8.first", "unicode/utf8.acceptRanges", "manyhands/sanitize.hidingNames"], apart := false, laid := [("unicode/utf8.acceptRanges", laid_unicode_utf8_acceptRanges), ("manyhands/escape.pairs", laid_manyhands_escape_pairs), ("manyhands/link.schemes", laid_manyhands_link_schemes), ("manyhands/sanitize.blockNames", laid_manyhands_sanitize_blockNames), ("manyhands/sanitize.hidingNames", laid_manyhands_sanitize_hidingNames), ("unicode/utf8.first", laid_unicode_utf8_first)], narrowed := true }
def WorldApartUptoSaid : Prop := worldApartUptoRow.holds Tryz.pinned (OpenSpec.upto worldApartSpec)

/-- 'manyhandslaw.WorldMeets', WHERE WHAT IT READS IS OF BULK AT MOST 1048576: true; the input reads as it did. -/
def worldMeetsUptoRow : OpenClaim := { program := "ythddphjghgdalaagreatdoor", sum := "c76807ba4bfd9dc7887766d39a7dcc9a38e2307137a8f84aca6e5a2ce7be7ce9", func := "manyhands/manyhandslaw.WorldMeets", spec := "worldMeets", inPlace := ["internal/bytealg.IndexByteString", "internal/bytealg.IndexString"], unfollowed := true, recurses := true, named := ["internal/bytealg.MaxLen", "manyhands/link.schemes", "manyhands/escape.pairs", "manyhands/sanitize.blockNames", "unicode/utf8.first", "unicode/utf8.acceptRanges", "manyhands/sanitize.hidingNames"], apart := false, laid := [("unicode/utf8.acceptRanges", laid_unicode_utf8_acceptRanges), ("manyhands/escape.pairs", laid_manyhands_escape_pairs), ("manyhands/link.schemes", laid_manyhands_link_schemes), ("manyhands/sanitize.blockNames", laid_manyhands_sanitize_blockNames), ("manyhands/sanitize.hidingNames", laid_manyhands_sanitize_hidingNames), ("unicode/utf8.first", laid_unicode_utf8_first)], narrowed := true }
def WorldMeetsUptoSaid : Prop := worldMeetsUptoRow.holds Tryz.pinned (OpenSpec.upto worldMeetsSpec)

/-- 'manyhandslaw.WorldHolds', WHERE WHAT IT READS IS OF BULK AT MOST 1048576: true; the input reads as it did. -/
def worldHoldsUptoRow : OpenClaim := { program := "ythddphjghgdalaagreatdoor", sum := "c76807ba4bfd9dc7887766d39a7dcc9a38e2307137a8f84aca6e5a2ce7be7ce9", func := "manyhands/manyhandslaw.WorldHolds", spec := "worldHolds", inPlace := ["internal/bytealg.IndexByteString", "internal/bytealg.IndexString"], unfollowed := true, recurses := true, named := ["internal/bytealg.MaxLen", "manyhands/link.schemes", "manyhands/escape.pairs", "manyhands/sanitize.blockNames", "unicode/utf8.first", "unicode/utf8.acceptRanges", "manyhands/sanitize.hidingNames"], apart := false, laid := [("unicode/utf8.acceptRanges", laid_unicode_utf8_acceptRanges), ("manyhands/escape.pairs", laid_manyhands_escape_pairs), ("manyhands/link.schemes", laid_manyhands_link_schemes), ("manyhands/sanitize.blockNames", laid_manyhands_sanitize_blockNames), ("manyhands/sanitize.hidingNames", laid_manyhands_sanitize_hidingNames), ("unicode/utf8.first", laid_unicode_utf8_first)], narrowed := true }
def WorldHoldsUptoSaid : Prop := worldHoldsUptoRow.holds Tryz.pinned (OpenSpec.upto worldHoldsSpec)

end Rows
end Go.Proofs.YthddphjghgdalaaGreatDoor
