/-
  NARROWER THAN 'FOR EVERY INPUT', by the rows' own cells (each row's printed sentence says how): TokenSays: laid · SanitizeSays: laid · ServerSays: laid · ClientSays: laid · WorldDoes: laid · WorldApart: laid.
  DERIVED. THE GIVEN ROWS OF THIS SEAT. 6 by the template 'for every input the law returns true; each argument reads behind the call as it read before'; 0 by the template 'total and deterministic' (their statements: YtbhcklkbckacpaaGreatDoorTotals.lean).
  GIVEN WITH THE SEED: the statements are not yours to turn. If you find one false, say at which input.
  Laid BY PROGRAM, IN A SANDBOX (cutbox-rows.mjs): the forced cells as the released guide's own fill.sh prints them over the translation e62ede0c6b4237d8… (all of the seat's roots in one cut). By AI agents, Wed Nov 11 2026. No macro, syntax, notation, axiom, sorry.
-/
import Derived.Test.YtbhcklkbckacpaaGreatDoorChecked
import GoSem.PinnedTables
import GoSem.Claim
import GoSem.ClaimJoined
import GoSem.ClaimMapViews
import Derived.JoinedTies
import Derived.KernelRfl
namespace Go.Proofs.YtbhcklkbckacpaaGreatDoor
/- THE CELL 'sum', in the pinned program and in every row, IS THE sha256 OF THE DUMP (.gsa) THAT YtbhcklkbckacpaaGreatDoorProg.lean LOADS. Nothing in Lean hashes anything: it is a label: what it is worth is what the hold of that sum in a sandbox is worth. -/
noncomputable def Tryz.pinned : Pinned := { name := "ytbhcklkbckacpaagreatdoor", sum := "e62ede0c6b4237d850fe3ef57bef4112938ff006f0ed2d85856c79e3e516994b", checked := Tryz.checked }
namespace Rows
def none {H : Type} : Left H := { results := [], args := [] }

/- WHAT THE LISTED PACKAGE-LEVEL VARIABLES READ AS WHEN THE CALL BEGINS. Each datum BY PROGRAM (the guide's laid-datum.mjs) off the statement by which the dump's own 'gosem.cut.vars' lays the variable. In a bare row this is a premise. The card (YtbhcklkbckacpaaGreatDoorCards.lean) ties it to the program's text. -/
def laid_manyhands_escape_pairs {H : Type} : DataW H := .agg [.agg [.lit (.int .u8 38), .lit (.string [38, 97, 109, 112, 59])], .agg [.lit (.int .u8 60), .lit (.string [38, 108, 116, 59])], .agg [.lit (.int .u8 62), .lit (.string [38, 103, 116, 59])], .agg [.lit (.int .u8 34), .lit (.string [38, 113, 117, 111, 116, 59])]]
def laid_unicode_utf8_acceptRanges {H : Type} : DataW H := .agg [.agg [.lit (.int .u8 128), .lit (.int .u8 191)], .agg [.lit (.int .u8 160), .lit (.int .u8 191)], .agg [.lit (.int .u8 128), .lit (.int .u8 159)], .agg [.lit (.int .u8 144), .lit (.int .u8 191)], .agg [.lit (.int .u8 128), .lit (.int .u8 143)], .agg [.lit (.int .u8 0), .lit (.int .u8 0)], .agg [.lit (.int .u8 0), .lit (.int .u8 0)], .agg [.lit (.int .u8 0), .lit (.int .u8 0)], .agg [.lit (.int .u8 0), .lit (.int .u8 0)], .agg [.lit (.int .u8 0), .lit (.int .u8 0)], .agg [.lit (.int .u8 0), .lit (.int .u8 0)], .agg [.lit (.int .u8 0), .lit (.int .u8 0)], .agg [.lit (.int .u8 0), .lit (.int .u8 0)], .agg [.lit (.int .u8 0), .lit (.int .u8 0)], .agg [.lit (.int .u8 0), .lit (.int .u8 0)], .agg [.lit (.int .u8 0), .lit (.int .u8 0)]]
def laid_unicode_White_Space {H : Type} : DataW H := .ptr (.agg [.slice [.agg [.lit (.int .u16 9), .lit (.int .u16 13), .lit (.int .u16 1)], .agg [.lit (.int .u16 32), .lit (.int .u16 133), .lit (.int .u16 101)], .agg [.lit (.int .u16 160), .lit (.int .u16 5760), .lit (.int .u16 5600)], .agg [.lit (.int .u16 8192), .lit (.int .u16 8202), .lit (.int .u16 1)], .agg [.lit (.int .u16 8232), .lit (.int .u16 8233), .lit (.int .u16 1)], .agg [.lit (.int .u16 8239), .lit (.int .u16 8287), .lit (.int .u16 48)], .agg [.lit (.int .u16 12288), .lit (.int .u16 12288), .lit (.int .u16 1)]] [], .nil, .lit (.int .i64 2)])
def laid_strings_asciiSpace {H : Type} : DataW H := .agg [.lit (.int .u8 0), .lit (.int .u8 0), .lit (.int .u8 0), .lit (.int .u8 0), .lit (.int .u8 0), .lit (.int .u8 0), .lit (.int .u8 0), .lit (.int .u8 0), .lit (.int .u8 0), .lit (.int .u8 1), .lit (.int .u8 1), .lit (.int .u8 1), .lit (.int .u8 1), .lit (.int .u8 1), .lit (.int .u8 0), .lit (.int .u8 0), .lit (.int .u8 0), .lit (.int .u8 0), .lit (.int .u8 0), .lit (.int .u8 0), .lit (.int .u8 0), .lit (.int .u8 0), .lit (.int .u8 0), .lit (.int .u8 0), .lit (.int .u8 0), .lit (.int .u8 0), .lit (.int .u8 0), .lit (.int .u8 0), .lit (.int .u8 0), .lit (.int .u8 0), .lit (.int .u8 0), .lit (.int .u8 0), .lit (.int .u8 1), .lit (.int .u8 0), .lit (.int .u8 0), .lit (.int .u8 0), .lit (.int .u8 0), .lit (.int .u8 0), .lit (.int .u8 0), .lit (.int .u8 0), .lit (.int .u8 0), .lit (.int .u8 0), .lit (.int .u8 0), .lit (.int .u8 0), .lit (.int .u8 0), .lit (.int .u8 0), .lit (.int .u8 0), .lit (.int .u8 0), .lit (.int .u8 0), .lit (.int .u8 0), .lit (.int .u8 0), .lit (.int .u8 0), .lit (.int .u8 0), .lit (.int .u8 0), .lit (.int .u8 0), .lit (.int .u8 0), .lit (.int .u8 0), .lit (.int .u8 0), .lit (.int .u8 0), .lit (.int .u8 0), .lit (.int .u8 0), .lit (.int .u8 0), .lit (.int .u8 0), .lit (.int .u8 0), .lit (.int .u8 0), .lit (.int .u8 0), .lit (.int .u8 0), .lit (.int .u8 0), .lit (.int .u8 0), .lit (.int .u8 0), .lit (.int .u8 0), .lit (.int .u8 0), .lit (.int .u8 0), .lit (.int .u8 0), .lit (.int .u8 0), .lit (.int .u8 0), .lit (.int .u8 0), .lit (.int .u8 0), .lit (.int .u8 0), .lit (.int .u8 0), .lit (.int .u8 0), .lit (.int .u8 0), .lit (.int .u8 0), .lit (.int .u8 0), .lit (.int .u8 0), .lit (.int .u8 0), .lit (.int .u8 0), .lit (.int .u8 0), .lit (.int .u8 0), .lit (.int .u8 0), .lit (.int .u8 0), .lit (.int .u8 0), .lit (.int .u8 0), .lit (.int .u8 0), .lit (.int .u8 0), .lit (.int .u8 0), .lit (.int .u8 0), .lit (.int .u8 0), .lit (.int .u8 0), .lit (.int .u8 0), .lit (.int .u8 0), .lit (.int .u8 0), .lit (.int .u8 0), .lit (.int .u8 0), .lit (.int .u8 0), .lit (.int .u8 0), .lit (.int .u8 0), .lit (.int .u8 0), .lit (.int .u8 0), .lit (.int .u8 0), .lit (.int .u8 0), .lit (.int .u8 0), .lit (.int .u8 0), .lit (.int .u8 0), .lit (.int .u8 0), .lit (.int .u8 0), .lit (.int .u8 0), .lit (.int .u8 0), .lit (.int .u8 0), .lit (.int .u8 0), .lit (.int .u8 0), .lit (.int .u8 0), .lit (.int .u8 0), .lit (.int .u8 0), .lit (.int .u8 0), .lit (.int .u8 0), .lit (.int .u8 0), .lit (.int .u8 0), .lit (.int .u8 0), .lit (.int .u8 0), .lit (.int .u8 0), .lit (.int .u8 0), .lit (.int .u8 0), .lit (.int .u8 0), .lit (.int .u8 0), .lit (.int .u8 0), .lit (.int .u8 0), .lit (.int .u8 0), .lit (.int .u8 0), .lit (.int .u8 0), .lit (.int .u8 0), .lit (.int .u8 0), .lit (.int .u8 0), .lit (.int .u8 0), .lit (.int .u8 0), .lit (.int .u8 0), .lit (.int .u8 0), .lit (.int .u8 0), .lit (.int .u8 0), .lit (.int .u8 0), .lit (.int .u8 0), .lit (.int .u8 0), .lit (.int .u8 0), .lit (.int .u8 0), .lit (.int .u8 0), .lit (.int .u8 0), .lit (.int .u8 0), .lit (.int .u8 0), .lit (.int .u8 0), .lit (.int .u8 0), .lit (.int .u8 0), .lit (.int .u8 0), .lit (.int .u8 0), .lit (.int .u8 0), .lit (.int .u8 0), .lit (.int .u8 0), .lit (.int .u8 0), .lit (.int .u8 0), .lit (.int .u8 0), .lit (.int .u8 0), .lit (.int .u8 0), .lit (.int .u8 0), .lit (.int .u8 0), .lit (.int .u8 0), .lit (.int .u8 0), .lit (.int .u8 0), .lit (.int .u8 0), .lit (.int .u8 0), .lit (.int .u8 0), .lit (.int .u8 0), .lit (.int .u8 0), .lit (.int .u8 0), .lit (.int .u8 0), .lit (.int .u8 0), .lit (.int .u8 0), .lit (.int .u8 0), .lit (.int .u8 0), .lit (.int .u8 0), .lit (.int .u8 0), .lit (.int .u8 0), .lit (.int .u8 0), .lit (.int .u8 0), .lit (.int .u8 0), .lit (.int .u8 0), .lit (.int .u8 0), .lit (.int .u8 0), .lit (.int .u8 0), .lit (.int .u8 0), .lit (.int .u8 0), .lit (.int .u8 0), .lit (.int .u8 0), .lit (.int .u8 0), .lit (.int .u8 0), .lit (.int .u8 0), .lit (.int .u8 0), .lit (.int .u8 0), .lit (.int .u8 0), .lit (.int .u8 0), .lit (.int .u8 0), .lit (.int .u8 0), .lit (.int .u8 0), .lit (.int .u8 0), .lit (.int .u8 0), .lit (.int .u8 0), .lit (.int .u8 0), .lit (.int .u8 0), .lit (.int .u8 0), .lit (.int .u8 0), .lit (.int .u8 0), .lit (.int .u8 0), .lit (.int .u8 0), .lit (.int .u8 0), .lit (.int .u8 0), .lit (.int .u8 0), .lit (.int .u8 0), .lit (.int .u8 0), .lit (.int .u8 0), .lit (.int .u8 0), .lit (.int .u8 0), .lit (.int .u8 0), .lit (.int .u8 0), .lit (.int .u8 0), .lit (.int .u8 0), .lit (.int .u8 0), .lit (.int .u8 0), .lit (.int .u8 0), .lit (.int .u8 0), .lit (.int .u8 0), .lit (.int .u8 0), .lit (.int .u8 0), .lit (.int .u8 0), .lit (.int .u8 0), .lit (.int .u8 0), .lit (.int .u8 0), .lit (.int .u8 0), .lit (.int .u8 0), .lit (.int .u8 0), .lit (.int .u8 0), .lit (.int .u8 0), .lit (.int .u8 0), .lit (.int .u8 0), .lit (.int .u8 0), .lit (.int .u8 0), .lit (.int .u8 0), .lit (.int .u8 0), .lit (.int .u8 0)]
def laid_manyhands_link_schemes {H : Type} : DataW H := .agg [.lit (.string [104, 116, 116, 112]), .lit (.string [104, 116, 116, 112, 115]), .lit (.string [109, 97, 105, 108, 116, 111])]
def laid_manyhands_export_blockNames {H : Type} : DataW H := .agg [.lit (.string [112]), .lit (.string [104, 49]), .lit (.string [108, 105]), .lit (.string [104, 50])]
def laid_manyhands_export_markNames {H : Type} : DataW H := .agg [.agg [.lit (.int .i64 2), .lit (.string [105])], .agg [.lit (.int .i64 1), .lit (.string [98])]]
def laid_manyhands_sanitize_blockNames {H : Type} : DataW H := .agg [.agg [.lit (.string [112]), .lit (.int .i64 0)], .agg [.lit (.string [100, 105, 118]), .lit (.int .i64 0)], .agg [.lit (.string [104, 49]), .lit (.int .i64 1)], .agg [.lit (.string [108, 105]), .lit (.int .i64 2)], .agg [.lit (.string [104, 50]), .lit (.int .i64 3)]]
def laid_manyhands_sanitize_hidingNames {H : Type} : DataW H := .agg [.lit (.string [115, 99, 114, 105, 112, 116]), .lit (.string [115, 116, 121, 108, 101]), .lit (.string [116, 101, 109, 112, 108, 97, 116, 101]), .lit (.string [115, 118, 103]), .lit (.string [109, 97, 116, 104]), .lit (.string [105, 102, 114, 97, 109, 101]), .lit (.string [116, 105, 116, 108, 101]), .lit (.string [116, 101, 120, 116, 97, 114, 101, 97]), .lit (.string [110, 111, 115, 99, 114, 105, 112, 116])]
/-- One of Go's own tables, pinned by name: the form's constant. -/
def laid_unicode_utf8_first : DataW Unit := Go.Pinned.utf8First

/-- 'manyhandslaw.TokenSays': WHATEVER THE INPUT: true; the input reads as it did. -/
def tokenSaysSpec : ChangeSpec := { name := "tokenSays", fn := fun _ => fun
  | [d] => { results := [.lit (.bool true)], args := [d] }
  | _ => none }
def tokenSaysRow : OpenClaim := { program := "ytbhcklkbckacpaagreatdoor", sum := "e62ede0c6b4237d850fe3ef57bef4112938ff006f0ed2d85856c79e3e516994b", func := "manyhands/manyhandslaw.TokenSays", spec := "tokenSays", inPlace := ["internal/bytealg.IndexByteString", "internal/bytealg.IndexString", "sync/atomic.LoadUint32", "(*internal/sync.Mutex).Lock", "internal/race.Disable", "sync/atomic.CompareAndSwapInt32", "internal/race.Enable", "internal/race.Acquire", "(*internal/sync.Mutex).lockSlow", "internal/sync.runtime_canSpin", "internal/sync.runtime_doSpin", "internal/sync.throw", "internal/sync.runtime_nanotime", "internal/sync.runtime_SemacquireMutex", "sync/atomic.AddInt32", "(*internal/sync.Mutex).Unlock", "internal/race.ReleaseMerge", "(*internal/sync.Mutex).unlockSlow", "internal/sync.fatal", "internal/sync.runtime_Semrelease", "sync/atomic.StoreUint32"], unfollowed := true, recurses := true, named := ["manyhands/escape.pairs", "internal/bytealg.MaxLen"], apart := false, laid := [("manyhands/escape.pairs", laid_manyhands_escape_pairs)] }
def TokenSaysSaid : Prop := tokenSaysRow.holds Tryz.pinned (OpenSpec.ofChange tokenSaysSpec)

/-- ITS FALSE NEIGHBOUR: 'it returns false'. Refute it at one input. -/
def tokenSaysWrong : ChangeSpec := { name := "tokenSays", fn := fun _ => fun
  | [d] => { results := [.lit (.bool false)], args := [d] }
  | _ => none }
def TokenSaysWrongFalsely : Prop := tokenSaysRow.holds Tryz.pinned (OpenSpec.ofChange tokenSaysWrong)

/-- 'manyhandslaw.SanitizeSays': WHATEVER THE INPUT: true; the input reads as it did. -/
def sanitizeSaysSpec : ChangeSpec := { name := "sanitizeSays", fn := fun _ => fun
  | [d] => { results := [.lit (.bool true)], args := [d] }
  | _ => none }
def sanitizeSaysRow : OpenClaim := { program := "ytbhcklkbckacpaagreatdoor", sum := "e62ede0c6b4237d850fe3ef57bef4112938ff006f0ed2d85856c79e3e516994b", func := "manyhands/manyhandslaw.SanitizeSays", spec := "sanitizeSays", inPlace := ["internal/bytealg.IndexByteString", "internal/bytealg.IndexString", "sync/atomic.LoadUint32", "(*internal/sync.Mutex).Lock", "internal/race.Disable", "sync/atomic.CompareAndSwapInt32", "internal/race.Enable", "internal/race.Acquire", "(*internal/sync.Mutex).lockSlow", "internal/sync.runtime_canSpin", "internal/sync.runtime_doSpin", "internal/sync.throw", "internal/sync.runtime_nanotime", "internal/sync.runtime_SemacquireMutex", "sync/atomic.AddInt32", "(*internal/sync.Mutex).Unlock", "internal/race.ReleaseMerge", "(*internal/sync.Mutex).unlockSlow", "internal/sync.fatal", "internal/sync.runtime_Semrelease", "sync/atomic.StoreUint32"], unfollowed := true, recurses := true, named := ["manyhands/escape.pairs", "internal/bytealg.MaxLen", "manyhands/sanitize.blockNames", "unicode/utf8.first", "unicode/utf8.acceptRanges", "manyhands/link.schemes", "manyhands/sanitize.hidingNames", "manyhands/export.blockNames", "manyhands/export.markNames", "strings.asciiSpace", "unicode.White_Space"], apart := false, laid := [("unicode/utf8.acceptRanges", laid_unicode_utf8_acceptRanges), ("unicode.White_Space", laid_unicode_White_Space), ("strings.asciiSpace", laid_strings_asciiSpace), ("manyhands/escape.pairs", laid_manyhands_escape_pairs), ("manyhands/link.schemes", laid_manyhands_link_schemes), ("manyhands/export.blockNames", laid_manyhands_export_blockNames), ("manyhands/export.markNames", laid_manyhands_export_markNames), ("manyhands/sanitize.blockNames", laid_manyhands_sanitize_blockNames), ("manyhands/sanitize.hidingNames", laid_manyhands_sanitize_hidingNames), ("unicode/utf8.first", laid_unicode_utf8_first)] }
def SanitizeSaysSaid : Prop := sanitizeSaysRow.holds Tryz.pinned (OpenSpec.ofChange sanitizeSaysSpec)

/-- ITS FALSE NEIGHBOUR: 'it returns false'. Refute it at one input. -/
def sanitizeSaysWrong : ChangeSpec := { name := "sanitizeSays", fn := fun _ => fun
  | [d] => { results := [.lit (.bool false)], args := [d] }
  | _ => none }
def SanitizeSaysWrongFalsely : Prop := sanitizeSaysRow.holds Tryz.pinned (OpenSpec.ofChange sanitizeSaysWrong)

/-- 'manyhandslaw.ServerSays': WHATEVER THE INPUT: true; the input reads as it did. -/
def serverSaysSpec : ChangeSpec := { name := "serverSays", fn := fun _ => fun
  | [d1, d2, d3, d4, d5, d6] => { results := [.lit (.bool true)], args := [d1, d2, d3, d4, d5, d6] }
  | _ => none }
def serverSaysRow : OpenClaim := { program := "ytbhcklkbckacpaagreatdoor", sum := "e62ede0c6b4237d850fe3ef57bef4112938ff006f0ed2d85856c79e3e516994b", func := "manyhands/manyhandslaw.ServerSays", spec := "serverSays", inPlace := ["internal/bytealg.IndexByteString", "internal/bytealg.IndexString"], unfollowed := true, recurses := true, named := ["internal/bytealg.MaxLen", "manyhands/link.schemes"], apart := false, laid := [("manyhands/link.schemes", laid_manyhands_link_schemes)] }
def ServerSaysSaid : Prop := serverSaysRow.holds Tryz.pinned (OpenSpec.ofChange serverSaysSpec)

/-- ITS FALSE NEIGHBOUR: 'it returns false'. Refute it at one input. -/
def serverSaysWrong : ChangeSpec := { name := "serverSays", fn := fun _ => fun
  | [d1, d2, d3, d4, d5, d6] => { results := [.lit (.bool false)], args := [d1, d2, d3, d4, d5, d6] }
  | _ => none }
def ServerSaysWrongFalsely : Prop := serverSaysRow.holds Tryz.pinned (OpenSpec.ofChange serverSaysWrong)

/-- 'manyhandslaw.ClientSays': WHATEVER THE INPUT: true; the input reads as it did. -/
def clientSaysSpec : ChangeSpec := { name := "clientSays", fn := fun _ => fun
  | [d1, d2, d3, d4, d5] => { results := [.lit (.bool true)], args := [d1, d2, d3, d4, d5] }
  | _ => none }
def clientSaysRow : OpenClaim := { program := "ytbhcklkbckacpaagreatdoor", sum := "e62ede0c6b4237d850fe3ef57bef4112938ff006f0ed2d85856c79e3e516994b", func := "manyhands/manyhandslaw.ClientSays", spec := "clientSays", inPlace := ["internal/bytealg.IndexByteString", "internal/bytealg.IndexString"], unfollowed := true, recurses := true, named := ["internal/bytealg.MaxLen", "manyhands/link.schemes"], apart := false, laid := [("manyhands/link.schemes", laid_manyhands_link_schemes)] }
def ClientSaysSaid : Prop := clientSaysRow.holds Tryz.pinned (OpenSpec.ofChange clientSaysSpec)

/-- ITS FALSE NEIGHBOUR: 'it returns false'. Refute it at one input. -/
def clientSaysWrong : ChangeSpec := { name := "clientSays", fn := fun _ => fun
  | [d1, d2, d3, d4, d5] => { results := [.lit (.bool false)], args := [d1, d2, d3, d4, d5] }
  | _ => none }
def ClientSaysWrongFalsely : Prop := clientSaysRow.holds Tryz.pinned (OpenSpec.ofChange clientSaysWrong)

/-- 'manyhandslaw.WorldDoes': WHATEVER THE INPUT: true; the input reads as it did. -/
def worldDoesSpec : ChangeSpec := { name := "worldDoes", fn := fun _ => fun
  | [d1, d2, d3, d4, d5] => { results := [.lit (.bool true)], args := [d1, d2, d3, d4, d5] }
  | _ => none }
def worldDoesRow : OpenClaim := { program := "ytbhcklkbckacpaagreatdoor", sum := "e62ede0c6b4237d850fe3ef57bef4112938ff006f0ed2d85856c79e3e516994b", func := "manyhands/manyhandslaw.WorldDoes", spec := "worldDoes", inPlace := ["internal/bytealg.IndexByteString", "internal/bytealg.IndexString", "sync/atomic.LoadUint32", "(*internal/sync.Mutex).Lock", "internal/race.Disable", "sync/atomic.CompareAndSwapInt32", "internal/race.Enable", "internal/race.Acquire", "(*internal/sync.Mutex).lockSlow", "internal/sync.runtime_canSpin", "internal/sync.runtime_doSpin", "internal/sync.throw", "internal/sync.runtime_nanotime", "internal/sync.runtime_SemacquireMutex", "sync/atomic.AddInt32", "(*internal/sync.Mutex).Unlock", "internal/race.ReleaseMerge", "(*internal/sync.Mutex).unlockSlow", "internal/sync.fatal", "internal/sync.runtime_Semrelease", "sync/atomic.StoreUint32"], unfollowed := true, recurses := true, named := ["internal/bytealg.MaxLen", "manyhands/link.schemes", "manyhands/escape.pairs", "manyhands/sanitize.blockNames", "unicode/utf8.first", "unicode/utf8.acceptRanges", "manyhands/sanitize.hidingNames", "strings.asciiSpace", "unicode.White_Space"], apart := false, laid := [("unicode/utf8.acceptRanges", laid_unicode_utf8_acceptRanges), ("unicode.White_Space", laid_unicode_White_Space), ("strings.asciiSpace", laid_strings_asciiSpace), ("manyhands/escape.pairs", laid_manyhands_escape_pairs), ("manyhands/link.schemes", laid_manyhands_link_schemes), ("manyhands/sanitize.blockNames", laid_manyhands_sanitize_blockNames), ("manyhands/sanitize.hidingNames", laid_manyhands_sanitize_hidingNames), ("unicode/utf8.first", laid_unicode_utf8_first)] }
def WorldDoesSaid : Prop := worldDoesRow.holds Tryz.pinned (OpenSpec.ofChange worldDoesSpec)

/-- ITS FALSE NEIGHBOUR: 'it returns false'. Refute it at one input. -/
def worldDoesWrong : ChangeSpec := { name := "worldDoes", fn := fun _ => fun
  | [d1, d2, d3, d4, d5] => { results := [.lit (.bool false)], args := [d1, d2, d3, d4, d5] }
  | _ => none }
def WorldDoesWrongFalsely : Prop := worldDoesRow.holds Tryz.pinned (OpenSpec.ofChange worldDoesWrong)

/-- 'manyhandslaw.WorldApart': WHATEVER THE INPUT: true; the input reads as it did. -/
def worldApartSpec : ChangeSpec := { name := "worldApart", fn := fun _ => fun
  | [d1, d2] => { results := [.lit (.bool true)], args := [d1, d2] }
  | _ => none }
def worldApartRow : OpenClaim := { program := "ytbhcklkbckacpaagreatdoor", sum := "e62ede0c6b4237d850fe3ef57bef4112938ff006f0ed2d85856c79e3e516994b", func := "manyhands/manyhandslaw.WorldApart", spec := "worldApart", inPlace := ["internal/bytealg.IndexByteString", "internal/bytealg.IndexString"], unfollowed := true, recurses := true, named := ["internal/bytealg.MaxLen", "manyhands/link.schemes", "manyhands/escape.pairs", "manyhands/sanitize.blockNames", "unicode/utf8.first", "unicode/utf8.acceptRanges", "manyhands/sanitize.hidingNames"], apart := false, laid := [("unicode/utf8.acceptRanges", laid_unicode_utf8_acceptRanges), ("manyhands/escape.pairs", laid_manyhands_escape_pairs), ("manyhands/link.schemes", laid_manyhands_link_schemes), ("manyhands/sanitize.blockNames", laid_manyhands_sanitize_blockNames), ("manyhands/sanitize.hidingNames", laid_manyhands_sanitize_hidingNames), ("unicode/utf8.first", laid_unicode_utf8_first)] }
def WorldApartSaid : Prop := worldApartRow.holds Tryz.pinned (OpenSpec.ofChange worldApartSpec)

/-- ITS FALSE NEIGHBOUR: 'it returns false'. Refute it at one input. -/
def worldApartWrong : ChangeSpec := { name := "worldApart", fn := fun _ => fun
  | [d1, d2] => { results := [.lit (.bool false)], args := [d1, d2] }
  | _ => none }
def WorldApartWrongFalsely : Prop := worldApartRow.holds Tryz.pinned (OpenSpec.ofChange worldApartWrong)

/- THE SECOND FORM. 'bulk': how many values and letters a reading holds, each counted each time it is reached (what is shared counts as often as it is met; a slice's spare places count too). A statement '..UptoSaid' is the law's where the arguments, and the package variables that the reading takes, are together of bulk at most 1048576: NARROWER than '..Said'. Prove '..Said' where nothing that the law and all that it calls make is longer than what came in: it says more and counts as full. Else prove '..UptoSaid'. A law counts once. -/
mutual
def uptoBulk {H : Type} : DataW H → Nat
  | .lit (.string bytes) => bytes.length + 1
  | .lit _ => 1
  | .nil => 1
  | .ptr d => uptoBulk d + 1
  | .slice elems spare => uptoBulkAll elems + uptoBulkAll spare + 1
  | .agg parts => uptoBulkAll parts + 1
  | .iface _ d => uptoBulk d + 1
  | .map entries => uptoBulkEntries entries + 1
  | .held _ => 1
def uptoBulkAll {H : Type} : List (DataW H) → Nat
  | [] => 0
  | d :: r => uptoBulk d + uptoBulkAll r
def uptoBulkEntries {H : Type} : List (Lit × DataW H) → Nat
  | [] => 0
  | x :: r => uptoBulkEntry x + uptoBulkEntries r
def uptoBulkEntry {H : Type} : Lit × DataW H → Nat
  | (.string bytes, d) => bytes.length + uptoBulk d + 1
  | (_, d) => uptoBulk d + 1
 end
def uptoSmall : (H : Type) → List (DataW H) → Bool := fun _ ds => decide (uptoBulkAll ds ≤ 1048576)
def OpenSpec.upto (s : _root_.Go.ChangeSpec) : _root_.Go.OpenSpec := { _root_.Go.OpenSpec.ofChange s with cond := some uptoSmall }

/-- 'manyhandslaw.TokenSays', WHERE WHAT IT READS IS OF BULK AT MOST 1048576: true; the input reads as it did. -/
def tokenSaysUptoRow : OpenClaim := { program := "ytbhcklkbckacpaagreatdoor", sum := "e62ede0c6b4237d850fe3ef57bef4112938ff006f0ed2d85856c79e3e516994b", func := "manyhands/manyhandslaw.TokenSays", spec := "tokenSays", inPlace := ["internal/bytealg.IndexByteString", "internal/bytealg.IndexString", "sync/atomic.LoadUint32", "(*internal/sync.Mutex).Lock", "internal/race.Disable", "sync/atomic.CompareAndSwapInt32", "internal/race.Enable", "internal/race.Acquire", "(*internal/sync.Mutex).lockSlow", "internal/sync.runtime_canSpin", "internal/sync.runtime_doSpin", "internal/sync.throw", "internal/sync.runtime_nanotime", "internal/sync.runtime_SemacquireMutex", "sync/atomic.AddInt32", "(*internal/sync.Mutex).Unlock", "internal/race.ReleaseMerge", "(*internal/sync.Mutex).unlockSlow", "internal/sync.fatal", "internal/sync.runtime_Semrelease", "sync/atomic.StoreUint32"], unfollowed := true, recurses := true, named := ["manyhands/escape.pairs", "internal/bytealg.MaxLen"], apart := false, laid := [("manyhands/escape.pairs", laid_manyhands_escape_pairs)], narrowed := true }
def TokenSaysUptoSaid : Prop := tokenSaysUptoRow.holds Tryz.pinned (OpenSpec.upto tokenSaysSpec)

/-- 'manyhandslaw.SanitizeSays', WHERE WHAT IT READS IS OF BULK AT MOST 1048576: true; the input reads as it did. -/
def sanitizeSaysUptoRow : OpenClaim := { program := "ytbhcklkbckacpaagreatdoor", sum := "e62ede0c6b4237d850fe3ef57bef4112938ff006f0ed2d85856c79e3e516994b", func := "manyhands/manyhandslaw.SanitizeSays", spec := "sanitizeSays", inPlace := ["internal/bytealg.IndexByteString", "internal/bytealg.IndexString", "sync/atomic.LoadUint32", "(*internal/sync.Mutex).Lock", "internal/race.Disable", "sync/atomic.CompareAndSwapInt32", "internal/race.Enable", "internal/race.Acquire", "(*internal/sync.Mutex).lockSlow", "internal/sync.runtime_canSpin", "internal/sync.runtime_doSpin", "internal/sync.throw", "internal/sync.runtime_nanotime", "internal/sync.runtime_SemacquireMutex", "sync/atomic.AddInt32", "(*internal/sync.Mutex).Unlock", "internal/race.ReleaseMerge", "(*internal/sync.Mutex).unlockSlow", "internal/sync.fatal", "internal/sync.runtime_Semrelease", "sync/atomic.StoreUint32"], unfollowed := true, recurses := true, named := ["manyhands/escape.pairs", "internal/bytealg.MaxLen", "manyhands/sanitize.blockNames", "unicode/utf8.first", "unicode/utf8.acceptRanges", "manyhands/link.schemes", "manyhands/sanitize.hidingNames", "manyhands/export.blockNames", "manyhands/export.markNames", "strings.asciiSpace", "unicode.White_Space"], apart := false, laid := [("unicode/utf8.acceptRanges", laid_unicode_utf8_acceptRanges), ("unicode.White_Space", laid_unicode_White_Space), ("strings.asciiSpace", laid_strings_asciiSpace), ("manyhands/escape.pairs", laid_manyhands_escape_pairs), ("manyhands/link.schemes", laid_manyhands_link_schemes), ("manyhands/export.blockNames", laid_manyhands_export_blockNames), ("manyhands/export.markNames", laid_manyhands_export_markNames), ("manyhands/sanitize.blockNames", laid_manyhands_sanitize_blockNames), ("manyhands/sanitize.hidingNames", laid_manyhands_sanitize_hidingNames), ("unicode/utf8.first", laid_unicode_utf8_first)], narrowed := true }
def SanitizeSaysUptoSaid : Prop := sanitizeSaysUptoRow.holds Tryz.pinned (OpenSpec.upto sanitizeSaysSpec)

/-- 'manyhandslaw.ServerSays', WHERE WHAT IT READS IS OF BULK AT MOST 1048576: true; the input reads as it did. -/
def serverSaysUptoRow : OpenClaim := { program := "ytbhcklkbckacpaagreatdoor", sum := "e62ede0c6b4237d850fe3ef57bef4112938ff006f0ed2d85856c79e3e516994b", func := "manyhands/manyhandslaw.ServerSays", spec := "serverSays", inPlace := ["internal/bytealg.IndexByteString", "internal/bytealg.IndexString"], unfollowed := true, recurses := true, named := ["internal/bytealg.MaxLen", "manyhands/link.schemes"], apart := false, laid := [("manyhands/link.schemes", laid_manyhands_link_schemes)], narrowed := true }
def ServerSaysUptoSaid : Prop := serverSaysUptoRow.holds Tryz.pinned (OpenSpec.upto serverSaysSpec)

/-- 'manyhandslaw.ClientSays', WHERE WHAT IT READS IS OF BULK AT MOST 1048576: true; the input reads as it did. -/
def clientSaysUptoRow : OpenClaim := { program := "ytbhcklkbckacpaagreatdoor", sum := "e62ede0c6b4237d850fe3ef57bef4112938ff006f0ed2d85856c79e3e516994b", func := "manyhands/manyhandslaw.ClientSays", spec := "clientSays", inPlace := ["internal/bytealg.IndexByteString", "internal/bytealg.IndexString"], unfollowed := true, recurses := true, named := ["internal/bytealg.MaxLen", "manyhands/link.schemes"], apart := false, laid := [("manyhands/link.schemes", laid_manyhands_link_schemes)], narrowed := true }
def ClientSaysUptoSaid : Prop := clientSaysUptoRow.holds Tryz.pinned (OpenSpec.upto clientSaysSpec)

/-- 'manyhandslaw.WorldDoes', WHERE WHAT IT READS IS OF BULK AT MOST 1048576: true; the input reads as it did. -/
def worldDoesUptoRow : OpenClaim := { program := "ytbhcklkbckacpaagreatdoor", sum := "e62ede0c6b4237d850fe3ef57bef4112938ff006f0ed2d85856c79e3e516994b", func := "manyhands/manyhandslaw.WorldDoes", spec := "worldDoes", inPlace := ["internal/bytealg.IndexByteString", "internal/bytealg.IndexString", "sync/atomic.LoadUint32", "(*internal/sync.Mutex).Lock", "internal/race.Disable", "sync/atomic.CompareAndSwapInt32", "internal/race.Enable", "internal/race.Acquire", "(*internal/sync.Mutex).lockSlow", "internal/sync.runtime_canSpin", "internal/sync.runtime_doSpin", "internal/sync.throw", "internal/sync.runtime_nanotime", "internal/sync.runtime_SemacquireMutex", "sync/atomic.AddInt32", "(*internal/sync.Mutex).Unlock", "internal/race.ReleaseMerge", "(*internal/sync.Mutex).unlockSlow", "internal/sync.fatal", "internal/sync.runtime_Semrelease", "sync/atomic.StoreUint32"], unfollowed := true, recurses := true, named := ["internal/bytealg.MaxLen", "manyhands/link.schemes", "manyhands/escape.pairs", "manyhands/sanitize.blockNames", "unicode/utf8.first", "unicode/utf8.acceptRanges", "manyhands/sanitize.hidingNames", "strings.asciiSpace", "unicode.White_Space"], apart := false, laid := [("unicode/utf8.acceptRanges", laid_unicode_utf8_acceptRanges), ("unicode.White_Space", laid_unicode_White_Space), ("strings.asciiSpace", laid_strings_asciiSpace), ("manyhands/escape.pairs", laid_manyhands_escape_pairs), ("manyhands/link.schemes", laid_manyhands_link_schemes), ("manyhands/sanitize.blockNames", laid_manyhands_sanitize_blockNames), ("manyhands/sanitize.hidingNames", laid_manyhands_sanitize_hidingNames), ("unicode/utf8.first", laid_unicode_utf8_first)], narrowed := true }
def WorldDoesUptoSaid : Prop := worldDoesUptoRow.holds Tryz.pinned (OpenSpec.upto worldDoesSpec)

/-- 'manyhandslaw.WorldApart', WHERE WHAT IT READS IS OF BULK AT MOST 1048576: true; the input reads as it did. -/
def worldApartUptoRow : OpenClaim := { program := "ytbhcklkbckacpaagreatdoor", sum := "e62ede0c6b4237d850fe3ef57bef4112938ff006f0ed2d85856c79e3e516994b", func := "manyhands/manyhandslaw.WorldApart", spec := "worldApart", inPlace := ["internal/bytealg.IndexByteString", "internal/bytealg.IndexString"], unfollowed := true, recurses := true, named := ["internal/bytealg.MaxLen", "manyhands/link.schemes", "manyhands/escape.pairs", "manyhands/sanitize.blockNames", "unicode/utf8.first", "unicode/utf8.acceptRanges", "manyhands/sanitize.hidingNames"], apart := false, laid := [("unicode/utf8.acceptRanges", laid_unicode_utf8_acceptRanges), ("manyhands/escape.pairs", laid_manyhands_escape_pairs), ("manyhands/link.schemes", laid_manyhands_link_schemes), ("manyhands/sanitize.blockNames", laid_manyhands_sanitize_blockNames), ("manyhands/sanitize.hidingNames", laid_manyhands_sanitize_hidingNames), ("unicode/utf8.first", laid_unicode_utf8_first)], narrowed := true }
def WorldApartUptoSaid : Prop := worldApartUptoRow.holds Tryz.pinned (OpenSpec.upto worldApartSpec)

end Rows
end Go.Proofs.YtbhcklkbckacpaaGreatDoor
