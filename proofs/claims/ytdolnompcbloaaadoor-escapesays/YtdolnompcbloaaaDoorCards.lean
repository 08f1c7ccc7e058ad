/-
  DERIVED. GIVEN WITH THE SEED: THE CARDS: each row of YtdolnompcbloaaaDoorRows.lean that lists a variable, with what it lists TIED to the program's text (the seventh form; the later family's looks); each row that meets fmt, with fmt's text TOLD by the authors' own Lean function (tested against real Go, not proved from fmt's source: count such statements apart). THE CARD IS WHAT COUNTS. Prove the row's statement (the work); the ties are given (YtdolnompcbloaaaDoorTie.lean); close each card by the builder's one call (the guide's Derived/Test/ToyasCard.lean, 'card_holds'). Laid BY PROGRAM, IN A SANDBOX (cutbox-door.mjs). By AI agents, Wed Nov 11 2026. No macro, syntax, notation, axiom, sorry.
-/
import Derived.Test.YtdolnompcbloaaaDoorRows
import GoSem.ClaimSeven
namespace Go.Proofs.YtdolnompcbloaaaDoor
namespace Rows

/-- THE TIED CARD OF 'manyhandslaw.EscapeSays'. -/
def escapeSaysCard : Claim7 := { stood := { row := escapeSaysRow, standIns := [], harness := (true, "70dbcd34ea892d78f70f0db0c44b55df780572695ebd893b6cb7e916053caf2a"), looks := true }, kinds := [], alts := [], laidByText := true, laidKinds := [.data], laidTests := true, laidLooks := .later }
def EscapeSaysCardSaid : Prop := Claim7.holds Tryd.pinned (.plain (OpenSpec.ofChange escapeSaysSpec)) escapeSaysCard

/-- THE TIED CARD OF 'manyhandslaw.EscapeBack'. -/
def escapeBackCard : Claim7 := { stood := { row := escapeBackRow, standIns := [], harness := (true, "70dbcd34ea892d78f70f0db0c44b55df780572695ebd893b6cb7e916053caf2a"), looks := true }, kinds := [], alts := [], laidByText := true, laidKinds := [.data], laidTests := true, laidLooks := .later }
def EscapeBackCardSaid : Prop := Claim7.holds Tryd.pinned (.plain (OpenSpec.ofChange escapeBackSpec)) escapeBackCard

/-- THE TIED CARD OF 'manyhandslaw.EscapeOnce'. -/
def escapeOnceCard : Claim7 := { stood := { row := escapeOnceRow, standIns := [], harness := (true, "70dbcd34ea892d78f70f0db0c44b55df780572695ebd893b6cb7e916053caf2a"), looks := true }, kinds := [], alts := [], laidByText := true, laidKinds := [.data], laidTests := true, laidLooks := .later }
def EscapeOnceCardSaid : Prop := Claim7.holds Tryd.pinned (.plain (OpenSpec.ofChange escapeOnceSpec)) escapeOnceCard

/-- THE SECOND FORM's CARD OF 'manyhandslaw.EscapeSays'. -/
def escapeSaysUptoCard : Claim7 := { stood := { row := escapeSaysUptoRow, standIns := [], harness := (true, "70dbcd34ea892d78f70f0db0c44b55df780572695ebd893b6cb7e916053caf2a"), looks := true }, kinds := [], alts := [], laidByText := true, laidKinds := [.data], laidTests := true, laidLooks := .later }
def EscapeSaysUptoCardSaid : Prop := Claim7.holds Tryd.pinned (.plain (OpenSpec.upto escapeSaysSpec)) escapeSaysUptoCard

/-- THE SECOND FORM's CARD OF 'manyhandslaw.EscapeBack'. -/
def escapeBackUptoCard : Claim7 := { stood := { row := escapeBackUptoRow, standIns := [], harness := (true, "70dbcd34ea892d78f70f0db0c44b55df780572695ebd893b6cb7e916053caf2a"), looks := true }, kinds := [], alts := [], laidByText := true, laidKinds := [.data], laidTests := true, laidLooks := .later }
def EscapeBackUptoCardSaid : Prop := Claim7.holds Tryd.pinned (.plain (OpenSpec.upto escapeBackSpec)) escapeBackUptoCard

/-- THE SECOND FORM's CARD OF 'manyhandslaw.EscapeOnce'. -/
def escapeOnceUptoCard : Claim7 := { stood := { row := escapeOnceUptoRow, standIns := [], harness := (true, "70dbcd34ea892d78f70f0db0c44b55df780572695ebd893b6cb7e916053caf2a"), looks := true }, kinds := [], alts := [], laidByText := true, laidKinds := [.data], laidTests := true, laidLooks := .later }
def EscapeOnceUptoCardSaid : Prop := Claim7.holds Tryd.pinned (.plain (OpenSpec.upto escapeOnceSpec)) escapeOnceUptoCard
end Rows
end Go.Proofs.YtdolnompcbloaaaDoor
