/-
  DERIVED. GIVEN WITH THE SEED: THE CARDS: each row of YtgidmnoinbbajaaDoorRows.lean that lists a variable, with what it lists TIED to the program's text (the seventh form; the later family's looks); each row that meets fmt, with fmt's text TOLD by the authors' own Lean function (tested against real Go, not proved from fmt's source: count such statements apart). THE CARD IS WHAT COUNTS. Prove the row's statement (the work); the ties are given (YtgidmnoinbbajaaDoorTie.lean); close each card by the builder's one call (the guide's Derived/Test/ToyasCard.lean, 'card_holds'). Laid BY PROGRAM, IN A SANDBOX (cutbox-door.mjs). By AI agents, Wed Nov 11 2026. No macro, syntax, notation, axiom, sorry.
-/
import Derived.Test.YtgidmnoinbbajaaDoorRows
import GoSem.ClaimSeven
namespace Go.Proofs.YtgidmnoinbbajaaDoor
namespace Rows

/-- THE TIED CARD OF 'manyhandslaw.OpSays'. -/
def opSaysCard : Claim7 := { stood := { row := opSaysRow, standIns := [], harness := (true, "350823bcb66cded8c4aa60ac086b6b97c4b9560c9d38007a79e4b603dadb914f"), looks := false }, kinds := [], alts := [], laidByText := true, laidKinds := [.data], laidTests := true, laidLooks := .later }
def OpSaysCardSaid : Prop := Claim7.holds Tryd.pinned (.plain (OpenSpec.ofChange opSaysSpec)) opSaysCard

/-- THE TIED CARD OF 'manyhandslaw.OpKeeps'. -/
def opKeepsCard : Claim7 := { stood := { row := opKeepsRow, standIns := [], harness := (true, "350823bcb66cded8c4aa60ac086b6b97c4b9560c9d38007a79e4b603dadb914f"), looks := false }, kinds := [], alts := [], laidByText := true, laidKinds := [.data], laidTests := true, laidLooks := .later }
def OpKeepsCardSaid : Prop := Claim7.holds Tryd.pinned (.plain (OpenSpec.ofChange opKeepsSpec)) opKeepsCard

/-- THE TIED CARD OF 'manyhandslaw.OpNothing'. -/
def opNothingCard : Claim7 := { stood := { row := opNothingRow, standIns := [], harness := (true, "350823bcb66cded8c4aa60ac086b6b97c4b9560c9d38007a79e4b603dadb914f"), looks := false }, kinds := [], alts := [], laidByText := true, laidKinds := [.data], laidTests := true, laidLooks := .later }
def OpNothingCardSaid : Prop := Claim7.holds Tryd.pinned (.plain (OpenSpec.ofChange opNothingSpec)) opNothingCard

/-- THE TIED CARD OF 'manyhandslaw.OtSays'. -/
def otSaysCard : Claim7 := { stood := { row := otSaysRow, standIns := [], harness := (true, "350823bcb66cded8c4aa60ac086b6b97c4b9560c9d38007a79e4b603dadb914f"), looks := false }, kinds := [], alts := [], laidByText := true, laidKinds := [.data], laidTests := true, laidLooks := .later }
def OtSaysCardSaid : Prop := Claim7.holds Tryd.pinned (.plain (OpenSpec.ofChange otSaysSpec)) otSaysCard

/-- THE TIED CARD OF 'manyhandslaw.OtMeets'. -/
def otMeetsCard : Claim7 := { stood := { row := otMeetsRow, standIns := [], harness := (true, "350823bcb66cded8c4aa60ac086b6b97c4b9560c9d38007a79e4b603dadb914f"), looks := false }, kinds := [], alts := [], laidByText := true, laidKinds := [.data], laidTests := true, laidLooks := .later }
def OtMeetsCardSaid : Prop := Claim7.holds Tryd.pinned (.plain (OpenSpec.ofChange otMeetsSpec)) otMeetsCard

/-- THE TIED CARD OF 'manyhandslaw.OtJoins'. -/
def otJoinsCard : Claim7 := { stood := { row := otJoinsRow, standIns := [], harness := (true, "350823bcb66cded8c4aa60ac086b6b97c4b9560c9d38007a79e4b603dadb914f"), looks := false }, kinds := [], alts := [], laidByText := true, laidKinds := [.data], laidTests := true, laidLooks := .later }
def OtJoinsCardSaid : Prop := Claim7.holds Tryd.pinned (.plain (OpenSpec.ofChange otJoinsSpec)) otJoinsCard

/-- THE TIED CARD OF 'manyhandslaw.OtNothing'. -/
def otNothingCard : Claim7 := { stood := { row := otNothingRow, standIns := [], harness := (true, "350823bcb66cded8c4aa60ac086b6b97c4b9560c9d38007a79e4b603dadb914f"), looks := false }, kinds := [], alts := [], laidByText := true, laidKinds := [.data], laidTests := true, laidLooks := .later }
def OtNothingCardSaid : Prop := Claim7.holds Tryd.pinned (.plain (OpenSpec.ofChange otNothingSpec)) otNothingCard

/-- THE SECOND FORM's CARD OF 'manyhandslaw.OpSays'. -/
def opSaysUptoCard : Claim7 := { stood := { row := opSaysUptoRow, standIns := [], harness := (true, "350823bcb66cded8c4aa60ac086b6b97c4b9560c9d38007a79e4b603dadb914f"), looks := false }, kinds := [], alts := [], laidByText := true, laidKinds := [.data], laidTests := true, laidLooks := .later }
def OpSaysUptoCardSaid : Prop := Claim7.holds Tryd.pinned (.plain (OpenSpec.upto opSaysSpec)) opSaysUptoCard

/-- THE SECOND FORM's CARD OF 'manyhandslaw.OpKeeps'. -/
def opKeepsUptoCard : Claim7 := { stood := { row := opKeepsUptoRow, standIns := [], harness := (true, "350823bcb66cded8c4aa60ac086b6b97c4b9560c9d38007a79e4b603dadb914f"), looks := false }, kinds := [], alts := [], laidByText := true, laidKinds := [.data], laidTests := true, laidLooks := .later }
def OpKeepsUptoCardSaid : Prop := Claim7.holds Tryd.pinned (.plain (OpenSpec.upto opKeepsSpec)) opKeepsUptoCard

/-- THE SECOND FORM's CARD OF 'manyhandslaw.OpNothing'. -/
def opNothingUptoCard : Claim7 := { stood := { row := opNothingUptoRow, standIns := [], harness := (true, "350823bcb66cded8c4aa60ac086b6b97c4b9560c9d38007a79e4b603dadb914f"), looks := false }, kinds := [], alts := [], laidByText := true, laidKinds := [.data], laidTests := true, laidLooks := .later }
def OpNothingUptoCardSaid : Prop := Claim7.holds Tryd.pinned (.plain (OpenSpec.upto opNothingSpec)) opNothingUptoCard

/-- THE SECOND FORM's CARD OF 'manyhandslaw.OtSays'. -/
def otSaysUptoCard : Claim7 := { stood := { row := otSaysUptoRow, standIns := [], harness := (true, "350823bcb66cded8c4aa60ac086b6b97c4b9560c9d38007a79e4b603dadb914f"), looks := false }, kinds := [], alts := [], laidByText := true, laidKinds := [.data], laidTests := true, laidLooks := .later }
def OtSaysUptoCardSaid : Prop := Claim7.holds Tryd.pinned (.plain (OpenSpec.upto otSaysSpec)) otSaysUptoCard

/-- THE SECOND FORM's CARD OF 'manyhandslaw.OtMeets'. -/
def otMeetsUptoCard : Claim7 := { stood := { row := otMeetsUptoRow, standIns := [], harness := (true, "350823bcb66cded8c4aa60ac086b6b97c4b9560c9d38007a79e4b603dadb914f"), looks := false }, kinds := [], alts := [], laidByText := true, laidKinds := [.data], laidTests := true, laidLooks := .later }
def OtMeetsUptoCardSaid : Prop := Claim7.holds Tryd.pinned (.plain (OpenSpec.upto otMeetsSpec)) otMeetsUptoCard

/-- THE SECOND FORM's CARD OF 'manyhandslaw.OtJoins'. -/
def otJoinsUptoCard : Claim7 := { stood := { row := otJoinsUptoRow, standIns := [], harness := (true, "350823bcb66cded8c4aa60ac086b6b97c4b9560c9d38007a79e4b603dadb914f"), looks := false }, kinds := [], alts := [], laidByText := true, laidKinds := [.data], laidTests := true, laidLooks := .later }
def OtJoinsUptoCardSaid : Prop := Claim7.holds Tryd.pinned (.plain (OpenSpec.upto otJoinsSpec)) otJoinsUptoCard

/-- THE SECOND FORM's CARD OF 'manyhandslaw.OtNothing'. -/
def otNothingUptoCard : Claim7 := { stood := { row := otNothingUptoRow, standIns := [], harness := (true, "350823bcb66cded8c4aa60ac086b6b97c4b9560c9d38007a79e4b603dadb914f"), looks := false }, kinds := [], alts := [], laidByText := true, laidKinds := [.data], laidTests := true, laidLooks := .later }
def OtNothingUptoCardSaid : Prop := Claim7.holds Tryd.pinned (.plain (OpenSpec.upto otNothingSpec)) otNothingUptoCard
end Rows
end Go.Proofs.YtgidmnoinbbajaaDoor
