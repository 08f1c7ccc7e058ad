/-
  DERIVED. GIVEN WITH THE SEED: THE CARDS: each row of YtbhcklkbckacpaaDoorRows.lean that lists a variable, with what it lists TIED to the program's text (the seventh form; the later family's looks); each row that meets fmt, with fmt's text TOLD by the authors' own Lean function (tested against real Go, not proved from fmt's source: count such statements apart). THE CARD IS WHAT COUNTS. Prove the row's statement (the work); the ties are given (YtbhcklkbckacpaaDoorTie.lean); close each card by the builder's one call (the guide's Derived/Test/ToyasCard.lean, 'card_holds'). Laid BY PROGRAM, IN A SANDBOX (cutbox-door.mjs). By AI agents, Wed Nov 11 2026. No macro, syntax, notation, axiom, sorry.
-/
import Derived.Test.YtbhcklkbckacpaaDoorRows
import GoSem.ClaimSeven
namespace Go.Proofs.YtbhcklkbckacpaaDoor
namespace Rows

/-- THE TIED CARD OF 'manyhandslaw.OtSays'. -/
def otSaysCard : Claim7 := { stood := { row := otSaysRow, standIns := [], harness := (true, "70d93c832a877de0c20ee0526120d6896ccb693c8b37930e851df2a5b0b167f1"), looks := false }, kinds := [], alts := [], laidByText := true, laidKinds := [.data], laidTests := true, laidLooks := .later }
def OtSaysCardSaid : Prop := Claim7.holds Tryd.pinned (.plain (OpenSpec.ofChange otSaysSpec)) otSaysCard

/-- THE TIED CARD OF 'manyhandslaw.ServerFolds'. -/
def serverFoldsCard : Claim7 := { stood := { row := serverFoldsRow, standIns := [], harness := (true, "70d93c832a877de0c20ee0526120d6896ccb693c8b37930e851df2a5b0b167f1"), looks := false }, kinds := [], alts := [], laidByText := true, laidKinds := [.data], laidTests := true, laidLooks := .later }
def ServerFoldsCardSaid : Prop := Claim7.holds Tryd.pinned (.plain (OpenSpec.ofChange serverFoldsSpec)) serverFoldsCard

/-- THE TIED CARD OF 'manyhandslaw.ServerOrder'. -/
def serverOrderCard : Claim7 := { stood := { row := serverOrderRow, standIns := [], harness := (true, "70d93c832a877de0c20ee0526120d6896ccb693c8b37930e851df2a5b0b167f1"), looks := false }, kinds := [], alts := [], laidByText := true, laidKinds := [.data], laidTests := true, laidLooks := .later }
def ServerOrderCardSaid : Prop := Claim7.holds Tryd.pinned (.plain (OpenSpec.ofChange serverOrderSpec)) serverOrderCard

/-- THE TIED CARD OF 'manyhandslaw.ClientKeeps'. -/
def clientKeepsCard : Claim7 := { stood := { row := clientKeepsRow, standIns := [], harness := (true, "70d93c832a877de0c20ee0526120d6896ccb693c8b37930e851df2a5b0b167f1"), looks := false }, kinds := [], alts := [], laidByText := true, laidKinds := [.data], laidTests := true, laidLooks := .later }
def ClientKeepsCardSaid : Prop := Claim7.holds Tryd.pinned (.plain (OpenSpec.ofChange clientKeepsSpec)) clientKeepsCard

/-- THE TIED CARD OF 'manyhandslaw.ClientMeets'. -/
def clientMeetsCard : Claim7 := { stood := { row := clientMeetsRow, standIns := [], harness := (true, "70d93c832a877de0c20ee0526120d6896ccb693c8b37930e851df2a5b0b167f1"), looks := false }, kinds := [], alts := [], laidByText := true, laidKinds := [.data], laidTests := true, laidLooks := .later }
def ClientMeetsCardSaid : Prop := Claim7.holds Tryd.pinned (.plain (OpenSpec.ofChange clientMeetsSpec)) clientMeetsCard

/-- THE TIED CARD OF 'manyhandslaw.ClientGoes'. -/
def clientGoesCard : Claim7 := { stood := { row := clientGoesRow, standIns := [], harness := (true, "70d93c832a877de0c20ee0526120d6896ccb693c8b37930e851df2a5b0b167f1"), looks := false }, kinds := [], alts := [], laidByText := true, laidKinds := [.data], laidTests := true, laidLooks := .later }
def ClientGoesCardSaid : Prop := Claim7.holds Tryd.pinned (.plain (OpenSpec.ofChange clientGoesSpec)) clientGoesCard

/-- THE SECOND FORM's CARD OF 'manyhandslaw.OtSays'. -/
def otSaysUptoCard : Claim7 := { stood := { row := otSaysUptoRow, standIns := [], harness := (true, "70d93c832a877de0c20ee0526120d6896ccb693c8b37930e851df2a5b0b167f1"), looks := false }, kinds := [], alts := [], laidByText := true, laidKinds := [.data], laidTests := true, laidLooks := .later }
def OtSaysUptoCardSaid : Prop := Claim7.holds Tryd.pinned (.plain (OpenSpec.upto otSaysSpec)) otSaysUptoCard

/-- THE SECOND FORM's CARD OF 'manyhandslaw.ServerFolds'. -/
def serverFoldsUptoCard : Claim7 := { stood := { row := serverFoldsUptoRow, standIns := [], harness := (true, "70d93c832a877de0c20ee0526120d6896ccb693c8b37930e851df2a5b0b167f1"), looks := false }, kinds := [], alts := [], laidByText := true, laidKinds := [.data], laidTests := true, laidLooks := .later }
def ServerFoldsUptoCardSaid : Prop := Claim7.holds Tryd.pinned (.plain (OpenSpec.upto serverFoldsSpec)) serverFoldsUptoCard

/-- THE SECOND FORM's CARD OF 'manyhandslaw.ServerOrder'. -/
def serverOrderUptoCard : Claim7 := { stood := { row := serverOrderUptoRow, standIns := [], harness := (true, "70d93c832a877de0c20ee0526120d6896ccb693c8b37930e851df2a5b0b167f1"), looks := false }, kinds := [], alts := [], laidByText := true, laidKinds := [.data], laidTests := true, laidLooks := .later }
def ServerOrderUptoCardSaid : Prop := Claim7.holds Tryd.pinned (.plain (OpenSpec.upto serverOrderSpec)) serverOrderUptoCard

/-- THE SECOND FORM's CARD OF 'manyhandslaw.ClientKeeps'. -/
def clientKeepsUptoCard : Claim7 := { stood := { row := clientKeepsUptoRow, standIns := [], harness := (true, "70d93c832a877de0c20ee0526120d6896ccb693c8b37930e851df2a5b0b167f1"), looks := false }, kinds := [], alts := [], laidByText := true, laidKinds := [.data], laidTests := true, laidLooks := .later }
def ClientKeepsUptoCardSaid : Prop := Claim7.holds Tryd.pinned (.plain (OpenSpec.upto clientKeepsSpec)) clientKeepsUptoCard

/-- THE SECOND FORM's CARD OF 'manyhandslaw.ClientMeets'. -/
def clientMeetsUptoCard : Claim7 := { stood := { row := clientMeetsUptoRow, standIns := [], harness := (true, "70d93c832a877de0c20ee0526120d6896ccb693c8b37930e851df2a5b0b167f1"), looks := false }, kinds := [], alts := [], laidByText := true, laidKinds := [.data], laidTests := true, laidLooks := .later }
def ClientMeetsUptoCardSaid : Prop := Claim7.holds Tryd.pinned (.plain (OpenSpec.upto clientMeetsSpec)) clientMeetsUptoCard

/-- THE SECOND FORM's CARD OF 'manyhandslaw.ClientGoes'. -/
def clientGoesUptoCard : Claim7 := { stood := { row := clientGoesUptoRow, standIns := [], harness := (true, "70d93c832a877de0c20ee0526120d6896ccb693c8b37930e851df2a5b0b167f1"), looks := false }, kinds := [], alts := [], laidByText := true, laidKinds := [.data], laidTests := true, laidLooks := .later }
def ClientGoesUptoCardSaid : Prop := Claim7.holds Tryd.pinned (.plain (OpenSpec.upto clientGoesSpec)) clientGoesUptoCard
end Rows
end Go.Proofs.YtbhcklkbckacpaaDoor
