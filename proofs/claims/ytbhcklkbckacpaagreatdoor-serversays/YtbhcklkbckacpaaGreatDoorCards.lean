/-
  DERIVED. GIVEN WITH THE SEED: THE CARDS: each row of YtbhcklkbckacpaaGreatDoorRows.lean that lists a variable, with what it lists TIED to the program's text (the seventh form; the later family's looks); each row that meets fmt, with fmt's text TOLD by the authors' own Lean function (tested against real Go, not proved from fmt's source: count such statements apart). THE CARD IS WHAT COUNTS. Prove the row's statement (the work); the ties are given (YtbhcklkbckacpaaGreatDoorTie.lean); close each card by the builder's one call (the guide's Derived/Test/ToyasCard.lean, 'card_holds'). Laid BY PROGRAM, IN A SANDBOX (cutbox-door.mjs). By AI agents, Wed Nov 11 2026. No macro, syntax, notation, axiom, sorry.
-/
import Derived.Test.YtbhcklkbckacpaaGreatDoorRows
import GoSem.ClaimSeven
namespace Go.Proofs.YtbhcklkbckacpaaGreatDoor
namespace Rows

/-- THE TIED CARD OF 'manyhandslaw.TokenSays'. -/
def tokenSaysCard : Claim7 := { stood := { row := tokenSaysRow, standIns := [], harness := (true, "82d97f48944c5f9f30ab22310f317914aea937d8e5cea6f0706545cc9ef9aff8"), looks := true }, kinds := [], alts := [], laidByText := true, laidKinds := [.data], laidTests := true, laidLooks := .later }
def TokenSaysCardSaid : Prop := Claim7.holds Tryz.pinned (.plain (OpenSpec.ofChange tokenSaysSpec)) tokenSaysCard

/-- THE TIED CARD OF 'manyhandslaw.SanitizeSays'. -/
def sanitizeSaysCard : Claim7 := { stood := { row := sanitizeSaysRow, standIns := [], harness := (true, "82d97f48944c5f9f30ab22310f317914aea937d8e5cea6f0706545cc9ef9aff8"), looks := true }, kinds := [], alts := [], laidByText := true, laidKinds := [.data, .listed, .data, .data, .data, .data, .data, .data, .data, .pinned], laidTests := true, laidLooks := .later }
def SanitizeSaysCardSaid : Prop := Claim7.holds Tryz.pinned (.plain (OpenSpec.ofChange sanitizeSaysSpec)) sanitizeSaysCard

/-- THE TIED CARD OF 'manyhandslaw.ServerSays'. -/
def serverSaysCard : Claim7 := { stood := { row := serverSaysRow, standIns := [], harness := (true, "82d97f48944c5f9f30ab22310f317914aea937d8e5cea6f0706545cc9ef9aff8"), looks := true }, kinds := [], alts := [], laidByText := true, laidKinds := [.data], laidTests := true, laidLooks := .later }
def ServerSaysCardSaid : Prop := Claim7.holds Tryz.pinned (.plain (OpenSpec.ofChange serverSaysSpec)) serverSaysCard

/-- THE TIED CARD OF 'manyhandslaw.ClientSays'. -/
def clientSaysCard : Claim7 := { stood := { row := clientSaysRow, standIns := [], harness := (true, "82d97f48944c5f9f30ab22310f317914aea937d8e5cea6f0706545cc9ef9aff8"), looks := true }, kinds := [], alts := [], laidByText := true, laidKinds := [.data], laidTests := true, laidLooks := .later }
def ClientSaysCardSaid : Prop := Claim7.holds Tryz.pinned (.plain (OpenSpec.ofChange clientSaysSpec)) clientSaysCard

/-- THE TIED CARD OF 'manyhandslaw.WorldDoes'. -/
def worldDoesCard : Claim7 := { stood := { row := worldDoesRow, standIns := [], harness := (true, "82d97f48944c5f9f30ab22310f317914aea937d8e5cea6f0706545cc9ef9aff8"), looks := true }, kinds := [], alts := [], laidByText := true, laidKinds := [.data, .listed, .data, .data, .data, .data, .data, .pinned], laidTests := true, laidLooks := .later }
def WorldDoesCardSaid : Prop := Claim7.holds Tryz.pinned (.plain (OpenSpec.ofChange worldDoesSpec)) worldDoesCard

/-- THE TIED CARD OF 'manyhandslaw.WorldApart'. -/
def worldApartCard : Claim7 := { stood := { row := worldApartRow, standIns := [], harness := (true, "82d97f48944c5f9f30ab22310f317914aea937d8e5cea6f0706545cc9ef9aff8"), looks := true }, kinds := [], alts := [], laidByText := true, laidKinds := [.data, .data, .data, .data, .data, .pinned], laidTests := true, laidLooks := .later }
def WorldApartCardSaid : Prop := Claim7.holds Tryz.pinned (.plain (OpenSpec.ofChange worldApartSpec)) worldApartCard

/-- THE SECOND FORM's CARD OF 'manyhandslaw.TokenSays'. -/
def tokenSaysUptoCard : Claim7 := { stood := { row := tokenSaysUptoRow, standIns := [], harness := (true, "82d97f48944c5f9f30ab22310f317914aea937d8e5cea6f0706545cc9ef9aff8"), looks := true }, kinds := [], alts := [], laidByText := true, laidKinds := [.data], laidTests := true, laidLooks := .later }
def TokenSaysUptoCardSaid : Prop := Claim7.holds Tryz.pinned (.plain (OpenSpec.upto tokenSaysSpec)) tokenSaysUptoCard

/-- THE SECOND FORM's CARD OF 'manyhandslaw.SanitizeSays'. -/
def sanitizeSaysUptoCard : Claim7 := { stood := { row := sanitizeSaysUptoRow, standIns := [], harness := (true, "82d97f48944c5f9f30ab22310f317914aea937d8e5cea6f0706545cc9ef9aff8"), looks := true }, kinds := [], alts := [], laidByText := true, laidKinds := [.data, .listed, .data, .data, .data, .data, .data, .data, .data, .pinned], laidTests := true, laidLooks := .later }
def SanitizeSaysUptoCardSaid : Prop := Claim7.holds Tryz.pinned (.plain (OpenSpec.upto sanitizeSaysSpec)) sanitizeSaysUptoCard

/-- THE SECOND FORM's CARD OF 'manyhandslaw.ServerSays'. -/
def serverSaysUptoCard : Claim7 := { stood := { row := serverSaysUptoRow, standIns := [], harness := (true, "82d97f48944c5f9f30ab22310f317914aea937d8e5cea6f0706545cc9ef9aff8"), looks := true }, kinds := [], alts := [], laidByText := true, laidKinds := [.data], laidTests := true, laidLooks := .later }
def ServerSaysUptoCardSaid : Prop := Claim7.holds Tryz.pinned (.plain (OpenSpec.upto serverSaysSpec)) serverSaysUptoCard

/-- THE SECOND FORM's CARD OF 'manyhandslaw.ClientSays'. -/
def clientSaysUptoCard : Claim7 := { stood := { row := clientSaysUptoRow, standIns := [], harness := (true, "82d97f48944c5f9f30ab22310f317914aea937d8e5cea6f0706545cc9ef9aff8"), looks := true }, kinds := [], alts := [], laidByText := true, laidKinds := [.data], laidTests := true, laidLooks := .later }
def ClientSaysUptoCardSaid : Prop := Claim7.holds Tryz.pinned (.plain (OpenSpec.upto clientSaysSpec)) clientSaysUptoCard

/-- THE SECOND FORM's CARD OF 'manyhandslaw.WorldDoes'. -/
def worldDoesUptoCard : Claim7 := { stood := { row := worldDoesUptoRow, standIns := [], harness := (true, "82d97f48944c5f9f30ab22310f317914aea937d8e5cea6f0706545cc9ef9aff8"), looks := true }, kinds := [], alts := [], laidByText := true, laidKinds := [.data, .listed, .data, .data, .data, .data, .data, .pinned], laidTests := true, laidLooks := .later }
def WorldDoesUptoCardSaid : Prop := Claim7.holds Tryz.pinned (.plain (OpenSpec.upto worldDoesSpec)) worldDoesUptoCard

/-- THE SECOND FORM's CARD OF 'manyhandslaw.WorldApart'. -/
def worldApartUptoCard : Claim7 := { stood := { row := worldApartUptoRow, standIns := [], harness := (true, "82d97f48944c5f9f30ab22310f317914aea937d8e5cea6f0706545cc9ef9aff8"), looks := true }, kinds := [], alts := [], laidByText := true, laidKinds := [.data, .data, .data, .data, .data, .pinned], laidTests := true, laidLooks := .later }
def WorldApartUptoCardSaid : Prop := Claim7.holds Tryz.pinned (.plain (OpenSpec.upto worldApartSpec)) worldApartUptoCard
end Rows
end Go.Proofs.YtbhcklkbckacpaaGreatDoor
