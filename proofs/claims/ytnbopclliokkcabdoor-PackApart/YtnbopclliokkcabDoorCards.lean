/-
  DERIVED. GIVEN WITH THE SEED: THE CARDS: each row of YtnbopclliokkcabDoorRows.lean that lists a variable, with what it lists TIED to the program's text (the seventh form; the later family's looks); each row that meets fmt, with fmt's text TOLD by the authors' own Lean function (tested against real Go, not proved from fmt's source: count such statements apart). THE CARD IS WHAT COUNTS. Prove the row's statement (the work); the ties are given (YtnbopclliokkcabDoorTie.lean); close each card by the builder's one call (the guide's Derived/Test/ToyasCard.lean, 'card_holds'). Laid BY PROGRAM, IN A SANDBOX (cutbox-door.mjs). By AI agents, Wed Nov 11 2026. No macro, syntax, notation, axiom, sorry.
-/
import Derived.Test.YtnbopclliokkcabDoorRows
import GoSem.ClaimSeven
namespace Go.Proofs.YtnbopclliokkcabDoor
namespace Rows

/-- THE TIED CARD OF 'lampbearerkeep.PackApart'. -/
def packApartCard : Claim7 := { stood := { row := packApartRow, standIns := [], harness := (true, "fe2d6edbfe289ad205df22123d55cd2385c32f439b30ca348f550409fb5547f9"), looks := true }, kinds := [], alts := [], laidByText := true, laidKinds := [.data, .pinned], laidTests := true, laidLooks := .later }
def PackApartCardSaid : Prop := Claim7.holds Tryd.pinned (.plain (OpenSpec.ofChange packApartSpec)) packApartCard

/-- THE TIED CARD OF 'lampbearerkeep.PackTorn'. -/
def packTornCard : Claim7 := { stood := { row := packTornRow, standIns := [], harness := (true, "fe2d6edbfe289ad205df22123d55cd2385c32f439b30ca348f550409fb5547f9"), looks := true }, kinds := [], alts := [], laidByText := true, laidKinds := [.data, .pinned], laidTests := true, laidLooks := .later }
def PackTornCardSaid : Prop := Claim7.holds Tryd.pinned (.plain (OpenSpec.ofChange packTornSpec)) packTornCard

/-- THE TIED CARD OF 'lampbearerkeep.PackNumBack'. -/
def packNumBackCard : Claim7 := { stood := { row := packNumBackRow, standIns := [], harness := (true, "fe2d6edbfe289ad205df22123d55cd2385c32f439b30ca348f550409fb5547f9"), looks := true }, kinds := [], alts := [], laidByText := true, laidKinds := [.data, .pinned], laidTests := true, laidLooks := .later }
def PackNumBackCardSaid : Prop := Claim7.holds Tryd.pinned (.plain (OpenSpec.ofChange packNumBackSpec)) packNumBackCard

/-- THE SECOND FORM's CARD OF 'lampbearerkeep.PackApart'. -/
def packApartUptoCard : Claim7 := { stood := { row := packApartUptoRow, standIns := [], harness := (true, "fe2d6edbfe289ad205df22123d55cd2385c32f439b30ca348f550409fb5547f9"), looks := true }, kinds := [], alts := [], laidByText := true, laidKinds := [.data, .pinned], laidTests := true, laidLooks := .later }
def PackApartUptoCardSaid : Prop := Claim7.holds Tryd.pinned (.plain (OpenSpec.upto packApartSpec)) packApartUptoCard

/-- THE SECOND FORM's CARD OF 'lampbearerkeep.PackTorn'. -/
def packTornUptoCard : Claim7 := { stood := { row := packTornUptoRow, standIns := [], harness := (true, "fe2d6edbfe289ad205df22123d55cd2385c32f439b30ca348f550409fb5547f9"), looks := true }, kinds := [], alts := [], laidByText := true, laidKinds := [.data, .pinned], laidTests := true, laidLooks := .later }
def PackTornUptoCardSaid : Prop := Claim7.holds Tryd.pinned (.plain (OpenSpec.upto packTornSpec)) packTornUptoCard

/-- THE SECOND FORM's CARD OF 'lampbearerkeep.PackNumBack'. -/
def packNumBackUptoCard : Claim7 := { stood := { row := packNumBackUptoRow, standIns := [], harness := (true, "fe2d6edbfe289ad205df22123d55cd2385c32f439b30ca348f550409fb5547f9"), looks := true }, kinds := [], alts := [], laidByText := true, laidKinds := [.data, .pinned], laidTests := true, laidLooks := .later }
def PackNumBackUptoCardSaid : Prop := Claim7.holds Tryd.pinned (.plain (OpenSpec.upto packNumBackSpec)) packNumBackUptoCard
end Rows
end Go.Proofs.YtnbopclliokkcabDoor
