/-
  DERIVED. GIVEN WITH THE SEED: THE CARDS: each row of YtlpdendoibdceaaDoorRows.lean that lists a variable, with what it lists TIED to the program's text (the seventh form; the later family's looks); each row that meets fmt, with fmt's text TOLD by the authors' own Lean function (tested against real Go, not proved from fmt's source: count such statements apart). THE CARD IS WHAT COUNTS. Prove the row's statement (the work); the ties are given (YtlpdendoibdceaaDoorTie.lean); close each card by the builder's one call (the guide's Derived/Test/ToyasCard.lean, 'card_holds'). Laid BY PROGRAM, IN A SANDBOX (cutbox-door.mjs). By AI agents, Wed Nov 11 2026. No macro, syntax, notation, axiom, sorry.
-/
import Derived.Test.YtlpdendoibdceaaDoorRows
import GoSem.ClaimSeven
namespace Go.Proofs.YtlpdendoibdceaaDoor
namespace Rows

/-- THE TIED CARD OF 'lampbearerlaw.HexNumbers'. -/
def hexNumbersCard : Claim7 := { stood := { row := hexNumbersRow, standIns := [], harness := (true, "d3fa965001211a0e3eb560c8a1b6461cf4d7498ef42bac6b9912e15e58fda11b"), looks := false }, kinds := [], alts := [], laidByText := true, laidKinds := [.data, .pinned], laidTests := true, laidLooks := .later }
def HexNumbersCardSaid : Prop := Claim7.holds Tryd.pinned (.plain (OpenSpec.ofChange hexNumbersSpec)) hexNumbersCard

/-- THE TIED CARD OF 'lampbearerkeep.HexBack'. -/
def hexBackCard : Claim7 := { stood := { row := hexBackRow, standIns := [], harness := (true, "d3fa965001211a0e3eb560c8a1b6461cf4d7498ef42bac6b9912e15e58fda11b"), looks := false }, kinds := [], alts := [], laidByText := true, laidKinds := [.data, .pinned], laidTests := true, laidLooks := .later }
def HexBackCardSaid : Prop := Claim7.holds Tryd.pinned (.plain (OpenSpec.ofChange hexBackSpec)) hexBackCard

/-- THE TIED CARD OF 'lampbearerkeep.HexJoin'. -/
def hexJoinCard : Claim7 := { stood := { row := hexJoinRow, standIns := [], harness := (true, "d3fa965001211a0e3eb560c8a1b6461cf4d7498ef42bac6b9912e15e58fda11b"), looks := false }, kinds := [], alts := [], laidByText := true, laidKinds := [.data, .pinned], laidTests := true, laidLooks := .later }
def HexJoinCardSaid : Prop := Claim7.holds Tryd.pinned (.plain (OpenSpec.ofChange hexJoinSpec)) hexJoinCard

/-- THE TIED CARD OF 'lampbearerkeep.HexNumberBack'. -/
def hexNumberBackCard : Claim7 := { stood := { row := hexNumberBackRow, standIns := [], harness := (true, "d3fa965001211a0e3eb560c8a1b6461cf4d7498ef42bac6b9912e15e58fda11b"), looks := false }, kinds := [], alts := [], laidByText := true, laidKinds := [.data, .pinned], laidTests := true, laidLooks := .later }
def HexNumberBackCardSaid : Prop := Claim7.holds Tryd.pinned (.plain (OpenSpec.ofChange hexNumberBackSpec)) hexNumberBackCard

/-- THE TIED CARD OF 'lampbearerkeep.HexOrder'. -/
def hexOrderCard : Claim7 := { stood := { row := hexOrderRow, standIns := [], harness := (true, "d3fa965001211a0e3eb560c8a1b6461cf4d7498ef42bac6b9912e15e58fda11b"), looks := false }, kinds := [], alts := [], laidByText := true, laidKinds := [.data, .pinned], laidTests := true, laidLooks := .later }
def HexOrderCardSaid : Prop := Claim7.holds Tryd.pinned (.plain (OpenSpec.ofChange hexOrderSpec)) hexOrderCard

/-- THE SECOND FORM's CARD OF 'lampbearerlaw.HexNumbers'. -/
def hexNumbersUptoCard : Claim7 := { stood := { row := hexNumbersUptoRow, standIns := [], harness := (true, "d3fa965001211a0e3eb560c8a1b6461cf4d7498ef42bac6b9912e15e58fda11b"), looks := false }, kinds := [], alts := [], laidByText := true, laidKinds := [.data, .pinned], laidTests := true, laidLooks := .later }
def HexNumbersUptoCardSaid : Prop := Claim7.holds Tryd.pinned (.plain (OpenSpec.upto hexNumbersSpec)) hexNumbersUptoCard

/-- THE SECOND FORM's CARD OF 'lampbearerkeep.HexBack'. -/
def hexBackUptoCard : Claim7 := { stood := { row := hexBackUptoRow, standIns := [], harness := (true, "d3fa965001211a0e3eb560c8a1b6461cf4d7498ef42bac6b9912e15e58fda11b"), looks := false }, kinds := [], alts := [], laidByText := true, laidKinds := [.data, .pinned], laidTests := true, laidLooks := .later }
def HexBackUptoCardSaid : Prop := Claim7.holds Tryd.pinned (.plain (OpenSpec.upto hexBackSpec)) hexBackUptoCard

/-- THE SECOND FORM's CARD OF 'lampbearerkeep.HexJoin'. -/
def hexJoinUptoCard : Claim7 := { stood := { row := hexJoinUptoRow, standIns := [], harness := (true, "d3fa965001211a0e3eb560c8a1b6461cf4d7498ef42bac6b9912e15e58fda11b"), looks := false }, kinds := [], alts := [], laidByText := true, laidKinds := [.data, .pinned], laidTests := true, laidLooks := .later }
def HexJoinUptoCardSaid : Prop := Claim7.holds Tryd.pinned (.plain (OpenSpec.upto hexJoinSpec)) hexJoinUptoCard

/-- THE SECOND FORM's CARD OF 'lampbearerkeep.HexNumberBack'. -/
def hexNumberBackUptoCard : Claim7 := { stood := { row := hexNumberBackUptoRow, standIns := [], harness := (true, "d3fa965001211a0e3eb560c8a1b6461cf4d7498ef42bac6b9912e15e58fda11b"), looks := false }, kinds := [], alts := [], laidByText := true, laidKinds := [.data, .pinned], laidTests := true, laidLooks := .later }
def HexNumberBackUptoCardSaid : Prop := Claim7.holds Tryd.pinned (.plain (OpenSpec.upto hexNumberBackSpec)) hexNumberBackUptoCard

/-- THE SECOND FORM's CARD OF 'lampbearerkeep.HexOrder'. -/
def hexOrderUptoCard : Claim7 := { stood := { row := hexOrderUptoRow, standIns := [], harness := (true, "d3fa965001211a0e3eb560c8a1b6461cf4d7498ef42bac6b9912e15e58fda11b"), looks := false }, kinds := [], alts := [], laidByText := true, laidKinds := [.data, .pinned], laidTests := true, laidLooks := .later }
def HexOrderUptoCardSaid : Prop := Claim7.holds Tryd.pinned (.plain (OpenSpec.upto hexOrderSpec)) hexOrderUptoCard
end Rows
end Go.Proofs.YtlpdendoibdceaaDoor
