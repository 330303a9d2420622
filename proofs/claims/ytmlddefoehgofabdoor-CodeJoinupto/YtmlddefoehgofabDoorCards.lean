/-
  DERIVED. GIVEN WITH THE SEED: THE CARDS: each row of YtmlddefoehgofabDoorRows.lean that lists a variable, with what it lists TIED to the program's text (the seventh form; the later family's looks); each row that meets fmt, with fmt's text TOLD by the authors' own Lean function (tested against real Go, not proved from fmt's source: count such statements apart). THE CARD IS WHAT COUNTS. Prove the row's statement (the work); the ties are given (YtmlddefoehgofabDoorTie.lean); close each card by the builder's one call (the guide's Derived/Test/ToyasCard.lean, 'card_holds'). Laid BY PROGRAM, IN A SANDBOX (cutbox-door.mjs). By AI agents, Wed Nov 11 2026. No macro, syntax, notation, axiom, sorry.
-/
import Derived.Test.YtmlddefoehgofabDoorRows
import GoSem.ClaimSeven
namespace Go.Proofs.YtmlddefoehgofabDoor
namespace Rows

/-- THE TIED CARD OF 'lampbearerkeep.CodeJoin'. -/
def codeJoinCard : Claim7 := { stood := { row := codeJoinRow, standIns := [], harness := (true, "9eda227b62e0ab52b61a4e78c615896400f192f1cfb7afc5383e874b9267a15b"), looks := false }, kinds := [], alts := [], laidByText := true, laidKinds := [.data, .data, .data], laidTests := true, laidLooks := .later }
def CodeJoinCardSaid : Prop := Claim7.holds Tryd.pinned (.plain (OpenSpec.ofChange codeJoinSpec)) codeJoinCard

/-- THE TIED CARD OF 'lampbearerkeep.CodeNamed'. -/
def codeNamedCard : Claim7 := { stood := { row := codeNamedRow, standIns := [], harness := (true, "9eda227b62e0ab52b61a4e78c615896400f192f1cfb7afc5383e874b9267a15b"), looks := false }, kinds := [], alts := [], laidByText := true, laidKinds := [.data, .data, .data], laidTests := true, laidLooks := .later }
def CodeNamedCardSaid : Prop := Claim7.holds Tryd.pinned (.plain (OpenSpec.ofChange codeNamedSpec)) codeNamedCard

/-- THE SECOND FORM's CARD OF 'lampbearerkeep.CodeJoin'. -/
def codeJoinUptoCard : Claim7 := { stood := { row := codeJoinUptoRow, standIns := [], harness := (true, "9eda227b62e0ab52b61a4e78c615896400f192f1cfb7afc5383e874b9267a15b"), looks := false }, kinds := [], alts := [], laidByText := true, laidKinds := [.data, .data, .data], laidTests := true, laidLooks := .later }
def CodeJoinUptoCardSaid : Prop := Claim7.holds Tryd.pinned (.plain (OpenSpec.upto codeJoinSpec)) codeJoinUptoCard

/-- THE SECOND FORM's CARD OF 'lampbearerkeep.CodeNamed'. -/
def codeNamedUptoCard : Claim7 := { stood := { row := codeNamedUptoRow, standIns := [], harness := (true, "9eda227b62e0ab52b61a4e78c615896400f192f1cfb7afc5383e874b9267a15b"), looks := false }, kinds := [], alts := [], laidByText := true, laidKinds := [.data, .data, .data], laidTests := true, laidLooks := .later }
def CodeNamedUptoCardSaid : Prop := Claim7.holds Tryd.pinned (.plain (OpenSpec.upto codeNamedSpec)) codeNamedUptoCard
end Rows
end Go.Proofs.YtmlddefoehgofabDoor
