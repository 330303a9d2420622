/-
  DERIVED. GIVEN WITH THE SEED: THE CARDS: each row of YtlbdaccmnpcccaaGreatDoorRows.lean that lists a variable, with what it lists TIED to the program's text (the seventh form; the later family's looks); each row that meets fmt, with fmt's text TOLD by the authors' own Lean function (tested against real Go, not proved from fmt's source: count such statements apart). THE CARD IS WHAT COUNTS. Prove the row's statement (the work); the ties are given (YtlbdaccmnpcccaaGreatDoorTie.lean); close each card by the builder's one call (the guide's Derived/Test/ToyasCard.lean, 'card_holds'). Laid BY PROGRAM, IN A SANDBOX (cutbox-door.mjs). By AI agents, Wed Nov 11 2026. No macro, syntax, notation, axiom, sorry.
-/
import Derived.Test.YtlbdaccmnpcccaaGreatDoorRows
import GoSem.ClaimSeven
namespace Go.Proofs.YtlbdaccmnpcccaaGreatDoor
namespace Rows

/-- THE TIED CARD OF 'lampbearerlaw.ProofMakes'. -/
def proofMakesCard : Claim7 := { stood := { row := proofMakesRow, standIns := [], harness := (true, "816596ae3a5e29990b958ce238684a6c00436ce36e0c4fe671a5e1ca75f37b22"), looks := true }, kinds := [], alts := [], laidByText := true, laidKinds := [.data, .pinned], laidTests := true, laidLooks := .later }
def ProofMakesCardSaid : Prop := Claim7.holds Tryz.pinned (.plain (OpenSpec.ofChange proofMakesSpec)) proofMakesCard

/-- THE TIED CARD OF 'lampbearerkeep.ProofWhole'. -/
def proofWholeCard : Claim7 := { stood := { row := proofWholeRow, standIns := [], harness := (true, "816596ae3a5e29990b958ce238684a6c00436ce36e0c4fe671a5e1ca75f37b22"), looks := true }, kinds := [], alts := [], laidByText := true, laidKinds := [.data, .pinned], laidTests := true, laidLooks := .later }
def ProofWholeCardSaid : Prop := Claim7.holds Tryz.pinned (.plain (OpenSpec.ofChange proofWholeSpec)) proofWholeCard

/-- THE TIED CARD OF 'lampbearerkeep.ProofTrue'. -/
def proofTrueCard : Claim7 := { stood := { row := proofTrueRow, standIns := [], harness := (true, "816596ae3a5e29990b958ce238684a6c00436ce36e0c4fe671a5e1ca75f37b22"), looks := true }, kinds := [], alts := [], laidByText := true, laidKinds := [.data, .pinned], laidTests := true, laidLooks := .later }
def ProofTrueCardSaid : Prop := Claim7.holds Tryz.pinned (.plain (OpenSpec.ofChange proofTrueSpec)) proofTrueCard

/-- THE TIED CARD OF 'lampbearerkeep.ProofOne'. -/
def proofOneCard : Claim7 := { stood := { row := proofOneRow, standIns := [], harness := (true, "816596ae3a5e29990b958ce238684a6c00436ce36e0c4fe671a5e1ca75f37b22"), looks := true }, kinds := [], alts := [], laidByText := true, laidKinds := [.data, .pinned], laidTests := true, laidLooks := .later }
def ProofOneCardSaid : Prop := Claim7.holds Tryz.pinned (.plain (OpenSpec.ofChange proofOneSpec)) proofOneCard

/-- THE TIED CARD OF 'lampbearerkeep.ProofAway'. -/
def proofAwayCard : Claim7 := { stood := { row := proofAwayRow, standIns := [], harness := (true, "816596ae3a5e29990b958ce238684a6c00436ce36e0c4fe671a5e1ca75f37b22"), looks := true }, kinds := [], alts := [], laidByText := true, laidKinds := [.data, .pinned], laidTests := true, laidLooks := .later }
def ProofAwayCardSaid : Prop := Claim7.holds Tryz.pinned (.plain (OpenSpec.ofChange proofAwaySpec)) proofAwayCard

/-- THE SECOND FORM's CARD OF 'lampbearerlaw.ProofMakes'. -/
def proofMakesUptoCard : Claim7 := { stood := { row := proofMakesUptoRow, standIns := [], harness := (true, "816596ae3a5e29990b958ce238684a6c00436ce36e0c4fe671a5e1ca75f37b22"), looks := true }, kinds := [], alts := [], laidByText := true, laidKinds := [.data, .pinned], laidTests := true, laidLooks := .later }
def ProofMakesUptoCardSaid : Prop := Claim7.holds Tryz.pinned (.plain (OpenSpec.upto proofMakesSpec)) proofMakesUptoCard

/-- THE SECOND FORM's CARD OF 'lampbearerkeep.ProofWhole'. -/
def proofWholeUptoCard : Claim7 := { stood := { row := proofWholeUptoRow, standIns := [], harness := (true, "816596ae3a5e29990b958ce238684a6c00436ce36e0c4fe671a5e1ca75f37b22"), looks := true }, kinds := [], alts := [], laidByText := true, laidKinds := [.data, .pinned], laidTests := true, laidLooks := .later }
def ProofWholeUptoCardSaid : Prop := Claim7.holds Tryz.pinned (.plain (OpenSpec.upto proofWholeSpec)) proofWholeUptoCard

/-- THE SECOND FORM's CARD OF 'lampbearerkeep.ProofTrue'. -/
def proofTrueUptoCard : Claim7 := { stood := { row := proofTrueUptoRow, standIns := [], harness := (true, "816596ae3a5e29990b958ce238684a6c00436ce36e0c4fe671a5e1ca75f37b22"), looks := true }, kinds := [], alts := [], laidByText := true, laidKinds := [.data, .pinned], laidTests := true, laidLooks := .later }
def ProofTrueUptoCardSaid : Prop := Claim7.holds Tryz.pinned (.plain (OpenSpec.upto proofTrueSpec)) proofTrueUptoCard

/-- THE SECOND FORM's CARD OF 'lampbearerkeep.ProofOne'. -/
def proofOneUptoCard : Claim7 := { stood := { row := proofOneUptoRow, standIns := [], harness := (true, "816596ae3a5e29990b958ce238684a6c00436ce36e0c4fe671a5e1ca75f37b22"), looks := true }, kinds := [], alts := [], laidByText := true, laidKinds := [.data, .pinned], laidTests := true, laidLooks := .later }
def ProofOneUptoCardSaid : Prop := Claim7.holds Tryz.pinned (.plain (OpenSpec.upto proofOneSpec)) proofOneUptoCard

/-- THE SECOND FORM's CARD OF 'lampbearerkeep.ProofAway'. -/
def proofAwayUptoCard : Claim7 := { stood := { row := proofAwayUptoRow, standIns := [], harness := (true, "816596ae3a5e29990b958ce238684a6c00436ce36e0c4fe671a5e1ca75f37b22"), looks := true }, kinds := [], alts := [], laidByText := true, laidKinds := [.data, .pinned], laidTests := true, laidLooks := .later }
def ProofAwayUptoCardSaid : Prop := Claim7.holds Tryz.pinned (.plain (OpenSpec.upto proofAwaySpec)) proofAwayUptoCard
end Rows
end Go.Proofs.YtlbdaccmnpcccaaGreatDoor
