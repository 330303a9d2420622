/-
  No cell of these rows narrows 'for every input' (looked for: loops, veiled, ifaces, maps, wideKeys, modest, calm, conditions, laid).
  DERIVED. THE GIVEN ROWS OF THIS SEAT. 3 by the template 'for every input the law returns true; each argument reads behind the call as it read before'; 0 by the template 'total and deterministic' (their statements: YtejldahlbhkemaaTotals.lean).
  GIVEN WITH THE SEED: the statements are not yours to turn. If you find one false, say at which input.
  Laid BY PROGRAM, IN A SANDBOX (cutbox-rows.mjs): the forced cells as the released guide's own fill.sh prints them over the translation 2cf372c7ef741d57… (all of the seat's roots in one cut). By AI agents, Wed Nov 11 2026. No macro, syntax, notation, axiom, sorry.
-/
import Derived.Test.YtejldahlbhkemaaChecked
import GoSem.Claim
import GoSem.ClaimJoined
import GoSem.ClaimMapViews
import Derived.JoinedTies
import Derived.KernelRfl
namespace Go.Proofs.Ytejldahlbhkemaa
/- THE CELL 'sum', in the pinned program and in every row, IS THE sha256 OF THE DUMP (.gsa) THAT YtejldahlbhkemaaProg.lean LOADS. Nothing in Lean hashes anything: it is a label: what it is worth is what the hold of that sum in a sandbox is worth. -/
noncomputable def Try.pinned : Pinned := { name := "ytejldahlbhkemaa", sum := "2cf372c7ef741d57f58fd2863fb448eacf2c3da8438916f9215dbf0d63604086", checked := Try.checked }
namespace Rows
def none {H : Type} : Left H := { results := [], args := [] }

/-- 'lampbearerlaw.TwosBits': WHATEVER THE INPUT: true; the input reads as it did. -/
def twosBitsSpec : ChangeSpec := { name := "twosBits", fn := fun _ => fun
  | [d1, d2] => { results := [.lit (.bool true)], args := [d1, d2] }
  | _ => none }
def twosBitsRow : OpenClaim := { program := "ytejldahlbhkemaa", sum := "2cf372c7ef741d57f58fd2863fb448eacf2c3da8438916f9215dbf0d63604086", func := "lampbearer/lampbearerlaw.TwosBits", spec := "twosBits", inPlace := ["math/bits.Sub64"], unfollowed := true, recurses := true, apart := false }
def TwosBitsSaid : Prop := twosBitsRow.holds Try.pinned (OpenSpec.ofChange twosBitsSpec)

/-- ITS FALSE NEIGHBOUR: 'it returns false'. Refute it at one input. -/
def twosBitsWrong : ChangeSpec := { name := "twosBits", fn := fun _ => fun
  | [d1, d2] => { results := [.lit (.bool false)], args := [d1, d2] }
  | _ => none }
def TwosBitsWrongFalsely : Prop := twosBitsRow.holds Try.pinned (OpenSpec.ofChange twosBitsWrong)

/-- 'lampbearerlaw.TwosShifts': WHATEVER THE INPUT: true; the input reads as it did. -/
def twosShiftsSpec : ChangeSpec := { name := "twosShifts", fn := fun _ => fun
  | [d1, d2] => { results := [.lit (.bool true)], args := [d1, d2] }
  | _ => none }
def twosShiftsRow : OpenClaim := { program := "ytejldahlbhkemaa", sum := "2cf372c7ef741d57f58fd2863fb448eacf2c3da8438916f9215dbf0d63604086", func := "lampbearer/lampbearerlaw.TwosShifts", spec := "twosShifts", unfollowed := true, recurses := true, apart := false }
def TwosShiftsSaid : Prop := twosShiftsRow.holds Try.pinned (OpenSpec.ofChange twosShiftsSpec)

/-- ITS FALSE NEIGHBOUR: 'it returns false'. Refute it at one input. -/
def twosShiftsWrong : ChangeSpec := { name := "twosShifts", fn := fun _ => fun
  | [d1, d2] => { results := [.lit (.bool false)], args := [d1, d2] }
  | _ => none }
def TwosShiftsWrongFalsely : Prop := twosShiftsRow.holds Try.pinned (OpenSpec.ofChange twosShiftsWrong)

/-- 'lampbearerlaw.TwosBytes': WHATEVER THE INPUT: true; the input reads as it did. -/
def twosBytesSpec : ChangeSpec := { name := "twosBytes", fn := fun _ => fun
  | [d1, d2] => { results := [.lit (.bool true)], args := [d1, d2] }
  | _ => none }
def twosBytesRow : OpenClaim := { program := "ytejldahlbhkemaa", sum := "2cf372c7ef741d57f58fd2863fb448eacf2c3da8438916f9215dbf0d63604086", func := "lampbearer/lampbearerlaw.TwosBytes", spec := "twosBytes", unfollowed := true, recurses := true, apart := false }
def TwosBytesSaid : Prop := twosBytesRow.holds Try.pinned (OpenSpec.ofChange twosBytesSpec)

/-- ITS FALSE NEIGHBOUR: 'it returns false'. Refute it at one input. -/
def twosBytesWrong : ChangeSpec := { name := "twosBytes", fn := fun _ => fun
  | [d1, d2] => { results := [.lit (.bool false)], args := [d1, d2] }
  | _ => none }
def TwosBytesWrongFalsely : Prop := twosBytesRow.holds Try.pinned (OpenSpec.ofChange twosBytesWrong)

/- THE SECOND FORM. 'bulk': how many values and letters a reading holds, each counted each time it is reached (what is shared counts as often as it is met; a slice's spare places count too). A statement '..UptoSaid' is the law's where the arguments, and the package variables that the reading takes, are together of bulk at most 1048576: NARROWER than '..Said'. Prove '..Said' where nothing that the law and all that it calls make is longer than what came in: it says more and counts as full. Else prove '..UptoSaid'. A law counts once. -/
mutual
def uptoBulk {H : Type} : DataW H → Nat
  | .lit (.string bytes) => bytes.length + 1
  | .lit _ => 1
  | .nil => 1
  | .ptr d => uptoBulk d + 1
  | .slice elems spare => uptoBulkAll elems + uptoBulkAll spare + 1
  | .agg parts => uptoBulkAll parts + 1
  | .iface _ d => uptoBulk d + 1
  | .map entries => uptoBulkEntries entries + 1
  | .held _ => 1
def uptoBulkAll {H : Type} : List (DataW H) → Nat
  | [] => 0
  | d :: r => uptoBulk d + uptoBulkAll r
def uptoBulkEntries {H : Type} : List (Lit × DataW H) → Nat
  | [] => 0
  | x :: r => uptoBulkEntry x + uptoBulkEntries r
def uptoBulkEntry {H : Type} : Lit × DataW H → Nat
  | (.string bytes, d) => bytes.length + uptoBulk d + 1
  | (_, d) => uptoBulk d + 1
 end
def uptoSmall : (H : Type) → List (DataW H) → Bool := fun _ ds => decide (uptoBulkAll ds ≤ 1048576)
def OpenSpec.upto (s : _root_.Go.ChangeSpec) : _root_.Go.OpenSpec := { _root_.Go.OpenSpec.ofChange s with cond := some uptoSmall }

/-- 'lampbearerlaw.TwosBits', WHERE WHAT IT READS IS OF BULK AT MOST 1048576: true; the input reads as it did. -/
def twosBitsUptoRow : OpenClaim := { program := "ytejldahlbhkemaa", sum := "2cf372c7ef741d57f58fd2863fb448eacf2c3da8438916f9215dbf0d63604086", func := "lampbearer/lampbearerlaw.TwosBits", spec := "twosBits", inPlace := ["math/bits.Sub64"], unfollowed := true, recurses := true, apart := false, narrowed := true }
def TwosBitsUptoSaid : Prop := twosBitsUptoRow.holds Try.pinned (OpenSpec.upto twosBitsSpec)

/-- 'lampbearerlaw.TwosShifts', WHERE WHAT IT READS IS OF BULK AT MOST 1048576: true; the input reads as it did. -/
def twosShiftsUptoRow : OpenClaim := { program := "ytejldahlbhkemaa", sum := "2cf372c7ef741d57f58fd2863fb448eacf2c3da8438916f9215dbf0d63604086", func := "lampbearer/lampbearerlaw.TwosShifts", spec := "twosShifts", unfollowed := true, recurses := true, apart := false, narrowed := true }
def TwosShiftsUptoSaid : Prop := twosShiftsUptoRow.holds Try.pinned (OpenSpec.upto twosShiftsSpec)

/-- 'lampbearerlaw.TwosBytes', WHERE WHAT IT READS IS OF BULK AT MOST 1048576: true; the input reads as it did. -/
def twosBytesUptoRow : OpenClaim := { program := "ytejldahlbhkemaa", sum := "2cf372c7ef741d57f58fd2863fb448eacf2c3da8438916f9215dbf0d63604086", func := "lampbearer/lampbearerlaw.TwosBytes", spec := "twosBytes", unfollowed := true, recurses := true, apart := false, narrowed := true }
def TwosBytesUptoSaid : Prop := twosBytesUptoRow.holds Try.pinned (OpenSpec.upto twosBytesSpec)

end Rows
end Go.Proofs.Ytejldahlbhkemaa
