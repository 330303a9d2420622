/-
  No cell of these rows narrows 'for every input' (looked for: loops, veiled, ifaces, maps, wideKeys, modest, calm, conditions, laid).
  DERIVED. THE GIVEN ROWS OF THIS SEAT. 5 by the template 'for every input the law returns true; each argument reads behind the call as it read before'; 0 by the template 'total and deterministic' (their statements: YtengpjalkiibiaaTotals.lean).
  GIVEN WITH THE SEED: the statements are not yours to turn. If you find one false, say at which input.
  Laid BY PROGRAM, IN A SANDBOX (cutbox-rows.mjs): the forced cells as the released guide's own fill.sh prints them over the translation e75eb0fa6504e200… (all of the seat's roots in one cut). By AI agents, Wed Nov 11 2026. No macro, syntax, notation, axiom, sorry.
-/
import Derived.Test.YtengpjalkiibiaaChecked
import GoSem.Claim
import GoSem.ClaimJoined
import GoSem.ClaimMapViews
import Derived.JoinedTies
import Derived.KernelRfl
namespace Go.Proofs.Ytengpjalkiibiaa
/- THE CELL 'sum', in the pinned program and in every row, IS THE sha256 OF THE DUMP (.gsa) THAT YtengpjalkiibiaaProg.lean LOADS. Nothing in Lean hashes anything: it is a label: what it is worth is what the hold of that sum in a sandbox is worth. -/
noncomputable def Try.pinned : Pinned := { name := "ytengpjalkiibiaa", sum := "e75eb0fa6504e2004e2917c07a3917b49a9c1e6d84250a09a8eb820fcc5589c4", checked := Try.checked }
namespace Rows
def none {H : Type} : Left H := { results := [], args := [] }

/-- 'lampbearerlaw.JournalPlays': WHATEVER THE INPUT: true; the input reads as it did. -/
def journalPlaysSpec : ChangeSpec := { name := "journalPlays", fn := fun _ => fun
  | [d] => { results := [.lit (.bool true)], args := [d] }
  | _ => none }
def journalPlaysRow : OpenClaim := { program := "ytengpjalkiibiaa", sum := "e75eb0fa6504e2004e2917c07a3917b49a9c1e6d84250a09a8eb820fcc5589c4", func := "lampbearer/lampbearerlaw.JournalPlays", spec := "journalPlays", inPlace := ["maps.clone"], unfollowed := true, recurses := true, apart := false }
def JournalPlaysSaid : Prop := journalPlaysRow.holds Try.pinned (OpenSpec.ofChange journalPlaysSpec)

/-- ITS FALSE NEIGHBOUR: 'it returns false'. Refute it at one input. -/
def journalPlaysWrong : ChangeSpec := { name := "journalPlays", fn := fun _ => fun
  | [d] => { results := [.lit (.bool false)], args := [d] }
  | _ => none }
def JournalPlaysWrongFalsely : Prop := journalPlaysRow.holds Try.pinned (OpenSpec.ofChange journalPlaysWrong)

/-- 'lampbearerkeep.JournalBack': WHATEVER THE INPUT: true; the input reads as it did. -/
def journalBackSpec : ChangeSpec := { name := "journalBack", fn := fun _ => fun
  | [d1, d2, d3] => { results := [.lit (.bool true)], args := [d1, d2, d3] }
  | _ => none }
def journalBackRow : OpenClaim := { program := "ytengpjalkiibiaa", sum := "e75eb0fa6504e2004e2917c07a3917b49a9c1e6d84250a09a8eb820fcc5589c4", func := "lampbearer/lampbearerkeep.JournalBack", spec := "journalBack", unfollowed := true, recurses := true, apart := false }
def JournalBackSaid : Prop := journalBackRow.holds Try.pinned (OpenSpec.ofChange journalBackSpec)

/-- ITS FALSE NEIGHBOUR: 'it returns false'. Refute it at one input. -/
def journalBackWrong : ChangeSpec := { name := "journalBack", fn := fun _ => fun
  | [d1, d2, d3] => { results := [.lit (.bool false)], args := [d1, d2, d3] }
  | _ => none }
def JournalBackWrongFalsely : Prop := journalBackRow.holds Try.pinned (OpenSpec.ofChange journalBackWrong)

/-- 'lampbearerkeep.JournalKeep': WHATEVER THE INPUT: true; the input reads as it did. -/
def journalKeepSpec : ChangeSpec := { name := "journalKeep", fn := fun _ => fun
  | [d1, d2, d3] => { results := [.lit (.bool true)], args := [d1, d2, d3] }
  | _ => none }
def journalKeepRow : OpenClaim := { program := "ytengpjalkiibiaa", sum := "e75eb0fa6504e2004e2917c07a3917b49a9c1e6d84250a09a8eb820fcc5589c4", func := "lampbearer/lampbearerkeep.JournalKeep", spec := "journalKeep", unfollowed := true, recurses := true, apart := false }
def JournalKeepSaid : Prop := journalKeepRow.holds Try.pinned (OpenSpec.ofChange journalKeepSpec)

/-- ITS FALSE NEIGHBOUR: 'it returns false'. Refute it at one input. -/
def journalKeepWrong : ChangeSpec := { name := "journalKeep", fn := fun _ => fun
  | [d1, d2, d3] => { results := [.lit (.bool false)], args := [d1, d2, d3] }
  | _ => none }
def JournalKeepWrongFalsely : Prop := journalKeepRow.holds Try.pinned (OpenSpec.ofChange journalKeepWrong)

/-- 'lampbearerkeep.JournalRead': WHATEVER THE INPUT: true; the input reads as it did. -/
def journalReadSpec : ChangeSpec := { name := "journalRead", fn := fun _ => fun
  | [d1, d2, d3, d4] => { results := [.lit (.bool true)], args := [d1, d2, d3, d4] }
  | _ => none }
def journalReadRow : OpenClaim := { program := "ytengpjalkiibiaa", sum := "e75eb0fa6504e2004e2917c07a3917b49a9c1e6d84250a09a8eb820fcc5589c4", func := "lampbearer/lampbearerkeep.JournalRead", spec := "journalRead", unfollowed := true, recurses := true, apart := false }
def JournalReadSaid : Prop := journalReadRow.holds Try.pinned (OpenSpec.ofChange journalReadSpec)

/-- ITS FALSE NEIGHBOUR: 'it returns false'. Refute it at one input. -/
def journalReadWrong : ChangeSpec := { name := "journalRead", fn := fun _ => fun
  | [d1, d2, d3, d4] => { results := [.lit (.bool false)], args := [d1, d2, d3, d4] }
  | _ => none }
def JournalReadWrongFalsely : Prop := journalReadRow.holds Try.pinned (OpenSpec.ofChange journalReadWrong)

/-- 'lampbearerkeep.JournalSorted': WHATEVER THE INPUT: true; the input reads as it did. -/
def journalSortedSpec : ChangeSpec := { name := "journalSorted", fn := fun _ => fun
  | [d] => { results := [.lit (.bool true)], args := [d] }
  | _ => none }
def journalSortedRow : OpenClaim := { program := "ytengpjalkiibiaa", sum := "e75eb0fa6504e2004e2917c07a3917b49a9c1e6d84250a09a8eb820fcc5589c4", func := "lampbearer/lampbearerkeep.JournalSorted", spec := "journalSorted", unfollowed := true, recurses := true, apart := false }
def JournalSortedSaid : Prop := journalSortedRow.holds Try.pinned (OpenSpec.ofChange journalSortedSpec)

/-- ITS FALSE NEIGHBOUR: 'it returns false'. Refute it at one input. -/
def journalSortedWrong : ChangeSpec := { name := "journalSorted", fn := fun _ => fun
  | [d] => { results := [.lit (.bool false)], args := [d] }
  | _ => none }
def JournalSortedWrongFalsely : Prop := journalSortedRow.holds Try.pinned (OpenSpec.ofChange journalSortedWrong)

/- THE SECOND FORM. 'bulk': how many values and letters a reading holds, each counted each time it is reached (what is shared counts as often as it is met; a slice's spare places count too). A statement '..UptoSaid' is the law's where the arguments, and the package variables that the reading takes, are together of bulk at most 1048576: NARROWER than '..Said'. Prove '..Said' where nothing that the law and all that it calls make is longer than what came in: it says more and counts as full. Else prove '..UptoSaid'. A law counts once. -/
mutual
def uptoBulk {H : Type} : DataW H → Nat
  | .lit (.string bytes) => bytes.length + 1
  | .lit _ => 1
  | .nil => 1
  | .ptr d => uptoBulk d + 1
  | .slice elems spare => uptoBulkAll elems + uptoBulkAll spare + 1
  | .agg parts => uptoBulkAll parts + 1
  | .iface _ d => uptoBulk d + 1
  | .map entries => uptoBulkEntries entries + 1
  | .held _ => 1
def uptoBulkAll {H : Type} : List (DataW H) → Nat
  | [] => 0
  | d :: r => uptoBulk d + uptoBulkAll r
def uptoBulkEntries {H : Type} : List (Lit × DataW H) → Nat
  | [] => 0
  | x :: r => uptoBulkEntry x + uptoBulkEntries r
def uptoBulkEntry {H : Type} : Lit × DataW H → Nat
  | (.string bytes, d) => bytes.length + uptoBulk d + 1
  | (_, d) => uptoBulk d + 1
 end
def uptoSmall : (H : Type) → List (DataW H) → Bool := fun _ ds => decide (uptoBulkAll ds ≤ 1048576)
def OpenSpec.upto (s : _root_.Go.ChangeSpec) : _root_.Go.OpenSpec := { _root_.Go.OpenSpec.ofChange s with cond := some uptoSmall }

/-- 'lampbearerlaw.JournalPlays', WHERE WHAT IT READS IS OF BULK AT MOST 1048576: true; the input reads as it did. -/
def journalPlaysUptoRow : OpenClaim := { program := "ytengpjalkiibiaa", sum := "e75eb0fa6504e2004e2917c07a3917b49a9c1e6d84250a09a8eb820fcc5589c4", func := "lampbearer/lampbearerlaw.JournalPlays", spec := "journalPlays", inPlace := ["maps.clone"], unfollowed := true, recurses := true, apart := false, narrowed := true }
def JournalPlaysUptoSaid : Prop := journalPlaysUptoRow.holds Try.pinned (OpenSpec.upto journalPlaysSpec)

/-- 'lampbearerkeep.JournalBack', WHERE WHAT IT READS IS OF BULK AT MOST 1048576: true; the input reads as it did. -/
def journalBackUptoRow : OpenClaim := { program := "ytengpjalkiibiaa", sum := "e75eb0fa6504e2004e2917c07a3917b49a9c1e6d84250a09a8eb820fcc5589c4", func := "lampbearer/lampbearerkeep.JournalBack", spec := "journalBack", unfollowed := true, recurses := true, apart := false, narrowed := true }
def JournalBackUptoSaid : Prop := journalBackUptoRow.holds Try.pinned (OpenSpec.upto journalBackSpec)

/-- 'lampbearerkeep.JournalKeep', WHERE WHAT IT READS IS OF BULK AT MOST 1048576: true; the input reads as it did. -/
def journalKeepUptoRow : OpenClaim := { program := "ytengpjalkiibiaa", sum := "e75eb0fa6504e2004e2917c07a3917b49a9c1e6d84250a09a8eb820fcc5589c4", func := "lampbearer/lampbearerkeep.JournalKeep", spec := "journalKeep", unfollowed := true, recurses := true, apart := false, narrowed := true }
def JournalKeepUptoSaid : Prop := journalKeepUptoRow.holds Try.pinned (OpenSpec.upto journalKeepSpec)

/-- 'lampbearerkeep.JournalRead', WHERE WHAT IT READS IS OF BULK AT MOST 1048576: true; the input reads as it did. -/
def journalReadUptoRow : OpenClaim := { program := "ytengpjalkiibiaa", sum := "e75eb0fa6504e2004e2917c07a3917b49a9c1e6d84250a09a8eb820fcc5589c4", func := "lampbearer/lampbearerkeep.JournalRead", spec := "journalRead", unfollowed := true, recurses := true, apart := false, narrowed := true }
def JournalReadUptoSaid : Prop := journalReadUptoRow.holds Try.pinned (OpenSpec.upto journalReadSpec)

/-- 'lampbearerkeep.JournalSorted', WHERE WHAT IT READS IS OF BULK AT MOST 1048576: true; the input reads as it did. -/
def journalSortedUptoRow : OpenClaim := { program := "ytengpjalkiibiaa", sum := "e75eb0fa6504e2004e2917c07a3917b49a9c1e6d84250a09a8eb820fcc5589c4", func := "lampbearer/lampbearerkeep.JournalSorted", spec := "journalSorted", unfollowed := true, recurses := true, apart := false, narrowed := true }
def JournalSortedUptoSaid : Prop := journalSortedUptoRow.holds Try.pinned (OpenSpec.upto journalSortedSpec)

end Rows
end Go.Proofs.Ytengpjalkiibiaa
