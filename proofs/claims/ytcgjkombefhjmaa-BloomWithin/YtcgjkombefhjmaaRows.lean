/-
  No cell of these rows narrows 'for every input' (looked for: loops, veiled, ifaces, maps, wideKeys, modest, calm, conditions, laid).
  DERIVED. THE GIVEN ROWS OF THIS SEAT. 4 by the template 'for every input the law returns true; each argument reads behind the call as it read before'; 0 by the template 'total and deterministic' (their statements: YtcgjkombefhjmaaTotals.lean).
  GIVEN WITH THE SEED: the statements are not yours to turn. If you find one false, say at which input.
  Laid BY PROGRAM, IN A SANDBOX (cutbox-rows.mjs): the forced cells as the released guide's own fill.sh prints them over the translation b2b469c25d2890bb… (all of the seat's roots in one cut). By AI agents, Wed Nov 11 2026. No macro, syntax, notation, axiom, sorry.
-/
import Derived.Test.YtcgjkombefhjmaaChecked
import GoSem.Claim
import GoSem.ClaimJoined
import GoSem.ClaimMapViews
import Derived.JoinedTies
import Derived.KernelRfl
namespace Go.Proofs.Ytcgjkombefhjmaa
/- THE CELL 'sum', in the pinned program and in every row, IS THE sha256 OF THE DUMP (.gsa) THAT YtcgjkombefhjmaaProg.lean LOADS. Nothing in Lean hashes anything: it is a label: what it is worth is what the hold of that sum in a sandbox is worth. -/
noncomputable def Try.pinned : Pinned := { name := "ytcgjkombefhjmaa", sum := "b2b469c25d2890bb758a225467db84f62e1ec218e3cc16c7e52e30b0b2f4aaf7", checked := Try.checked }
namespace Rows
def none {H : Type} : Left H := { results := [], args := [] }

/-- 'lampbearerlaw.BloomFilters': WHATEVER THE INPUT: true; the input reads as it did. -/
def bloomFiltersSpec : ChangeSpec := { name := "bloomFilters", fn := fun _ => fun
  | [d1, d2, d3, d4] => { results := [.lit (.bool true)], args := [d1, d2, d3, d4] }
  | _ => none }
def bloomFiltersRow : OpenClaim := { program := "ytcgjkombefhjmaa", sum := "b2b469c25d2890bb758a225467db84f62e1ec218e3cc16c7e52e30b0b2f4aaf7", func := "lampbearer/lampbearerlaw.BloomFilters", spec := "bloomFilters", unfollowed := true, recurses := true, apart := false }
def BloomFiltersSaid : Prop := bloomFiltersRow.holds Try.pinned (OpenSpec.ofChange bloomFiltersSpec)

/-- ITS FALSE NEIGHBOUR: 'it returns false'. Refute it at one input. -/
def bloomFiltersWrong : ChangeSpec := { name := "bloomFilters", fn := fun _ => fun
  | [d1, d2, d3, d4] => { results := [.lit (.bool false)], args := [d1, d2, d3, d4] }
  | _ => none }
def BloomFiltersWrongFalsely : Prop := bloomFiltersRow.holds Try.pinned (OpenSpec.ofChange bloomFiltersWrong)

/-- 'lampbearerkeep.BloomNever': WHATEVER THE INPUT: true; the input reads as it did. -/
def bloomNeverSpec : ChangeSpec := { name := "bloomNever", fn := fun _ => fun
  | [d1, d2] => { results := [.lit (.bool true)], args := [d1, d2] }
  | _ => none }
def bloomNeverRow : OpenClaim := { program := "ytcgjkombefhjmaa", sum := "b2b469c25d2890bb758a225467db84f62e1ec218e3cc16c7e52e30b0b2f4aaf7", func := "lampbearer/lampbearerkeep.BloomNever", spec := "bloomNever", unfollowed := true, recurses := true, apart := false }
def BloomNeverSaid : Prop := bloomNeverRow.holds Try.pinned (OpenSpec.ofChange bloomNeverSpec)

/-- ITS FALSE NEIGHBOUR: 'it returns false'. Refute it at one input. -/
def bloomNeverWrong : ChangeSpec := { name := "bloomNever", fn := fun _ => fun
  | [d1, d2] => { results := [.lit (.bool false)], args := [d1, d2] }
  | _ => none }
def BloomNeverWrongFalsely : Prop := bloomNeverRow.holds Try.pinned (OpenSpec.ofChange bloomNeverWrong)

/-- 'lampbearerkeep.BloomJoins': WHATEVER THE INPUT: true; the input reads as it did. -/
def bloomJoinsSpec : ChangeSpec := { name := "bloomJoins", fn := fun _ => fun
  | [d1, d2] => { results := [.lit (.bool true)], args := [d1, d2] }
  | _ => none }
def bloomJoinsRow : OpenClaim := { program := "ytcgjkombefhjmaa", sum := "b2b469c25d2890bb758a225467db84f62e1ec218e3cc16c7e52e30b0b2f4aaf7", func := "lampbearer/lampbearerkeep.BloomJoins", spec := "bloomJoins", unfollowed := true, recurses := true, apart := false }
def BloomJoinsSaid : Prop := bloomJoinsRow.holds Try.pinned (OpenSpec.ofChange bloomJoinsSpec)

/-- ITS FALSE NEIGHBOUR: 'it returns false'. Refute it at one input. -/
def bloomJoinsWrong : ChangeSpec := { name := "bloomJoins", fn := fun _ => fun
  | [d1, d2] => { results := [.lit (.bool false)], args := [d1, d2] }
  | _ => none }
def BloomJoinsWrongFalsely : Prop := bloomJoinsRow.holds Try.pinned (OpenSpec.ofChange bloomJoinsWrong)

/-- 'lampbearerkeep.BloomWithin': WHATEVER THE INPUT: true; the input reads as it did. -/
def bloomWithinSpec : ChangeSpec := { name := "bloomWithin", fn := fun _ => fun
  | [d1, d2, d3] => { results := [.lit (.bool true)], args := [d1, d2, d3] }
  | _ => none }
def bloomWithinRow : OpenClaim := { program := "ytcgjkombefhjmaa", sum := "b2b469c25d2890bb758a225467db84f62e1ec218e3cc16c7e52e30b0b2f4aaf7", func := "lampbearer/lampbearerkeep.BloomWithin", spec := "bloomWithin", unfollowed := true, recurses := true, apart := false }
def BloomWithinSaid : Prop := bloomWithinRow.holds Try.pinned (OpenSpec.ofChange bloomWithinSpec)

/-- ITS FALSE NEIGHBOUR: 'it returns false'. Refute it at one input. -/
def bloomWithinWrong : ChangeSpec := { name := "bloomWithin", fn := fun _ => fun
  | [d1, d2, d3] => { results := [.lit (.bool false)], args := [d1, d2, d3] }
  | _ => none }
def BloomWithinWrongFalsely : Prop := bloomWithinRow.holds Try.pinned (OpenSpec.ofChange bloomWithinWrong)

/- THE SECOND FORM. 'bulk': how many values and letters a reading holds, each counted each time it is reached (what is shared counts as often as it is met; a slice's spare places count too). A statement '..UptoSaid' is the law's where the arguments, and the package variables that the reading takes, are together of bulk at most 1048576: NARROWER than '..Said'. Prove '..Said' where nothing that the law and all that it calls make is longer than what came in: it says more and counts as full. Else prove '..UptoSaid'. A law counts once. -/
mutual
def uptoBulk {H : Type} : DataW H → Nat
  | .lit (.string bytes) => bytes.length + 1
  | .lit _ => 1
  | .nil => 1
  | .ptr d => uptoBulk d + 1
  | .slice elems spare => uptoBulkAll elems + uptoBulkAll spare + 1
  | .agg parts => uptoBulkAll parts + 1
  | .iface _ d => uptoBulk d + 1
  | .map entries => uptoBulkEntries entries + 1
  | .held _ => 1
def uptoBulkAll {H : Type} : List (DataW H) → Nat
  | [] => 0
  | d :: r => uptoBulk d + uptoBulkAll r
def uptoBulkEntries {H : Type} : List (Lit × DataW H) → Nat
  | [] => 0
  | x :: r => uptoBulkEntry x + uptoBulkEntries r
def uptoBulkEntry {H : Type} : Lit × DataW H → Nat
  | (.string bytes, d) => bytes.length + uptoBulk d + 1
  | (_, d) => uptoBulk d + 1
 end
def uptoSmall : (H : Type) → List (DataW H) → Bool := fun _ ds => decide (uptoBulkAll ds ≤ 1048576)
def OpenSpec.upto (s : _root_.Go.ChangeSpec) : _root_.Go.OpenSpec := { _root_.Go.OpenSpec.ofChange s with cond := some uptoSmall }

/-- 'lampbearerlaw.BloomFilters', WHERE WHAT IT READS IS OF BULK AT MOST 1048576: true; the input reads as it did. -/
def bloomFiltersUptoRow : OpenClaim := { program := "ytcgjkombefhjmaa", sum := "b2b469c25d2890bb758a225467db84f62e1ec218e3cc16c7e52e30b0b2f4aaf7", func := "lampbearer/lampbearerlaw.BloomFilters", spec := "bloomFilters", unfollowed := true, recurses := true, apart := false, narrowed := true }
def BloomFiltersUptoSaid : Prop := bloomFiltersUptoRow.holds Try.pinned (OpenSpec.upto bloomFiltersSpec)

/-- 'lampbearerkeep.BloomNever', WHERE WHAT IT READS IS OF BULK AT MOST 1048576: true; the input reads as it did. -/
def bloomNeverUptoRow : OpenClaim := { program := "ytcgjkombefhjmaa", sum := "b2b469c25d2890bb758a225467db84f62e1ec218e3cc16c7e52e30b0b2f4aaf7", func := "lampbearer/lampbearerkeep.BloomNever", spec := "bloomNever", unfollowed := true, recurses := true, apart := false, narrowed := true }
def BloomNeverUptoSaid : Prop := bloomNeverUptoRow.holds Try.pinned (OpenSpec.upto bloomNeverSpec)

/-- 'lampbearerkeep.BloomJoins', WHERE WHAT IT READS IS OF BULK AT MOST 1048576: true; the input reads as it did. -/
def bloomJoinsUptoRow : OpenClaim := { program := "ytcgjkombefhjmaa", sum := "b2b469c25d2890bb758a225467db84f62e1ec218e3cc16c7e52e30b0b2f4aaf7", func := "lampbearer/lampbearerkeep.BloomJoins", spec := "bloomJoins", unfollowed := true, recurses := true, apart := false, narrowed := true }
def BloomJoinsUptoSaid : Prop := bloomJoinsUptoRow.holds Try.pinned (OpenSpec.upto bloomJoinsSpec)

/-- 'lampbearerkeep.BloomWithin', WHERE WHAT IT READS IS OF BULK AT MOST 1048576: true; the input reads as it did. -/
def bloomWithinUptoRow : OpenClaim := { program := "ytcgjkombefhjmaa", sum := "b2b469c25d2890bb758a225467db84f62e1ec218e3cc16c7e52e30b0b2f4aaf7", func := "lampbearer/lampbearerkeep.BloomWithin", spec := "bloomWithin", unfollowed := true, recurses := true, apart := false, narrowed := true }
def BloomWithinUptoSaid : Prop := bloomWithinUptoRow.holds Try.pinned (OpenSpec.upto bloomWithinSpec)

end Rows
end Go.Proofs.Ytcgjkombefhjmaa
