/-
  No cell of these rows narrows 'for every input' (looked for: loops, veiled, ifaces, maps, wideKeys, modest, calm, conditions, laid).
  DERIVED. THE GIVEN ROWS OF THIS SEAT. 6 by the template 'for every input the law returns true; each argument reads behind the call as it read before'; 0 by the template 'total and deterministic' (their statements: YtblodmjnhmfjeaaTotals.lean).
  GIVEN WITH THE SEED: the statements are not yours to turn. If you find one false, say at which input.
  Laid BY PROGRAM, IN A SANDBOX (cutbox-rows.mjs): the forced cells as the released guide's own fill.sh prints them over the translation 1d859ba79f49190c… (all of the seat's roots in one cut). By AI agents, Wed Nov 11 2026. No macro, syntax, notation, axiom, sorry.
-/
import Derived.Test.YtblodmjnhmfjeaaChecked
import GoSem.Claim
import GoSem.ClaimJoined
import GoSem.ClaimMapViews
import Derived.JoinedTies
import Derived.KernelRfl
namespace Go.Proofs.Ytblodmjnhmfjeaa
/- THE CELL 'sum', in the pinned program and in every row, IS THE sha256 OF THE DUMP (.gsa) THAT YtblodmjnhmfjeaaProg.lean LOADS. Nothing in Lean hashes anything: it is a label: what it is worth is what the hold of that sum in a sandbox is worth. -/
noncomputable def Try.pinned : Pinned := { name := "ytblodmjnhmfjeaa", sum := "1d859ba79f49190c3f4cd2abd4add8ea38a1ce3d706386179df3cf446f9c6c31", checked := Try.checked }
namespace Rows
def none {H : Type} : Left H := { results := [], args := [] }

/-- 'lampbearerkeep.TwosMorgan': WHATEVER THE INPUT: true; the input reads as it did. -/
def twosMorganSpec : ChangeSpec := { name := "twosMorgan", fn := fun _ => fun
  | [d1, d2] => { results := [.lit (.bool true)], args := [d1, d2] }
  | _ => none }
def twosMorganRow : OpenClaim := { program := "ytblodmjnhmfjeaa", sum := "1d859ba79f49190c3f4cd2abd4add8ea38a1ce3d706386179df3cf446f9c6c31", func := "lampbearer/lampbearerkeep.TwosMorgan", spec := "twosMorgan", inPlace := ["math/bits.Sub64", "math/bits.Add64"], unfollowed := true, recurses := true, named := ["math/bits.divideError", "math/bits.overflowError"], apart := false }
def TwosMorganSaid : Prop := twosMorganRow.holds Try.pinned (OpenSpec.ofChange twosMorganSpec)

/-- ITS FALSE NEIGHBOUR: 'it returns false'. Refute it at one input. -/
def twosMorganWrong : ChangeSpec := { name := "twosMorgan", fn := fun _ => fun
  | [d1, d2] => { results := [.lit (.bool false)], args := [d1, d2] }
  | _ => none }
def TwosMorganWrongFalsely : Prop := twosMorganRow.holds Try.pinned (OpenSpec.ofChange twosMorganWrong)

/-- 'lampbearerkeep.TwosCarry': WHATEVER THE INPUT: true; the input reads as it did. -/
def twosCarrySpec : ChangeSpec := { name := "twosCarry", fn := fun _ => fun
  | [d1, d2] => { results := [.lit (.bool true)], args := [d1, d2] }
  | _ => none }
def twosCarryRow : OpenClaim := { program := "ytblodmjnhmfjeaa", sum := "1d859ba79f49190c3f4cd2abd4add8ea38a1ce3d706386179df3cf446f9c6c31", func := "lampbearer/lampbearerkeep.TwosCarry", spec := "twosCarry", inPlace := ["math/bits.Sub64", "math/bits.Add64"], unfollowed := true, recurses := true, named := ["math/bits.divideError", "math/bits.overflowError"], apart := false }
def TwosCarrySaid : Prop := twosCarryRow.holds Try.pinned (OpenSpec.ofChange twosCarrySpec)

/-- ITS FALSE NEIGHBOUR: 'it returns false'. Refute it at one input. -/
def twosCarryWrong : ChangeSpec := { name := "twosCarry", fn := fun _ => fun
  | [d1, d2] => { results := [.lit (.bool false)], args := [d1, d2] }
  | _ => none }
def TwosCarryWrongFalsely : Prop := twosCarryRow.holds Try.pinned (OpenSpec.ofChange twosCarryWrong)

/-- 'lampbearerkeep.TwosScale': WHATEVER THE INPUT: true; the input reads as it did. -/
def twosScaleSpec : ChangeSpec := { name := "twosScale", fn := fun _ => fun
  | [d1, d2] => { results := [.lit (.bool true)], args := [d1, d2] }
  | _ => none }
def twosScaleRow : OpenClaim := { program := "ytblodmjnhmfjeaa", sum := "1d859ba79f49190c3f4cd2abd4add8ea38a1ce3d706386179df3cf446f9c6c31", func := "lampbearer/lampbearerkeep.TwosScale", spec := "twosScale", inPlace := ["math/bits.Sub64", "math/bits.Add64"], unfollowed := true, recurses := true, named := ["math/bits.divideError", "math/bits.overflowError"], apart := false }
def TwosScaleSaid : Prop := twosScaleRow.holds Try.pinned (OpenSpec.ofChange twosScaleSpec)

/-- ITS FALSE NEIGHBOUR: 'it returns false'. Refute it at one input. -/
def twosScaleWrong : ChangeSpec := { name := "twosScale", fn := fun _ => fun
  | [d1, d2] => { results := [.lit (.bool false)], args := [d1, d2] }
  | _ => none }
def TwosScaleWrongFalsely : Prop := twosScaleRow.holds Try.pinned (OpenSpec.ofChange twosScaleWrong)

/-- 'lampbearerkeep.TwosFloor': WHATEVER THE INPUT: true; the input reads as it did. -/
def twosFloorSpec : ChangeSpec := { name := "twosFloor", fn := fun _ => fun
  | [d1, d2] => { results := [.lit (.bool true)], args := [d1, d2] }
  | _ => none }
def twosFloorRow : OpenClaim := { program := "ytblodmjnhmfjeaa", sum := "1d859ba79f49190c3f4cd2abd4add8ea38a1ce3d706386179df3cf446f9c6c31", func := "lampbearer/lampbearerkeep.TwosFloor", spec := "twosFloor", inPlace := ["math/bits.Sub64", "math/bits.Add64"], unfollowed := true, recurses := true, named := ["math/bits.divideError", "math/bits.overflowError"], apart := false }
def TwosFloorSaid : Prop := twosFloorRow.holds Try.pinned (OpenSpec.ofChange twosFloorSpec)

/-- ITS FALSE NEIGHBOUR: 'it returns false'. Refute it at one input. -/
def twosFloorWrong : ChangeSpec := { name := "twosFloor", fn := fun _ => fun
  | [d1, d2] => { results := [.lit (.bool false)], args := [d1, d2] }
  | _ => none }
def TwosFloorWrongFalsely : Prop := twosFloorRow.holds Try.pinned (OpenSpec.ofChange twosFloorWrong)

/-- 'lampbearerkeep.TwosTruncates': WHATEVER THE INPUT: true; the input reads as it did. -/
def twosTruncatesSpec : ChangeSpec := { name := "twosTruncates", fn := fun _ => fun
  | [d1, d2] => { results := [.lit (.bool true)], args := [d1, d2] }
  | _ => none }
def twosTruncatesRow : OpenClaim := { program := "ytblodmjnhmfjeaa", sum := "1d859ba79f49190c3f4cd2abd4add8ea38a1ce3d706386179df3cf446f9c6c31", func := "lampbearer/lampbearerkeep.TwosTruncates", spec := "twosTruncates", inPlace := ["math/bits.Sub64", "math/bits.Add64"], unfollowed := true, recurses := true, named := ["math/bits.divideError", "math/bits.overflowError"], apart := false }
def TwosTruncatesSaid : Prop := twosTruncatesRow.holds Try.pinned (OpenSpec.ofChange twosTruncatesSpec)

/-- ITS FALSE NEIGHBOUR: 'it returns false'. Refute it at one input. -/
def twosTruncatesWrong : ChangeSpec := { name := "twosTruncates", fn := fun _ => fun
  | [d1, d2] => { results := [.lit (.bool false)], args := [d1, d2] }
  | _ => none }
def TwosTruncatesWrongFalsely : Prop := twosTruncatesRow.holds Try.pinned (OpenSpec.ofChange twosTruncatesWrong)

/-- 'lampbearerkeep.TwosExtends': WHATEVER THE INPUT: true; the input reads as it did. -/
def twosExtendsSpec : ChangeSpec := { name := "twosExtends", fn := fun _ => fun
  | [d1, d2, d3, d4] => { results := [.lit (.bool true)], args := [d1, d2, d3, d4] }
  | _ => none }
def twosExtendsRow : OpenClaim := { program := "ytblodmjnhmfjeaa", sum := "1d859ba79f49190c3f4cd2abd4add8ea38a1ce3d706386179df3cf446f9c6c31", func := "lampbearer/lampbearerkeep.TwosExtends", spec := "twosExtends", inPlace := ["math/bits.Sub64", "math/bits.Add64"], unfollowed := true, recurses := true, named := ["math/bits.divideError", "math/bits.overflowError"], apart := false }
def TwosExtendsSaid : Prop := twosExtendsRow.holds Try.pinned (OpenSpec.ofChange twosExtendsSpec)

/-- ITS FALSE NEIGHBOUR: 'it returns false'. Refute it at one input. -/
def twosExtendsWrong : ChangeSpec := { name := "twosExtends", fn := fun _ => fun
  | [d1, d2, d3, d4] => { results := [.lit (.bool false)], args := [d1, d2, d3, d4] }
  | _ => none }
def TwosExtendsWrongFalsely : Prop := twosExtendsRow.holds Try.pinned (OpenSpec.ofChange twosExtendsWrong)

/- THE SECOND FORM. 'bulk': how many values and letters a reading holds, each counted each time it is reached (what is shared counts as often as it is met; a slice's spare places count too). A statement '..UptoSaid' is the law's where the arguments, and the package variables that the reading takes, are together of bulk at most 1048576: NARROWER than '..Said'. Prove '..Said' where nothing that the law and all that it calls make is longer than what came in: it says more and counts as full. Else prove '..UptoSaid'. A law counts once. -/
mutual
def uptoBulk {H : Type} : DataW H → Nat
  | .lit (.string bytes) => bytes.length + 1
  | .lit _ => 1
  | .nil => 1
  | .ptr d => uptoBulk d + 1
  | .slice elems spare => uptoBulkAll elems + uptoBulkAll spare + 1
  | .agg parts => uptoBulkAll parts + 1
  | .iface _ d => uptoBulk d + 1
  | .map entries => uptoBulkEntries entries + 1
  | .held _ => 1
def uptoBulkAll {H : Type} : List (DataW H) → Nat
  | [] => 0
  | d :: r => uptoBulk d + uptoBulkAll r
def uptoBulkEntries {H : Type} : List (Lit × DataW H) → Nat
  | [] => 0
  | x :: r => uptoBulkEntry x + uptoBulkEntries r
def uptoBulkEntry {H : Type} : Lit × DataW H → Nat
  | (.string bytes, d) => bytes.length + uptoBulk d + 1
  | (_, d) => uptoBulk d + 1
 end
def uptoSmall : (H : Type) → List (DataW H) → Bool := fun _ ds => decide (uptoBulkAll ds ≤ 1048576)
def OpenSpec.upto (s : _root_.Go.ChangeSpec) : _root_.Go.OpenSpec := { _root_.Go.OpenSpec.ofChange s with cond := some uptoSmall }

/-- 'lampbearerkeep.TwosMorgan', WHERE WHAT IT READS IS OF BULK AT MOST 1048576: true; the input reads as it did. -/
def twosMorganUptoRow : OpenClaim := { program := "ytblodmjnhmfjeaa", sum := "1d859ba79f49190c3f4cd2abd4add8ea38a1ce3d706386179df3cf446f9c6c31", func := "lampbearer/lampbearerkeep.TwosMorgan", spec := "twosMorgan", inPlace := ["math/bits.Sub64", "math/bits.Add64"], unfollowed := true, recurses := true, named := ["math/bits.divideError", "math/bits.overflowError"], apart := false, narrowed := true }
def TwosMorganUptoSaid : Prop := twosMorganUptoRow.holds Try.pinned (OpenSpec.upto twosMorganSpec)

/-- 'lampbearerkeep.TwosCarry', WHERE WHAT IT READS IS OF BULK AT MOST 1048576: true; the input reads as it did. -/
def twosCarryUptoRow : OpenClaim := { program := "ytblodmjnhmfjeaa", sum := "1d859ba79f49190c3f4cd2abd4add8ea38a1ce3d706386179df3cf446f9c6c31", func := "lampbearer/lampbearerkeep.TwosCarry", spec := "twosCarry", inPlace := ["math/bits.Sub64", "math/bits.Add64"], unfollowed := true, recurses := true, named := ["math/bits.divideError", "math/bits.overflowError"], apart := false, narrowed := true }
def TwosCarryUptoSaid : Prop := twosCarryUptoRow.holds Try.pinned (OpenSpec.upto twosCarrySpec)

/-- 'lampbearerkeep.TwosScale', WHERE WHAT IT READS IS OF BULK AT MOST 1048576: true; the input reads as it did. -/
def twosScaleUptoRow : OpenClaim := { program := "ytblodmjnhmfjeaa", sum := "1d859ba79f49190c3f4cd2abd4add8ea38a1ce3d706386179df3cf446f9c6c31", func := "lampbearer/lampbearerkeep.TwosScale", spec := "twosScale", inPlace := ["math/bits.Sub64", "math/bits.Add64"], unfollowed := true, recurses := true, named := ["math/bits.divideError", "math/bits.overflowError"], apart := false, narrowed := true }
def TwosScaleUptoSaid : Prop := twosScaleUptoRow.holds Try.pinned (OpenSpec.upto twosScaleSpec)

/-- 'lampbearerkeep.TwosFloor', WHERE WHAT IT READS IS OF BULK AT MOST 1048576: true; the input reads as it did. -/
def twosFloorUptoRow : OpenClaim := { program := "ytblodmjnhmfjeaa", sum := "1d859ba79f49190c3f4cd2abd4add8ea38a1ce3d706386179df3cf446f9c6c31", func := "lampbearer/lampbearerkeep.TwosFloor", spec := "twosFloor", inPlace := ["math/bits.Sub64", "math/bits.Add64"], unfollowed := true, recurses := true, named := ["math/bits.divideError", "math/bits.overflowError"], apart := false, narrowed := true }
def TwosFloorUptoSaid : Prop := twosFloorUptoRow.holds Try.pinned (OpenSpec.upto twosFloorSpec)

/-- 'lampbearerkeep.TwosTruncates', WHERE WHAT IT READS IS OF BULK AT MOST 1048576: true; the input reads as it did. -/
def twosTruncatesUptoRow : OpenClaim := { program := "ytblodmjnhmfjeaa", sum := "1d859ba79f49190c3f4cd2abd4add8ea38a1ce3d706386179df3cf446f9c6c31", func := "lampbearer/lampbearerkeep.TwosTruncates", spec := "twosTruncates", inPlace := ["math/bits.Sub64", "math/bits.Add64"], unfollowed := true, recurses := true, named := ["math/bits.divideError", "math/bits.overflowError"], apart := false, narrowed := true }
def TwosTruncatesUptoSaid : Prop := twosTruncatesUptoRow.holds Try.pinned (OpenSpec.upto twosTruncatesSpec)

/-- 'lampbearerkeep.TwosExtends', WHERE WHAT IT READS IS OF BULK AT MOST 1048576: true; the input reads as it did. -/
def twosExtendsUptoRow : OpenClaim := { program := "ytblodmjnhmfjeaa", sum := "1d859ba79f49190c3f4cd2abd4add8ea38a1ce3d706386179df3cf446f9c6c31", func := "lampbearer/lampbearerkeep.TwosExtends", spec := "twosExtends", inPlace := ["math/bits.Sub64", "math/bits.Add64"], unfollowed := true, recurses := true, named := ["math/bits.divideError", "math/bits.overflowError"], apart := false, narrowed := true }
def TwosExtendsUptoSaid : Prop := twosExtendsUptoRow.holds Try.pinned (OpenSpec.upto twosExtendsSpec)

end Rows
end Go.Proofs.Ytblodmjnhmfjeaa
