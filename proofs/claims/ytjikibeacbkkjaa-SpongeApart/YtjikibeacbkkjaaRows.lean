/-
  No cell of these rows narrows 'for every input' (looked for: loops, veiled, ifaces, maps, wideKeys, modest, calm, conditions, laid).
  DERIVED. THE GIVEN ROWS OF THIS SEAT. 6 by the template 'for every input the law returns true; each argument reads behind the call as it read before'; 0 by the template 'total and deterministic' (their statements: YtjikibeacbkkjaaTotals.lean).
  GIVEN WITH THE SEED: the statements are not yours to turn. If you find one false, say at which input.
  Laid BY PROGRAM, IN A SANDBOX (cutbox-rows.mjs): the forced cells as the released guide's own fill.sh prints them over the translation 827f8692729f3024… (all of the seat's roots in one cut). By AI agents, Wed Nov 11 2026. No macro, syntax, notation, axiom, sorry.
-/
import Derived.Test.YtjikibeacbkkjaaChecked
import GoSem.Claim
import GoSem.ClaimJoined
import GoSem.ClaimMapViews
import Derived.JoinedTies
import Derived.KernelRfl
namespace Go.Proofs.Ytjikibeacbkkjaa
/- THE CELL 'sum', in the pinned program and in every row, IS THE sha256 OF THE DUMP (.gsa) THAT YtjikibeacbkkjaaProg.lean LOADS. Nothing in Lean hashes anything: it is a label: what it is worth is what the hold of that sum in a sandbox is worth. -/
noncomputable def Try.pinned : Pinned := { name := "ytjikibeacbkkjaa", sum := "827f8692729f30243deab336ad77cd2851bf865f547899c8c146bd6917283b73", checked := Try.checked }
namespace Rows
def none {H : Type} : Left H := { results := [], args := [] }

/-- 'lampbearerlaw.SpongeMixes': WHATEVER THE INPUT: true; the input reads as it did. -/
def spongeMixesSpec : ChangeSpec := { name := "spongeMixes", fn := fun _ => fun
  | [d] => { results := [.lit (.bool true)], args := [d] }
  | _ => none }
def spongeMixesRow : OpenClaim := { program := "ytjikibeacbkkjaa", sum := "827f8692729f30243deab336ad77cd2851bf865f547899c8c146bd6917283b73", func := "lampbearer/lampbearerlaw.SpongeMixes", spec := "spongeMixes", apart := false }
def SpongeMixesSaid : Prop := spongeMixesRow.holds Try.pinned (OpenSpec.ofChange spongeMixesSpec)

/-- ITS FALSE NEIGHBOUR: 'it returns false'. Refute it at one input. -/
def spongeMixesWrong : ChangeSpec := { name := "spongeMixes", fn := fun _ => fun
  | [d] => { results := [.lit (.bool false)], args := [d] }
  | _ => none }
def SpongeMixesWrongFalsely : Prop := spongeMixesRow.holds Try.pinned (OpenSpec.ofChange spongeMixesWrong)

/-- 'lampbearerlaw.SpongePads': WHATEVER THE INPUT: true; the input reads as it did. -/
def spongePadsSpec : ChangeSpec := { name := "spongePads", fn := fun _ => fun
  | [d] => { results := [.lit (.bool true)], args := [d] }
  | _ => none }
def spongePadsRow : OpenClaim := { program := "ytjikibeacbkkjaa", sum := "827f8692729f30243deab336ad77cd2851bf865f547899c8c146bd6917283b73", func := "lampbearer/lampbearerlaw.SpongePads", spec := "spongePads", apart := false }
def SpongePadsSaid : Prop := spongePadsRow.holds Try.pinned (OpenSpec.ofChange spongePadsSpec)

/-- ITS FALSE NEIGHBOUR: 'it returns false'. Refute it at one input. -/
def spongePadsWrong : ChangeSpec := { name := "spongePads", fn := fun _ => fun
  | [d] => { results := [.lit (.bool false)], args := [d] }
  | _ => none }
def SpongePadsWrongFalsely : Prop := spongePadsRow.holds Try.pinned (OpenSpec.ofChange spongePadsWrong)

/-- 'lampbearerlaw.SpongeSums': WHATEVER THE INPUT: true; the input reads as it did. -/
def spongeSumsSpec : ChangeSpec := { name := "spongeSums", fn := fun _ => fun
  | [d] => { results := [.lit (.bool true)], args := [d] }
  | _ => none }
def spongeSumsRow : OpenClaim := { program := "ytjikibeacbkkjaa", sum := "827f8692729f30243deab336ad77cd2851bf865f547899c8c146bd6917283b73", func := "lampbearer/lampbearerlaw.SpongeSums", spec := "spongeSums", unfollowed := true, recurses := true, apart := false }
def SpongeSumsSaid : Prop := spongeSumsRow.holds Try.pinned (OpenSpec.ofChange spongeSumsSpec)

/-- ITS FALSE NEIGHBOUR: 'it returns false'. Refute it at one input. -/
def spongeSumsWrong : ChangeSpec := { name := "spongeSums", fn := fun _ => fun
  | [d] => { results := [.lit (.bool false)], args := [d] }
  | _ => none }
def SpongeSumsWrongFalsely : Prop := spongeSumsRow.holds Try.pinned (OpenSpec.ofChange spongeSumsWrong)

/-- 'lampbearerlaw.SpongeEach': WHATEVER THE INPUT: true; the input reads as it did. -/
def spongeEachSpec : ChangeSpec := { name := "spongeEach", fn := fun _ => fun
  | [d] => { results := [.lit (.bool true)], args := [d] }
  | _ => none }
def spongeEachRow : OpenClaim := { program := "ytjikibeacbkkjaa", sum := "827f8692729f30243deab336ad77cd2851bf865f547899c8c146bd6917283b73", func := "lampbearer/lampbearerlaw.SpongeEach", spec := "spongeEach", unfollowed := true, recurses := true, apart := false }
def SpongeEachSaid : Prop := spongeEachRow.holds Try.pinned (OpenSpec.ofChange spongeEachSpec)

/-- ITS FALSE NEIGHBOUR: 'it returns false'. Refute it at one input. -/
def spongeEachWrong : ChangeSpec := { name := "spongeEach", fn := fun _ => fun
  | [d] => { results := [.lit (.bool false)], args := [d] }
  | _ => none }
def SpongeEachWrongFalsely : Prop := spongeEachRow.holds Try.pinned (OpenSpec.ofChange spongeEachWrong)

/-- 'lampbearerkeep.SpongeBack': WHATEVER THE INPUT: true; the input reads as it did. -/
def spongeBackSpec : ChangeSpec := { name := "spongeBack", fn := fun _ => fun
  | [d1, d2] => { results := [.lit (.bool true)], args := [d1, d2] }
  | _ => none }
def spongeBackRow : OpenClaim := { program := "ytjikibeacbkkjaa", sum := "827f8692729f30243deab336ad77cd2851bf865f547899c8c146bd6917283b73", func := "lampbearer/lampbearerkeep.SpongeBack", spec := "spongeBack", unfollowed := true, recurses := true, apart := false }
def SpongeBackSaid : Prop := spongeBackRow.holds Try.pinned (OpenSpec.ofChange spongeBackSpec)

/-- ITS FALSE NEIGHBOUR: 'it returns false'. Refute it at one input. -/
def spongeBackWrong : ChangeSpec := { name := "spongeBack", fn := fun _ => fun
  | [d1, d2] => { results := [.lit (.bool false)], args := [d1, d2] }
  | _ => none }
def SpongeBackWrongFalsely : Prop := spongeBackRow.holds Try.pinned (OpenSpec.ofChange spongeBackWrong)

/-- 'lampbearerkeep.SpongeApart': WHATEVER THE INPUT: true; the input reads as it did. -/
def spongeApartSpec : ChangeSpec := { name := "spongeApart", fn := fun _ => fun
  | [d1, d2] => { results := [.lit (.bool true)], args := [d1, d2] }
  | _ => none }
def spongeApartRow : OpenClaim := { program := "ytjikibeacbkkjaa", sum := "827f8692729f30243deab336ad77cd2851bf865f547899c8c146bd6917283b73", func := "lampbearer/lampbearerkeep.SpongeApart", spec := "spongeApart", unfollowed := true, recurses := true, apart := false }
def SpongeApartSaid : Prop := spongeApartRow.holds Try.pinned (OpenSpec.ofChange spongeApartSpec)

/-- ITS FALSE NEIGHBOUR: 'it returns false'. Refute it at one input. -/
def spongeApartWrong : ChangeSpec := { name := "spongeApart", fn := fun _ => fun
  | [d1, d2] => { results := [.lit (.bool false)], args := [d1, d2] }
  | _ => none }
def SpongeApartWrongFalsely : Prop := spongeApartRow.holds Try.pinned (OpenSpec.ofChange spongeApartWrong)

/- THE SECOND FORM. 'bulk': how many values and letters a reading holds, each counted each time it is reached (what is shared counts as often as it is met; a slice's spare places count too). A statement '..UptoSaid' is the law's where the arguments, and the package variables that the reading takes, are together of bulk at most 1048576: NARROWER than '..Said'. Prove '..Said' where nothing that the law and all that it calls make is longer than what came in: it says more and counts as full. Else prove '..UptoSaid'. A law counts once. -/
mutual
def uptoBulk {H : Type} : DataW H → Nat
  | .lit (.string bytes) => bytes.length + 1
  | .lit _ => 1
  | .nil => 1
  | .ptr d => uptoBulk d + 1
  | .slice elems spare => uptoBulkAll elems + uptoBulkAll spare + 1
  | .agg parts => uptoBulkAll parts + 1
  | .iface _ d => uptoBulk d + 1
  | .map entries => uptoBulkEntries entries + 1
  | .held _ => 1
def uptoBulkAll {H : Type} : List (DataW H) → Nat
  | [] => 0
  | d :: r => uptoBulk d + uptoBulkAll r
def uptoBulkEntries {H : Type} : List (Lit × DataW H) → Nat
  | [] => 0
  | x :: r => uptoBulkEntry x + uptoBulkEntries r
def uptoBulkEntry {H : Type} : Lit × DataW H → Nat
  | (.string bytes, d) => bytes.length + uptoBulk d + 1
  | (_, d) => uptoBulk d + 1
 end
def uptoSmall : (H : Type) → List (DataW H) → Bool := fun _ ds => decide (uptoBulkAll ds ≤ 1048576)
def OpenSpec.upto (s : _root_.Go.ChangeSpec) : _root_.Go.OpenSpec := { _root_.Go.OpenSpec.ofChange s with cond := some uptoSmall }

/-- 'lampbearerlaw.SpongeMixes', WHERE WHAT IT READS IS OF BULK AT MOST 1048576: true; the input reads as it did. -/
def spongeMixesUptoRow : OpenClaim := { program := "ytjikibeacbkkjaa", sum := "827f8692729f30243deab336ad77cd2851bf865f547899c8c146bd6917283b73", func := "lampbearer/lampbearerlaw.SpongeMixes", spec := "spongeMixes", apart := false, narrowed := true }
def SpongeMixesUptoSaid : Prop := spongeMixesUptoRow.holds Try.pinned (OpenSpec.upto spongeMixesSpec)

/-- 'lampbearerlaw.SpongePads', WHERE WHAT IT READS IS OF BULK AT MOST 1048576: true; the input reads as it did. -/
def spongePadsUptoRow : OpenClaim := { program := "ytjikibeacbkkjaa", sum := "827f8692729f30243deab336ad77cd2851bf865f547899c8c146bd6917283b73", func := "lampbearer/lampbearerlaw.SpongePads", spec := "spongePads", apart := false, narrowed := true }
def SpongePadsUptoSaid : Prop := spongePadsUptoRow.holds Try.pinned (OpenSpec.upto spongePadsSpec)

/-- 'lampbearerlaw.SpongeSums', WHERE WHAT IT READS IS OF BULK AT MOST 1048576: true; the input reads as it did. -/
def spongeSumsUptoRow : OpenClaim := { program := "ytjikibeacbkkjaa", sum := "827f8692729f30243deab336ad77cd2851bf865f547899c8c146bd6917283b73", func := "lampbearer/lampbearerlaw.SpongeSums", spec := "spongeSums", unfollowed := true, recurses := true, apart := false, narrowed := true }
def SpongeSumsUptoSaid : Prop := spongeSumsUptoRow.holds Try.pinned (OpenSpec.upto spongeSumsSpec)

/-- 'lampbearerlaw.SpongeEach', WHERE WHAT IT READS IS OF BULK AT MOST 1048576: true; the input reads as it did. -/
def spongeEachUptoRow : OpenClaim := { program := "ytjikibeacbkkjaa", sum := "827f8692729f30243deab336ad77cd2851bf865f547899c8c146bd6917283b73", func := "lampbearer/lampbearerlaw.SpongeEach", spec := "spongeEach", unfollowed := true, recurses := true, apart := false, narrowed := true }
def SpongeEachUptoSaid : Prop := spongeEachUptoRow.holds Try.pinned (OpenSpec.upto spongeEachSpec)

/-- 'lampbearerkeep.SpongeBack', WHERE WHAT IT READS IS OF BULK AT MOST 1048576: true; the input reads as it did. -/
def spongeBackUptoRow : OpenClaim := { program := "ytjikibeacbkkjaa", sum := "827f8692729f30243deab336ad77cd2851bf865f547899c8c146bd6917283b73", func := "lampbearer/lampbearerkeep.SpongeBack", spec := "spongeBack", unfollowed := true, recurses := true, apart := false, narrowed := true }
def SpongeBackUptoSaid : Prop := spongeBackUptoRow.holds Try.pinned (OpenSpec.upto spongeBackSpec)

/-- 'lampbearerkeep.SpongeApart', WHERE WHAT IT READS IS OF BULK AT MOST 1048576: true; the input reads as it did. -/
def spongeApartUptoRow : OpenClaim := { program := "ytjikibeacbkkjaa", sum := "827f8692729f30243deab336ad77cd2851bf865f547899c8c146bd6917283b73", func := "lampbearer/lampbearerkeep.SpongeApart", spec := "spongeApart", unfollowed := true, recurses := true, apart := false, narrowed := true }
def SpongeApartUptoSaid : Prop := spongeApartUptoRow.holds Try.pinned (OpenSpec.upto spongeApartSpec)

end Rows
end Go.Proofs.Ytjikibeacbkkjaa
