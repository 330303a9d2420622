/- lampbearerlaw.SpongeSums: sponge.Sum answers as the document's own does. -/
import Derived.Test.YtjikibeacbkkjaaSpSSum
import Derived.Test.YtjikibeacbkkjaaSpEq
namespace Go.Proofs.Ytjikibeacbkkjaa
namespace Sp
open Go.RowKit
set_option maxHeartbeats 1000000 in
set_option maxRecDepth 100000 in
theorem law_sums (l : List UInt8) (ao : Option Addr) (cap : Nat) (w : World) (hl : (l.length : Int) ≤ 140737488355328) (hv : Vw l ao w) :
    Calls Try.prog 5 #[.slice ao l.length cap] w fun e w' => e = .returned (.bool true) ∧ Below w.heap.size w w' := by
  have e1 := eq32_self (sumf l)
  have g1 := fun op x y => eq_guard32 op x y (sumf l) (sumf l)
  go_enter Try.func5, Try.ntmps5
  go_wp2_with fail
  refine (sum_any l ao cap w hl hv).mono ?_
  rintro e w1 ⟨rfl, hb1⟩
  go_wp2_with fail
  refine (ssum_any l ao cap w1 hl (Vw_below hv hb1)).mono ?_
  rintro e w2 ⟨rfl, hb2⟩
  have b2 := hb1.trans (hb2.mono hb1.size)
  go_wp2_with fail
  go_ret
  exact ⟨rfl, b2⟩
end Sp
end Go.Proofs.Ytjikibeacbkkjaa
