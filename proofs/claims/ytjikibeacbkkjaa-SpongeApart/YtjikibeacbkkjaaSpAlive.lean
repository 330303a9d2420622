/- lampbearerkeep.alive3: true. -/
import Derived.Test.YtjikibeacbkkjaaSpEval
import Derived.Test.YtjikibeacbkkjaaSpSum
import Derived.Test.YtjikibeacbkkjaaSpLawMixes
namespace Go.Proofs.Ytjikibeacbkkjaa
namespace Sp
open Go.RowKit
set_option maxHeartbeats 1000000 in
set_option maxRecDepth 100000 in
theorem alive3_any (w : World) : Calls Try.prog 20 #[] w fun e w' => e = .returned (.bool true) ∧ Below w.heap.size w w' := by
  have n1 : ∀ w, (binOp .neq 24 (Sv (mix fun _ => 0)) (.agg #[.int .u64 0, .int .u64 0, .int .u64 0, .int .u64 0, .int .u64 0, .int .u64 0, .int .u64 0, .int .u64 0])).run Try.prog w = .ok (.bool true) w := fun w => by
    have k := neq8 (mix fun _ => 0) (fun _ => 0) w
    rw [mix_zero_ne] at k; exact k
  have n2 : ∀ w, (binOp .neq 31 (Hv (sumf [])) (.agg #[.int .u8 0, .int .u8 0, .int .u8 0, .int .u8 0, .int .u8 0, .int .u8 0, .int .u8 0, .int .u8 0, .int .u8 0, .int .u8 0, .int .u8 0, .int .u8 0, .int .u8 0, .int .u8 0, .int .u8 0, .int .u8 0, .int .u8 0, .int .u8 0, .int .u8 0, .int .u8 0, .int .u8 0, .int .u8 0, .int .u8 0, .int .u8 0, .int .u8 0, .int .u8 0, .int .u8 0, .int .u8 0, .int .u8 0, .int .u8 0, .int .u8 0, .int .u8 0])).run Try.prog w = .ok (.bool true) w := fun w => by
    have k := neq32 (sumf []) (fun _ => 0) w
    rw [sum_nil_ne] at k; exact k
  have g1 : ∀ op x y w, (eqGuard op 24 x y (Sv (mix fun _ => 0)) (.agg #[.int .u64 0, .int .u64 0, .int .u64 0, .int .u64 0, .int .u64 0, .int .u64 0, .int .u64 0, .int .u64 0])).run Try.prog w = .ok () w := fun op x y w => eq_guard op x y (mix fun _ => 0) (fun _ => 0) w
  have g2 : ∀ op x y w, (eqGuard op 31 x y (Hv (sumf [])) (.agg #[.int .u8 0, .int .u8 0, .int .u8 0, .int .u8 0, .int .u8 0, .int .u8 0, .int .u8 0, .int .u8 0, .int .u8 0, .int .u8 0, .int .u8 0, .int .u8 0, .int .u8 0, .int .u8 0, .int .u8 0, .int .u8 0, .int .u8 0, .int .u8 0, .int .u8 0, .int .u8 0, .int .u8 0, .int .u8 0, .int .u8 0, .int .u8 0, .int .u8 0, .int .u8 0, .int .u8 0, .int .u8 0, .int .u8 0, .int .u8 0, .int .u8 0, .int .u8 0])).run Try.prog w = .ok () w := fun op x y w => eq_guard32 op x y (sumf []) (fun _ => 0) w
  go_enter Try.func20, Try.ntmps20
  go_wp2_with fail
  refine (mix_any (fun _ => 0) UF_zero w).mono ?_
  rintro e w1 ⟨rfl, hb1⟩
  go_wp2_with fail
  refine (sum_any [] none 0 w1 (by simp) (Vw_nil _ _)).mono ?_
  rintro e w2 ⟨rfl, hb2⟩
  go_wp2_with fail
  refine (pad_any [] none 0 w2 (by simp) (Vw_nil _ _)).mono ?_
  rintro e w3 ⟨g3, rfl, _, hb3⟩
  rw [show (pad []).length = 32 from rfl]
  have b3 := hb1.trans ((hb2.trans (hb3.mono hb2.size)).mono hb1.size)
  go_wp2_with fail
  go_ret
  exact ⟨rfl, b3⟩
end Sp
end Go.Proofs.Ytjikibeacbkkjaa
