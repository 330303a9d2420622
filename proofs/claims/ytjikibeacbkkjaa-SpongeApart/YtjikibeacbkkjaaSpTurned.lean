/- sponge.turned: what a part of a state is made greater by. -/
import Derived.Test.YtjikibeacbkkjaaSpTurn
namespace Go.Proofs.Ytjikibeacbkkjaa
namespace Sp
open Go.RowKit
set_option maxHeartbeats 400000 in
theorem turned_any (g i : Nat) (F : Nat → Int) (hi : i < 8) (hF : UF F) (w : World) (hc : CK .u64 g 8 F w) :
    Calls Try.prog 22 #[.pointer (some ⟨g, 0, none⟩), .int .i64 i] w fun e w' => e = .returned (.int .u64 (tn F i)) ∧ ∃ n, w' = w.drewN n := by
  have b1 : (0 : Int) ≤ ((i : Int) + 1) % 8 := by omega
  have b2 : ((i : Int) + 1) % 8 < 8 := by omega
  have b3 : (0 : Int) ≤ ((i : Int) + 5) % 8 := by omega
  have b4 : ((i : Int) + 5) % 8 < 8 := by omega
  have t1 : (((i : Int) + 1) % 8).toNat = (i + 1) % 8 := by omega
  have t2 : (((i : Int) + 5) % 8).toNat = (i + 5) % 8 := by omega
  have c1 := hc ((i + 1) % 8) (by omega)
  have c2 := hc ((i + 5) % 8) (by omega)
  have hu := U_xor _ _ (hF ((i + 1) % 8)) (hF ((i + 5) % 8))
  have HU : Hid (U (bits .xor .u64 (F ((i + 1) % 8)) (F ((i + 5) % 8)))) := hu
  clear hu hc
  go_enter Try.func22, Try.ntmps22
  go_wp2
  go_quiet (fail)
  go_wp2_with (go_at_call 30; refine (rot_any _ i hi HU.out _).mono ?_; rintro e w' ⟨rfl, rfl⟩)
  go_ret
  exact ⟨rfl, _, rfl⟩
end Sp
end Go.Proofs.Ytjikibeacbkkjaa
