/- (word.wide).low: the least four parts of eight. -/
import Derived.Test.YtblodmjnhmfjeaaMulAdd
import Derived.Test.YtblodmjnhmfjeaaAdd
namespace Go.Proofs.Ytblodmjnhmfjeaa
open Go.RowKit Go.Shelf
/-- n, rest 2^512, as eight parts. -/
def Wi (n : Nat) : Value := .agg #[.int .u64 (dg n 0), .int .u64 (dg n 1), .int .u64 (dg n 2), .int .u64 (dg n 3), .int .u64 (dg n 4), .int .u64 (dg n 5), .int .u64 (dg n 6), .int .u64 (dg n 7)]
set_option maxHeartbeats 1000000 in
set_option maxRecDepth 100000 in
theorem low_any (n : Nat) (w : World) :
    Calls Try.prog 37 #[Wi n] w fun e w' => e = .returned (Wd n) ∧ Below w.heap.size w w' := by
  conv => arg 3; unfold Wi
  go_enter Try.func37, Try.ntmps37
  go_wp2
  refine bodyPost_ret (v := Wd n) (by simp [Wd, results, Try.results37, go_sem]) rfl ⟨rfl, ?_⟩
  repeat (first | exact Below.refl _ _ | refine Below.alloc ?_ (by simp <;> omega) _)
end Go.Proofs.Ytblodmjnhmfjeaa
