/- lampbearerlaw.WordSums: word.Add, Sub and Mul answer as the document's own do. -/
import Derived.Test.YtblodmjnhmfjeaaProduct
import Derived.Test.YtblodmjnhmfjeaaSub
import Derived.ChangeKeysEq
namespace Go.Proofs.Ytblodmjnhmfjeaa
open Go.RowKit Go.Shelf
attribute [local go_sem ↓] Go.wp_at_zero Go.wp_at_succ
theorem Try.infoU64 : ∃ i, Try.prog.info? 22 = some i := by
  have h : (Try.prog.info? 22).isSome = true := by kernel_rfl
  exact Option.isSome_iff_exists.1 h
theorem Try.cellsU64 : Try.prog.cellsOf 22 = 1 := by kernel_rfl
theorem eq_self (n : Nat) (w : World) : (binOp .eql 24 (Wd n) (Wd n)).run Try.prog w = .ok (.bool true) w := by
  obtain ⟨i, hi⟩ := Try.infoU64
  unfold Wd
  rw [run_eql_struct, run_equalIn_array w 9999 _ _ Try.underlying24 hi, Try.cellsU64]
  simp [Op.eqItems, go_sem, List.range, List.range.loop]
theorem Try.eqGuardWord : Try.prog.eqGuardType Try.prog.depth 24 = false := by kernel_rfl
theorem eq_guard (op : BinOp) (x y : Operand) (n m : Nat) (w : World) : (eqGuard op 24 x y (Wd n) (Wd m)).run Try.prog w = .ok () w := by
  unfold Wd
  exact run_eqGuard_agg w op _ x y _ _ Try.eqGuardWord
end Go.Proofs.Ytblodmjnhmfjeaa
