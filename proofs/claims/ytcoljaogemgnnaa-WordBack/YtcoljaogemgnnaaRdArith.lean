/- The number of bytes, the last one the least: reckoned from either end. -/
import Derived.Test.YtcoljaogemgnnaaBRArith
import Derived.Test.YtcoljaogemgnnaaRead
namespace Go.Proofs.Ytcoljaogemgnnaa
open Go.RowKit
/-- The last n bytes of f ahead of place e. -/
def le (f : Nat → Nat) (e : Nat) : Nat → Nat
  | 0 => 0
  | n + 1 => le f e n + f (e - 1 - n) * 2 ^ (8 * n)
theorem le_lt (f : Nat → Nat) (hf : ∀ j, f j < 256) (e : Nat) : ∀ n, le f e n < 2 ^ (8 * n)
  | 0 => by simp [le]
  | n + 1 => by
    have h1 := le_lt f hf e n
    have h2 := hf (e - 1 - n)
    rw [le, Nat.mul_add, Nat.pow_add]
    have := Nat.mul_le_mul_right (2 ^ (8 * n)) (show f (e - 1 - n) + 1 ≤ 256 from h2)
    rw [Nat.add_mul] at this
    have e8 : (2 : Nat) ^ (8 * 1) = 256 := by decide
    rw [e8]
    omega
theorem le_succ (f : Nat → Nat) (e : Nat) : ∀ n, n ≤ e → le f (e + 1) (n + 1) = f e + 256 * le f e n
  | 0, _ => by simp [le]
  | n + 1, h => by
    have e8 : (2 : Nat) ^ (8 * (n + 1)) = 256 * 2 ^ (8 * n) := by rw [Nat.mul_add, Nat.pow_add, Nat.mul_comm]
    rw [le, le_succ f e n (by omega), le, e8, show e + 1 - 1 - (n + 1) = e - 1 - n by omega, Nat.mul_add, Nat.add_assoc, Nat.mul_left_comm]
theorem le_rv (f : Nat → Nat) (s : Nat) : ∀ n, le f (s + n) n = rv f s n
  | 0 => rfl
  | n + 1 => by rw [← Nat.add_assoc, le_succ f (s + n) n (by omega), le_rv f s n, rv]; omega
end Go.Proofs.Ytcoljaogemgnnaa
