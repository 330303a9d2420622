/- Plain arithmetic on the bytes of words: one out of its part, and one more into its part. -/
import Derived.Test.YtblodmjnhmfjeaaArith
import Derived.Laws.BitsAllLaws
namespace Go.Proofs.Ytblodmjnhmfjeaa
theorem pow_split (p : Nat) : 2 ^ (64 * (p / 8)) * 2 ^ (8 * (p % 8)) = 2 ^ (8 * p) := by
  rw [← Nat.pow_add]; congr 1; omega
theorem mod_div_mod (x s : Nat) (hs : s ≤ 56) : x % 18446744073709551616 / 2 ^ s % 256 = x / 2 ^ s % 256 := by
  obtain ⟨t, ht⟩ : ∃ t, s + 8 + t = 64 := ⟨56 - s, by omega⟩
  have e : (18446744073709551616 : Nat) = 2 ^ s * (256 * 2 ^ t) := by
    rw [show (256 : Nat) = 2 ^ 8 by decide, ← Nat.pow_add, ← Nat.pow_add, ← Nat.add_assoc, ht]
  rw [e, Nat.mod_mul_right_div_self, Nat.mod_mul_right_mod]
/-- Byte p, the least first, out of its part. -/
theorem byte_out (n p : Nat) : dg n (p / 8) / 2 ^ (8 * (p % 8)) % 256 = ((n / 2 ^ (8 * p) % 256 : Nat) : Int) := by
  have h := mod_div_mod (n / 2 ^ (64 * (p / 8))) (8 * (p % 8)) (by omega)
  rw [Nat.div_div_eq_div_mul, pow_split] at h
  rw [← h]
  unfold dg
  have e : (2 : Int) ^ (8 * (p % 8)) = ((2 ^ (8 * (p % 8)) : Nat) : Int) := by simp
  rw [e, ← Int.natCast_ediv]
  omega
theorem dg_nat (n i : Nat) : dg n i = ((n / 2 ^ (64 * i) % 18446744073709551616 : Nat) : Int) := rfl
theorem byte_in_below (N x k o : Nat) (ho : o < k / 8) : dg (N + x * 2 ^ (8 * k)) o = dg N o := by
  rw [dg_nat, dg_nat]
  obtain ⟨d, hd⟩ : ∃ d, 8 * k = 64 * o + (64 + d) := ⟨8 * k - 64 * o - 64, by omega⟩
  rw [hd, Nat.pow_add, Nat.pow_add, Nat.mul_left_comm, Nat.add_mul_div_left _ _ (Nat.two_pow_pos _), Nat.mul_left_comm, show (2 : Nat) ^ 64 = 18446744073709551616 by decide, Nat.add_mul_mod_self_left]
theorem byte_in_above (N x k o : Nat) (hN : N < 2 ^ (8 * k)) (hx : x < 256) (ho : k / 8 < o) : dg (N + x * 2 ^ (8 * k)) o = dg N o := by
  have h1 : N + x * 2 ^ (8 * k) < 2 ^ (8 * k + 8) := by
    rw [Nat.pow_add, show (2 : Nat) ^ 8 = 256 by decide]
    have := Nat.mul_le_mul_right (2 ^ (8 * k)) (show x + 1 ≤ 256 from hx)
    rw [Nat.add_mul] at this
    omega
  have h2 : 2 ^ (8 * k + 8) ≤ 2 ^ (64 * o) := Nat.pow_le_pow_right (by decide) (by omega)
  have h3 : 2 ^ (8 * k) ≤ 2 ^ (64 * o) := Nat.pow_le_pow_right (by decide) (by omega)
  rw [dg_nat, dg_nat, Nat.div_eq_of_lt (by omega), Nat.div_eq_of_lt (by omega)]
theorem byte_in_at (N x k : Nat) (hN : N < 2 ^ (8 * k)) (hx : x < 256) : bits .or .u64 (dg N (k / 8)) (IntKind.u64.wrap ((x : Int) * 2 ^ (8 * (k % 8)))) = dg (N + x * 2 ^ (8 * k)) (k / 8) := by
  have hs : 8 * (k % 8) ≤ 56 := by omega
  have e1 : N / 2 ^ (64 * (k / 8)) < 2 ^ (8 * (k % 8)) := by
    rw [Nat.div_lt_iff_lt_mul (Nat.two_pow_pos _), Nat.mul_comm, pow_split]; exact hN
  have e2 : (N + x * 2 ^ (8 * k)) / 2 ^ (64 * (k / 8)) = N / 2 ^ (64 * (k / 8)) + x * 2 ^ (8 * (k % 8)) := by
    rw [← pow_split, Nat.mul_left_comm, Nat.add_mul_div_left _ _ (Nat.two_pow_pos _)]
  generalize hq : N / 2 ^ (64 * (k / 8)) = q at *
  generalize 8 * (k % 8) = s at *
  have p56 : 2 ^ s ≤ 2 ^ 56 := Nat.pow_le_pow_right (by decide) hs
  have hb : q + x * 2 ^ s < 18446744073709551616 := by
    have := Nat.mul_le_mul (show x ≤ 255 by omega) p56
    have : (2 : Nat) ^ 56 = 72057594037927936 := by decide
    omega
  rw [dg_nat, dg_nat, e2, hq, IntKind.wrap_u64]
  have e3 : (x : Int) * 2 ^ s % 18446744073709551616 = ((x * 2 ^ s : Nat) : Int) := by
    have : (x : Int) * 2 ^ s = ((x * 2 ^ s : Nat) : Int) := by simp
    rw [this]; omega
  rw [e3, Nat.mod_eq_of_lt (show q < 18446744073709551616 by omega), u64_or_nat _ _ (by omega) (by omega), Nat.mod_eq_of_lt hb, Nat.or_comm, nat_join s _ _ (Nat.mul_mod_left _ _) e1, Nat.add_comm]
end Go.Proofs.Ytblodmjnhmfjeaa
