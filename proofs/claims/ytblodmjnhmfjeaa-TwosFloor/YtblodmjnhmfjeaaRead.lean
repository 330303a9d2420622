/- lampbearerref.WRead: the word of the last 32 bytes. -/
import Derived.Test.YtblodmjnhmfjeaaBytes
namespace Go.Proofs.Ytblodmjnhmfjeaa
open Go.RowKit Go.Shelf
/-- The number of k bytes of f, from place s on, the greatest first. -/
def rv (f : Nat → Nat) (s : Nat) : Nat → Nat
  | 0 => 0
  | k + 1 => rv f s k * 256 + f (s + k)
theorem rv_lt (f : Nat → Nat) (hf : ∀ j, f j < 256) (s : Nat) : ∀ k, rv f s k < 256 ^ k
  | 0 => by simp [rv]
  | k + 1 => by
    have := rv_lt f hf s k
    have := hf (s + k)
    rw [rv, Nat.pow_succ]
    omega
theorem wrap64u (n : Int) (h0 : 0 ≤ n) (h1 : n < 18446744073709551616) : IntKind.u64.wrap n = n := by rw [IntKind.wrap_u64]; omega
/-- A part moved up by a byte, with a byte behind it. -/
theorem or_byte (d x : Int) (hx : 0 ≤ x) (hx' : x < 256) : bits .or .u64 (IntKind.u64.wrap (d * 256)) x = d * 256 % 18446744073709551616 + x := by
  rw [IntKind.wrap_u64]
  exact bits_join .u64 64 (by decide) (fun n h0 h1 => wrap64u n h0 (by simpa using h1)) 8 _ _ (by omega) (by omega) (by omega) hx (by simpa using hx') (by omega)
theorem step0 (n x : Nat) (hx : x < 256) : bits .or .u64 (IntKind.u64.wrap (dg n 0 * 256)) (IntKind.u64.wrap (x : Int)) = dg (n * 256 + x) 0 := by
  rw [wrap64u (x : Int) (by omega) (by omega), or_byte _ _ (by omega) (by omega)]; simp only [dg0]; omega
theorem step1 (n x : Nat) (hx : x < 256) : bits .or .u64 (IntKind.u64.wrap (dg n 1 * 256)) (dg n 0 / 72057594037927936) = dg (n * 256 + x) 1 := by
  have := dg_nn n 0; have := dg_lt n 0
  rw [or_byte _ _ (by omega) (by omega)]; simp only [dg0, dg1]; omega
theorem step2 (n x : Nat) (hx : x < 256) : bits .or .u64 (IntKind.u64.wrap (dg n 2 * 256)) (dg n 1 / 72057594037927936) = dg (n * 256 + x) 2 := by
  have := dg_nn n 1; have := dg_lt n 1
  rw [or_byte _ _ (by omega) (by omega)]; simp only [dg1, dg2]; omega
theorem step3 (n x : Nat) (hx : x < 256) : bits .or .u64 (IntKind.u64.wrap (dg n 3 * 256)) (dg n 2 / 72057594037927936) = dg (n * 256 + x) 3 := by
  have := dg_nn n 2; have := dg_lt n 2
  rw [or_byte _ _ (by omega) (by omega)]; simp only [dg2, dg3]; omega
/-- The bytes of a word, read again. -/
theorem rv_bt (a : Nat) (ha : a < 2 ^ 256) : ∀ k, k ≤ 32 → rv (fun j => a / 2 ^ (8 * (31 - j)) % 256) 0 k = a / 2 ^ (8 * (32 - k))
  | 0, _ => by
    simp only [rv]
    rw [Nat.div_eq_of_lt (by simpa using ha)]
  | k + 1, hk => by
    rw [rv, rv_bt a ha k (by omega), Nat.zero_add, show 8 * (32 - k) = 8 * (32 - (k + 1)) + 8 by omega, Nat.pow_add, ← Nat.div_div_eq_div_mul, show 31 - k = 32 - (k + 1) by omega]
    omega
end Go.Proofs.Ytblodmjnhmfjeaa
