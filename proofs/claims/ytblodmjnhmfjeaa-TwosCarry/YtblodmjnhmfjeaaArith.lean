/- Plain arithmetic on words of four parts: sums and differences. No program is named here. -/
import Derived.Below
namespace Go.Proofs.Ytblodmjnhmfjeaa

/-- Part i of n: 64 bits. -/
def dg (n i : Nat) : Int := ((n / 2 ^ (64 * i) % 18446744073709551616 : Nat) : Int)
/-- n, rest 2^256, as a word. -/
def Wd (n : Nat) : Value := .agg #[.int .u64 (dg n 0), .int .u64 (dg n 1), .int .u64 (dg n 2), .int .u64 (dg n 3)]
theorem dg_nn (n i : Nat) : 0 ≤ dg n i := Int.natCast_nonneg _
theorem dg_lt (n i : Nat) : dg n i < 18446744073709551616 := by
  unfold dg
  have : n / 2 ^ (64 * i) % 18446744073709551616 < 18446744073709551616 := Nat.mod_lt _ (by decide)
  omega
theorem dg0 (n : Nat) : dg n 0 = (n : Int) % 18446744073709551616 := by unfold dg; simp
theorem dg1 (n : Nat) : dg n 1 = (n : Int) / 18446744073709551616 % 18446744073709551616 := by unfold dg; simp
theorem dg2 (n : Nat) : dg n 2 = (n : Int) / 340282366920938463463374607431768211456 % 18446744073709551616 := by unfold dg; simp
theorem dg3 (n : Nat) : dg n 3 = (n : Int) / 6277101735386680763835789423207666416102355444464034512896 % 18446744073709551616 := by unfold dg; simp
/-- The carry, and the part that is left, of a sum of two parts. -/
def cy (x y c : Int) : Int := (x + y + c) / 18446744073709551616
def sm (x y c : Int) : Int := (x + y + c) % 18446744073709551616
theorem cy_nn (x y c : Int) (hx : 0 ≤ x) (hy : 0 ≤ y) (hc : 0 ≤ c) : 0 ≤ cy x y c := by unfold cy; omega
theorem cy_le (x y c : Int) (hx' : x < 18446744073709551616) (hy' : y < 18446744073709551616) (hc' : c ≤ 1) : cy x y c ≤ 1 := by unfold cy; omega
theorem s0 (a b : Nat) : sm (dg a 0) (dg b 0) 0 = dg (a + b) 0 := by simp only [sm, dg0]; omega
theorem s1 (a b : Nat) : sm (dg a 1) (dg b 1) (cy (dg a 0) (dg b 0) 0) = dg (a + b) 1 := by simp only [sm, cy, dg0, dg1]; omega
theorem c1 (a b : Nat) : cy (dg a 1) (dg b 1) (cy (dg a 0) (dg b 0) 0) = (a % 340282366920938463463374607431768211456 + b % 340282366920938463463374607431768211456 : Nat) / 340282366920938463463374607431768211456 := by simp only [cy, dg0, dg1]; omega
theorem s2 (a b : Nat) : sm (dg a 2) (dg b 2) (cy (dg a 1) (dg b 1) (cy (dg a 0) (dg b 0) 0)) = dg (a + b) 2 := by rw [c1]; simp only [sm, dg2]; omega
theorem c2 (a b : Nat) : cy (dg a 2) (dg b 2) (cy (dg a 1) (dg b 1) (cy (dg a 0) (dg b 0) 0)) = (a % 6277101735386680763835789423207666416102355444464034512896 + b % 6277101735386680763835789423207666416102355444464034512896 : Nat) / 6277101735386680763835789423207666416102355444464034512896 := by rw [c1]; simp only [cy, dg2]; omega
theorem s3 (a b : Nat) : sm (dg a 3) (dg b 3) (cy (dg a 2) (dg b 2) (cy (dg a 1) (dg b 1) (cy (dg a 0) (dg b 0) 0))) = dg (a + b) 3 := by rw [c2]; simp only [sm, dg3]; omega
theorem c3 (a b : Nat) (ha : a < 2 ^ 256) (hb : b < 2 ^ 256) : cy (dg a 3) (dg b 3) (cy (dg a 2) (dg b 2) (cy (dg a 1) (dg b 1) (cy (dg a 0) (dg b 0) 0))) = ((a + b) / 2 ^ 256 : Nat) := by rw [c2]; simp only [cy, dg3]; omega
/-- The borrow, and the part that is left, of a difference of two parts. -/
def bo (x y c : Int) : Int := if x < y + c then 1 else 0
def df (x y c : Int) : Int := (x - y - c) % 18446744073709551616
theorem bo_nn (x y c : Int) : 0 ≤ bo x y c := by unfold bo; split <;> decide
theorem bo_le (x y c : Int) : bo x y c ≤ 1 := by unfold bo; split <;> decide
theorem d0 (a b : Nat) (hb : b < 2 ^ 256) : df (dg a 0) (dg b 0) 0 = dg (a + 2 ^ 256 - b) 0 := by simp only [df, dg0]; omega
theorem d1 (a b : Nat) (hb : b < 2 ^ 256) : df (dg a 1) (dg b 1) (bo (dg a 0) (dg b 0) 0) = dg (a + 2 ^ 256 - b) 1 := by simp only [df, bo, dg0, dg1]; split <;> omega
theorem b1 (a b : Nat) : bo (dg a 1) (dg b 1) (bo (dg a 0) (dg b 0) 0) = bo ((a % 340282366920938463463374607431768211456 : Nat) : Int) ((b % 340282366920938463463374607431768211456 : Nat) : Int) 0 := by simp only [bo, dg0, dg1]; split <;> split <;> split <;> omega
theorem d2 (a b : Nat) (hb : b < 2 ^ 256) : df (dg a 2) (dg b 2) (bo (dg a 1) (dg b 1) (bo (dg a 0) (dg b 0) 0)) = dg (a + 2 ^ 256 - b) 2 := by rw [b1]; simp only [df, bo, dg2]; split <;> omega
theorem b2 (a b : Nat) : bo (dg a 2) (dg b 2) (bo (dg a 1) (dg b 1) (bo (dg a 0) (dg b 0) 0)) = bo ((a % 6277101735386680763835789423207666416102355444464034512896 : Nat) : Int) ((b % 6277101735386680763835789423207666416102355444464034512896 : Nat) : Int) 0 := by rw [b1]; simp only [bo, dg2]; split <;> split <;> split <;> omega
theorem d3 (a b : Nat) (hb : b < 2 ^ 256) : df (dg a 3) (dg b 3) (bo (dg a 2) (dg b 2) (bo (dg a 1) (dg b 1) (bo (dg a 0) (dg b 0) 0))) = dg (a + 2 ^ 256 - b) 3 := by rw [b2]; simp only [df, bo, dg3]; split <;> omega
theorem tup2 {a b : Value} {a' b' : Value} (h : a = a') (k : b = b') : Ending.returned (.tuple #[a, b]) = .returned (.tuple #[a', b']) := by rw [h, k]
theorem wd_of {n : Nat} {p q r s : Int} (h0 : p = dg n 0) (h1 : q = dg n 1) (h2 : r = dg n 2) (h3 : s = dg n 3) : Value.agg #[.int .u64 p, .int .u64 q, .int .u64 r, .int .u64 s] = Wd n := by rw [h0, h1, h2, h3]; rfl
theorem int_of {k : IntKind} {p q : Int} (h : p = q) : Value.int k p = .int k q := by rw [h]
end Go.Proofs.Ytblodmjnhmfjeaa
