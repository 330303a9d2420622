/- twos.Shl, Shr: bits moved up and down. -/
import Derived.Test.YtblodmjnhmfjeaaTwC
import Derived.Test.YtblodmjnhmfjeaaTwD
import Derived.Test.YtblodmjnhmfjeaaHm
namespace Go.Proofs.Ytblodmjnhmfjeaa
open Go.RowKit Go.Shelf
/-- Part k of a, where there is one. -/
def ptn (a : Nat) (k : Int) : Nat := if 0 ≤ k then a / 2 ^ (64 * k.toNat) % 18446744073709551616 else 0
theorem ptn_bit (a : Nat) (k : Int) (j : Nat) : (ptn a k).testBit j = (decide (j < 64) && decide (0 ≤ k) && a.testBit (64 * k.toNat + j)) := by
  unfold ptn
  split
  · rename_i h
    rw [show (18446744073709551616 : Nat) = 2 ^ 64 from rfl, Nat.testBit_mod_two_pow, Nat.testBit_div_two_pow, decide_eq_true h, Bool.and_true, Nat.add_comm]
  · rename_i h; rw [decide_eq_false h]; simp
theorem ptn_lt (a : Nat) (k : Int) : ptn a k < 18446744073709551616 := by
  unfold ptn; split
  · exact Nat.mod_lt _ (by decide)
  · decide
theorem part_any (a : Nat) (ha : a < 2 ^ 256) (k : Int) (w : World) :
    Calls Try.prog 41 #[Wd a, .int .i64 k] w fun e w' => e = .returned (.int .u64 (ptn a k : Nat)) ∧ Below w.heap.size w w' := by
  by_cases h : k < 0 ∨ 4 ≤ k
  · have e : ptn a k = 0 := by
      unfold ptn; split
      · have h4 : 4 ≤ k := by omega
        rw [Nat.div_eq_of_lt (Nat.lt_of_lt_of_le ha (Nat.pow_le_pow_right (by decide) (by omega))), Nat.zero_mod]
      · rfl
    rw [e]; exact part_out a k h w
  · obtain ⟨i, rfl⟩ : ∃ i : Nat, k = i := ⟨k.toNat, by omega⟩
    have : ptn a i = a / 2 ^ (64 * i) % 18446744073709551616 := by unfold ptn; rw [if_pos (by omega)]; rfl
    rw [this]; exact part_in a i (by omega) w
set_option linter.unusedSimpArgs false in
theorem shl_dg (a P L i : Nat) (hL : L < 64) (hi : i < 4) : (ptn a ((i : Int) - P) * 2 ^ L % 18446744073709551616) ||| (ptn a ((i : Int) - P - 1) / 2 ^ (64 - L)) = a * 2 ^ (64 * P + L) % 2 ^ 256 / 2 ^ (64 * i) % 18446744073709551616 := by
  apply Nat.eq_of_testBit_eq
  intro j
  rw [show (18446744073709551616 : Nat) = 2 ^ 64 from rfl, Nat.testBit_or, Nat.testBit_mod_two_pow, Nat.testBit_mod_two_pow, Nat.testBit_div_two_pow, Nat.testBit_div_two_pow, Nat.testBit_mod_two_pow, Nat.testBit_mul_two_pow, Nat.testBit_mul_two_pow, ptn_bit, ptn_bit]
  by_cases hj : j < 64
  · by_cases hjl : L ≤ j
    · by_cases hp : P ≤ i
      · simp only [decide_eq_true hj, decide_eq_true (show L ≤ j from hjl), decide_eq_true (show j - L < 64 by omega), decide_eq_true (show (0 : Int) ≤ (i : Int) - P by omega), decide_eq_false (show ¬ (j + (64 - L) < 64) by omega), decide_eq_true (show j + 64 * i < 256 by omega), decide_eq_true (show 64 * P + L ≤ j + 64 * i by omega), Bool.true_and, Bool.and_true, Bool.false_and, Bool.and_false, Bool.or_false, Bool.false_or]
        congr 1; omega
      · simp only [decide_eq_true hj, decide_eq_false (show ¬ ((0 : Int) ≤ (i : Int) - P) by omega), decide_eq_false (show ¬ (j + (64 - L) < 64) by omega), decide_eq_false (show ¬ (64 * P + L ≤ j + 64 * i) by omega), Bool.true_and, Bool.and_true, Bool.false_and, Bool.and_false, Bool.or_false, Bool.false_or]
    · by_cases hp : P + 1 ≤ i
      · simp only [decide_eq_true hj, decide_eq_false (show ¬ (L ≤ j) from hjl), decide_eq_true (show (0 : Int) ≤ (i : Int) - P - 1 by omega), decide_eq_true (show (j + (64 - L) < 64) by omega), decide_eq_true (show j + 64 * i < 256 by omega), decide_eq_true (show 64 * P + L ≤ j + 64 * i by omega), Bool.true_and, Bool.and_true, Bool.false_and, Bool.and_false, Bool.or_false, Bool.false_or]
        congr 1; omega
      · simp only [decide_eq_true hj, decide_eq_false (show ¬ (L ≤ j) from hjl), decide_eq_false (show ¬ ((0 : Int) ≤ (i : Int) - P - 1) by omega), decide_eq_false (show ¬ (64 * P + L ≤ j + 64 * i) by omega), Bool.true_and, Bool.and_true, Bool.false_and, Bool.and_false, Bool.or_false, Bool.false_or]
  · simp only [decide_eq_false hj, decide_eq_false (show ¬ (j + (64 - L) < 64) by omega), Bool.true_and, Bool.and_true, Bool.false_and, Bool.and_false, Bool.or_false, Bool.false_or]
set_option linter.unusedSimpArgs false in
theorem shr_dg (a P L i : Nat) (hL : L < 64) : (ptn a ((i : Int) + P) / 2 ^ L) ||| (ptn a ((i : Int) + P + 1) * 2 ^ (64 - L) % 18446744073709551616) = a / 2 ^ (64 * P + L) / 2 ^ (64 * i) % 18446744073709551616 := by
  apply Nat.eq_of_testBit_eq
  intro j
  rw [show (18446744073709551616 : Nat) = 2 ^ 64 from rfl, Nat.testBit_or, Nat.testBit_mod_two_pow, Nat.testBit_mod_two_pow, Nat.testBit_div_two_pow, Nat.testBit_div_two_pow, Nat.testBit_div_two_pow, Nat.testBit_mul_two_pow, ptn_bit, ptn_bit]
  have n1 : (0 : Int) ≤ (i : Int) + P := by omega
  have n2 : (0 : Int) ≤ (i : Int) + P + 1 := by omega
  by_cases hj : j < 64
  · by_cases hjl : j + L < 64
    · simp only [decide_eq_true hj, decide_eq_true hjl, decide_eq_true n1, decide_eq_false (show ¬ (64 - L ≤ j) by omega), Bool.true_and, Bool.and_true, Bool.false_and, Bool.and_false, Bool.or_false, Bool.false_or]
      congr 1; omega
    · simp only [decide_eq_true hj, decide_eq_false hjl, decide_eq_true n2, decide_eq_true (show 64 - L ≤ j by omega), decide_eq_true (show j - (64 - L) < 64 by omega), Bool.true_and, Bool.and_true, Bool.false_and, Bool.and_false, Bool.or_false, Bool.false_or]
      congr 1; omega
  · simp only [decide_eq_false hj, decide_eq_false (show ¬ (j + L < 64) by omega), Bool.true_and, Bool.and_true, Bool.false_and, Bool.and_false, Bool.or_false, Bool.false_or]
end Go.Proofs.Ytblodmjnhmfjeaa
