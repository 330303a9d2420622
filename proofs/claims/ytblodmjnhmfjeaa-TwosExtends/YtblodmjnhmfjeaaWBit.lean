/- lampbearerref.WBit: one bit of a word. -/
import Derived.Test.YtblodmjnhmfjeaaWSub
namespace Go.Proofs.Ytblodmjnhmfjeaa
open Go.RowKit Go.Shelf
/-- Bit i of a. -/
def wb (a i : Nat) : Bool := decide (a / 2 ^ i % 2 = 1)
theorem wb_bt (a i : Nat) (h : i < 256) : ((bt a (31 - i / 8) / 2 ^ (i % 8)).tmod 2 == 1) = wb a i := by
  have e : (bt a (31 - i / 8) / 2 ^ (i % 8) % 2 : Int) = ((a / 2 ^ i % 2 : Nat) : Int) := by
    have h1 : 8 * (31 - (31 - i / 8)) = 8 * (i / 8) := by omega
    have h2 : a / 2 ^ i = a / 2 ^ (8 * (i / 8)) / 2 ^ (i % 8) := by rw [Nat.div_div_eq_div_mul, ← Nat.pow_add]; congr 2; omega
    have h3 : i % 8 = 0 ∨ i % 8 = 1 ∨ i % 8 = 2 ∨ i % 8 = 3 ∨ i % 8 = 4 ∨ i % 8 = 5 ∨ i % 8 = 6 ∨ i % 8 = 7 := by omega
    unfold bt
    rw [h1, h2]
    generalize a / 2 ^ (8 * (i / 8)) = n
    generalize i % 8 = r at *
    rcases h3 with rfl | rfl | rfl | rfl | rfl | rfl | rfl | rfl <;> simp <;> omega
  rw [Int.tmod_eq_emod_of_nonneg (Int.ediv_nonneg (bt_nn _ _) (Int.le_of_lt (Int.pow_pos (by decide)))), e]
  unfold wb
  generalize a / 2 ^ i % 2 = z at *
  rw [Bool.eq_iff_iff, beq_iff_eq, decide_eq_true_iff]
  omega
theorem wb_step (b i : Nat) : b / 2 ^ i = 2 * (b / 2 ^ (i + 1)) + if wb b i = true then 1 else 0 := by
  rw [Nat.pow_succ, ← Nat.div_div_eq_div_mul]
  unfold wb
  split <;> rename_i h <;> simp at h <;> omega
end Go.Proofs.Ytblodmjnhmfjeaa
