/- lampbearerref.WBit: one bit of a word. -/
import Derived.Test.YtcoljaogemgnnabWSub
namespace Go.Proofs.Ytcoljaogemgnnab
open Go.RowKit Go.Shelf
/-- Bit i of a. -/
def wb (a i : Nat) : Bool := decide (a / 2 ^ i % 2 = 1)
theorem wb_bt (a i : Nat) (h : i < 256) : ((bt a (31 - i / 8) / 2 ^ (i % 8)).tmod 2 == 1) = wb a i := by
  have e : (bt a (31 - i / 8) / 2 ^ (i % 8) % 2 : Int) = ((a / 2 ^ i % 2 : Nat) : Int) := by
    have h1 : 8 * (31 - (31 - i / 8)) = 8 * (i / 8) := by omega
    have h2 : a / 2 ^ i = a / 2 ^ (8 * (i / 8)) / 2 ^ (i % 8) := by rw [Nat.div_div_eq_div_mul, ← Nat.pow_add]; congr 2; omega
    have h3 : i % 8 = 0 ∨ i % 8 = 1 ∨ i % 8 = 2 ∨ i % 8 = 3 ∨ i % 8 = 4 ∨ i % 8 = 5 ∨ i % 8 = 6 ∨ i % 8 = 7 := by omega
    unfold bt
    rw [h1, h2]
    generalize a / 2 ^ (8 * (i / 8)) = n
    generalize i % 8 = r at *
    rcases h3 with rfl | rfl | rfl | rfl | rfl | rfl | rfl | rfl <;> simp <;> omega
  rw [Int.tmod_eq_emod_of_nonneg (Int.ediv_nonneg (bt_nn _ _) (Int.le_of_lt (Int.pow_pos (by decide)))), e]
  unfold wb
  generalize a / 2 ^ i % 2 = z at *
  rw [Bool.eq_iff_iff, beq_iff_eq, decide_eq_true_iff]
  omega
set_option maxHeartbeats 1000000 in
set_option maxRecDepth 100000 in
theorem wbit_any (a i : Nat) (w : World) (hi : i < 256) :
    Calls Try.prog 61 #[Wd a, .int .i64 i] w fun e w' => e = .returned (.bool (wb a i)) ∧ Below w.heap.size w w' := by
  conv => arg 3; unfold Wd
  go_enter Try.func61, Try.ntmps61
  go_wp2_with fail
  refine (wbytes_any a _).mono ?_
  rintro e w1 ⟨g, cap, rfl, own, hb⟩
  have q := R32_own own
  have hc := q (31 - i / 8) (by omega)
  have n1 := bt_nn a (31 - i / 8)
  have HB : Hid (Below w.heap.size w w1) := ((Below.refl _ _).alloc (Nat.le_refl _) _).trans (hb.mono (by simp))
  clear q own hb
  go_wp2_with fail
  rw [wb_bt a i hi]
  go_ret
  exact ⟨rfl, HB.out⟩
theorem wb_step (b i : Nat) : b / 2 ^ i = 2 * (b / 2 ^ (i + 1)) + if wb b i = true then 1 else 0 := by
  rw [Nat.pow_succ, ← Nat.div_div_eq_div_mul]
  unfold wb
  split <;> rename_i h <;> simp at h <;> omega
end Go.Proofs.Ytcoljaogemgnnab
