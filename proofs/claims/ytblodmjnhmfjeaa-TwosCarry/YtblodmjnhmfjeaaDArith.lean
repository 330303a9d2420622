/- Plain arithmetic of one step of a division of parts by halves. -/
import Derived.Test.YtblodmjnhmfjeaaPArith
namespace Go.Proofs.Ytblodmjnhmfjeaa
/-- What the divisor and the two parts are. -/
def DI (hi lo y : Int) : Prop := 9223372036854775808 ≤ y ∧ y < 18446744073709551616 ∧ 0 ≤ lo ∧ lo < 18446744073709551616 ∧ 0 ≤ hi ∧ hi < y
/-- One step: u and the half d by y: q is no less than the quotient, r is what q leaves of u by y's upper half. -/
def QI (u d y q r : Int) : Prop := 0 ≤ r ∧ q * (y / 4294967296) + r = u ∧ (u * 4294967296 + d) / y ≤ q
/-- What a step is about. -/
def SI (u d y : Int) : Prop := 9223372036854775808 ≤ y ∧ y < 18446744073709551616 ∧ 0 ≤ u ∧ u < y ∧ 0 ≤ d ∧ d < 4294967296
theorem quo_lt {u d y : Int} (h : SI u d y) : (u * 4294967296 + d) / y < 4294967296 ∧ 0 ≤ (u * 4294967296 + d) / y := by
  obtain ⟨h1, h2, h3, h4, h5, h6⟩ := h
  refine ⟨Int.ediv_lt_of_lt_mul (by omega) ?_, Int.ediv_nonneg (by omega) (by omega)⟩
  omega
theorem quo_le {u d y q : Int} (h : SI u d y) (hq : q * y ≤ u * 4294967296 + d) : q ≤ (u * 4294967296 + d) / y := (Int.le_ediv_iff_mul_le (by have := h.1; omega)).2 hq
theorem quo_gt {u d y q : Int} (h : SI u d y) (hq : u * 4294967296 + d < q * y) : (u * 4294967296 + d) / y < q := Int.ediv_lt_of_lt_mul (by have := h.1; omega) hq
theorem split_y (y q : Int) : q * y = q * (y / 4294967296) * 4294967296 + q * (y % 4294967296) := by
  have h := Int.mul_ediv_add_emod y 4294967296
  have : q * (4294967296 * (y / 4294967296) + y % 4294967296) = q * y := by rw [h]
  rw [← this]
  grind
theorem QI_start {u d y : Int} (h : SI u d y) : QI u d y (u / (y / 4294967296)) (u % (y / 4294967296)) ∧ u % (y / 4294967296) < 4294967296 := by
  obtain ⟨h1, h2, h3, h4, h5, h6⟩ := h
  have hv : 2147483648 ≤ y / 4294967296 := by omega
  have hv' : y / 4294967296 < 4294967296 := by omega
  have e := Int.mul_ediv_add_emod u (y / 4294967296)
  have r0 := Int.emod_nonneg u (show y / 4294967296 ≠ 0 by omega)
  have r1 := Int.emod_lt_of_pos u (show 0 < y / 4294967296 by omega)
  refine ⟨⟨r0, by rw [Int.mul_comm]; exact e, ?_⟩, by omega⟩
  have hs := split_y y (u / (y / 4294967296) + 1)
  have hq : (u * 4294967296 + d) / y < u / (y / 4294967296) + 1 := by
    refine quo_gt ⟨h1, h2, h3, h4, h5, h6⟩ ?_
    rw [hs]
    have h0 : 0 ≤ (u / (y / 4294967296) + 1) * (y % 4294967296) := Int.mul_nonneg (by have := Int.ediv_nonneg h3 (show 0 ≤ y / 4294967296 by omega); omega) (by omega)
    have e2 : (u / (y / 4294967296) + 1) * (y / 4294967296) = y / 4294967296 * (u / (y / 4294967296)) + y / 4294967296 := by grind
    rw [e2]
    omega
  omega
theorem QI_big {u d y q r : Int} (h : SI u d y) (hq : QI u d y q r) (hc : 4294967296 ≤ q ∨ 4294967296 * r + d < q * (y % 4294967296)) : QI u d y (q - 1) (r + y / 4294967296) ∧ 1 ≤ q := by
  obtain ⟨r0, e, hT⟩ := hq
  have hl := quo_lt h
  have hv : 0 ≤ y / 4294967296 := by have := h.1; omega
  have key : (u * 4294967296 + d) / y < q := by
    rcases hc with hc | hc
    · omega
    · refine quo_gt h ?_
      rw [split_y y q]
      generalize q * (y / 4294967296) = m at *
      generalize q * (y % 4294967296) = n at *
      omega
  refine ⟨⟨by omega, ?_, by omega⟩, by omega⟩
  rw [Int.sub_mul]
  omega
theorem QI_done {u d y q r : Int} (h : SI u d y) (hq : QI u d y q r) (hc : q * (y % 4294967296) ≤ 4294967296 * r + d) : q = (u * 4294967296 + d) / y := by
  obtain ⟨r0, e, hT⟩ := hq
  have := quo_le (q := q) h (by
    rw [split_y y q]
    generalize q * (y / 4294967296) = m at *
    generalize q * (y % 4294967296) = n at *
    omega)
  omega
theorem QI_break {u d y q r : Int} (h : SI u d y) (hq : QI u d y q r) (hr : 4294967296 ≤ r) : q = (u * 4294967296 + d) / y := by
  obtain ⟨r0, e, hT⟩ := hq
  have hl := quo_lt h
  obtain ⟨h1, h2, h3, h4, h5, h6⟩ := h
  have hv : 2147483648 ≤ y / 4294967296 := by omega
  have hq1 : q ≤ 4294967295 := by
    apply Int.not_lt.1
    intro hlt
    have := Int.mul_le_mul_of_nonneg_right (show (4294967296 : Int) ≤ q by omega) (show 0 ≤ y / 4294967296 by omega)
    omega
  have hq0 : q * (y % 4294967296) ≤ 4294967295 * 4294967295 := Int.mul_le_mul hq1 (by omega) (by omega) (by omega)
  have := quo_le (q := q) ⟨h1, h2, h3, h4, h5, h6⟩ (by
    rw [split_y y q]
    generalize q * (y / 4294967296) = m at *
    generalize q * (y % 4294967296) = n at *
    omega)
  omega
theorem quo_rest {N Q R y : Int} (hy : 0 < y) (h : N = Q * y + R) (h0 : 0 ≤ R) (h1 : R < y) : N / y = Q ∧ N % y = R := (Int.ediv_emod_unique hy).2 ⟨by rw [h, Int.mul_comm]; omega, h0, h1⟩
end Go.Proofs.Ytblodmjnhmfjeaa
