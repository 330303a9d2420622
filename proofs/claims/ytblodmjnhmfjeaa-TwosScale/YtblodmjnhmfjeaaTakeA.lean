/- word.guess and (*word.rest).takeOff: one part of a quotient. -/
import Derived.Test.YtblodmjnhmfjeaaDiv64
import Derived.Test.YtblodmjnhmfjeaaPutBack
namespace Go.Proofs.Ytblodmjnhmfjeaa
open Go.RowKit Go.Shelf
attribute [local go_sem ↓] Go.wp_at_zero Go.wp_at_succ
/-- t is no less than whatever goes into h and l by b. -/
def GE (h l b t : Int) : Prop := U t ∧ ∀ Q, Q ≤ 18446744073709551615 → Q * b ≤ h * 18446744073709551616 + l → Q ≤ t
set_option maxHeartbeats 1000000 in
set_option maxRecDepth 100000 in
theorem guess_any (h l b : Int) (uh : U h) (ul : U l) (ub : U b) (hb : 9223372036854775808 ≤ b) (w : World) :
    Calls Try.prog 58 #[.int .u64 h, .int .u64 l, .int .u64 b] w fun e w' => ∃ t n, e = .returned (.int .u64 t) ∧ GE h l b t ∧ w' = w.drewN n := by
  by_cases hc : b ≤ h
  · have HG : GE h l b 18446744073709551615 := ⟨by unfold U; omega, fun Q hQ _ => hQ⟩
    clear hb
    go_enter Try.func58, Try.ntmps58
    go_wp2_with fail
    go_ret
    exact ⟨_, 0, rfl, HG, rfl⟩
  · have hD : DI h l b := ⟨hb, ub.2, ul.1, ul.2, uh.1, by omega⟩
    have HG : Hid (GE h l b ((h * 18446744073709551616 + l) / b)) := by
      refine ⟨⟨Int.ediv_nonneg (by have := uh.1; have := ul.1; omega) (by omega), Int.ediv_lt_of_lt_mul (by omega) ?_⟩, fun Q _ hQ => (Int.le_ediv_iff_mul_le (by omega)).2 hQ⟩
      have := ul.2
      omega
    clear hb
    go_enter Try.func58, Try.ntmps58
    go_wp2_with fail
    refine (div64_any h l b hD _).mono ?_
    rintro e w1 ⟨n, rfl, rfl⟩
    generalize (h * 18446744073709551616 + l) / b = t at *
    generalize (h * 18446744073709551616 + l) % b = r at *
    go_wp2_with fail
    go_ret
    exact ⟨t, n, rfl, HG.out, rfl⟩
/-- The guess is no less than the quotient. -/
theorem quo_guess {F b : Nat → Int} {j n : Nat} {t : Int} (hn : 1 ≤ n) (hF : ∀ o, U (F o)) (hb : ∀ o, U (b o)) (hB : 0 < vr b 0 n) (hA : vr F j (n + 1) < vr b 0 n * 18446744073709551616) (hG : GE (F (j + n)) (F (j + n - 1)) (b (n - 1)) t) : vr F j (n + 1) / vr b 0 n ≤ t := by
  obtain ⟨m, rfl⟩ : ∃ m, n = m + 1 := ⟨n - 1, by omega⟩
  refine hG.2 _ ?_ ?_
  · have := Int.ediv_lt_of_lt_mul hB (show vr F j (m + 1 + 1) < 18446744073709551616 * vr b 0 (m + 1) by rw [Int.mul_comm]; exact hA)
    omega
  · have h1 := vr_bound hF j m
    have h2 := vr_bound hb 0 m
    have hp := Mp_pos m
    have hA0 := (vr_bound hF j (m + 1 + 1)).1
    have hQ := Int.ediv_mul_le (vr F j (m + 1 + 1)) (show vr b 0 (m + 1) ≠ 0 by omega)
    have hQ0 : 0 ≤ vr F j (m + 1 + 1) / vr b 0 (m + 1) := Int.ediv_nonneg hA0 (by omega)
    generalize vr F j (m + 1 + 1) / vr b 0 (m + 1) = Q at *
    rw [show j + (m + 1) - 1 = j + m by omega, show m + 1 - 1 = m by omega]
    rw [vr, vr, vr, Mp_succ, Nat.zero_add] at hQ
    have hQb : 0 ≤ Q * vr b 0 m := Int.mul_nonneg hQ0 h2.1
    apply Int.not_lt.1
    intro hlt
    have h3 := Int.mul_le_mul_of_nonneg_right (show F (j + (m + 1)) * 18446744073709551616 + F (j + m) + 1 ≤ Q * b m by omega) (Int.le_of_lt hp)
    have e1 : (F (j + (m + 1)) * 18446744073709551616 + F (j + m) + 1) * Mp m = F (j + (m + 1)) * (18446744073709551616 * Mp m) + F (j + m) * Mp m + Mp m := by grind
    have e2 : Q * (vr b 0 m + b m * Mp m) = Q * vr b 0 m + Q * b m * Mp m := by grind
    rw [e1] at h3
    rw [e2] at hQ
    generalize F (j + (m + 1)) * (18446744073709551616 * Mp m) = z1 at *
    generalize F (j + m) * Mp m = z2 at *
    generalize Q * b m * Mp m = z3 at *
    omega
/-- What is left is the rest, where nothing is borrowed. -/
theorem LI_done {F b G : Nat → Int} {j n : Nat} {t : Int} (hB : 0 < vr b 0 n) (hQ : vr F j (n + 1) / vr b 0 n ≤ t) (H : LI F b j n t G 0) : t = vr F j (n + 1) / vr b 0 n ∧ vr G j (n + 1) = vr F j (n + 1) % vr b 0 n := by
  have h0 := (vr_bound H.1 j (n + 1)).1
  have h4 := H.2.2.2
  rw [Int.zero_mul, Int.sub_zero] at h4
  have hle : t ≤ vr F j (n + 1) / vr b 0 n := (Int.le_ediv_iff_mul_le hB).2 (by omega)
  have ht : t = vr F j (n + 1) / vr b 0 n := by omega
  refine ⟨ht, ?_⟩
  have e := Int.mul_ediv_add_emod (vr F j (n + 1)) (vr b 0 n)
  rw [← ht, Int.mul_comm] at e
  omega
theorem LI_more {F b G : Nat → Int} {j n : Nat} {t : Int} (hB : 0 < vr b 0 n) (H : LI F b j n t G 1) : vr F j (n + 1) / vr b 0 n ≤ t - 1 := by
  have h1 := (vr_bound H.1 j (n + 1)).2
  have h4 := H.2.2.2
  have : vr F j (n + 1) / vr b 0 n < t := Int.ediv_lt_of_lt_mul hB (by omega)
  omega
end Go.Proofs.Ytblodmjnhmfjeaa
