/- word.Cmp: the order of words, part by part from the greatest on. -/
import Derived.Test.YtblodmjnhmfjeaaInt
import Derived.Test.YtblodmjnhmfjeaaLawSums
namespace Go.Proofs.Ytblodmjnhmfjeaa
open Go.RowKit Go.Shelf
attribute [local go_sem ↓] Go.wp_at_zero Go.wp_at_succ
/-- -1, 0 or 1. -/
def cm (x y : Int) : Int := if x < y then -1 else if y < x then 1 else 0
set_option maxHeartbeats 400000 in
theorem isnan_any (x : Int) (w : World) :
    Calls Try.prog 52 #[.int .u64 x] w fun e w' => e = .returned (.bool false) ∧ w' = w := by
  go_enter Try.func52, Try.ntmps52
  go_wp2
  go_ret
  simp
set_option maxHeartbeats 1000000 in
theorem compare_any (x y : Int) (w : World) :
    Calls Try.prog 39 #[.int .u64 x, .int .u64 y] w fun e w' => e = .returned (.int .i64 (cm x y)) ∧ w' = w := by
  by_cases h1 : x < y
  · have e : cm x y = -1 := by unfold cm; rw [if_pos h1]
    rw [e]
    clear e
    go_enter Try.func39, Try.ntmps39
    go_wp2_with fail
    refine (isnan_any x _).mono ?_
    rintro e1 w1 ⟨rfl, rfl⟩
    go_wp2_with fail
    refine (isnan_any y _).mono ?_
    rintro e2 w2 ⟨rfl, rfl⟩
    go_wp2_with fail
    go_ret
    exact ⟨rfl, rfl⟩
  · by_cases h2 : y < x
    · have e : cm x y = 1 := by unfold cm; rw [if_neg h1, if_pos h2]
      rw [e]
      clear e
      go_enter Try.func39, Try.ntmps39
      go_wp2_with fail
      refine (isnan_any x _).mono ?_
      rintro e1 w1 ⟨rfl, rfl⟩
      go_wp2_with fail
      refine (isnan_any y _).mono ?_
      rintro e2 w2 ⟨rfl, rfl⟩
      go_wp2_with fail
      go_ret
      exact ⟨rfl, rfl⟩
    · have e : cm x y = 0 := by unfold cm; rw [if_neg h1, if_neg h2]
      rw [e]
      clear e
      go_enter Try.func39, Try.ntmps39
      go_wp2_with fail
      refine (isnan_any x _).mono ?_
      rintro e1 w1 ⟨rfl, rfl⟩
      go_wp2_with fail
      refine (isnan_any y _).mono ?_
      rintro e2 w2 ⟨rfl, rfl⟩
      go_wp2_with fail
      go_ret
      exact ⟨rfl, rfl⟩
/-- Where the parts from i on are the same, part i - 1 may part them. -/
theorem cm_at (a b i : Nat) (h : a / 2 ^ (64 * (i + 1)) = b / 2 ^ (64 * (i + 1))) (hne : cm (dg a i) (dg b i) ≠ 0) : cm (dg a i) (dg b i) = cm (a : Int) (b : Int) := by
  have e1 : ∀ n : Nat, n / 2 ^ (64 * (i + 1)) = n / 2 ^ (64 * i) / 18446744073709551616 := fun n => by
    rw [Nat.div_div_eq_div_mul, show (18446744073709551616 : Nat) = 2 ^ 64 by decide, ← Nat.pow_add, Nat.mul_add]
  rw [e1, e1] at h
  have hp : 0 < 2 ^ (64 * i) := Nat.two_pow_pos _
  have k1 : a / 2 ^ (64 * i) < b / 2 ^ (64 * i) → a < b := fun k => by
    rcases Nat.lt_or_ge a b with h | h
    · exact h
    · exact absurd (Nat.div_le_div_right (c := 2 ^ (64 * i)) h) (by omega)
  have k2 : b / 2 ^ (64 * i) < a / 2 ^ (64 * i) → b < a := fun k => by
    rcases Nat.lt_or_ge b a with h | h
    · exact h
    · exact absurd (Nat.div_le_div_right (c := 2 ^ (64 * i)) h) (by omega)
  unfold cm dg at *
  generalize a / 2 ^ (64 * i) = A at *
  generalize b / 2 ^ (64 * i) = B at *
  by_cases c1 : A < B
  · have := k1 c1
    rw [if_pos (by omega), if_pos (by omega)]
  · by_cases c2 : B < A
    · have := k2 c2
      rw [if_neg (by omega), if_pos (by omega), if_neg (by omega), if_pos (by omega)]
    · exfalso
      rw [if_neg (by omega), if_neg (by omega)] at hne
      exact hne rfl
theorem cm_same (a b i : Nat) (h : a / 2 ^ (64 * (i + 1)) = b / 2 ^ (64 * (i + 1))) (he : cm (dg a i) (dg b i) = 0) : a / 2 ^ (64 * i) = b / 2 ^ (64 * i) := by
  have e1 : ∀ n : Nat, n / 2 ^ (64 * (i + 1)) = n / 2 ^ (64 * i) / 18446744073709551616 := fun n => by
    rw [Nat.div_div_eq_div_mul, show (18446744073709551616 : Nat) = 2 ^ 64 by decide, ← Nat.pow_add, Nat.mul_add]
  rw [e1, e1] at h
  unfold cm dg at he
  generalize a / 2 ^ (64 * i) = A at *
  generalize b / 2 ^ (64 * i) = B at *
  split at he
  · omega
  · split at he
    · omega
    · omega
set_option maxHeartbeats 2000000 in
set_option maxRecDepth 100000 in
theorem cmp_any (a b : Nat) (ha : a < 2 ^ 256) (hb : b < 2 ^ 256) (w : World) :
    Calls Try.prog 19 #[Wd a, Wd b] w fun e w' => e = .returned (.int .i64 (cm (a : Int) (b : Int))) ∧ Below w.heap.size w w' := by
  have h4 : a / 2 ^ (64 * 4) = b / 2 ^ (64 * 4) := by rw [Nat.div_eq_of_lt ha, Nat.div_eq_of_lt hb]
  clear ha hb
  have H4 : Hid (a / 2 ^ (64 * 4) = b / 2 ^ (64 * 4)) := h4
  clear h4
  conv => arg 3; unfold Wd
  go_enter Try.func19, Try.ntmps19
  go_wp2_with fail
  go_loopw [5] (fun iv wr => ∃ k : Nat, k ≤ 4 ∧ iv = .int .i64 ((k : Int) - 1) ∧ Hid (a / 2 ^ (64 * k) = b / 2 ^ (64 * k)) ∧ C4 w.heap.size a wr ∧ C4 (w.heap.size + 1) b wr ∧ Below w.heap.size w wr) (fun iv _ => (intOf iv + 1).toNat)
  case atStart =>
    refine ⟨4, by omega, rfl, H4, ?_, ?_, ?_⟩
    · intro o ho
      have : o = 0 ∨ o = 1 ∨ o = 2 ∨ o = 3 := by omega
      rcases this with rfl | rfl | rfl | rfl <;> simp [go_sem]
    · intro o ho
      have : o = 0 ∨ o = 1 ∨ o = 2 ∨ o = 3 := by omega
      rcases this with rfl | rfl | rfl | rfl <;> simp [go_sem]
    · exact ((Below.refl _ _).alloc (Nat.le_refl _) _).alloc (by simp) _
  case round =>
    clear H4
    obtain ⟨k, hk, hi, hs, cA, cB, bel⟩ := hrel
    cases k with
    | zero =>
      subst hi
      have e0 : cm (a : Int) (b : Int) = 0 := by
        have := hs.out
        simp at this
        subst this
        unfold cm
        rw [if_neg (Int.lt_irrefl _), if_neg (Int.lt_irrefl _)]
      have E0 : Hid (cm (a : Int) (b : Int) = 0) := e0
      clear e0 hs cA cB
      go_wp2_with fail
      go_ret
      exact ⟨by rw [E0.out]; rfl, bel⟩
    | succ j =>
      have e1 : ((j + 1 : Nat) : Int) - 1 = (j : Int) := by omega
      rw [e1] at hi
      subst hi
      clear e1
      have ca := cA j (by omega)
      have cb := cB j (by omega)
      have j4 : (j : Int) < 4 := by omega
      have cA' := C4_drew cA
      have cB' := C4_drew cB
      go_wp2_with fail
      go_region_with (first | (go_at_call 39; refine (compare_any (dg a j) (dg b j) _).mono ?_; rintro e1 w1 ⟨rfl, hw1⟩))
      all_goals
        subst hw1
        by_cases h0 : cm (dg a j) (dg b j) = 0
        · have hs' : Hid (a / 2 ^ (64 * j) = b / 2 ^ (64 * j)) := cm_same a b j hs.out h0
          rw [h0]
          clear hs h0
          go_wp2_with fail
          go_roundw
          case rel => exact ⟨j, by omega, by go_num, hs', cA', cB', bel.drew⟩
          case measure => simp [intOf]
        · have E1 : Hid (cm (dg a j) (dg b j) = cm (a : Int) (b : Int)) := cm_at a b j hs.out h0
          clear hs
          generalize cm (dg a j) (dg b j) = c at *
          go_wp2_with fail
          go_ret
          exact ⟨by rw [← E1.out]; rfl, bel.drew⟩
end Go.Proofs.Ytblodmjnhmfjeaa
