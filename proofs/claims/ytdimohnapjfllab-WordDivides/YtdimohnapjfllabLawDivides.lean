/- lampbearerkeep.WordDivides: the quotient, times b, with the rest is a; and the rest is less than b. -/
import Derived.Test.YtdimohnapjfllabAlive1
namespace Go.Proofs.Ytdimohnapjfllab
open Go.RowKit Go.Shelf
attribute [local go_sem ↓] Go.wp_at_zero Go.wp_at_succ
theorem eq_nought (w : World) : (binOp .eql 24 (.agg #[.int .u64 (dg 0 0), .int .u64 (dg 0 1), .int .u64 (dg 0 2), .int .u64 (dg 0 3)]) (.agg #[.int .u64 0, .int .u64 0, .int .u64 0, .int .u64 0])).run Try.prog w = .ok (.bool true) w := by
  rw [dg_zero, dg_zero, dg_zero, dg_zero]
  exact eq_zero w
set_option linter.unusedSimpArgs false in
set_option maxHeartbeats 4000000 in
set_option maxRecDepth 100000 in
theorem law_divides0 (a : Nat) (ha : a < 2 ^ 256) (w : World) :
    Calls Try.prog 3 #[Wd a, Wd 0] w fun e w' => e = .returned (.bool true) ∧ Below w.heap.size w w' := by
  have HD : Hid (∀ w : World, Calls Try.prog 10 #[Wd a, Wd 0] w fun e w' => e = .returned (.tuple #[.agg #[.int .u64 (dg 0 0), .int .u64 (dg 0 1), .int .u64 (dg 0 2), .int .u64 (dg 0 3)], .agg #[.int .u64 (dg 0 0), .int .u64 (dg 0 1), .int .u64 (dg 0 2), .int .u64 (dg 0 3)]]) ∧ Below w.heap.size w w') := fun w => by have k := divmod_any a 0 ha (by decide) w; rw [Nat.div_zero] at k; exact k
  have q0 := eq_nought
  have q1 := eq_guard2
  have e0 := eq_self 0
  unfold Wd at e0
  clear ha
  have m := S2_start w a 0
  conv => arg 3; unfold Wd
  go_enter Try.func3, Try.ntmps3
  go_wp2_with fail
  refine (alive1_any _).mono ?_
  rintro e1 w1 ⟨rfl, hb⟩
  replace m := S2_below m hb
  clear hb
  have c0 := m.c0
  have c1 := m.c1
  go_wp2_with fail
  refine (HD.out _).mono ?_
  rintro e2 w2 ⟨rfl, hb⟩
  replace m := S2_below m hb
  clear hb c0 c1
  have c0 := m.c0
  have c1 := m.c1
  have z1 := m.hi
  have z0 : w.heap.size < w2.heap.size := by omega
  have z2 : w.heap.size + 1 < w2.heap.size + 1 := by omega
  have z3 : w.heap.size < w2.heap.size + 1 := by omega
  have n := S2_drew (S2_start w2 0 0)
  have k0 := (S2_below m (((Below.refl w2.heap.size w2).alloc (Nat.le_refl _) (.cells #[.int .u64 (dg 0 0), .int .u64 (dg 0 1), .int .u64 (dg 0 2), .int .u64 (dg 0 3)] 24)).alloc (by simp) (.cells #[.int .u64 (dg 0 0), .int .u64 (dg 0 1), .int .u64 (dg 0 2), .int .u64 (dg 0 3)] 24)))
  have k := S2_drew k0
  have d0 := k0.c0
  have d1 := k0.c1
  have B0 : Hid (Below w.heap.size w _) := k0.bel
  clear k0
  go_wp2_with fail
  clear c0 c1 d0 d1 n k
  go_ret
  exact ⟨rfl, B0.out⟩
set_option linter.unusedSimpArgs false in
set_option maxHeartbeats 4000000 in
set_option maxRecDepth 100000 in
theorem law_dividesP (a b : Nat) (ha : a < 2 ^ 256) (hb : b < 2 ^ 256) (h0 : b ≠ 0) (w : World) :
    Calls Try.prog 3 #[Wd a, Wd b] w fun e w' => e = .returned (.bool true) ∧ Below w.heap.size w w' := by
  obtain ⟨N, hN⟩ : ∃ r, r = a / b := ⟨_, rfl⟩
  obtain ⟨R, hR⟩ : ∃ r, r = a % b := ⟨_, rfl⟩
  obtain ⟨P, hP⟩ : ∃ r, r = N * b := ⟨_, rfl⟩
  have hlt : R < b := by rw [hR]; exact Nat.mod_lt _ (by omega)
  have hle : N ≤ a := by rw [hN]; exact Nat.div_le_self _ _
  have hsum : P + R = a := by rw [hP, hN, hR, Nat.mul_comm]; exact Nat.div_add_mod a b
  obtain ⟨c, hc⟩ : ∃ c : Int, c = cm (N : Int) (a : Int) := ⟨_, rfl⟩
  have hc0 : c ≤ 0 := by
    rw [hc]
    unfold cm
    by_cases h : (N : Int) < (a : Int)
    · rw [if_pos h]; decide
    · rw [if_neg h, if_neg (by omega)]; decide
  have HD : Hid (∀ w : World, Calls Try.prog 10 #[Wd a, Wd b] w fun e w' => e = .returned (.tuple #[.agg #[.int .u64 (dg N 0), .int .u64 (dg N 1), .int .u64 (dg N 2), .int .u64 (dg N 3)], .agg #[.int .u64 (dg R 0), .int .u64 (dg R 1), .int .u64 (dg R 2), .int .u64 (dg R 3)]]) ∧ Below w.heap.size w w') := fun w => by have k := divmod_any a b ha hb w; unfold md at k; rw [if_neg h0, ← hN, ← hR] at k; exact k
  have KM : Hid (∀ w : World, Calls Try.prog 12 #[.agg #[.int .u64 (dg N 0), .int .u64 (dg N 1), .int .u64 (dg N 2), .int .u64 (dg N 3)], .agg #[.int .u64 (dg b 0), .int .u64 (dg b 1), .int .u64 (dg b 2), .int .u64 (dg b 3)]] w fun e w' => e = .returned (Wd P) ∧ Below w.heap.size w w') := fun w => by rw [hP]; exact mul_mod N b w
  have KA : Hid (∀ w : World, Calls Try.prog 11 #[Wd P, .agg #[.int .u64 (dg R 0), .int .u64 (dg R 1), .int .u64 (dg R 2), .int .u64 (dg R 3)]] w fun e w' => e = .returned (.agg #[.int .u64 (dg a 0), .int .u64 (dg a 1), .int .u64 (dg a 2), .int .u64 (dg a 3)]) ∧ Below w.heap.size w w') := fun w => by have k := add_mod P R w; rw [hsum] at k; exact k
  have KC : Hid (∀ w : World, Calls Try.prog 13 #[.agg #[.int .u64 (dg R 0), .int .u64 (dg R 1), .int .u64 (dg R 2), .int .u64 (dg R 3)], .agg #[.int .u64 (dg b 0), .int .u64 (dg b 1), .int .u64 (dg b 2), .int .u64 (dg b 3)]] w fun e w' => e = .returned (.int .i64 (-1)) ∧ Below w.heap.size w w') := fun w => by have k := cmp_any R b (by omega) hb w; unfold cm at k; rw [if_pos (by omega)] at k; exact k
  have KG : Hid (∀ w : World, Calls Try.prog 13 #[.agg #[.int .u64 (dg N 0), .int .u64 (dg N 1), .int .u64 (dg N 2), .int .u64 (dg N 3)], .agg #[.int .u64 (dg a 0), .int .u64 (dg a 1), .int .u64 (dg a 2), .int .u64 (dg a 3)]] w fun e w' => e = .returned (.int .i64 c) ∧ Below w.heap.size w w') := fun w => by rw [hc]; exact cmp_any N a (by omega) ha w
  have q0 := eq_no b hb h0
  have q1 := eq_guard2
  have ea := eq_self a
  unfold Wd at ea
  clear ha hb h0 hN hR hP hc hlt hle hsum
  have m := S2_start w a b
  conv => arg 3; unfold Wd
  go_enter Try.func3, Try.ntmps3
  go_wp2_with fail
  refine (alive1_any _).mono ?_
  rintro e1 w1 ⟨rfl, hb⟩
  replace m := S2_below m hb
  clear hb
  have c0 := m.c0
  have c1 := m.c1
  go_wp2_with fail
  refine (HD.out _).mono ?_
  rintro e2 w2 ⟨rfl, hb⟩
  replace m := S2_below m hb
  clear hb c0 c1
  have c0 := m.c0
  have c1 := m.c1
  have z1 := m.hi
  have z0 : w.heap.size < w2.heap.size := by omega
  have z2 : w.heap.size + 1 < w2.heap.size + 1 := by omega
  have z3 : w.heap.size < w2.heap.size + 1 := by omega
  have n := S2_drew (S2_start w2 N R)
  have k0 := (S2_below m (((Below.refl w2.heap.size w2).alloc (Nat.le_refl _) (.cells #[.int .u64 (dg N 0), .int .u64 (dg N 1), .int .u64 (dg N 2), .int .u64 (dg N 3)] 24)).alloc (by simp) (.cells #[.int .u64 (dg R 0), .int .u64 (dg R 1), .int .u64 (dg R 2), .int .u64 (dg R 3)] 24)))
  have k := S2_drew k0
  have d0 := k0.c0
  have d1 := k0.c1
  have B0 : Hid (Below w.heap.size w _) := k0.bel
  clear k0
  go_wp2_with fail
  clear c0 c1 d0 d1 B0
  go_region_held3 (fun w' => (∀ o, o < 4 → w'.cell? ⟨w.heap.size, o, none⟩ = some (.int .u64 (dg a o))) ∧ (∀ o, o < 4 → w'.cell? ⟨w.heap.size + 1, o, none⟩ = some (.int .u64 (dg b o))) ∧ (∀ o, o < 4 → w'.cell? ⟨w2.heap.size, o, none⟩ = some (.int .u64 (dg N o))) ∧ (∀ o, o < 4 → w'.cell? ⟨w2.heap.size + 1, o, none⟩ = some (.int .u64 (dg R o)))) (exact ⟨k.c0, k.c1, n.c0, n.c1⟩)
    (first | (go_at_call 12; refine (KM.out _).mono ?_; rintro e w' ⟨rfl, hb⟩; replace k := S2_below k hb; replace n := S2_below n hb; clear hb) | (go_at_call 11; refine (KA.out _).mono ?_; rintro e w' ⟨rfl, hb⟩; replace k := S2_below k hb; replace n := S2_below n hb; clear hb) | (go_at_call_of 13 (dg R 0); refine (KC.out _).mono ?_; rintro e w' ⟨rfl, hb⟩; replace k := S2_below k hb; replace n := S2_below n hb; clear hb) | (go_at_call_of 13 (dg N 0); refine (KG.out _).mono ?_; rintro e w' ⟨rfl, hb⟩; replace k := S2_below k hb; replace n := S2_below n hb; clear hb))
  all_goals
    go_wp2_with fail
    go_ret
    exact ⟨rfl, k.bel⟩
theorem law_divides (a b : Nat) (ha : a < 2 ^ 256) (hb : b < 2 ^ 256) (w : World) :
    Calls Try.prog 3 #[Wd a, Wd b] w fun e w' => e = .returned (.bool true) ∧ Below w.heap.size w w' := by
  by_cases h0 : b = 0
  · subst h0; exact law_divides0 a ha w
  · exact law_dividesP a b ha hb h0 w
end Go.Proofs.Ytdimohnapjfllab
