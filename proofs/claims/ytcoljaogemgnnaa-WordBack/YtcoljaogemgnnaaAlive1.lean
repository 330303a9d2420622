/- lampbearerkeep.alive1: the closed facts hold. -/
import Derived.Test.YtcoljaogemgnnaaLawKit
import Derived.Test.YtcoljaogemgnnaaDivMod
import Derived.Test.YtcoljaogemgnnaaExp
namespace Go.Proofs.Ytcoljaogemgnnaa
open Go.RowKit Go.Shelf
attribute [local go_sem ↓] Go.wp_at_zero Go.wp_at_succ
theorem wd_64 : Wd 1180591620717411303424 = .agg #[.int .u64 0, .int .u64 64, .int .u64 0, .int .u64 0] := by unfold Wd; rw [dg0, dg1, dg2, dg3]; rfl
theorem Bel_next {w w1 w2 : World} (h : Below w.heap.size w w1) (k : Below w1.heap.size w1 w2) : Below w.heap.size w w2 := h.trans (k.mono h.size)
set_option linter.unusedSimpArgs false in
set_option maxHeartbeats 4000000 in
set_option maxRecDepth 100000 in
theorem alive1_any (w : World) : Calls Try.prog 21 #[] w fun e w' => e = .returned (.bool true) ∧ Below w.heap.size w w' := by
  have I17 : Hid (∀ w : World, Calls Try.prog 16 #[.int .u64 17] w fun e w' => e = .returned (Wd 17) ∧ Below w.heap.size w w') := fun w => int_any 17 (by decide) w
  have I5 : Hid (∀ w : World, Calls Try.prog 16 #[.int .u64 5] w fun e w' => e = .returned (Wd 5) ∧ Below w.heap.size w w') := fun w => int_any 5 (by decide) w
  have I2 : Hid (∀ w : World, Calls Try.prog 16 #[.int .u64 2] w fun e w' => e = .returned (.agg #[.int .u64 (dg 2 0), .int .u64 (dg 2 1), .int .u64 (dg 2 2), .int .u64 (dg 2 3)]) ∧ Below w.heap.size w w') := fun w => int_any 2 (by decide) w
  have I6 : Hid (∀ w : World, Calls Try.prog 16 #[.int .u64 6] w fun e w' => e = .returned (Wd 6) ∧ Below w.heap.size w w') := fun w => int_any 6 (by decide) w
  have I42 : Hid (∀ w : World, Calls Try.prog 16 #[.int .u64 42] w fun e w' => e = .returned (Wd 42) ∧ Below w.heap.size w w') := fun w => int_any 42 (by decide) w
  have I3 : Hid (∀ w : World, Calls Try.prog 16 #[.int .u64 3] w fun e w' => e = .returned (.agg #[.int .u64 (dg 3 0), .int .u64 (dg 3 1), .int .u64 (dg 3 2), .int .u64 (dg 3 3)]) ∧ Below w.heap.size w w') := fun w => int_any 3 (by decide) w
  have I70 : Hid (∀ w : World, Calls Try.prog 16 #[.int .u64 70] w fun e w' => e = .returned (Wd 70) ∧ Below w.heap.size w w') := fun w => int_any 70 (by decide) w
  have KD : Hid (∀ w : World, Calls Try.prog 22 #[Wd 17, Wd 5] w fun e w' => e = .returned (.tuple #[.agg #[.int .u64 (dg 3 0), .int .u64 (dg 3 1), .int .u64 (dg 3 2), .int .u64 (dg 3 3)], .agg #[.int .u64 (dg 2 0), .int .u64 (dg 2 1), .int .u64 (dg 2 2), .int .u64 (dg 2 3)]]) ∧ Below w.heap.size w w') := fun w => divmod_any 17 5 (by decide) (by decide) w
  have KA : Hid (∀ w : World, Calls Try.prog 46 #[.agg #[.int .u64 (dg 2 0), .int .u64 (dg 2 1), .int .u64 (dg 2 2), .int .u64 (dg 2 3)], Wd 5] w fun e w' => e = .returned (Wd 7) ∧ Below w.heap.size w w') := fun w => add_mod 2 5 w
  have KM : Hid (∀ w : World, Calls Try.prog 45 #[Wd 7, Wd 6] w fun e w' => e = .returned (Wd 42) ∧ Below w.heap.size w w') := fun w => mul_mod 7 6 w
  have KE : Hid (∀ w : World, Calls Try.prog 47 #[.agg #[.int .u64 (dg 2 0), .int .u64 (dg 2 1), .int .u64 (dg 2 2), .int .u64 (dg 2 3)], Wd 70] w fun e w' => e = .returned (.agg #[.int .u64 0, .int .u64 64, .int .u64 0, .int .u64 0]) ∧ Below w.heap.size w w') := fun w => by rw [← wd_64]; exact exp_any 2 70 (by decide) w
  have e42 := eq_self 42
  have g42 := fun op x y => eq_guard op x y 42 42
  have e3 := eq_self 3
  unfold Wd at e3
  have e2 := eq_self 2
  unfold Wd at e2
  have e64 := eq_self 1180591620717411303424
  rw [wd_64] at e64
  have g64 := eq_guard2
  have m : Below w.heap.size w w := Below.refl _ _
  generalize Wd 17 = W17, Wd 5 = W5, Wd 6 = W6, Wd 42 = W42, Wd 70 = W70, Wd 7 = W7 at *
  go_enter Try.func21, Try.ntmps21
  go_wp2_with fail
  refine (I17.out _).mono ?_
  rintro e1 w1 ⟨rfl, hb⟩
  replace m := Bel_next m hb
  clear hb
  go_wp2_with fail
  refine (I5.out _).mono ?_
  rintro e2 w2 ⟨rfl, hb⟩
  replace m := Bel_next m hb
  clear hb
  go_wp2_with fail
  refine (KD.out _).mono ?_
  rintro e3 w3 ⟨rfl, hb⟩
  replace m := Bel_next m hb
  clear hb
  have n := S2_drew (S2_start w3 3 2)
  go_wp2_with fail
  go_region_held3 (fun w' => (∀ o, o < 4 → w'.cell? ⟨w3.heap.size, o, none⟩ = some (.int .u64 (dg 3 o))) ∧ (∀ o, o < 4 → w'.cell? ⟨w3.heap.size + 1, o, none⟩ = some (.int .u64 (dg 2 o)))) (exact ⟨n.c0, n.c1⟩)
    (first | (go_at_call 16; (first | refine (I17.out _).mono ?_ | refine (I5.out _).mono ?_ | refine (I2.out _).mono ?_ | refine (I6.out _).mono ?_ | refine (I42.out _).mono ?_ | refine (I3.out _).mono ?_ | refine (I70.out _).mono ?_); rintro e w' ⟨rfl, hb⟩; replace n := S2_below n hb; clear hb) | (go_at_call 22; (first | refine (KD.out _).mono ?_); rintro e w' ⟨rfl, hb⟩; replace n := S2_below n hb; clear hb) | (go_at_call 46; (first | refine (KA.out _).mono ?_); rintro e w' ⟨rfl, hb⟩; replace n := S2_below n hb; clear hb) | (go_at_call 45; (first | refine (KM.out _).mono ?_); rintro e w' ⟨rfl, hb⟩; replace n := S2_below n hb; clear hb) | (go_at_call 47; (first | refine (KE.out _).mono ?_); rintro e w' ⟨rfl, hb⟩; replace n := S2_below n hb; clear hb))
  all_goals
    go_wp2_with fail
    go_ret
    exact ⟨rfl, Bel_next m n.bel⟩
end Go.Proofs.Ytcoljaogemgnnaa
