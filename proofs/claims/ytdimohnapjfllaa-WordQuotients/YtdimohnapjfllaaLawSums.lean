/- lampbearerlaw.WordSums: word.Add, Sub and Mul answer as the document's own do. -/
import Derived.Test.YtdimohnapjfllaaProduct
import Derived.Test.YtdimohnapjfllaaSub
import Derived.ChangeKeysEq
namespace Go.Proofs.Ytdimohnapjfllaa
open Go.RowKit Go.Shelf
attribute [local go_sem ↓] Go.wp_at_zero Go.wp_at_succ
theorem Try.infoU64 : ∃ i, Try.prog.info? 22 = some i := by
  have h : (Try.prog.info? 22).isSome = true := by kernel_rfl
  exact Option.isSome_iff_exists.1 h
theorem Try.cellsU64 : Try.prog.cellsOf 22 = 1 := by kernel_rfl
theorem eq_self (n : Nat) (w : World) : (binOp .eql 24 (Wd n) (Wd n)).run Try.prog w = .ok (.bool true) w := by
  obtain ⟨i, hi⟩ := Try.infoU64
  unfold Wd
  rw [run_eql_struct, run_equalIn_array w 9999 _ _ Try.underlying24 hi, Try.cellsU64]
  simp [Op.eqItems, go_sem, List.range, List.range.loop]
theorem Try.eqGuardWord : Try.prog.eqGuardType Try.prog.depth 24 = false := by kernel_rfl
theorem eq_guard (op : BinOp) (x y : Operand) (n m : Nat) (w : World) : (eqGuard op 24 x y (Wd n) (Wd m)).run Try.prog w = .ok () w := by
  unfold Wd
  exact run_eqGuard_agg w op _ x y _ _ Try.eqGuardWord
set_option maxHeartbeats 4000000 in
set_option maxRecDepth 100000 in
theorem law_sums (a b : Nat) (ha : a < 2 ^ 256) (hb : b < 2 ^ 256) (w : World) :
    Calls Try.prog 3 #[Wd a, Wd b] w fun e w' => e = .returned (.bool true) ∧ Below w.heap.size w w' := by
  obtain ⟨N, hN⟩ : ∃ N, N = a + 2 ^ 256 - b := ⟨_, rfl⟩
  obtain ⟨P, hP⟩ : ∃ P, P = a * b := ⟨_, rfl⟩
  have K1 : Hid (∀ w : World, Calls Try.prog 9 #[Wd a, Wd b] w fun e w' => e = .returned (Wd (a + b)) ∧ Below w.heap.size w w') := fun w => by exact add_any a b ha hb w
  have K2 : Hid (∀ w : World, Calls Try.prog 10 #[Wd a, Wd b] w fun e w' => e = .returned (Wd (a + b)) ∧ Below w.heap.size w w') := fun w => by exact wadd_any a b w
  have K3 : Hid (∀ w : World, Calls Try.prog 11 #[Wd a, Wd b] w fun e w' => e = .returned (Wd (N)) ∧ Below w.heap.size w w') := fun w => by rw [hN]; exact sub_any a b hb w
  have K4 : Hid (∀ w : World, Calls Try.prog 12 #[Wd a, Wd b] w fun e w' => e = .returned (Wd (N)) ∧ Below w.heap.size w w') := fun w => by rw [hN]; exact wsub_any a b hb w
  have K5 : Hid (∀ w : World, Calls Try.prog 13 #[Wd a, Wd b] w fun e w' => e = .returned (Wd (P)) ∧ Below w.heap.size w w') := fun w => by rw [hP]; exact mul_any a b ha hb w
  have K6 : Hid (∀ w : World, Calls Try.prog 14 #[Wd a, Wd b] w fun e w' => e = .returned (Wd (P)) ∧ Below w.heap.size w w') := fun w => by rw [hP]; exact wmul_any a b w hb
  clear ha hb hN hP
  conv => arg 3; unfold Wd
  have e1 := eq_self (a + b)
  have e2 := eq_self N
  have e3 := eq_self P
  have g1 := fun op x y => eq_guard op x y (a + b) (a + b)
  have g2 := fun op x y => eq_guard op x y N N
  have g3 := fun op x y => eq_guard op x y P P
  have s0 : C4 w.heap.size a ((w.alloc (.cells #[.int .u64 (dg a 0), .int .u64 (dg a 1), .int .u64 (dg a 2), .int .u64 (dg a 3)] 24)).alloc (.cells #[.int .u64 (dg b 0), .int .u64 (dg b 1), .int .u64 (dg b 2), .int .u64 (dg b 3)] 24)).drew ∧ C4 (w.heap.size + 1) b ((w.alloc (.cells #[.int .u64 (dg a 0), .int .u64 (dg a 1), .int .u64 (dg a 2), .int .u64 (dg a 3)] 24)).alloc (.cells #[.int .u64 (dg b 0), .int .u64 (dg b 1), .int .u64 (dg b 2), .int .u64 (dg b 3)] 24)).drew := by
    refine ⟨fun o ho => ?_, fun o ho => ?_⟩ <;> (have : o = 0 ∨ o = 1 ∨ o = 2 ∨ o = 3 := (by omega)) <;> rcases this with rfl | rfl | rfl | rfl <;> simp [go_sem]
  have z0 : w.heap.size + 1 < ((w.alloc (.cells #[.int .u64 (dg a 0), .int .u64 (dg a 1), .int .u64 (dg a 2), .int .u64 (dg a 3)] 24)).alloc (.cells #[.int .u64 (dg b 0), .int .u64 (dg b 1), .int .u64 (dg b 2), .int .u64 (dg b 3)] 24)).drew.heap.size := by simp
  have b0 : Below w.heap.size w ((w.alloc (.cells #[.int .u64 (dg a 0), .int .u64 (dg a 1), .int .u64 (dg a 2), .int .u64 (dg a 3)] 24)).alloc (.cells #[.int .u64 (dg b 0), .int .u64 (dg b 1), .int .u64 (dg b 2), .int .u64 (dg b 3)] 24)).drew := (((Below.refl _ _).alloc (Nat.le_refl _) _).alloc (by simp) _).drew
  go_enter Try.func3, Try.ntmps3
  go_wp2
  go_region_held3 (fun w' => (∀ o, o < 4 → w'.cell? ⟨w.heap.size, o, none⟩ = some (.int .u64 (dg a o))) ∧ (∀ o, o < 4 → w'.cell? ⟨w.heap.size + 1, o, none⟩ = some (.int .u64 (dg b o)))) (first | exact s6 | exact s5 | exact s4 | exact s3 | exact s2 | exact s1 | exact s0)
    (first
      | (go_at_call 9; refine (K1.out _).mono ?_; rintro e w1 ⟨rfl, hb1⟩; have z1 : w.heap.size + 1 < w1.heap.size := Nat.lt_of_lt_of_le z0 hb1.size; have s1 := And.intro (C4_below s0.1 hb1 (Nat.lt_of_succ_lt z0)) (C4_below s0.2 hb1 z0); have b1 := b0.trans (hb1.mono (Nat.le_of_lt (Nat.lt_of_succ_lt z0))); clear hb1 z0 b0)
      | (go_at_call 10; refine (K2.out _).mono ?_; rintro e w2 ⟨rfl, hb2⟩; have z2 : w.heap.size + 1 < w2.heap.size := Nat.lt_of_lt_of_le z1 hb2.size; have s2 := And.intro (C4_below s1.1 hb2 (Nat.lt_of_succ_lt z1)) (C4_below s1.2 hb2 z1); have b2 := b1.trans (hb2.mono (Nat.le_of_lt (Nat.lt_of_succ_lt z1))); clear hb2 z1 b1)
      | (go_at_call 11; refine (K3.out _).mono ?_; rintro e w3 ⟨rfl, hb3⟩; have z3 : w.heap.size + 1 < w3.heap.size := Nat.lt_of_lt_of_le z2 hb3.size; have s3 := And.intro (C4_below s2.1 hb3 (Nat.lt_of_succ_lt z2)) (C4_below s2.2 hb3 z2); have b3 := b2.trans (hb3.mono (Nat.le_of_lt (Nat.lt_of_succ_lt z2))); clear hb3 z2 b2)
      | (go_at_call 12; refine (K4.out _).mono ?_; rintro e w4 ⟨rfl, hb4⟩; have z4 : w.heap.size + 1 < w4.heap.size := Nat.lt_of_lt_of_le z3 hb4.size; have s4 := And.intro (C4_below s3.1 hb4 (Nat.lt_of_succ_lt z3)) (C4_below s3.2 hb4 z3); have b4 := b3.trans (hb4.mono (Nat.le_of_lt (Nat.lt_of_succ_lt z3))); clear hb4 z3 b3)
      | (go_at_call 13; refine (K5.out _).mono ?_; rintro e w5 ⟨rfl, hb5⟩; have z5 : w.heap.size + 1 < w5.heap.size := Nat.lt_of_lt_of_le z4 hb5.size; have s5 := And.intro (C4_below s4.1 hb5 (Nat.lt_of_succ_lt z4)) (C4_below s4.2 hb5 z4); have b5 := b4.trans (hb5.mono (Nat.le_of_lt (Nat.lt_of_succ_lt z4))); clear hb5 z4 b4)
      | (go_at_call 14; refine (K6.out _).mono ?_; rintro e w6 ⟨rfl, hb6⟩; have z6 : w.heap.size + 1 < w6.heap.size := Nat.lt_of_lt_of_le z5 hb6.size; have s6 := And.intro (C4_below s5.1 hb6 (Nat.lt_of_succ_lt z5)) (C4_below s5.2 hb6 z5); have b6 := b5.trans (hb6.mono (Nat.le_of_lt (Nat.lt_of_succ_lt z5))); clear hb6 z5 b5))
  go_wp2
  go_ret
  exact ⟨rfl, b6⟩
end Go.Proofs.Ytdimohnapjfllaa
