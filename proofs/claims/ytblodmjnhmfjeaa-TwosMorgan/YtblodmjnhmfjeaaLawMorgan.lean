/- lampbearerkeep.TwosMorgan. -/
import Derived.Test.YtblodmjnhmfjeaaTwH
import Derived.Test.YtblodmjnhmfjeaaRWN
namespace Go.Proofs.Ytblodmjnhmfjeaa
open Go.RowKit Go.Shelf
theorem nt_bit (a i : Nat) : (nt a).testBit i = (decide (i < 256) && !a.testBit i) := by
  unfold nt
  have h : a % 2 ^ 256 < 2 ^ 256 := Nat.mod_lt _ (by decide)
  rw [show 2 ^ 256 - 1 - a % 2 ^ 256 = 2 ^ 256 - (a % 2 ^ 256 + 1) by omega, Nat.testBit_two_pow_sub_succ h, Nat.testBit_mod_two_pow]
  cases decide (i < 256) <;> simp
theorem morgan (a b : Nat) : nt (a &&& b) = nt a ||| nt b := by
  apply Nat.eq_of_testBit_eq
  intro i
  rw [nt_bit, Nat.testBit_or, nt_bit, nt_bit, Nat.testBit_and]
  cases decide (i < 256) <;> simp
theorem nt_nt (a : Nat) (ha : a < 2 ^ 256) : nt (nt a) = a := by unfold nt; omega
set_option maxHeartbeats 4000000 in
set_option maxRecDepth 100000 in
theorem law_morgan (a b : Nat) (ha : a < 2 ^ 256) (w : World) :
    Calls Try.prog 3 #[Wd a, Wd b] w fun e w' => e = .returned (.bool true) ∧ Below w.heap.size w w' := by
  have KA : Hid (∀ w : World, Calls Try.prog 9 #[] w fun e w' => e = .returned (.bool true) ∧ Below w.heap.size w w') := fun w => alive2_any w
  have K1 : Hid (∀ w : World, Calls Try.prog 11 #[Wd a, Wd b] w fun e w' => e = .returned (Wd (a &&& b)) ∧ Below w.heap.size w w') := fun w => and_any a b w
  have K2 : Hid (∀ w : World, Calls Try.prog 10 #[Wd (a &&& b)] w fun e w' => e = .returned (Wd (nt (a &&& b))) ∧ Below w.heap.size w w') := fun w => not_any _ w
  have K3 : Hid (∀ w : World, Calls Try.prog 10 #[Wd a] w fun e w' => e = .returned (Wd (nt a)) ∧ Below w.heap.size w w') := fun w => not_any _ w
  have K4 : Hid (∀ w : World, Calls Try.prog 10 #[Wd b] w fun e w' => e = .returned (Wd (nt b)) ∧ Below w.heap.size w w') := fun w => not_any _ w
  have K5 : Hid (∀ w : World, Calls Try.prog 12 #[Wd (nt a), Wd (nt b)] w fun e w' => e = .returned (Wd (nt (a &&& b))) ∧ Below w.heap.size w w') := fun w => by rw [morgan]; exact or_any _ _ w
  have K6 : Hid (∀ w : World, Calls Try.prog 10 #[Wd (nt a)] w fun e w' => e = .returned (Wd a) ∧ Below w.heap.size w w') := fun w => by have := not_any (nt a) w; rwa [nt_nt a ha] at this
  have K7 : Hid (∀ w : World, Calls Try.prog 13 #[Wd a, Wd b] w fun e w' => e = .returned (Wd (a ^^^ b)) ∧ Below w.heap.size w w') := fun w => xor_any _ _ w
  have K8 : Hid (∀ w : World, Calls Try.prog 13 #[Wd (a ^^^ b), Wd b] w fun e w' => e = .returned (Wd a) ∧ Below w.heap.size w w') := fun w => by have := xor_any (a ^^^ b) b w; rwa [Nat.xor_assoc, Nat.xor_self, Nat.xor_zero] at this
  clear ha
  generalize nt (a &&& b) = n1 at *
  generalize a &&& b = n2 at *
  generalize nt a = n3 at *
  generalize nt b = n4 at *
  generalize a ^^^ b = n5 at *
  have m0 := Hm.new4 (g := w.heap.size + 1) (n := b) (T := 24) (Hm.new4 (g := w.heap.size) (n := a) (T := 24) (Hm.start w) (by simp)) (by simp)
  conv => arg 3; unfold Wd
  go_enter Try.func3, Try.ntmps3
  go_wp2_with fail
  generalize (w.alloc (.cells #[.int .u64 (dg a 0), .int .u64 (dg a 1), .int .u64 (dg a 2), .int .u64 (dg a 3)] 24)).alloc (.cells #[.int .u64 (dg b 0), .int .u64 (dg b 1), .int .u64 (dg b 2), .int .u64 (dg b 3)] 24) = W0 at m0 ⊢
  refine (KA.out _).mono ?_
  rintro e w1 ⟨rfl, hb⟩
  have m1 := Hm.below m0 hb
  clear hb m0
  go_upto_region 3 with fail
  refine RS.wp_region_one (Hm.Hd w [Hm.W4 (w.heap.size + 1) b, Hm.W4 (w.heap.size) a]) (by kernel_rfl) (by kernel_rfl) (Hm.drew m1) ?_
  dsimp only [List.toList_toArray]
  refine RS.go1 (v := ?_) (a' := ?_) rfl ?_ ?_ ?_
  rotate_left 2
  · intro K wx hS hK
    refine RW.ld rfl rfl (hS.ok (Hm.W4 (w.heap.size) (a)) (by simp)).c ?_
    exact hK _ hS
  · simp only [Act.put, List.setIfInBounds_toArray, List.set_cons_succ, List.set_cons_zero]
    rfl
  refine RS.go1 (v := ?_) (a' := ?_) rfl ?_ ?_ ?_
  rotate_left 2
  · intro K wx hS hK
    refine RW.ld rfl rfl (hS.ok (Hm.W4 (w.heap.size + 1) (b)) (by simp)).c ?_
    exact hK _ hS
  · simp only [Act.put, List.setIfInBounds_toArray, List.set_cons_succ, List.set_cons_zero]
    rfl
  refine RS.go1 (v := ?_) (a' := ?_) rfl ?_ ?_ ?_
  rotate_left 2
  · intro K wx hS hK
    go_simp
    refine (K1.out _).mono (fun e w2 he => ?_)
    refine ⟨_, he.1, ?_⟩
    exact hK _ (Hm.below hS he.2)
  · simp only [Act.put, List.setIfInBounds_toArray, List.set_cons_succ, List.set_cons_zero]
    rfl
  refine RS.go1 (v := ?_) (a' := ?_) rfl ?_ ?_ ?_
  rotate_left 2
  · intro K wx hS hK
    go_simp
    refine (K2.out _).mono (fun e w2 he => ?_)
    refine ⟨_, he.1, ?_⟩
    exact hK _ (Hm.below hS he.2)
  · simp only [Act.put, List.setIfInBounds_toArray, List.set_cons_succ, List.set_cons_zero]
    rfl
  refine RS.go1 (v := ?_) (a' := ?_) rfl ?_ ?_ ?_
  rotate_left 2
  · intro K wx hS hK
    refine RW.ld rfl rfl (hS.ok (Hm.W4 (w.heap.size) (a)) (by simp)).c ?_
    exact hK _ hS
  · simp only [Act.put, List.setIfInBounds_toArray, List.set_cons_succ, List.set_cons_zero]
    rfl
  refine RS.go1 (v := ?_) (a' := ?_) rfl ?_ ?_ ?_
  rotate_left 2
  · intro K wx hS hK
    go_simp
    refine (K3.out _).mono (fun e w2 he => ?_)
    refine ⟨_, he.1, ?_⟩
    exact hK _ (Hm.below hS he.2)
  · simp only [Act.put, List.setIfInBounds_toArray, List.set_cons_succ, List.set_cons_zero]
    rfl
  refine RS.go1 (v := ?_) (a' := ?_) rfl ?_ ?_ ?_
  rotate_left 2
  · intro K wx hS hK
    refine RW.ld rfl rfl (hS.ok (Hm.W4 (w.heap.size + 1) (b)) (by simp)).c ?_
    exact hK _ hS
  · simp only [Act.put, List.setIfInBounds_toArray, List.set_cons_succ, List.set_cons_zero]
    rfl
  refine RS.go1 (v := ?_) (a' := ?_) rfl ?_ ?_ ?_
  rotate_left 2
  · intro K wx hS hK
    go_simp
    refine (K4.out _).mono (fun e w2 he => ?_)
    refine ⟨_, he.1, ?_⟩
    exact hK _ (Hm.below hS he.2)
  · simp only [Act.put, List.setIfInBounds_toArray, List.set_cons_succ, List.set_cons_zero]
    rfl
  refine RS.go1 (v := ?_) (a' := ?_) rfl ?_ ?_ ?_
  rotate_left 2
  · intro K wx hS hK
    go_simp
    refine (K5.out _).mono (fun e w2 he => ?_)
    refine ⟨_, he.1, ?_⟩
    exact hK _ (Hm.below hS he.2)
  · simp only [Act.put, List.setIfInBounds_toArray, List.set_cons_succ, List.set_cons_zero]
    rfl
  refine RS.go1 (v := ?_) (a' := ?_) rfl ?_ ?_ ?_
  rotate_left 2
  · intro K wx hS hK
    refine RW.eq (b := true) rfl rfl rfl (decide_eq_true rfl) ?_
    exact hK _ hS
  · simp only [Act.put, List.setIfInBounds_toArray, List.set_cons_succ, List.set_cons_zero]
    rfl
  refine RS.go1 (v := ?_) (a' := ?_) rfl ?_ ?_ ?_
  rotate_left 2
  · intro K wx hS hK
    go_simp
    exact hK _ hS
  · simp only [Act.put, List.setIfInBounds_toArray, List.set_cons_succ, List.set_cons_zero]
    rfl
  refine RS.go1g (v := ?_) (a' := ?_) (by kernel_rfl) ?_ ?_ ?_
  rotate_left 2
  · intro K wx hS hK
    refine RW.ld rfl rfl (hS.ok (Hm.W4 (w.heap.size) (a)) (by simp)).c ?_
    exact hK _ hS
  · simp only [Act.put, List.setIfInBounds_toArray, List.set_cons_succ, List.set_cons_zero]
    rfl
  refine RS.go1g (v := ?_) (a' := ?_) (by kernel_rfl) ?_ ?_ ?_
  rotate_left 2
  · intro K wx hS hK
    go_simp
    refine (K3.out _).mono (fun e w2 he => ?_)
    refine ⟨_, he.1, ?_⟩
    exact hK _ (Hm.below hS he.2)
  · simp only [Act.put, List.setIfInBounds_toArray, List.set_cons_succ, List.set_cons_zero]
    rfl
  refine RS.go1g (v := ?_) (a' := ?_) (by kernel_rfl) ?_ ?_ ?_
  rotate_left 2
  · intro K wx hS hK
    go_simp
    refine (K6.out _).mono (fun e w2 he => ?_)
    refine ⟨_, he.1, ?_⟩
    exact hK _ (Hm.below hS he.2)
  · simp only [Act.put, List.setIfInBounds_toArray, List.set_cons_succ, List.set_cons_zero]
    rfl
  refine RS.go1g (v := ?_) (a' := ?_) (by kernel_rfl) ?_ ?_ ?_
  rotate_left 2
  · intro K wx hS hK
    refine RW.ld rfl rfl (hS.ok (Hm.W4 (w.heap.size) (a)) (by simp)).c ?_
    exact hK _ hS
  · simp only [Act.put, List.setIfInBounds_toArray, List.set_cons_succ, List.set_cons_zero]
    rfl
  refine RS.go1g (v := ?_) (a' := ?_) (by kernel_rfl) ?_ ?_ ?_
  rotate_left 2
  · intro K wx hS hK
    refine RW.eq (b := true) rfl rfl rfl (decide_eq_true rfl) ?_
    exact hK _ hS
  · simp only [Act.put, List.setIfInBounds_toArray, List.set_cons_succ, List.set_cons_zero]
    rfl
  refine RS.go1 (v := ?_) (a' := ?_) rfl ?_ ?_ ?_
  rotate_left 2
  · intro K wx hS hK
    go_simp
    exact hK _ hS
  · simp only [Act.put, List.setIfInBounds_toArray, List.set_cons_succ, List.set_cons_zero]
    rfl
  refine RS.go1 (v := ?_) (a' := ?_) rfl ?_ ?_ ?_
  rotate_left 2
  · intro K wx hS hK
    go_simp
    exact hK _ hS
  · simp only [Act.put, List.setIfInBounds_toArray, List.set_cons_succ, List.set_cons_zero]
    rfl
  refine RS.go1g (v := ?_) (a' := ?_) (by kernel_rfl) ?_ ?_ ?_
  rotate_left 2
  · intro K wx hS hK
    refine RW.ld rfl rfl (hS.ok (Hm.W4 (w.heap.size) (a)) (by simp)).c ?_
    exact hK _ hS
  · simp only [Act.put, List.setIfInBounds_toArray, List.set_cons_succ, List.set_cons_zero]
    rfl
  refine RS.go1g (v := ?_) (a' := ?_) (by kernel_rfl) ?_ ?_ ?_
  rotate_left 2
  · intro K wx hS hK
    refine RW.ld rfl rfl (hS.ok (Hm.W4 (w.heap.size + 1) (b)) (by simp)).c ?_
    exact hK _ hS
  · simp only [Act.put, List.setIfInBounds_toArray, List.set_cons_succ, List.set_cons_zero]
    rfl
  refine RS.go1g (v := ?_) (a' := ?_) (by kernel_rfl) ?_ ?_ ?_
  rotate_left 2
  · intro K wx hS hK
    go_simp
    refine (K7.out _).mono (fun e w2 he => ?_)
    refine ⟨_, he.1, ?_⟩
    exact hK _ (Hm.below hS he.2)
  · simp only [Act.put, List.setIfInBounds_toArray, List.set_cons_succ, List.set_cons_zero]
    rfl
  refine RS.go1g (v := ?_) (a' := ?_) (by kernel_rfl) ?_ ?_ ?_
  rotate_left 2
  · intro K wx hS hK
    refine RW.ld rfl rfl (hS.ok (Hm.W4 (w.heap.size + 1) (b)) (by simp)).c ?_
    exact hK _ hS
  · simp only [Act.put, List.setIfInBounds_toArray, List.set_cons_succ, List.set_cons_zero]
    rfl
  refine RS.go1g (v := ?_) (a' := ?_) (by kernel_rfl) ?_ ?_ ?_
  rotate_left 2
  · intro K wx hS hK
    go_simp
    refine (K8.out _).mono (fun e w2 he => ?_)
    refine ⟨_, he.1, ?_⟩
    exact hK _ (Hm.below hS he.2)
  · simp only [Act.put, List.setIfInBounds_toArray, List.set_cons_succ, List.set_cons_zero]
    rfl
  refine RS.go1g (v := ?_) (a' := ?_) (by kernel_rfl) ?_ ?_ ?_
  rotate_left 2
  · intro K wx hS hK
    refine RW.ld rfl rfl (hS.ok (Hm.W4 (w.heap.size) (a)) (by simp)).c ?_
    exact hK _ hS
  · simp only [Act.put, List.setIfInBounds_toArray, List.set_cons_succ, List.set_cons_zero]
    rfl
  refine RS.go1g (v := ?_) (a' := ?_) (by kernel_rfl) ?_ ?_ ?_
  rotate_left 2
  · intro K wx hS hK
    refine RW.eq (b := true) rfl rfl rfl (decide_eq_true rfl) ?_
    exact hK _ hS
  · simp only [Act.put, List.setIfInBounds_toArray, List.set_cons_succ, List.set_cons_zero]
    rfl
  refine RS.go1 (v := ?_) (a' := ?_) rfl ?_ ?_ ?_
  rotate_left 2
  · intro K wx hS hK
    go_simp
    exact hK _ hS
  · simp only [Act.put, List.setIfInBounds_toArray, List.set_cons_succ, List.set_cons_zero]
    rfl
  refine RS.go1 (v := ?_) (a' := ?_) rfl ?_ ?_ ?_
  rotate_left 2
  · intro K wx hS hK
    go_simp
    exact hK _ hS
  · simp only [Act.put, List.setIfInBounds_toArray, List.set_cons_succ, List.set_cons_zero]
    rfl
  refine RS.go_end ?_
  intro w9 m9
  have HB : Hid (Below w.heap.size w w9) := m9.bel
  clear m9
  go_wp2_with fail
  go_ret
  exact ⟨rfl, HB.out⟩
end Go.Proofs.Ytblodmjnhmfjeaa
