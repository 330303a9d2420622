/- lampbearerkeep.TwosFloor. -/
import Derived.Test.YtblodmjnhmfjeaaLawScale
import Derived.Test.YtblodmjnhmfjeaaTwS
import Derived.Test.YtblodmjnhmfjeaaTwH
import Derived.Test.YtblodmjnhmfjeaaRWN
namespace Go.Proofs.Ytblodmjnhmfjeaa
open Go.RowKit Go.Shelf
theorem cm_sg (a : Nat) (ha : a < 2 ^ 256) : decide (cm (hf a : Int) (hf 0 : Int) < 0) = sg a := by
  unfold cm hf sg
  rw [decide_eq_decide]
  split
  · constructor <;> intro _ <;> omega
  · split <;> constructor <;> intro _ <;> omega
theorem sar_rest (n a : Nat) (ha : a < 2 ^ 256) (hn : n < 255) : (a + 2 ^ 256 - sar n a * 2 ^ n % 2 ^ 256) % 2 ^ 256 < 2 ^ n ∧ sg (sar n a) = sg a := by
  have hP : 2 ^ n ≤ 2 ^ 254 := Nat.pow_le_pow_right (by decide) (by omega)
  have hP0 : 0 < 2 ^ n := Nat.pow_pos (by decide)
  unfold sar
  cases hs : sg a with
  | false =>
    rw [if_neg (by decide)]
    generalize 2 ^ n = P at *
    have h1 : a / P * P ≤ a := Nat.div_mul_le_self a P
    have h2 := Nat.div_add_mod a P
    rw [Nat.mul_comm] at h2
    have h3 := Nat.mod_lt a hP0
    have h4 : a / P ≤ a := Nat.div_le_self a P
    unfold sg at hs ⊢
    rw [decide_eq_false_iff_not] at hs ⊢
    generalize a / P * P = Y at *
    constructor <;> omega
  | true =>
    rw [if_pos rfl]
    unfold sg at hs
    rw [decide_eq_true_iff] at hs
    unfold nt sg
    generalize 2 ^ n = P at *
    have e : 2 ^ 256 - 1 - a % 2 ^ 256 = 2 ^ 256 - 1 - a := by omega
    rw [e]
    have h1 : (2 ^ 256 - 1 - a) / P * P ≤ 2 ^ 256 - 1 - a := Nat.div_mul_le_self _ P
    have h2 := Nat.div_add_mod (2 ^ 256 - 1 - a) P
    rw [Nat.mul_comm] at h2
    have h3 := Nat.mod_lt (2 ^ 256 - 1 - a) hP0
    have h4 : (2 ^ 256 - 1 - a) / P ≤ 2 ^ 256 - 1 - a := Nat.div_le_self _ P
    generalize (2 ^ 256 - 1 - a) % P = r at *
    generalize hq : (2 ^ 256 - 1 - a) / P = q at *
    have e2 : q % 2 ^ 256 = q := Nat.mod_eq_of_lt (by omega)
    rw [e2, Nat.sub_mul, Nat.sub_mul]
    rw [decide_eq_true_iff]
    generalize q * P = Y at *
    clear hq
    constructor <;> omega
set_option maxHeartbeats 4000000 in
set_option maxRecDepth 100000 in
theorem law_floor_A (n a : Nat) (hn : n < 2 ^ 256) (ha : a < 2 ^ 256) (hc : 255 ≤ n) (hs : sg a = false) (w : World) :
    Calls Try.prog 6 #[Wd n, Wd a] w fun e w' => e = .returned (.bool true) ∧ Below w.heap.size w w' := by
  have KA : Hid (∀ w : World, Calls Try.prog 9 #[] w fun e w' => e = .returned (.bool true) ∧ Below w.heap.size w w') := fun w => alive2_any w
  have K3 : Hid (∀ w : World, Calls Try.prog 16 #[.int .u64 255] w fun e w' => e = .returned (Wd 255) ∧ Below w.heap.size w w') := fun w => int_any 255 (by decide) w
  have K4 : Hid (∀ w : World, Calls Try.prog 19 #[Wd n, Wd 255] w fun e w' => e = .returned (.int .i64 (cm (n : Int) (255 : Int))) ∧ Below w.heap.size w w') := fun w => cmp_any n 255 hn (by decide) w
  have ev : sar (min n 256) a = 0 := by
    unfold sg at hs
    unfold sar sg
    rw [hs, if_neg (by decide)]
    rw [decide_eq_false_iff_not] at hs
    exact Nat.div_eq_of_lt (Nat.lt_of_lt_of_le (show a < 2 ^ 255 by omega) (Nat.pow_le_pow_right (by decide) (by omega)))
  have K5 : Hid (∀ w : World, Calls Try.prog 23 #[Wd n, Wd a] w fun e w' => e = .returned (Wd 0) ∧ Below w.heap.size w w') := fun w => by have := sar_any n a hn ha w; rwa [ev] at this
  have hc' : Hid (0 ≤ cm (n : Int) (255 : Int)) := cm_ge n 255 hc
  clear hn ha hc hs ev
  generalize cm (n : Int) (255 : Int) = c at *
  generalize Wd 255 = W255 at *
  have m0 := Hm.new4 (g := w.heap.size + 1) (n := a) (T := 24) (Hm.new4 (g := w.heap.size) (n := n) (T := 24) (Hm.start w) (by simp)) (by simp)
  conv => arg 3; unfold Wd
  go_enter Try.func6, Try.ntmps6
  go_wp2_with fail
  generalize (w.alloc (.cells #[.int .u64 (dg n 0), .int .u64 (dg n 1), .int .u64 (dg n 2), .int .u64 (dg n 3)] 24)).alloc (.cells #[.int .u64 (dg a 0), .int .u64 (dg a 1), .int .u64 (dg a 2), .int .u64 (dg a 3)] 24) = W0 at m0 ⊢
  refine (KA.out _).mono ?_
  rintro e w1 ⟨rfl, hb⟩
  have m1 := Hm.below m0 hb
  clear hb m0
  go_upto_region 3 with fail
  refine RS.wp_region_one (Hm.Hd w [Hm.W4 (w.heap.size + 1) a, Hm.W4 (w.heap.size) n]) (by kernel_rfl) (by kernel_rfl) (Hm.drew m1) ?_
  dsimp only [List.toList_toArray]
  refine RS.go1 (v := ?_) (a' := ?_) rfl ?_ ?_ ?_
  rotate_left 2
  · intro K wx hS hK
    refine RW.ld rfl rfl (hS.ok (Hm.W4 (w.heap.size) (n)) (by simp)).c ?_
    exact hK _ hS
  · simp only [Act.put, List.setIfInBounds_toArray, List.set_cons_succ, List.set_cons_zero]
    rfl
  refine RS.go1 (v := ?_) (a' := ?_) rfl ?_ ?_ ?_
  rotate_left 2
  · intro K wx hS hK
    go_simp
    refine (K3.out _).mono (fun e w2 he => ?_)
    refine ⟨_, he.1, ?_⟩
    exact hK _ (Hm.below hS he.2)
  · simp only [Act.put, List.setIfInBounds_toArray, List.set_cons_succ, List.set_cons_zero]
    rfl
  refine RS.go1 (v := ?_) (a' := ?_) rfl ?_ ?_ ?_
  rotate_left 2
  · intro K wx hS hK
    go_simp
    refine (K4.out _).mono (fun e w2 he => ?_)
    refine ⟨_, he.1, ?_⟩
    exact hK _ (Hm.below hS he.2)
  · simp only [Act.put, List.setIfInBounds_toArray, List.set_cons_succ, List.set_cons_zero]
    rfl
  refine RS.go1 (v := ?_) (a' := ?_) rfl ?_ ?_ ?_
  rotate_left 2
  · intro K wx hS hK
    have hq := hc'.out
    go_simp
    exact hK _ hS
  · simp only [Act.put, List.setIfInBounds_toArray, List.set_cons_succ, List.set_cons_zero]
    rfl
  refine RS.go_end ?_
  intro w3 m3
  clear m1
  go_upto_region 4 with fail
  refine RS.wp_region_flat (Hm.Hd w [Hm.W4 (w.heap.size + 1) a, Hm.W4 (w.heap.size) n]) 14 (by kernel_rfl) (m3) ?_
  simp only [List.take_succ_cons, List.take_zero, List.drop_succ_cons, List.drop_zero]
  refine RS.go1 (v := ?_) (a' := ?_) rfl ?_ ?_ ?_
  rotate_left 2
  · intro K wx hS hK
    refine RW.ld rfl rfl (hS.ok (Hm.W4 (w.heap.size) (n)) (by simp)).c ?_
    exact hK _ hS
  · simp only [Act.put, List.setIfInBounds_toArray, List.set_cons_succ, List.set_cons_zero]
    rfl
  refine RS.go1 (v := ?_) (a' := ?_) rfl ?_ ?_ ?_
  rotate_left 2
  · intro K wx hS hK
    refine RW.ld rfl rfl (hS.ok (Hm.W4 (w.heap.size + 1) (a)) (by simp)).c ?_
    exact hK _ hS
  · simp only [Act.put, List.setIfInBounds_toArray, List.set_cons_succ, List.set_cons_zero]
    rfl
  refine RS.go1 (v := ?_) (a' := ?_) rfl ?_ ?_ ?_
  rotate_left 2
  · intro K wx hS hK
    go_simp
    refine (K5.out _).mono (fun e w2 he => ?_)
    refine ⟨_, he.1, ?_⟩
    exact hK _ (Hm.below hS he.2)
  · simp only [Act.put, List.setIfInBounds_toArray, List.set_cons_succ, List.set_cons_zero]
    rfl
  refine RS.go1 (v := ?_) (a' := ?_) rfl ?_ ?_ ?_
  rotate_left 2
  · intro K wx hS hK
    go_simp
    exact hK _ hS
  · simp only [Act.put, List.setIfInBounds_toArray, List.set_cons_succ, List.set_cons_zero]
    rfl
  refine RS.go1 (v := ?_) (a' := ?_) rfl ?_ ?_ ?_
  rotate_left 2
  · intro K wx hS hK
    refine RW.eq (b := true) (y := 0) rfl rfl rfl (decide_eq_true rfl) ?_
    exact hK _ hS
  · simp only [Act.put, List.setIfInBounds_toArray, List.set_cons_succ, List.set_cons_zero]
    rfl
  refine RS.go1 (v := ?_) (a' := ?_) rfl ?_ ?_ ?_
  rotate_left 2
  · intro K wx hS hK
    go_simp
    exact hK _ hS
  · simp only [Act.put, List.setIfInBounds_toArray, List.set_cons_succ, List.set_cons_zero]
    rfl
  refine RS.go0 (a' := ?_) (by kernel_rfl) ?_ ?_
  rotate_left 1
  · simp only [Act.put, List.setIfInBounds_toArray, List.set_cons_succ, List.set_cons_zero]
    rfl
  refine RS.go0 (a' := ?_) (by kernel_rfl) ?_ ?_
  rotate_left 1
  · simp only [Act.put, List.setIfInBounds_toArray, List.set_cons_succ, List.set_cons_zero]
    rfl
  refine RS.go0 (a' := ?_) (by kernel_rfl) ?_ ?_
  rotate_left 1
  · simp only [Act.put, List.setIfInBounds_toArray, List.set_cons_succ, List.set_cons_zero]
    rfl
  refine RS.go0 (a' := ?_) (by kernel_rfl) ?_ ?_
  rotate_left 1
  · simp only [Act.put, List.setIfInBounds_toArray, List.set_cons_succ, List.set_cons_zero]
    rfl
  refine RS.go0 (a' := ?_) (by kernel_rfl) ?_ ?_
  rotate_left 1
  · simp only [Act.put, List.setIfInBounds_toArray, List.set_cons_succ, List.set_cons_zero]
    rfl
  refine RS.go0 (a' := ?_) (by kernel_rfl) ?_ ?_
  rotate_left 1
  · simp only [Act.put, List.setIfInBounds_toArray, List.set_cons_succ, List.set_cons_zero]
    rfl
  refine RS.go1 (v := ?_) (a' := ?_) rfl ?_ ?_ ?_
  rotate_left 2
  · intro K wx hS hK
    go_simp
    exact hK _ hS
  · simp only [Act.put, List.setIfInBounds_toArray, List.set_cons_succ, List.set_cons_zero]
    rfl
  refine RS.go1 (v := ?_) (a' := ?_) rfl ?_ ?_ ?_
  rotate_left 2
  · intro K wx hS hK
    go_simp
    exact hK _ hS
  · simp only [Act.put, List.setIfInBounds_toArray, List.set_cons_succ, List.set_cons_zero]
    rfl
  refine RS.go_end ?_
  intro w9 m9
  refine wpList_nil ?_
  have HB : Hid (Below w.heap.size w w9) := m9.bel
  clear m9 m3
  go_wp2_with fail
  go_ret
  exact ⟨rfl, HB.out⟩
set_option maxHeartbeats 4000000 in
set_option maxRecDepth 100000 in
theorem law_floor_B (n a : Nat) (hn : n < 2 ^ 256) (ha : a < 2 ^ 256) (hc : 255 ≤ n) (hs : sg a = true) (w : World) :
    Calls Try.prog 6 #[Wd n, Wd a] w fun e w' => e = .returned (.bool true) ∧ Below w.heap.size w w' := by
  have KA : Hid (∀ w : World, Calls Try.prog 9 #[] w fun e w' => e = .returned (.bool true) ∧ Below w.heap.size w w') := fun w => alive2_any w
  have K3 : Hid (∀ w : World, Calls Try.prog 16 #[.int .u64 255] w fun e w' => e = .returned (Wd 255) ∧ Below w.heap.size w w') := fun w => int_any 255 (by decide) w
  have K4 : Hid (∀ w : World, Calls Try.prog 19 #[Wd n, Wd 255] w fun e w' => e = .returned (.int .i64 (cm (n : Int) (255 : Int))) ∧ Below w.heap.size w w') := fun w => cmp_any n 255 hn (by decide) w
  have ev : sar (min n 256) a = nt 0 := by
    unfold sg at hs
    unfold sar sg
    rw [hs, if_pos rfl]
    rw [decide_eq_true_iff] at hs
    congr 1
    exact Nat.div_eq_of_lt (Nat.lt_of_lt_of_le (show nt a < 2 ^ 255 by unfold nt; omega) (Nat.pow_le_pow_right (by decide) (by omega)))
  have K5 : Hid (∀ w : World, Calls Try.prog 23 #[Wd n, Wd a] w fun e w' => e = .returned (Wd (nt 0)) ∧ Below w.heap.size w w') := fun w => by have := sar_any n a hn ha w; rwa [ev] at this
  have K6 : Hid (∀ w : World, Calls Try.prog 10 #[Wd 0] w fun e w' => e = .returned (Wd (nt 0)) ∧ Below w.heap.size w w') := fun w => not_any 0 w
  have hc' : Hid (0 ≤ cm (n : Int) (255 : Int)) := cm_ge n 255 hc
  have hd : Hid (decide (nt 0 % 2 ^ 256 = 0 % 2 ^ 256) = false) := (by decide +kernel : decide (nt 0 % 2 ^ 256 = 0 % 2 ^ 256) = false)
  clear hn ha hc hs ev
  generalize cm (n : Int) (255 : Int) = c at *
  generalize nt 0 = Z at *
  generalize Wd 255 = W255 at *
  have m0 := Hm.new4 (g := w.heap.size + 1) (n := a) (T := 24) (Hm.new4 (g := w.heap.size) (n := n) (T := 24) (Hm.start w) (by simp)) (by simp)
  conv => arg 3; unfold Wd
  go_enter Try.func6, Try.ntmps6
  go_wp2_with fail
  generalize (w.alloc (.cells #[.int .u64 (dg n 0), .int .u64 (dg n 1), .int .u64 (dg n 2), .int .u64 (dg n 3)] 24)).alloc (.cells #[.int .u64 (dg a 0), .int .u64 (dg a 1), .int .u64 (dg a 2), .int .u64 (dg a 3)] 24) = W0 at m0 ⊢
  refine (KA.out _).mono ?_
  rintro e w1 ⟨rfl, hb⟩
  have m1 := Hm.below m0 hb
  clear hb m0
  go_upto_region 3 with fail
  refine RS.wp_region_one (Hm.Hd w [Hm.W4 (w.heap.size + 1) a, Hm.W4 (w.heap.size) n]) (by kernel_rfl) (by kernel_rfl) (Hm.drew m1) ?_
  dsimp only [List.toList_toArray]
  refine RS.go1 (v := ?_) (a' := ?_) rfl ?_ ?_ ?_
  rotate_left 2
  · intro K wx hS hK
    refine RW.ld rfl rfl (hS.ok (Hm.W4 (w.heap.size) (n)) (by simp)).c ?_
    exact hK _ hS
  · simp only [Act.put, List.setIfInBounds_toArray, List.set_cons_succ, List.set_cons_zero]
    rfl
  refine RS.go1 (v := ?_) (a' := ?_) rfl ?_ ?_ ?_
  rotate_left 2
  · intro K wx hS hK
    go_simp
    refine (K3.out _).mono (fun e w2 he => ?_)
    refine ⟨_, he.1, ?_⟩
    exact hK _ (Hm.below hS he.2)
  · simp only [Act.put, List.setIfInBounds_toArray, List.set_cons_succ, List.set_cons_zero]
    rfl
  refine RS.go1 (v := ?_) (a' := ?_) rfl ?_ ?_ ?_
  rotate_left 2
  · intro K wx hS hK
    go_simp
    refine (K4.out _).mono (fun e w2 he => ?_)
    refine ⟨_, he.1, ?_⟩
    exact hK _ (Hm.below hS he.2)
  · simp only [Act.put, List.setIfInBounds_toArray, List.set_cons_succ, List.set_cons_zero]
    rfl
  refine RS.go1 (v := ?_) (a' := ?_) rfl ?_ ?_ ?_
  rotate_left 2
  · intro K wx hS hK
    have hq := hc'.out
    go_simp
    exact hK _ hS
  · simp only [Act.put, List.setIfInBounds_toArray, List.set_cons_succ, List.set_cons_zero]
    rfl
  refine RS.go_end ?_
  intro w3 m3
  clear m1
  go_upto_region 4 with fail
  refine RS.wp_region_flat (Hm.Hd w [Hm.W4 (w.heap.size + 1) a, Hm.W4 (w.heap.size) n]) 14 (by kernel_rfl) (m3) ?_
  simp only [List.take_succ_cons, List.take_zero, List.drop_succ_cons, List.drop_zero]
  refine RS.go1 (v := ?_) (a' := ?_) rfl ?_ ?_ ?_
  rotate_left 2
  · intro K wx hS hK
    refine RW.ld rfl rfl (hS.ok (Hm.W4 (w.heap.size) (n)) (by simp)).c ?_
    exact hK _ hS
  · simp only [Act.put, List.setIfInBounds_toArray, List.set_cons_succ, List.set_cons_zero]
    rfl
  refine RS.go1 (v := ?_) (a' := ?_) rfl ?_ ?_ ?_
  rotate_left 2
  · intro K wx hS hK
    refine RW.ld rfl rfl (hS.ok (Hm.W4 (w.heap.size + 1) (a)) (by simp)).c ?_
    exact hK _ hS
  · simp only [Act.put, List.setIfInBounds_toArray, List.set_cons_succ, List.set_cons_zero]
    rfl
  refine RS.go1 (v := ?_) (a' := ?_) rfl ?_ ?_ ?_
  rotate_left 2
  · intro K wx hS hK
    go_simp
    refine (K5.out _).mono (fun e w2 he => ?_)
    refine ⟨_, he.1, ?_⟩
    exact hK _ (Hm.below hS he.2)
  · simp only [Act.put, List.setIfInBounds_toArray, List.set_cons_succ, List.set_cons_zero]
    rfl
  refine RS.go1 (v := ?_) (a' := ?_) rfl ?_ ?_ ?_
  rotate_left 2
  · intro K wx hS hK
    go_simp
    exact hK _ hS
  · simp only [Act.put, List.setIfInBounds_toArray, List.set_cons_succ, List.set_cons_zero]
    rfl
  refine RS.go1 (v := ?_) (a' := ?_) rfl ?_ ?_ ?_
  rotate_left 2
  · intro K wx hS hK
    refine RW.eq (b := false) (y := 0) rfl rfl rfl (hd.out) ?_
    exact hK _ hS
  · simp only [Act.put, List.setIfInBounds_toArray, List.set_cons_succ, List.set_cons_zero]
    rfl
  refine RS.go1 (v := ?_) (a' := ?_) rfl ?_ ?_ ?_
  rotate_left 2
  · intro K wx hS hK
    go_simp
    exact hK _ hS
  · simp only [Act.put, List.setIfInBounds_toArray, List.set_cons_succ, List.set_cons_zero]
    rfl
  refine RS.go1g (v := ?_) (a' := ?_) (by kernel_rfl) ?_ ?_ ?_
  rotate_left 2
  · intro K wx hS hK
    refine RW.ld rfl rfl (hS.ok (Hm.W4 (w.heap.size) (n)) (by simp)).c ?_
    exact hK _ hS
  · simp only [Act.put, List.setIfInBounds_toArray, List.set_cons_succ, List.set_cons_zero]
    rfl
  refine RS.go1g (v := ?_) (a' := ?_) (by kernel_rfl) ?_ ?_ ?_
  rotate_left 2
  · intro K wx hS hK
    refine RW.ld rfl rfl (hS.ok (Hm.W4 (w.heap.size + 1) (a)) (by simp)).c ?_
    exact hK _ hS
  · simp only [Act.put, List.setIfInBounds_toArray, List.set_cons_succ, List.set_cons_zero]
    rfl
  refine RS.go1g (v := ?_) (a' := ?_) (by kernel_rfl) ?_ ?_ ?_
  rotate_left 2
  · intro K wx hS hK
    go_simp
    refine (K5.out _).mono (fun e w2 he => ?_)
    refine ⟨_, he.1, ?_⟩
    exact hK _ (Hm.below hS he.2)
  · simp only [Act.put, List.setIfInBounds_toArray, List.set_cons_succ, List.set_cons_zero]
    rfl
  refine RS.go1g (v := ?_) (a' := ?_) (by kernel_rfl) ?_ ?_ ?_
  rotate_left 2
  · intro K wx hS hK
    go_simp
    exact hK _ hS
  · simp only [Act.put, List.setIfInBounds_toArray, List.set_cons_succ, List.set_cons_zero]
    rfl
  refine RS.go1g (v := ?_) (a' := ?_) (by kernel_rfl) ?_ ?_ ?_
  rotate_left 2
  · intro K wx hS hK
    go_simp
    refine (K6.out _).mono (fun e w2 he => ?_)
    refine ⟨_, he.1, ?_⟩
    exact hK _ (Hm.below hS he.2)
  · simp only [Act.put, List.setIfInBounds_toArray, List.set_cons_succ, List.set_cons_zero]
    rfl
  refine RS.go1g (v := ?_) (a' := ?_) (by kernel_rfl) ?_ ?_ ?_
  rotate_left 2
  · intro K wx hS hK
    refine RW.eq (b := true) rfl rfl rfl (decide_eq_true rfl) ?_
    exact hK _ hS
  · simp only [Act.put, List.setIfInBounds_toArray, List.set_cons_succ, List.set_cons_zero]
    rfl
  refine RS.go1 (v := ?_) (a' := ?_) rfl ?_ ?_ ?_
  rotate_left 2
  · intro K wx hS hK
    go_simp
    exact hK _ hS
  · simp only [Act.put, List.setIfInBounds_toArray, List.set_cons_succ, List.set_cons_zero]
    rfl
  refine RS.go1 (v := ?_) (a' := ?_) rfl ?_ ?_ ?_
  rotate_left 2
  · intro K wx hS hK
    go_simp
    exact hK _ hS
  · simp only [Act.put, List.setIfInBounds_toArray, List.set_cons_succ, List.set_cons_zero]
    rfl
  refine RS.go_end ?_
  intro w9 m9
  refine wpList_nil ?_
  have HB : Hid (Below w.heap.size w w9) := m9.bel
  clear m9 m3
  go_wp2_with fail
  go_ret
  exact ⟨rfl, HB.out⟩
set_option maxHeartbeats 4000000 in
set_option maxRecDepth 100000 in
theorem law_floor_C (n a : Nat) (hn : n < 2 ^ 256) (ha : a < 2 ^ 256) (hc : n < 255) (w : World) :
    Calls Try.prog 6 #[Wd n, Wd a] w fun e w' => e = .returned (.bool true) ∧ Below w.heap.size w w' := by
  have KA : Hid (∀ w : World, Calls Try.prog 9 #[] w fun e w' => e = .returned (.bool true) ∧ Below w.heap.size w w') := fun w => alive2_any w
  obtain ⟨P, hP⟩ : ∃ P, P = 2 ^ n := ⟨_, rfl⟩
  obtain ⟨s, hs⟩ : ∃ s, s = sar n a := ⟨_, rfl⟩
  obtain ⟨r, hr⟩ : ∃ r, r = (a + 2 ^ 256 - s * P % 2 ^ 256) % 2 ^ 256 := ⟨_, rfl⟩
  have hsl : s < 2 ^ 256 := by rw [hs]; exact sar_lt n a ha
  have hPl : P < 2 ^ 256 := by rw [hP]; exact Nat.pow_lt_pow_right (by decide) (by omega)
  have hq := sar_rest n a ha hc
  rw [← hs, ← hP, ← hr] at hq
  have K1 : Hid (∀ w : World, Calls Try.prog 16 #[.int .u64 2] w fun e w' => e = .returned (Wd 2) ∧ Below w.heap.size w w') := fun w => int_any 2 (by decide) w
  have K2 : Hid (∀ w : World, Calls Try.prog 18 #[Wd 2, Wd n] w fun e w' => e = .returned (Wd P) ∧ Below w.heap.size w w') := fun w => by rw [hP]; exact exp_any 2 n hn w
  have K3 : Hid (∀ w : World, Calls Try.prog 16 #[.int .u64 255] w fun e w' => e = .returned (Wd 255) ∧ Below w.heap.size w w') := fun w => int_any 255 (by decide) w
  have K4 : Hid (∀ w : World, Calls Try.prog 19 #[Wd n, Wd 255] w fun e w' => e = .returned (.int .i64 (-1)) ∧ Below w.heap.size w w') := fun w => by have := cmp_any n 255 hn (by decide) w; rwa [cm_lt n 255 hc] at this
  have K5 : Hid (∀ w : World, Calls Try.prog 23 #[Wd n, Wd a] w fun e w' => e = .returned (Wd s) ∧ Below w.heap.size w w') := fun w => by have := sar_any n a hn ha w; rw [show min n 256 = n by omega] at this; rw [hs]; exact this
  have K6 : Hid (∀ w : World, Calls Try.prog 15 #[Wd s, Wd P] w fun e w' => e = .returned (Wd (s * P)) ∧ Below w.heap.size w w') := fun w => mul_mod _ _ w
  have K7 : Hid (∀ w : World, Calls Try.prog 24 #[Wd a, Wd (s * P)] w fun e w' => e = .returned (Wd r) ∧ Below w.heap.size w w') := fun w => by have := sub_any a (s * P % 2 ^ 256) (Nat.mod_lt _ (by decide)) w; rw [Wd_mod] at this; rw [hr, Wd_mod]; exact this
  have K8 : Hid (∀ w : World, Calls Try.prog 19 #[Wd r, Wd P] w fun e w' => e = .returned (.int .i64 (-1)) ∧ Below w.heap.size w w') := fun w => by have := cmp_any r P (by rw [hr]; exact Nat.mod_lt _ (by decide)) hPl w; rwa [cm_lt r P hq.1] at this
  have K9 : Hid (∀ w : World, Calls Try.prog 25 #[Wd s, Wd 0] w fun e w' => e = .returned (.int .i64 (cm (hf s : Int) (hf 0 : Int))) ∧ Below w.heap.size w w') := fun w => scmp_any s 0 hsl (by decide) w
  have K10 : Hid (∀ w : World, Calls Try.prog 25 #[Wd a, Wd 0] w fun e w' => e = .returned (.int .i64 (cm (hf a : Int) (hf 0 : Int))) ∧ Below w.heap.size w w') := fun w => scmp_any a 0 ha (by decide) w
  have E1 : Hid (decide (cm (hf s : Int) (hf 0 : Int) < 0) = sg a) := (cm_sg s hsl).trans hq.2
  have E2 : Hid (decide (cm (hf a : Int) (hf 0 : Int) < 0) = sg a) := cm_sg a ha
  clear hn ha hc hP hs hr hsl hPl hq
  generalize cm (hf s : Int) (hf 0 : Int) = c1 at *
  generalize cm (hf a : Int) (hf 0 : Int) = c2 at *
  generalize sg a = b at *
  generalize s * P = n1 at *
  generalize Wd 255 = W255 at *
  generalize Wd 2 = W22 at *
  have m0 := Hm.new4 (g := w.heap.size + 1) (n := a) (T := 24) (Hm.new4 (g := w.heap.size) (n := n) (T := 24) (Hm.start w) (by simp)) (by simp)
  conv => arg 3; unfold Wd
  go_enter Try.func6, Try.ntmps6
  go_wp2_with fail
  generalize (w.alloc (.cells #[.int .u64 (dg n 0), .int .u64 (dg n 1), .int .u64 (dg n 2), .int .u64 (dg n 3)] 24)).alloc (.cells #[.int .u64 (dg a 0), .int .u64 (dg a 1), .int .u64 (dg a 2), .int .u64 (dg a 3)] 24) = W0 at m0 ⊢
  refine (KA.out _).mono ?_
  rintro e w1 ⟨rfl, hb⟩
  have m1 := Hm.below m0 hb
  clear hb m0
  go_upto_region 3 with fail
  refine RS.wp_region_one (Hm.Hd w [Hm.W4 (w.heap.size + 1) a, Hm.W4 (w.heap.size) n]) (by kernel_rfl) (by kernel_rfl) (Hm.drew m1) ?_
  dsimp only [List.toList_toArray]
  refine RS.go1 (v := ?_) (a' := ?_) rfl ?_ ?_ ?_
  rotate_left 2
  · intro K wx hS hK
    refine RW.ld rfl rfl (hS.ok (Hm.W4 (w.heap.size) (n)) (by simp)).c ?_
    exact hK _ hS
  · simp only [Act.put, List.setIfInBounds_toArray, List.set_cons_succ, List.set_cons_zero]
    rfl
  refine RS.go1 (v := ?_) (a' := ?_) rfl ?_ ?_ ?_
  rotate_left 2
  · intro K wx hS hK
    go_simp
    refine (K3.out _).mono (fun e w2 he => ?_)
    refine ⟨_, he.1, ?_⟩
    exact hK _ (Hm.below hS he.2)
  · simp only [Act.put, List.setIfInBounds_toArray, List.set_cons_succ, List.set_cons_zero]
    rfl
  refine RS.go1 (v := ?_) (a' := ?_) rfl ?_ ?_ ?_
  rotate_left 2
  · intro K wx hS hK
    go_simp
    refine (K4.out _).mono (fun e w2 he => ?_)
    refine ⟨_, he.1, ?_⟩
    exact hK _ (Hm.below hS he.2)
  · simp only [Act.put, List.setIfInBounds_toArray, List.set_cons_succ, List.set_cons_zero]
    rfl
  refine RS.go1 (v := ?_) (a' := ?_) rfl ?_ ?_ ?_
  rotate_left 2
  · intro K wx hS hK
    go_simp
    exact hK _ hS
  · simp only [Act.put, List.setIfInBounds_toArray, List.set_cons_succ, List.set_cons_zero]
    rfl
  refine RS.go_end ?_
  intro w2 m2
  clear m1
  go_upto_region 5 with fail
  refine RN.wp_region_new1 (Hm.Hd w [Hm.W4 (w.heap.size + 1) a, Hm.W4 (w.heap.size) n]) (Hm.Fresh w [Hm.W4 (w.heap.size + 1) a, Hm.W4 (w.heap.size) n]) 3 5 (fun _ _ h hb => Hm.below h hb) (fun _ _ _ h hb => Hm.Fresh_below h hb) (fun _ _ h => h.ok.hi) (by kernel_rfl) (by kernel_rfl) (by decide) (by kernel_rfl) (Hm.drew m2) rfl (fun o ho => ?_) ?_
  · obtain rfl := Option.some.inj ho
    exact ⟨rfl, fun ρ K wx hS hK => RW.al rfl hS hK⟩
  simp only [List.take_succ_cons, List.take_zero, List.drop_succ_cons, List.drop_zero]
  refine RN.go1 (v := ?_) (a' := ?_) rfl ?_ ?_ ?_
  rotate_left 2
  · intro K wx hS hK
    go_simp
    refine (K1.out _).mono (fun e w2 he => ?_)
    refine ⟨_, he.1, ?_⟩
    exact hK _ he.2
  · simp only [Act.put, List.setIfInBounds_toArray, List.set_cons_succ, List.set_cons_zero]
    rfl
  refine RN.go1 (v := ?_) (a' := ?_) rfl ?_ ?_ ?_
  rotate_left 2
  · intro K wx hS hK
    refine RW.ld rfl rfl (hS.ok (Hm.W4 (w.heap.size) (n)) (by simp)).c ?_
    exact hK _ (Below.refl _ _)
  · simp only [Act.put, List.setIfInBounds_toArray, List.set_cons_succ, List.set_cons_zero]
    rfl
  refine RN.go1 (v := ?_) (a' := ?_) rfl ?_ ?_ ?_
  rotate_left 2
  · intro K wx hS hK
    go_simp
    refine (K2.out _).mono (fun e w2 he => ?_)
    refine ⟨_, he.1, ?_⟩
    exact hK _ he.2
  · simp only [Act.put, List.setIfInBounds_toArray, List.set_cons_succ, List.set_cons_zero]
    rfl
  refine RN.go_end ?_
  intro g w3 m3 f3
  have m4 := Hm.cons m3 f3
  have c3 : ∀ o, o < 4 → w3.cell? ⟨g, o, none⟩ = some (.int .u64 (dg 0 o)) := (m4.ok _ (List.mem_cons_self ..)).c
  have z3 : ∀ o, w3.frozen? ⟨g, o, none⟩ = false := (m4.ok _ (List.mem_cons_self ..)).f
  have HV : Hid (Hm.Hd w (Hm.W4 g P :: [Hm.W4 (w.heap.size + 1) a, Hm.W4 (w.heap.size) n]) (((((w3).setCell ⟨g, 0, none⟩ (.int .u64 (dg P 0))).setCell ⟨g, 1, none⟩ (.int .u64 (dg P 1))).setCell ⟨g, 2, none⟩ (.int .u64 (dg P 2))).setCell ⟨g, 3, none⟩ (.int .u64 (dg P 3)))) := Hm.set4 m4 f3.ne
  clear m4 m3 f3 m2
  unfold Wd
  simp only [Act.put, List.setIfInBounds_toArray, List.set_cons_succ, List.set_cons_zero]
  go_upto_region 6 with fail
  generalize ((((w3).setCell ⟨g, 0, none⟩ (.int .u64 (dg P 0))).setCell ⟨g, 1, none⟩ (.int .u64 (dg P 1))).setCell ⟨g, 2, none⟩ (.int .u64 (dg P 2))).setCell ⟨g, 3, none⟩ (.int .u64 (dg P 3)) = W3 at HV ⊢
  have m4 := HV.out
  clear HV c3 z3
  generalize g = h at *
  refine RN.wp_region_new1 (Hm.Hd w [Hm.W4 h P, Hm.W4 (w.heap.size + 1) a, Hm.W4 (w.heap.size) n]) (Hm.Fresh w [Hm.W4 h P, Hm.W4 (w.heap.size + 1) a, Hm.W4 (w.heap.size) n]) 7 6 (fun _ _ h hb => Hm.below h hb) (fun _ _ _ h hb => Hm.Fresh_below h hb) (fun _ _ h => h.ok.hi) (by kernel_rfl) (by kernel_rfl) (by decide) (by kernel_rfl) (Hm.drew m4) rfl (fun o ho => ?_) ?_
  · obtain rfl := Option.some.inj ho
    exact ⟨rfl, fun ρ K wx hS hK => RW.al rfl hS hK⟩
  simp only [List.take_succ_cons, List.take_zero, List.drop_succ_cons, List.drop_zero]
  refine RN.go1 (v := ?_) (a' := ?_) rfl ?_ ?_ ?_
  rotate_left 2
  · intro K wx hS hK
    refine RW.ld rfl rfl (hS.ok (Hm.W4 (w.heap.size + 1) (a)) (by simp)).c ?_
    exact hK _ (Below.refl _ _)
  · simp only [Act.put, List.setIfInBounds_toArray, List.set_cons_succ, List.set_cons_zero]
    rfl
  refine RN.go1 (v := ?_) (a' := ?_) rfl ?_ ?_ ?_
  rotate_left 2
  · intro K wx hS hK
    refine RW.ld rfl rfl (hS.ok (Hm.W4 (w.heap.size) (n)) (by simp)).c ?_
    exact hK _ (Below.refl _ _)
  · simp only [Act.put, List.setIfInBounds_toArray, List.set_cons_succ, List.set_cons_zero]
    rfl
  refine RN.go1 (v := ?_) (a' := ?_) rfl ?_ ?_ ?_
  rotate_left 2
  · intro K wx hS hK
    refine RW.ld rfl rfl (hS.ok (Hm.W4 (w.heap.size + 1) (a)) (by simp)).c ?_
    exact hK _ (Below.refl _ _)
  · simp only [Act.put, List.setIfInBounds_toArray, List.set_cons_succ, List.set_cons_zero]
    rfl
  refine RN.go1 (v := ?_) (a' := ?_) rfl ?_ ?_ ?_
  rotate_left 2
  · intro K wx hS hK
    go_simp
    refine (K5.out _).mono (fun e w2 he => ?_)
    refine ⟨_, he.1, ?_⟩
    exact hK _ he.2
  · simp only [Act.put, List.setIfInBounds_toArray, List.set_cons_succ, List.set_cons_zero]
    rfl
  refine RN.go1 (v := ?_) (a' := ?_) rfl ?_ ?_ ?_
  rotate_left 2
  · intro K wx hS hK
    refine RW.ld rfl rfl (hS.ok (Hm.W4 (h) (P)) (by simp)).c ?_
    exact hK _ (Below.refl _ _)
  · simp only [Act.put, List.setIfInBounds_toArray, List.set_cons_succ, List.set_cons_zero]
    rfl
  refine RN.go1 (v := ?_) (a' := ?_) rfl ?_ ?_ ?_
  rotate_left 2
  · intro K wx hS hK
    go_simp
    refine (K6.out _).mono (fun e w2 he => ?_)
    refine ⟨_, he.1, ?_⟩
    exact hK _ he.2
  · simp only [Act.put, List.setIfInBounds_toArray, List.set_cons_succ, List.set_cons_zero]
    rfl
  refine RN.go1 (v := ?_) (a' := ?_) rfl ?_ ?_ ?_
  rotate_left 2
  · intro K wx hS hK
    go_simp
    refine (K7.out _).mono (fun e w2 he => ?_)
    refine ⟨_, he.1, ?_⟩
    exact hK _ he.2
  · simp only [Act.put, List.setIfInBounds_toArray, List.set_cons_succ, List.set_cons_zero]
    rfl
  refine RN.go_end ?_
  intro g w3 m3 f3
  clear m4
  have m4 := Hm.cons m3 f3
  have c3 : ∀ o, o < 4 → w3.cell? ⟨g, o, none⟩ = some (.int .u64 (dg 0 o)) := (m4.ok _ (List.mem_cons_self ..)).c
  have z3 : ∀ o, w3.frozen? ⟨g, o, none⟩ = false := (m4.ok _ (List.mem_cons_self ..)).f
  have HV : Hid (Hm.Hd w (Hm.W4 g r :: [Hm.W4 h P, Hm.W4 (w.heap.size + 1) a, Hm.W4 (w.heap.size) n]) (((((w3).setCell ⟨g, 0, none⟩ (.int .u64 (dg r 0))).setCell ⟨g, 1, none⟩ (.int .u64 (dg r 1))).setCell ⟨g, 2, none⟩ (.int .u64 (dg r 2))).setCell ⟨g, 3, none⟩ (.int .u64 (dg r 3)))) := Hm.set4 m4 f3.ne
  clear m4 m3 f3 
  unfold Wd
  simp only [Act.put, List.setIfInBounds_toArray, List.set_cons_succ, List.set_cons_zero]
  go_upto_region 7 with fail
  generalize ((((w3).setCell ⟨g, 0, none⟩ (.int .u64 (dg r 0))).setCell ⟨g, 1, none⟩ (.int .u64 (dg r 1))).setCell ⟨g, 2, none⟩ (.int .u64 (dg r 2))).setCell ⟨g, 3, none⟩ (.int .u64 (dg r 3)) = W4 at HV ⊢
  have m4 := HV.out
  clear HV c3 z3
  refine RS.wp_region_one (Hm.Hd w [Hm.W4 g r, Hm.W4 h P, Hm.W4 (w.heap.size + 1) a, Hm.W4 (w.heap.size) n]) (by kernel_rfl) (by kernel_rfl) (Hm.drew m4) ?_
  dsimp only [List.toList_toArray]
  refine RS.go1 (v := ?_) (a' := ?_) rfl ?_ ?_ ?_
  rotate_left 2
  · intro K wx hS hK
    refine RW.ld rfl rfl (hS.ok (Hm.W4 (g) (r)) (by simp)).c ?_
    exact hK _ hS
  · simp only [Act.put, List.setIfInBounds_toArray, List.set_cons_succ, List.set_cons_zero]
    rfl
  refine RS.go1 (v := ?_) (a' := ?_) rfl ?_ ?_ ?_
  rotate_left 2
  · intro K wx hS hK
    refine RW.ld rfl rfl (hS.ok (Hm.W4 (h) (P)) (by simp)).c ?_
    exact hK _ hS
  · simp only [Act.put, List.setIfInBounds_toArray, List.set_cons_succ, List.set_cons_zero]
    rfl
  refine RS.go1 (v := ?_) (a' := ?_) rfl ?_ ?_ ?_
  rotate_left 2
  · intro K wx hS hK
    go_simp
    refine (K8.out _).mono (fun e w2 he => ?_)
    refine ⟨_, he.1, ?_⟩
    exact hK _ (Hm.below hS he.2)
  · simp only [Act.put, List.setIfInBounds_toArray, List.set_cons_succ, List.set_cons_zero]
    rfl
  refine RS.go1 (v := ?_) (a' := ?_) rfl ?_ ?_ ?_
  rotate_left 2
  · intro K wx hS hK
    go_simp
    exact hK _ hS
  · simp only [Act.put, List.setIfInBounds_toArray, List.set_cons_succ, List.set_cons_zero]
    rfl
  refine RS.go1 (v := ?_) (a' := ?_) rfl ?_ ?_ ?_
  rotate_left 2
  · intro K wx hS hK
    go_simp
    exact hK _ hS
  · simp only [Act.put, List.setIfInBounds_toArray, List.set_cons_succ, List.set_cons_zero]
    rfl
  refine RS.go1g (v := ?_) (a' := ?_) (by kernel_rfl) ?_ ?_ ?_
  rotate_left 2
  · intro K wx hS hK
    refine RW.ld rfl rfl (hS.ok (Hm.W4 (w.heap.size) (n)) (by simp)).c ?_
    exact hK _ hS
  · simp only [Act.put, List.setIfInBounds_toArray, List.set_cons_succ, List.set_cons_zero]
    rfl
  refine RS.go1g (v := ?_) (a' := ?_) (by kernel_rfl) ?_ ?_ ?_
  rotate_left 2
  · intro K wx hS hK
    refine RW.ld rfl rfl (hS.ok (Hm.W4 (w.heap.size + 1) (a)) (by simp)).c ?_
    exact hK _ hS
  · simp only [Act.put, List.setIfInBounds_toArray, List.set_cons_succ, List.set_cons_zero]
    rfl
  refine RS.go1g (v := ?_) (a' := ?_) (by kernel_rfl) ?_ ?_ ?_
  rotate_left 2
  · intro K wx hS hK
    go_simp
    refine (K5.out _).mono (fun e w2 he => ?_)
    refine ⟨_, he.1, ?_⟩
    exact hK _ (Hm.below hS he.2)
  · simp only [Act.put, List.setIfInBounds_toArray, List.set_cons_succ, List.set_cons_zero]
    rfl
  refine RS.go1g (v := ?_) (a' := ?_) (by kernel_rfl) ?_ ?_ ?_
  rotate_left 2
  · intro K wx hS hK
    go_simp
    exact hK _ hS
  · simp only [Act.put, List.setIfInBounds_toArray, List.set_cons_succ, List.set_cons_zero]
    rfl
  refine RS.go1g (v := ?_) (a' := ?_) (by kernel_rfl) ?_ ?_ ?_
  rotate_left 2
  · intro K wx hS hK
    go_simp
    refine (K9.out _).mono (fun e w2 he => ?_)
    refine ⟨_, he.1, ?_⟩
    exact hK _ (Hm.below hS he.2)
  · simp only [Act.put, List.setIfInBounds_toArray, List.set_cons_succ, List.set_cons_zero]
    rfl
  refine RS.go1g (v := ?_) (a' := ?_) (by kernel_rfl) ?_ ?_ ?_
  rotate_left 2
  · intro K wx hS hK
    have e := E1.out
    go_simp
    exact hK _ hS
  · simp only [Act.put, List.setIfInBounds_toArray, List.set_cons_succ, List.set_cons_zero]
    rfl
  refine RS.go1g (v := ?_) (a' := ?_) (by kernel_rfl) ?_ ?_ ?_
  rotate_left 2
  · intro K wx hS hK
    refine RW.ld rfl rfl (hS.ok (Hm.W4 (w.heap.size + 1) (a)) (by simp)).c ?_
    exact hK _ hS
  · simp only [Act.put, List.setIfInBounds_toArray, List.set_cons_succ, List.set_cons_zero]
    rfl
  refine RS.go1g (v := ?_) (a' := ?_) (by kernel_rfl) ?_ ?_ ?_
  rotate_left 2
  · intro K wx hS hK
    go_simp
    exact hK _ hS
  · simp only [Act.put, List.setIfInBounds_toArray, List.set_cons_succ, List.set_cons_zero]
    rfl
  refine RS.go1g (v := ?_) (a' := ?_) (by kernel_rfl) ?_ ?_ ?_
  rotate_left 2
  · intro K wx hS hK
    go_simp
    refine (K10.out _).mono (fun e w2 he => ?_)
    refine ⟨_, he.1, ?_⟩
    exact hK _ (Hm.below hS he.2)
  · simp only [Act.put, List.setIfInBounds_toArray, List.set_cons_succ, List.set_cons_zero]
    rfl
  refine RS.go1g (v := ?_) (a' := ?_) (by kernel_rfl) ?_ ?_ ?_
  rotate_left 2
  · intro K wx hS hK
    have e := E2.out
    go_simp
    exact hK _ hS
  · simp only [Act.put, List.setIfInBounds_toArray, List.set_cons_succ, List.set_cons_zero]
    rfl
  refine RS.go1g (v := ?_) (a' := ?_) (by kernel_rfl) ?_ ?_ ?_
  rotate_left 2
  · intro K wx hS hK
    go_simp
    exact hK _ hS
  · simp only [Act.put, List.setIfInBounds_toArray, List.set_cons_succ, List.set_cons_zero]
    rfl
  refine RS.go1 (v := ?_) (a' := ?_) rfl ?_ ?_ ?_
  rotate_left 2
  · intro K wx hS hK
    go_simp
    exact hK _ hS
  · simp only [Act.put, List.setIfInBounds_toArray, List.set_cons_succ, List.set_cons_zero]
    rfl
  refine RS.go1 (v := ?_) (a' := ?_) rfl ?_ ?_ ?_
  rotate_left 2
  · intro K wx hS hK
    go_simp
    exact hK _ hS
  · simp only [Act.put, List.setIfInBounds_toArray, List.set_cons_succ, List.set_cons_zero]
    rfl
  refine RS.go_end ?_
  intro w9 m9
  have HB : Hid (Below w.heap.size w w9) := m9.bel
  clear m9
  go_wp2_with fail
  go_ret
  exact ⟨rfl, HB.out⟩
theorem law_floor (n a : Nat) (hn : n < 2 ^ 256) (ha : a < 2 ^ 256) (w : World) :
    Calls Try.prog 6 #[Wd n, Wd a] w fun e w' => e = .returned (.bool true) ∧ Below w.heap.size w w' := by
  rcases Nat.lt_or_ge n 255 with h | h
  · exact law_floor_C n a hn ha h w
  · cases hs : sg a
    · exact law_floor_A n a hn ha h hs w
    · exact law_floor_B n a hn ha h hs w
end Go.Proofs.Ytblodmjnhmfjeaa
