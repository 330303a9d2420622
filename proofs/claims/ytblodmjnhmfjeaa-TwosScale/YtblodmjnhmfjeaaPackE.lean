/- lampbearerkeep.TwosScale. -/
import Derived.Test.YtblodmjnhmfjeaaPackD
namespace Go.Proofs.Ytblodmjnhmfjeaa
open Go.RowKit Go.Shelf
theorem cm_ge (n k : Nat) (h : k ≤ n) : 0 ≤ cm (n : Int) (k : Int) := by unfold cm; split <;> (try split) <;> omega
theorem cm_lt (n k : Nat) (h : n < k) : cm (n : Int) (k : Int) = -1 := by unfold cm; rw [if_pos (by omega)]
theorem pow_hi (a n : Nat) (h : 256 ≤ n) : a * 2 ^ n % 2 ^ 256 = 0 := by
  obtain ⟨k, rfl⟩ : ∃ k, n = 256 + k := ⟨n - 256, by omega⟩
  rw [Nat.pow_add, ← Nat.mul_assoc, Nat.mul_comm a, Nat.mul_assoc, Nat.mul_mod_right]
set_option maxHeartbeats 4000000 in
set_option maxRecDepth 100000 in
theorem law_scale_hi (n a : Nat) (hn : n < 2 ^ 256) (ha : a < 2 ^ 256) (hc : 256 ≤ n) (w : World) :
    Calls Try.prog 5 #[Wd n, Wd a] w fun e w' => e = .returned (.bool true) ∧ Below w.heap.size w w' := by
  have KA : Hid (∀ w : World, Calls Try.prog 9 #[] w fun e w' => e = .returned (.bool true) ∧ Below w.heap.size w w') := fun w => alive2_any w
  obtain ⟨P, hP⟩ : ∃ P, P = 2 ^ n := ⟨_, rfl⟩
  have K1 : Hid (∀ w : World, Calls Try.prog 16 #[.int .u64 2] w fun e w' => e = .returned (Wd 2) ∧ Below w.heap.size w w') := fun w => int_any 2 (by decide) w
  have K2 : Hid (∀ w : World, Calls Try.prog 18 #[Wd 2, Wd n] w fun e w' => e = .returned (Wd P) ∧ Below w.heap.size w w') := fun w => by rw [hP]; exact exp_any 2 n hn w
  have K3 : Hid (∀ w : World, Calls Try.prog 16 #[.int .u64 256] w fun e w' => e = .returned (Wd 256) ∧ Below w.heap.size w w') := fun w => int_any 256 (by decide) w
  have K4 : Hid (∀ w : World, Calls Try.prog 19 #[Wd n, Wd 256] w fun e w' => e = .returned (.int .i64 (cm (n : Int) (256 : Int))) ∧ Below w.heap.size w w') := fun w => cmp_any n 256 hn (by decide) w
  have K5 : Hid (∀ w : World, Calls Try.prog 20 #[Wd n, Wd a] w fun e w' => e = .returned (Wd (a * P)) ∧ Below w.heap.size w w') := fun w => by have := shl_any n a hn ha w; rw [show min n 256 = 256 by omega, Nat.mul_mod_left] at this; rw [hP, ← Wd_mod (a * 2 ^ n), pow_hi a n hc]; exact this
  have K6 : Hid (∀ w : World, Calls Try.prog 15 #[Wd a, Wd P] w fun e w' => e = .returned (Wd (a * P)) ∧ Below w.heap.size w w') := fun w => mul_mod _ _ w
  have K7 : Hid (∀ w : World, Calls Try.prog 21 #[Wd n, Wd a] w fun e w' => e = .returned (Wd 0) ∧ Below w.heap.size w w') := fun w => by have := shr_any n a hn ha w; rwa [show min n 256 = 256 by omega, Nat.div_eq_of_lt ha] at this
  have hc' : Hid (0 ≤ cm (n : Int) (256 : Int)) := cm_ge n 256 hc
  clear hn ha hc hP
  generalize a * P = n1 at *
  generalize cm (n : Int) (256 : Int) = c at *
  generalize Wd 2 = W2 at *
  generalize Wd 256 = W256 at *
  have m0 := Hm.new4 (g := w.heap.size + 1) (n := a) (T := 24) (Hm.new4 (g := w.heap.size) (n := n) (T := 24) (Hm.start w) (by simp)) (by simp)
  conv => arg 3; unfold Wd
  go_enter Try.func5, Try.ntmps5
  go_wp2_with fail
  generalize (w.alloc (.cells #[.int .u64 (dg n 0), .int .u64 (dg n 1), .int .u64 (dg n 2), .int .u64 (dg n 3)] 24)).alloc (.cells #[.int .u64 (dg a 0), .int .u64 (dg a 1), .int .u64 (dg a 2), .int .u64 (dg a 3)] 24) = W0 at m0 ⊢
  refine (KA.out _).mono ?_
  rintro e w1 ⟨rfl, hb⟩
  have m1 := Hm.below m0 hb
  clear hb m0
  go_upto_region 3 with fail
  refine RN.wp_region_new1 (Hm.Hd w [Hm.W4 (w.heap.size + 1) a, Hm.W4 (w.heap.size) n]) (Hm.Fresh w [Hm.W4 (w.heap.size + 1) a, Hm.W4 (w.heap.size) n]) 3 5 (fun _ _ h hb => Hm.below h hb) (fun _ _ _ h hb => Hm.Fresh_below h hb) (fun _ _ h => h.ok.hi) (by kernel_rfl) (by kernel_rfl) (by decide) (by kernel_rfl) (Hm.drew m1) rfl (fun o ho => ?_) ?_
  · obtain rfl := Option.some.inj ho
    exact ⟨rfl, fun ρ K wx hS hK => RW.al rfl hS hK⟩
  simp only [List.take_succ_cons, List.take_zero, List.drop_succ_cons, List.drop_zero]
  refine RN.go1 (v := ?_) (a' := ?_) rfl ?_ ?_ ?_
  rotate_left 2
  · intro K wx hS hK
    go_simp
    refine (K1.out _).mono (fun e w2 he => ?_)
    refine ⟨_, he.1, ?_⟩
    exact hK _ he.2
  · simp only [Act.put, List.setIfInBounds_toArray, List.set_cons_succ, List.set_cons_zero]
    rfl
  refine RN.go1 (v := ?_) (a' := ?_) rfl ?_ ?_ ?_
  rotate_left 2
  · intro K wx hS hK
    refine RW.ld rfl rfl (hS.ok (Hm.W4 (w.heap.size) (n)) (by simp)).c ?_
    exact hK _ (Below.refl _ _)
  · simp only [Act.put, List.setIfInBounds_toArray, List.set_cons_succ, List.set_cons_zero]
    rfl
  refine RN.go1 (v := ?_) (a' := ?_) rfl ?_ ?_ ?_
  rotate_left 2
  · intro K wx hS hK
    go_simp
    refine (K2.out _).mono (fun e w2 he => ?_)
    refine ⟨_, he.1, ?_⟩
    exact hK _ he.2
  · simp only [Act.put, List.setIfInBounds_toArray, List.set_cons_succ, List.set_cons_zero]
    rfl
  refine RN.go_end ?_
  intro g w3 m3 f3
  have m4 := Hm.cons m3 f3
  have c3 : ∀ o, o < 4 → w3.cell? ⟨g, o, none⟩ = some (.int .u64 (dg 0 o)) := (m4.ok _ (List.mem_cons_self ..)).c
  have z3 : ∀ o, w3.frozen? ⟨g, o, none⟩ = false := (m4.ok _ (List.mem_cons_self ..)).f
  have HV : Hid (Hm.Hd w (Hm.W4 g P :: [Hm.W4 (w.heap.size + 1) a, Hm.W4 (w.heap.size) n]) (((((w3).setCell ⟨g, 0, none⟩ (.int .u64 (dg P 0))).setCell ⟨g, 1, none⟩ (.int .u64 (dg P 1))).setCell ⟨g, 2, none⟩ (.int .u64 (dg P 2))).setCell ⟨g, 3, none⟩ (.int .u64 (dg P 3)))) := Hm.set4 m4 f3.ne
  clear m4 m3 f3 m1
  unfold Wd
  simp only [Act.put, List.setIfInBounds_toArray, List.set_cons_succ, List.set_cons_zero]
  go_upto_region 4 with fail
  generalize ((((w3).setCell ⟨g, 0, none⟩ (.int .u64 (dg P 0))).setCell ⟨g, 1, none⟩ (.int .u64 (dg P 1))).setCell ⟨g, 2, none⟩ (.int .u64 (dg P 2))).setCell ⟨g, 3, none⟩ (.int .u64 (dg P 3)) = W3 at HV ⊢
  have m4 := HV.out
  clear HV c3 z3
  generalize g = h at *
  refine RS.wp_region_one (Hm.Hd w [Hm.W4 h P, Hm.W4 (w.heap.size + 1) a, Hm.W4 (w.heap.size) n]) (by kernel_rfl) (by kernel_rfl) (Hm.drew m4) ?_
  dsimp only [List.toList_toArray]
  refine RS.go1 (v := ?_) (a' := ?_) rfl ?_ ?_ ?_
  rotate_left 2
  · intro K wx hS hK
    refine RW.ld rfl rfl (hS.ok (Hm.W4 (w.heap.size) (n)) (by simp)).c ?_
    exact hK _ hS
  · simp only [Act.put, List.setIfInBounds_toArray, List.set_cons_succ, List.set_cons_zero]
    rfl
  refine RS.go1 (v := ?_) (a' := ?_) rfl ?_ ?_ ?_
  rotate_left 2
  · intro K wx hS hK
    go_simp
    refine (K3.out _).mono (fun e w2 he => ?_)
    refine ⟨_, he.1, ?_⟩
    exact hK _ (Hm.below hS he.2)
  · simp only [Act.put, List.setIfInBounds_toArray, List.set_cons_succ, List.set_cons_zero]
    rfl
  refine RS.go1 (v := ?_) (a' := ?_) rfl ?_ ?_ ?_
  rotate_left 2
  · intro K wx hS hK
    go_simp
    refine (K4.out _).mono (fun e w2 he => ?_)
    refine ⟨_, he.1, ?_⟩
    exact hK _ (Hm.below hS he.2)
  · simp only [Act.put, List.setIfInBounds_toArray, List.set_cons_succ, List.set_cons_zero]
    rfl
  refine RS.go1 (v := ?_) (a' := ?_) rfl ?_ ?_ ?_
  rotate_left 2
  · intro K wx hS hK
    have hq := hc'.out
    go_simp
    exact hK _ hS
  · simp only [Act.put, List.setIfInBounds_toArray, List.set_cons_succ, List.set_cons_zero]
    rfl
  refine RS.go_end ?_
  intro w5 m5
  clear m4
  go_upto_region 5 with fail
  refine RS.wp_region_one (Hm.Hd w [Hm.W4 h P, Hm.W4 (w.heap.size + 1) a, Hm.W4 (w.heap.size) n]) (by kernel_rfl) (by kernel_rfl) (Hm.drew m5) ?_
  dsimp only [List.toList_toArray]
  refine RS.go1 (v := ?_) (a' := ?_) rfl ?_ ?_ ?_
  rotate_left 2
  · intro K wx hS hK
    refine RW.ld rfl rfl (hS.ok (Hm.W4 (w.heap.size) (n)) (by simp)).c ?_
    exact hK _ hS
  · simp only [Act.put, List.setIfInBounds_toArray, List.set_cons_succ, List.set_cons_zero]
    rfl
  refine RS.go1 (v := ?_) (a' := ?_) rfl ?_ ?_ ?_
  rotate_left 2
  · intro K wx hS hK
    refine RW.ld rfl rfl (hS.ok (Hm.W4 (w.heap.size + 1) (a)) (by simp)).c ?_
    exact hK _ hS
  · simp only [Act.put, List.setIfInBounds_toArray, List.set_cons_succ, List.set_cons_zero]
    rfl
  refine RS.go1 (v := ?_) (a' := ?_) rfl ?_ ?_ ?_
  rotate_left 2
  · intro K wx hS hK
    go_simp
    refine (K5.out _).mono (fun e w2 he => ?_)
    refine ⟨_, he.1, ?_⟩
    exact hK _ (Hm.below hS he.2)
  · simp only [Act.put, List.setIfInBounds_toArray, List.set_cons_succ, List.set_cons_zero]
    rfl
  refine RS.go1 (v := ?_) (a' := ?_) rfl ?_ ?_ ?_
  rotate_left 2
  · intro K wx hS hK
    refine RW.ld rfl rfl (hS.ok (Hm.W4 (w.heap.size + 1) (a)) (by simp)).c ?_
    exact hK _ hS
  · simp only [Act.put, List.setIfInBounds_toArray, List.set_cons_succ, List.set_cons_zero]
    rfl
  refine RS.go1 (v := ?_) (a' := ?_) rfl ?_ ?_ ?_
  rotate_left 2
  · intro K wx hS hK
    refine RW.ld rfl rfl (hS.ok (Hm.W4 (h) (P)) (by simp)).c ?_
    exact hK _ hS
  · simp only [Act.put, List.setIfInBounds_toArray, List.set_cons_succ, List.set_cons_zero]
    rfl
  refine RS.go1 (v := ?_) (a' := ?_) rfl ?_ ?_ ?_
  rotate_left 2
  · intro K wx hS hK
    go_simp
    refine (K6.out _).mono (fun e w2 he => ?_)
    refine ⟨_, he.1, ?_⟩
    exact hK _ (Hm.below hS he.2)
  · simp only [Act.put, List.setIfInBounds_toArray, List.set_cons_succ, List.set_cons_zero]
    rfl
  refine RS.go1 (v := ?_) (a' := ?_) rfl ?_ ?_ ?_
  rotate_left 2
  · intro K wx hS hK
    refine RW.eq (b := true) rfl rfl rfl (decide_eq_true rfl) ?_
    exact hK _ hS
  · simp only [Act.put, List.setIfInBounds_toArray, List.set_cons_succ, List.set_cons_zero]
    rfl
  refine RS.go1 (v := ?_) (a' := ?_) rfl ?_ ?_ ?_
  rotate_left 2
  · intro K wx hS hK
    go_simp
    exact hK _ hS
  · simp only [Act.put, List.setIfInBounds_toArray, List.set_cons_succ, List.set_cons_zero]
    rfl
  refine RS.go1g (v := ?_) (a' := ?_) (by kernel_rfl) ?_ ?_ ?_
  rotate_left 2
  · intro K wx hS hK
    refine RW.ld rfl rfl (hS.ok (Hm.W4 (w.heap.size) (n)) (by simp)).c ?_
    exact hK _ hS
  · simp only [Act.put, List.setIfInBounds_toArray, List.set_cons_succ, List.set_cons_zero]
    rfl
  refine RS.go1g (v := ?_) (a' := ?_) (by kernel_rfl) ?_ ?_ ?_
  rotate_left 2
  · intro K wx hS hK
    refine RW.ld rfl rfl (hS.ok (Hm.W4 (w.heap.size + 1) (a)) (by simp)).c ?_
    exact hK _ hS
  · simp only [Act.put, List.setIfInBounds_toArray, List.set_cons_succ, List.set_cons_zero]
    rfl
  refine RS.go1g (v := ?_) (a' := ?_) (by kernel_rfl) ?_ ?_ ?_
  rotate_left 2
  · intro K wx hS hK
    go_simp
    refine (K7.out _).mono (fun e w2 he => ?_)
    refine ⟨_, he.1, ?_⟩
    exact hK _ (Hm.below hS he.2)
  · simp only [Act.put, List.setIfInBounds_toArray, List.set_cons_succ, List.set_cons_zero]
    rfl
  refine RS.go1g (v := ?_) (a' := ?_) (by kernel_rfl) ?_ ?_ ?_
  rotate_left 2
  · intro K wx hS hK
    go_simp
    exact hK _ hS
  · simp only [Act.put, List.setIfInBounds_toArray, List.set_cons_succ, List.set_cons_zero]
    rfl
  refine RS.go1g (v := ?_) (a' := ?_) (by kernel_rfl) ?_ ?_ ?_
  rotate_left 2
  · intro K wx hS hK
    refine RW.eq (b := true) (y := 0) rfl rfl rfl (decide_eq_true rfl) ?_
    exact hK _ hS
  · simp only [Act.put, List.setIfInBounds_toArray, List.set_cons_succ, List.set_cons_zero]
    rfl
  refine RS.go1 (v := ?_) (a' := ?_) rfl ?_ ?_ ?_
  rotate_left 2
  · intro K wx hS hK
    go_simp
    exact hK _ hS
  · simp only [Act.put, List.setIfInBounds_toArray, List.set_cons_succ, List.set_cons_zero]
    rfl
  refine RS.go1 (v := ?_) (a' := ?_) rfl ?_ ?_ ?_
  rotate_left 2
  · intro K wx hS hK
    go_simp
    exact hK _ hS
  · simp only [Act.put, List.setIfInBounds_toArray, List.set_cons_succ, List.set_cons_zero]
    rfl
  refine RS.go_end ?_
  intro w9 m9
  have HB : Hid (Below w.heap.size w w9) := m9.bel
  clear m9
  go_wp2_with fail
  go_ret
  exact ⟨rfl, HB.out⟩
set_option maxHeartbeats 4000000 in
set_option maxRecDepth 100000 in
theorem law_scale_lo (n a : Nat) (hn : n < 2 ^ 256) (ha : a < 2 ^ 256) (hc : n < 256) (w : World) :
    Calls Try.prog 5 #[Wd n, Wd a] w fun e w' => e = .returned (.bool true) ∧ Below w.heap.size w w' := by
  have KA : Hid (∀ w : World, Calls Try.prog 9 #[] w fun e w' => e = .returned (.bool true) ∧ Below w.heap.size w w') := fun w => alive2_any w
  obtain ⟨P, hP⟩ : ∃ P, P = 2 ^ n := ⟨_, rfl⟩
  have K1 : Hid (∀ w : World, Calls Try.prog 16 #[.int .u64 2] w fun e w' => e = .returned (Wd 2) ∧ Below w.heap.size w w') := fun w => int_any 2 (by decide) w
  have K2 : Hid (∀ w : World, Calls Try.prog 18 #[Wd 2, Wd n] w fun e w' => e = .returned (Wd P) ∧ Below w.heap.size w w') := fun w => by rw [hP]; exact exp_any 2 n hn w
  have K3 : Hid (∀ w : World, Calls Try.prog 16 #[.int .u64 256] w fun e w' => e = .returned (Wd 256) ∧ Below w.heap.size w w') := fun w => int_any 256 (by decide) w
  have K4 : Hid (∀ w : World, Calls Try.prog 19 #[Wd n, Wd 256] w fun e w' => e = .returned (.int .i64 (-1)) ∧ Below w.heap.size w w') := fun w => by have := cmp_any n 256 hn (by decide) w; rwa [cm_lt n 256 hc] at this
  have K5 : Hid (∀ w : World, Calls Try.prog 20 #[Wd n, Wd a] w fun e w' => e = .returned (Wd (a * P)) ∧ Below w.heap.size w w') := fun w => by have := shl_any n a hn ha w; rw [show min n 256 = n by omega, Wd_mod] at this; rw [hP]; exact this
  have K6 : Hid (∀ w : World, Calls Try.prog 15 #[Wd a, Wd P] w fun e w' => e = .returned (Wd (a * P)) ∧ Below w.heap.size w w') := fun w => mul_mod _ _ w
  have K7 : Hid (∀ w : World, Calls Try.prog 21 #[Wd n, Wd a] w fun e w' => e = .returned (Wd (a / P)) ∧ Below w.heap.size w w') := fun w => by have := shr_any n a hn ha w; rw [show min n 256 = n by omega] at this; rw [hP]; exact this
  have K8 : Hid (∀ w : World, Calls Try.prog 22 #[Wd a, Wd P] w fun e w' => e = .returned (.tuple #[Wd (a / P), Wd (md a P)]) ∧ Below w.heap.size w w') := fun w => divmod_any a P ha (by rw [hP]; exact Nat.pow_lt_pow_right (by decide) hc) w
  clear hn ha hc hP
  generalize a * P = n1 at *
  generalize a / P = n2 at *
  generalize md a P = n3 at *
  generalize Wd 2 = W2 at *
  generalize Wd 256 = W256 at *
  have m0 := Hm.new4 (g := w.heap.size + 1) (n := a) (T := 24) (Hm.new4 (g := w.heap.size) (n := n) (T := 24) (Hm.start w) (by simp)) (by simp)
  conv => arg 3; unfold Wd
  go_enter Try.func5, Try.ntmps5
  go_wp2_with fail
  generalize (w.alloc (.cells #[.int .u64 (dg n 0), .int .u64 (dg n 1), .int .u64 (dg n 2), .int .u64 (dg n 3)] 24)).alloc (.cells #[.int .u64 (dg a 0), .int .u64 (dg a 1), .int .u64 (dg a 2), .int .u64 (dg a 3)] 24) = W0 at m0 ⊢
  refine (KA.out _).mono ?_
  rintro e w1 ⟨rfl, hb⟩
  have m1 := Hm.below m0 hb
  clear hb m0
  go_upto_region 3 with fail
  refine RN.wp_region_new1 (Hm.Hd w [Hm.W4 (w.heap.size + 1) a, Hm.W4 (w.heap.size) n]) (Hm.Fresh w [Hm.W4 (w.heap.size + 1) a, Hm.W4 (w.heap.size) n]) 3 5 (fun _ _ h hb => Hm.below h hb) (fun _ _ _ h hb => Hm.Fresh_below h hb) (fun _ _ h => h.ok.hi) (by kernel_rfl) (by kernel_rfl) (by decide) (by kernel_rfl) (Hm.drew m1) rfl (fun o ho => ?_) ?_
  · obtain rfl := Option.some.inj ho
    exact ⟨rfl, fun ρ K wx hS hK => RW.al rfl hS hK⟩
  simp only [List.take_succ_cons, List.take_zero, List.drop_succ_cons, List.drop_zero]
  refine RN.go1 (v := ?_) (a' := ?_) rfl ?_ ?_ ?_
  rotate_left 2
  · intro K wx hS hK
    go_simp
    refine (K1.out _).mono (fun e w2 he => ?_)
    refine ⟨_, he.1, ?_⟩
    exact hK _ he.2
  · simp only [Act.put, List.setIfInBounds_toArray, List.set_cons_succ, List.set_cons_zero]
    rfl
  refine RN.go1 (v := ?_) (a' := ?_) rfl ?_ ?_ ?_
  rotate_left 2
  · intro K wx hS hK
    refine RW.ld rfl rfl (hS.ok (Hm.W4 (w.heap.size) (n)) (by simp)).c ?_
    exact hK _ (Below.refl _ _)
  · simp only [Act.put, List.setIfInBounds_toArray, List.set_cons_succ, List.set_cons_zero]
    rfl
  refine RN.go1 (v := ?_) (a' := ?_) rfl ?_ ?_ ?_
  rotate_left 2
  · intro K wx hS hK
    go_simp
    refine (K2.out _).mono (fun e w2 he => ?_)
    refine ⟨_, he.1, ?_⟩
    exact hK _ he.2
  · simp only [Act.put, List.setIfInBounds_toArray, List.set_cons_succ, List.set_cons_zero]
    rfl
  refine RN.go_end ?_
  intro g w3 m3 f3
  have m4 := Hm.cons m3 f3
  have c3 : ∀ o, o < 4 → w3.cell? ⟨g, o, none⟩ = some (.int .u64 (dg 0 o)) := (m4.ok _ (List.mem_cons_self ..)).c
  have z3 : ∀ o, w3.frozen? ⟨g, o, none⟩ = false := (m4.ok _ (List.mem_cons_self ..)).f
  have HV : Hid (Hm.Hd w (Hm.W4 g P :: [Hm.W4 (w.heap.size + 1) a, Hm.W4 (w.heap.size) n]) (((((w3).setCell ⟨g, 0, none⟩ (.int .u64 (dg P 0))).setCell ⟨g, 1, none⟩ (.int .u64 (dg P 1))).setCell ⟨g, 2, none⟩ (.int .u64 (dg P 2))).setCell ⟨g, 3, none⟩ (.int .u64 (dg P 3)))) := Hm.set4 m4 f3.ne
  clear m4 m3 f3 m1
  unfold Wd
  simp only [Act.put, List.setIfInBounds_toArray, List.set_cons_succ, List.set_cons_zero]
  go_upto_region 4 with fail
  generalize ((((w3).setCell ⟨g, 0, none⟩ (.int .u64 (dg P 0))).setCell ⟨g, 1, none⟩ (.int .u64 (dg P 1))).setCell ⟨g, 2, none⟩ (.int .u64 (dg P 2))).setCell ⟨g, 3, none⟩ (.int .u64 (dg P 3)) = W3 at HV ⊢
  have m4 := HV.out
  clear HV c3 z3
  generalize g = h at *
  refine RS.wp_region_one (Hm.Hd w [Hm.W4 h P, Hm.W4 (w.heap.size + 1) a, Hm.W4 (w.heap.size) n]) (by kernel_rfl) (by kernel_rfl) (Hm.drew m4) ?_
  dsimp only [List.toList_toArray]
  refine RS.go1 (v := ?_) (a' := ?_) rfl ?_ ?_ ?_
  rotate_left 2
  · intro K wx hS hK
    refine RW.ld rfl rfl (hS.ok (Hm.W4 (w.heap.size) (n)) (by simp)).c ?_
    exact hK _ hS
  · simp only [Act.put, List.setIfInBounds_toArray, List.set_cons_succ, List.set_cons_zero]
    rfl
  refine RS.go1 (v := ?_) (a' := ?_) rfl ?_ ?_ ?_
  rotate_left 2
  · intro K wx hS hK
    go_simp
    refine (K3.out _).mono (fun e w2 he => ?_)
    refine ⟨_, he.1, ?_⟩
    exact hK _ (Hm.below hS he.2)
  · simp only [Act.put, List.setIfInBounds_toArray, List.set_cons_succ, List.set_cons_zero]
    rfl
  refine RS.go1 (v := ?_) (a' := ?_) rfl ?_ ?_ ?_
  rotate_left 2
  · intro K wx hS hK
    go_simp
    refine (K4.out _).mono (fun e w2 he => ?_)
    refine ⟨_, he.1, ?_⟩
    exact hK _ (Hm.below hS he.2)
  · simp only [Act.put, List.setIfInBounds_toArray, List.set_cons_succ, List.set_cons_zero]
    rfl
  refine RS.go1 (v := ?_) (a' := ?_) rfl ?_ ?_ ?_
  rotate_left 2
  · intro K wx hS hK
    go_simp
    exact hK _ hS
  · simp only [Act.put, List.setIfInBounds_toArray, List.set_cons_succ, List.set_cons_zero]
    rfl
  refine RS.go_end ?_
  intro w5 m5
  clear m4
  have c1 : ∀ o, o < 4 → w5.cell? ⟨w.heap.size + 1, o, none⟩ = some (.int .u64 (dg a o)) := (m5.ok (Hm.W4 (w.heap.size + 1) a) (by simp)).c
  have c2 : ∀ o, o < 4 → w5.cell? ⟨h, o, none⟩ = some (.int .u64 (dg P o)) := (m5.ok (Hm.W4 h P) (by simp)).c
  go_wp2_with fail
  refine (K8.out _).mono ?_
  rintro e w6 ⟨rfl, hb⟩
  have m6 := Hm.new4 (g := w6.heap.size + 1) (n := n3) (T := 24) (Hm.new4 (g := w6.heap.size) (n := n2) (T := 24) (Hm.below m5 hb) rfl) (by simp)
  clear hb m5 c1 c2
  unfold Wd
  go_upto_region 7 with fail
  generalize (w6.alloc (.cells #[.int .u64 (dg n2 0), .int .u64 (dg n2 1), .int .u64 (dg n2 2), .int .u64 (dg n2 3)] 24)).alloc (.cells #[.int .u64 (dg n3 0), .int .u64 (dg n3 1), .int .u64 (dg n3 2), .int .u64 (dg n3 3)] 24) = W6 at m6 ⊢
  generalize w6.heap.size = h2 at *
  refine RS.wp_region_one (Hm.Hd w [Hm.W4 (h2 + 1) n3, Hm.W4 h2 n2, Hm.W4 h P, Hm.W4 (w.heap.size + 1) a, Hm.W4 (w.heap.size) n]) (by kernel_rfl) (by kernel_rfl) (Hm.drew m6) ?_
  dsimp only [List.toList_toArray]
  refine RS.go1 (v := ?_) (a' := ?_) rfl ?_ ?_ ?_
  rotate_left 2
  · intro K wx hS hK
    refine RW.ld rfl rfl (hS.ok (Hm.W4 (w.heap.size) (n)) (by simp)).c ?_
    exact hK _ hS
  · simp only [Act.put, List.setIfInBounds_toArray, List.set_cons_succ, List.set_cons_zero]
    rfl
  refine RS.go1 (v := ?_) (a' := ?_) rfl ?_ ?_ ?_
  rotate_left 2
  · intro K wx hS hK
    refine RW.ld rfl rfl (hS.ok (Hm.W4 (w.heap.size + 1) (a)) (by simp)).c ?_
    exact hK _ hS
  · simp only [Act.put, List.setIfInBounds_toArray, List.set_cons_succ, List.set_cons_zero]
    rfl
  refine RS.go1 (v := ?_) (a' := ?_) rfl ?_ ?_ ?_
  rotate_left 2
  · intro K wx hS hK
    go_simp
    refine (K5.out _).mono (fun e w2 he => ?_)
    refine ⟨_, he.1, ?_⟩
    exact hK _ (Hm.below hS he.2)
  · simp only [Act.put, List.setIfInBounds_toArray, List.set_cons_succ, List.set_cons_zero]
    rfl
  refine RS.go1 (v := ?_) (a' := ?_) rfl ?_ ?_ ?_
  rotate_left 2
  · intro K wx hS hK
    refine RW.ld rfl rfl (hS.ok (Hm.W4 (w.heap.size + 1) (a)) (by simp)).c ?_
    exact hK _ hS
  · simp only [Act.put, List.setIfInBounds_toArray, List.set_cons_succ, List.set_cons_zero]
    rfl
  refine RS.go1 (v := ?_) (a' := ?_) rfl ?_ ?_ ?_
  rotate_left 2
  · intro K wx hS hK
    refine RW.ld rfl rfl (hS.ok (Hm.W4 (h) (P)) (by simp)).c ?_
    exact hK _ hS
  · simp only [Act.put, List.setIfInBounds_toArray, List.set_cons_succ, List.set_cons_zero]
    rfl
  refine RS.go1 (v := ?_) (a' := ?_) rfl ?_ ?_ ?_
  rotate_left 2
  · intro K wx hS hK
    go_simp
    refine (K6.out _).mono (fun e w2 he => ?_)
    refine ⟨_, he.1, ?_⟩
    exact hK _ (Hm.below hS he.2)
  · simp only [Act.put, List.setIfInBounds_toArray, List.set_cons_succ, List.set_cons_zero]
    rfl
  refine RS.go1 (v := ?_) (a' := ?_) rfl ?_ ?_ ?_
  rotate_left 2
  · intro K wx hS hK
    refine RW.eq (b := true) rfl rfl rfl (decide_eq_true rfl) ?_
    exact hK _ hS
  · simp only [Act.put, List.setIfInBounds_toArray, List.set_cons_succ, List.set_cons_zero]
    rfl
  refine RS.go1 (v := ?_) (a' := ?_) rfl ?_ ?_ ?_
  rotate_left 2
  · intro K wx hS hK
    go_simp
    exact hK _ hS
  · simp only [Act.put, List.setIfInBounds_toArray, List.set_cons_succ, List.set_cons_zero]
    rfl
  refine RS.go1g (v := ?_) (a' := ?_) (by kernel_rfl) ?_ ?_ ?_
  rotate_left 2
  · intro K wx hS hK
    refine RW.ld rfl rfl (hS.ok (Hm.W4 (w.heap.size) (n)) (by simp)).c ?_
    exact hK _ hS
  · simp only [Act.put, List.setIfInBounds_toArray, List.set_cons_succ, List.set_cons_zero]
    rfl
  refine RS.go1g (v := ?_) (a' := ?_) (by kernel_rfl) ?_ ?_ ?_
  rotate_left 2
  · intro K wx hS hK
    refine RW.ld rfl rfl (hS.ok (Hm.W4 (w.heap.size + 1) (a)) (by simp)).c ?_
    exact hK _ hS
  · simp only [Act.put, List.setIfInBounds_toArray, List.set_cons_succ, List.set_cons_zero]
    rfl
  refine RS.go1g (v := ?_) (a' := ?_) (by kernel_rfl) ?_ ?_ ?_
  rotate_left 2
  · intro K wx hS hK
    go_simp
    refine (K7.out _).mono (fun e w2 he => ?_)
    refine ⟨_, he.1, ?_⟩
    exact hK _ (Hm.below hS he.2)
  · simp only [Act.put, List.setIfInBounds_toArray, List.set_cons_succ, List.set_cons_zero]
    rfl
  refine RS.go1g (v := ?_) (a' := ?_) (by kernel_rfl) ?_ ?_ ?_
  rotate_left 2
  · intro K wx hS hK
    refine RW.ld rfl rfl (hS.ok (Hm.W4 (h2) (n2)) (by simp)).c ?_
    exact hK _ hS
  · simp only [Act.put, List.setIfInBounds_toArray, List.set_cons_succ, List.set_cons_zero]
    rfl
  refine RS.go1g (v := ?_) (a' := ?_) (by kernel_rfl) ?_ ?_ ?_
  rotate_left 2
  · intro K wx hS hK
    refine RW.eq (b := true) rfl rfl rfl (decide_eq_true rfl) ?_
    exact hK _ hS
  · simp only [Act.put, List.setIfInBounds_toArray, List.set_cons_succ, List.set_cons_zero]
    rfl
  refine RS.go1 (v := ?_) (a' := ?_) rfl ?_ ?_ ?_
  rotate_left 2
  · intro K wx hS hK
    go_simp
    exact hK _ hS
  · simp only [Act.put, List.setIfInBounds_toArray, List.set_cons_succ, List.set_cons_zero]
    rfl
  refine RS.go1 (v := ?_) (a' := ?_) rfl ?_ ?_ ?_
  rotate_left 2
  · intro K wx hS hK
    go_simp
    exact hK _ hS
  · simp only [Act.put, List.setIfInBounds_toArray, List.set_cons_succ, List.set_cons_zero]
    rfl
  refine RS.go_end ?_
  intro w9 m9
  have HB : Hid (Below w.heap.size w w9) := m9.bel
  clear m9
  go_wp2_with fail
  go_ret
  exact ⟨rfl, HB.out⟩
theorem law_scale (n a : Nat) (hn : n < 2 ^ 256) (ha : a < 2 ^ 256) (w : World) :
    Calls Try.prog 5 #[Wd n, Wd a] w fun e w' => e = .returned (.bool true) ∧ Below w.heap.size w w' := by
  rcases Nat.lt_or_ge n 256 with h | h
  · exact law_scale_lo n a hn ha h w
  · exact law_scale_hi n a hn ha h w
end Go.Proofs.Ytblodmjnhmfjeaa
