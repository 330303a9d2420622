/- lampbearerkeep.TwosScale. -/
import Derived.Test.YtblodmjnhmfjeaaPackD
import Derived.Test.YtblodmjnhmfjeaaPackA
import Derived.Laws.BytesArg
import Derived.Test.YtblodmjnhmfjeaaPackB
namespace Go.Proofs.Ytblodmjnhmfjeaa
open Go.RowKit Go.Shelf
theorem cm_ge (n k : Nat) (h : k ≤ n) : 0 ≤ cm (n : Int) (k : Int) := by unfold cm; split <;> (try split) <;> omega
theorem cm_lt (n k : Nat) (h : n < k) : cm (n : Int) (k : Int) = -1 := by unfold cm; rw [if_pos (by omega)]
theorem pow_hi (a n : Nat) (h : 256 ≤ n) : a * 2 ^ n % 2 ^ 256 = 0 := by
  obtain ⟨k, rfl⟩ : ∃ k, n = 256 + k := ⟨n - 256, by omega⟩
  rw [Nat.pow_add, ← Nat.mul_assoc, Nat.mul_comm a, Nat.mul_assoc, Nat.mul_mod_right]
set_option maxHeartbeats 4000000 in
set_option maxRecDepth 100000 in
theorem law_scale_hi (n a : Nat) (hn : n < 2 ^ 256) (ha : a < 2 ^ 256) (hc : 256 ≤ n) (w : World) :
    Calls Try.prog 5 #[Wd n, Wd a] w fun e w' => e = .returned (.bool true) ∧ Below w.heap.size w w' := by
  have KA : Hid (∀ w : World, Calls Try.prog 9 #[] w fun e w' => e = .returned (.bool true) ∧ Below w.heap.size w w') := fun w => alive2_any w
  obtain ⟨P, hP⟩ : ∃ P, P = 2 ^ n := ⟨_, rfl⟩
  have K1 : Hid (∀ w : World, Calls Try.prog 16 #[.int .u64 2] w fun e w' => e = .returned (Wd 2) ∧ Below w.heap.size w w') := fun w => int_any 2 (by decide) w
  have K2 : Hid (∀ w : World, Calls Try.prog 18 #[Wd 2, Wd n] w fun e w' => e = .returned (Wd P) ∧ Below w.heap.size w w') := fun w => by rw [hP]; exact exp_any 2 n hn w
  have K3 : Hid (∀ w : World, Calls Try.prog 16 #[.int .u64 256] w fun e w' => e = .returned (Wd 256) ∧ Below w.heap.size w w') := fun w => int_any 256 (by decide) w
  have K4 : Hid (∀ w : World, Calls Try.prog 19 #[Wd n, Wd 256] w fun e w' => e = .returned (.int .i64 (cm (n : Int) (256 : Int))) ∧ Below w.heap.size w w') := fun w => cmp_any n 256 hn (by decide) w
  have K5 : Hid (∀ w : World, Calls Try.prog 20 #[Wd n, Wd a] w fun e w' => e = .returned (Wd (a * P)) ∧ Below w.heap.size w w') := fun w => by have := shl_any n a hn ha w; rw [show min n 256 = 256 by omega, Nat.mul_mod_left] at this; rw [hP, ← Wd_mod (a * 2 ^ n), pow_hi a n hc]; exact this
  have K6 : Hid (∀ w : World, Calls Try.prog 15 #[Wd a, Wd P] w fun e w' => e = .returned (Wd (a * P)) ∧ Below w.heap.size w w') := fun w => mul_mod _ _ w
  have K7 : Hid (∀ w : World, Calls Try.prog 21 #[Wd n, Wd a] w fun e w' => e = .returned (Wd 0) ∧ Below w.heap.size w w') := fun w => by have := shr_any n a hn ha w; rwa [show min n 256 = 256 by omega, Nat.div_eq_of_lt ha] at this
  have hc' : Hid (0 ≤ cm (n : Int) (256 : Int)) := cm_ge n 256 hc
  clear hn ha hc hP
  generalize a * P = n1 at *
  generalize cm (n : Int) (256 : Int) = c at *
  generalize Wd 2 = W2 at *
  generalize Wd 256 = W256 at *
  have m0 := Hm.new4 (g := w.heap.size + 1) (n := a) (T := 24) (Hm.new4 (g := w.heap.size) (n := n) (T := 24) (Hm.start w) (by simp)) (by simp)
  conv => arg 3; unfold Wd
  go_enter Try.func5, Try.ntmps5
  go_wp2_with fail
  generalize (w.alloc (.cells #[.int .u64 (dg n 0), .int .u64 (dg n 1), .int .u64 (dg n 2), .int .u64 (dg n 3)] 24)).alloc (.cells #[.int .u64 (dg a 0), .int .u64 (dg a 1), .int .u64 (dg a 2), .int .u64 (dg a 3)] 24) = W0 at m0 ⊢
  refine (KA.out _).mono ?_
  rintro e w1 ⟨rfl, hb⟩
  have m1 := Hm.below m0 hb
  clear hb m0
  go_upto_region 3 with fail
  refine RN.wp_region_new1 (Hm.Hd w [Hm.W4 (w.heap.size + 1) a, Hm.W4 (w.heap.size) n]) (Hm.Fresh w [Hm.W4 (w.heap.size + 1) a, Hm.W4 (w.heap.size) n]) 3 5 (fun _ _ h hb => Hm.below h hb) (fun _ _ _ h hb => Hm.Fresh_below h hb) (fun _ _ h => h.ok.hi) (by kernel_rfl) (by kernel_rfl) (by decide) (by kernel_rfl) (Hm.drew m1) rfl (fun o ho => ?_) ?_
  · obtain rfl := Option.some.inj ho
    exact ⟨rfl, fun ρ K wx hS hK => RW.al rfl hS hK⟩
  simp only [List.take_succ_cons, List.take_zero, List.drop_succ_cons, List.drop_zero]
  refine RN.go1 (v := ?_) (a' := ?_) rfl ?_ ?_ ?_
  rotate_left 2
  · intro K wx hS hK
    go_simp
    refine (K1.out _).mono (fun e w2 he => ?_)
    refine ⟨_, he.1, ?_⟩
    exact hK _ he.2
  · simp only [Act.put, List.setIfInBounds_toArray, List.set_cons_succ, List.set_cons_zero]
    rfl
  refine RN.go1 (v := ?_) (a' := ?_) rfl ?_ ?_ ?_
  rotate_left 2
  · intro K wx hS hK
    refine RW.ld rfl rfl (hS.ok (Hm.W4 (w.heap.size) (n)) (by simp)).c ?_
    exact hK _ (Below.refl _ _)
  · simp only [Act.put, List.setIfInBounds_toArray, List.set_cons_succ, List.set_cons_zero]
    rfl
  refine RN.go1 (v := ?_) (a' := ?_) rfl ?_ ?_ ?_
  rotate_left 2
  · intro K wx hS hK
    go_simp
    refine (K2.out _).mono (fun e w2 he => ?_)
    refine ⟨_, he.1, ?_⟩
    exact hK _ he.2
  · simp only [Act.put, List.setIfInBounds_toArray, List.set_cons_succ, List.set_cons_zero]
    rfl
  refine RN.go_end ?_
  intro g w3 m3 f3
  have m4 := Hm.cons m3 f3
  have c3 : ∀ o, o < 4 → w3.cell? ⟨g, o, none⟩ = some (.int .u64 (dg 0 o)) := (m4.ok _ (List.mem_cons_self ..)).c
  have z3 : ∀ o, w3.frozen? ⟨g, o, none⟩ = false := (m4.ok _ (List.mem_cons_self ..)).f
  have HV : Hid (Hm.Hd w (Hm.W4 g P :: [Hm.W4 (w.heap.size + 1) a, Hm.W4 (w.heap.size) n]) (((((w3).setCell ⟨g, 0, none⟩ (.int .u64 (dg P 0))).setCell ⟨g, 1, none⟩ (.int .u64 (dg P 1))).setCell ⟨g, 2, none⟩ (.int .u64 (dg P 2))).setCell ⟨g, 3, none⟩ (.int .u64 (dg P 3)))) := Hm.set4 m4 f3.ne
  clear m4 m3 f3 m1
  unfold Wd
  simp only [Act.put, List.setIfInBounds_toArray, List.set_cons_succ, List.set_cons_zero]
  go_upto_region 4 with fail
  generalize ((((w3).setCell ⟨g, 0, none⟩ (.int .u64 (dg P 0))).setCell ⟨g, 1, none⟩ (.int .u64 (dg P 1))).setCell ⟨g, 2, none⟩ (.int .u64 (dg P 2))).setCell ⟨g, 3, none⟩ (.int .u64 (dg P 3)) = W3 at HV ⊢
  have m4 := HV.out
  clear HV c3 z3
  generalize g = h at *
  refine RS.wp_region_one (Hm.Hd w [Hm.W4 h P, Hm.W4 (w.heap.size + 1) a, Hm.W4 (w.heap.size) n]) (by kernel_rfl) (by kernel_rfl) (Hm.drew m4) ?_
  dsimp only [List.toList_toArray]
  refine RS.go1 (v := ?_) (a' := ?_) rfl ?_ ?_ ?_
  rotate_left 2
  · intro K wx hS hK
    refine RW.ld rfl rfl (hS.ok (Hm.W4 (w.heap.size) (n)) (by simp)).c ?_
    exact hK _ hS
  · simp only [Act.put, List.setIfInBounds_toArray, List.set_cons_succ, List.set_cons_zero]
    rfl
  refine RS.go1 (v := ?_) (a' := ?_) rfl ?_ ?_ ?_
  rotate_left 2
  · intro K wx hS hK
    go_simp
    refine (K3.out _).mono (fun e w2 he => ?_)
    refine ⟨_, he.1, ?_⟩
    exact hK _ (Hm.below hS he.2)
  · simp only [Act.put, List.setIfInBounds_toArray, List.set_cons_succ, List.set_cons_zero]
    rfl
  refine RS.go1 (v := ?_) (a' := ?_) rfl ?_ ?_ ?_
  rotate_left 2
  · intro K wx hS hK
    go_simp
    refine (K4.out _).mono (fun e w2 he => ?_)
    refine ⟨_, he.1, ?_⟩
    exact hK _ (Hm.below hS he.2)
  · simp only [Act.put, List.setIfInBounds_toArray, List.set_cons_succ, List.set_cons_zero]
    rfl
  refine RS.go1 (v := ?_) (a' := ?_) rfl ?_ ?_ ?_
  rotate_left 2
  · intro K wx hS hK
    have hq := hc'.out
    go_simp
    exact hK _ hS
  · simp only [Act.put, List.setIfInBounds_toArray, List.set_cons_succ, List.set_cons_zero]
    rfl
  refine RS.go_end ?_
  intro w5 m5
  clear m4
  go_upto_region 5 with fail
  refine RS.wp_region_one (Hm.Hd w [Hm.W4 h P, Hm.W4 (w.heap.size + 1) a, Hm.W4 (w.heap.size) n]) (by kernel_rfl) (by kernel_rfl) (Hm.drew m5) ?_
  dsimp only [List.toList_toArray]
  refine RS.go1 (v := ?_) (a' := ?_) rfl ?_ ?_ ?_
  rotate_left 2
  · intro K wx hS hK
    refine RW.ld rfl rfl (hS.ok (Hm.W4 (w.heap.size) (n)) (by simp)).c ?_
    exact hK _ hS
  · simp only [Act.put, List.setIfInBounds_toArray, List.set_cons_succ, List.set_cons_zero]
    rfl
  refine RS.go1 (v := ?_) (a' := ?_) rfl ?_ ?_ ?_
  rotate_left 2
  · intro K wx hS hK
    refine RW.ld rfl rfl (hS.ok (Hm.W4 (w.heap.size + 1) (a)) (by simp)).c ?_
    exact hK _ hS
  · simp only [Act.put, List.setIfInBounds_toArray, List.set_cons_succ, List.set_cons_zero]
    rfl
  refine RS.go1 (v := ?_) (a' := ?_) rfl ?_ ?_ ?_
  rotate_left 2
  · intro K wx hS hK
    go_simp
    refine (K5.out _).mono (fun e w2 he => ?_)
    refine ⟨_, he.1, ?_⟩
    exact hK _ (Hm.below hS he.2)
  · simp only [Act.put, List.setIfInBounds_toArray, List.set_cons_succ, List.set_cons_zero]
    rfl
  refine RS.go1 (v := ?_) (a' := ?_) rfl ?_ ?_ ?_
  rotate_left 2
  · intro K wx hS hK
    refine RW.ld rfl rfl (hS.ok (Hm.W4 (w.heap.size + 1) (a)) (by simp)).c ?_
    exact hK _ hS
  · simp only [Act.put, List.setIfInBounds_toArray, List.set_cons_succ, List.set_cons_zero]
    rfl
  refine RS.go1 (v := ?_) (a' := ?_) rfl ?_ ?_ ?_
  rotate_left 2
  · intro K wx hS hK
    refine RW.ld rfl rfl (hS.ok (Hm.W4 (h) (P)) (by simp)).c ?_
    exact hK _ hS
  · simp only [Act.put, List.setIfInBounds_toArray, List.set_cons_succ, List.set_cons_zero]
    rfl
  refine RS.go1 (v := ?_) (a' := ?_) rfl ?_ ?_ ?_
  rotate_left 2
  · intro K wx hS hK
    go_simp
    refine (K6.out _).mono (fun e w2 he => ?_)
    refine ⟨_, he.1, ?_⟩
    exact hK _ (Hm.below hS he.2)
  · simp only [Act.put, List.setIfInBounds_toArray, List.set_cons_succ, List.set_cons_zero]
    rfl
  refine RS.go1 (v := ?_) (a' := ?_) rfl ?_ ?_ ?_
  rotate_left 2
  · intro K wx hS hK
    refine RW.eq (b := true) rfl rfl rfl (decide_eq_true rfl) ?_
    exact hK _ hS
  · simp only [Act.put, List.setIfInBounds_toArray, List.set_cons_succ, List.set_cons_zero]
    rfl
  refine RS.go1 (v := ?_) (a' := ?_) rfl ?_ ?_ ?_
  rotate_left 2
  · intro K wx hS hK
    go_simp
    exact hK _ hS
  · simp only [Act.put, List.setIfInBounds_toArray, List.set_cons_succ, List.set_cons_zero]
    rfl
  refine RS.go1g (v := ?_) (a' := ?_) (by kernel_rfl) ?_ ?_ ?_
  rotate_left 2
  · intro K wx hS hK
    refine RW.ld rfl rfl (hS.ok (Hm.W4 (w.heap.size) (n)) (by simp)).c ?_
    exact hK _ hS
  · simp only [Act.put, List.setIfInBounds_toArray, List.set_cons_succ, List.set_cons_zero]
    rfl
  refine RS.go1g (v := ?_) (a' := ?_) (by kernel_rfl) ?_ ?_ ?_
  rotate_left 2
  · intro K wx hS hK
    refine RW.ld rfl rfl (hS.ok (Hm.W4 (w.heap.size + 1) (a)) (by simp)).c ?_
    exact hK _ hS
  · simp only [Act.put, List.setIfInBounds_toArray, List.set_cons_succ, List.set_cons_zero]
    rfl
  refine RS.go1g (v := ?_) (a' := ?_) (by kernel_rfl) ?_ ?_ ?_
  rotate_left 2
  · intro K wx hS hK
    go_simp
    refine (K7.out _).mono (fun e w2 he => ?_)
    refine ⟨_, he.1, ?_⟩
    exact hK _ (Hm.below hS he.2)
  · simp only [Act.put, List.setIfInBounds_toArray, List.set_cons_succ, List.set_cons_zero]
    rfl
  refine RS.go1g (v := ?_) (a' := ?_) (by kernel_rfl) ?_ ?_ ?_
  rotate_left 2
  · intro K wx hS hK
    go_simp
    exact hK _ hS
  · simp only [Act.put, List.setIfInBounds_toArray, List.set_cons_succ, List.set_cons_zero]
    rfl
  refine RS.go1g (v := ?_) (a' := ?_) (by kernel_rfl) ?_ ?_ ?_
  rotate_left 2
  · intro K wx hS hK
    refine RW.eq (b := true) (y := 0) rfl rfl rfl (decide_eq_true rfl) ?_
    exact hK _ hS
  · simp only [Act.put, List.setIfInBounds_toArray, List.set_cons_succ, List.set_cons_zero]
    rfl
  refine RS.go1 (v := ?_) (a' := ?_) rfl ?_ ?_ ?_
  rotate_left 2
  · intro K wx hS hK
    go_simp
    exact hK _ hS
  · simp only [Act.put, List.setIfInBounds_toArray, List.set_cons_succ, List.set_cons_zero]
    rfl
  refine RS.go1 (v := ?_) (a' := ?_) rfl ?_ ?_ ?_
  rotate_left 2
  · intro K wx hS hK
    go_simp
    exact hK _ hS
  · simp only [Act.put, List.setIfInBounds_toArray, List.set_cons_succ, List.set_cons_zero]
    rfl
  refine RS.go_end ?_
  intro w9 m9
  have HB : Hid (Below w.heap.size w w9) := m9.bel
  clear m9
  go_wp2_with fail
  go_ret
  exact ⟨rfl, HB.out⟩
set_option maxHeartbeats 4000000 in
set_option maxRecDepth 100000 in
theorem law_scale_lo (n a : Nat) (hn : n < 2 ^ 256) (ha : a < 2 ^ 256) (hc : n < 256) (w : World) :
    Calls Try.prog 5 #[Wd n, Wd a] w fun e w' => e = .returned (.bool true) ∧ Below w.heap.size w w' := by
  have KA : Hid (∀ w : World, Calls Try.prog 9 #[] w fun e w' => e = .returned (.bool true) ∧ Below w.heap.size w w') := fun w => alive2_any w
  obtain ⟨P, hP⟩ : ∃ P, P = 2 ^ n := ⟨_, rfl⟩
  have K1 : Hid (∀ w : World, Calls Try.prog 16 #[.int .u64 2] w fun e w' => e = .returned (Wd 2) ∧ Below w.heap.size w w') := fun w => int_any 2 (by decide) w
  have K2 : Hid (∀ w : World, Calls Try.prog 18 #[Wd 2, Wd n] w fun e w' => e = .returned (Wd P) ∧ Below w.heap.size w w') := fun w => by rw [hP]; exact exp_any 2 n hn w
  have K3 : Hid (∀ w : World, Calls Try.prog 16 #[.int .u64 256] w fun e w' => e = .returned (Wd 256) ∧ Below w.heap.size w w') := fun w => int_any 256 (by decide) w
  have K4 : Hid (∀ w : World, Calls Try.prog 19 #[Wd n, Wd 256] w fun e w' => e = .returned (.int .i64 (-1)) ∧ Below w.heap.size w w') := fun w => by have := cmp_any n 256 hn (by decide) w; rwa [cm_lt n 256 hc] at this
  have K5 : Hid (∀ w : World, Calls Try.prog 20 #[Wd n, Wd a] w fun e w' => e = .returned (Wd (a * P)) ∧ Below w.heap.size w w') := fun w => by have := shl_any n a hn ha w; rw [show min n 256 = n by omega, Wd_mod] at this; rw [hP]; exact this
  have K6 : Hid (∀ w : World, Calls Try.prog 15 #[Wd a, Wd P] w fun e w' => e = .returned (Wd (a * P)) ∧ Below w.heap.size w w') := fun w => mul_mod _ _ w
  have K7 : Hid (∀ w : World, Calls Try.prog 21 #[Wd n, Wd a] w fun e w' => e = .returned (Wd (a / P)) ∧ Below w.heap.size w w') := fun w => by have := shr_any n a hn ha w; rw [show min n 256 = n by omega] at this; rw [hP]; exact this
  have K8 : Hid (∀ w : World, Calls Try.prog 22 #[Wd a, Wd P] w fun e w' => e = .returned (.tuple #[Wd (a / P), Wd (md a P)]) ∧ Below w.heap.size w w') := fun w => divmod_any a P ha (by rw [hP]; exact Nat.pow_lt_pow_right (by decide) hc) w
  clear hn ha hc hP
  generalize a * P = n1 at *
  generalize a / P = n2 at *
  generalize md a P = n3 at *
  generalize Wd 2 = W2 at *
  generalize Wd 256 = W256 at *
  have m0 := Hm.new4 (g := w.heap.size + 1) (n := a) (T := 24) (Hm.new4 (g := w.heap.size) (n := n) (T := 24) (Hm.start w) (by simp)) (by simp)
  conv => arg 3; unfold Wd
  go_enter Try.func5, Try.ntmps5
  go_wp2_with fail
  generalize (w.alloc (.cells #[.int .u64 (dg n 0), .int .u64 (dg n 1), .int .u64 (dg n 2), .int .u64 (dg n 3)] 24)).alloc (.cells #[.int .u64 (dg a 0), .int .u64 (dg a 1), .int .u64 (dg a 2), .int .u64 (dg a 3)] 24) = W0 at m0 ⊢
  refine (KA.out _).mono ?_
  rintro e w1 ⟨rfl, hb⟩
  have m1 := Hm.below m0 hb
  clear hb m0
  go_upto_region 3 with fail
  refine RN.wp_region_new1 (Hm.Hd w [Hm.W4 (w.heap.size + 1) a, Hm.W4 (w.heap.size) n]) (Hm.Fresh w [Hm.W4 (w.heap.size + 1) a, Hm.W4 (w.heap.size) n]) 3 5 (fun _ _ h hb => Hm.below h hb) (fun _ _ _ h hb => Hm.Fresh_below h hb) (fun _ _ h => h.ok.hi) (by kernel_rfl) (by kernel_rfl) (by decide) (by kernel_rfl) (Hm.drew m1) rfl (fun o ho => ?_) ?_
  · obtain rfl := Option.some.inj ho
    exact ⟨rfl, fun ρ K wx hS hK => RW.al rfl hS hK⟩
  simp only [List.take_succ_cons, List.take_zero, List.drop_succ_cons, List.drop_zero]
  refine RN.go1 (v := ?_) (a' := ?_) rfl ?_ ?_ ?_
  rotate_left 2
  · intro K wx hS hK
    go_simp
    refine (K1.out _).mono (fun e w2 he => ?_)
    refine ⟨_, he.1, ?_⟩
    exact hK _ he.2
  · simp only [Act.put, List.setIfInBounds_toArray, List.set_cons_succ, List.set_cons_zero]
    rfl
  refine RN.go1 (v := ?_) (a' := ?_) rfl ?_ ?_ ?_
  rotate_left 2
  · intro K wx hS hK
    refine RW.ld rfl rfl (hS.ok (Hm.W4 (w.heap.size) (n)) (by simp)).c ?_
    exact hK _ (Below.refl _ _)
  · simp only [Act.put, List.setIfInBounds_toArray, List.set_cons_succ, List.set_cons_zero]
    rfl
  refine RN.go1 (v := ?_) (a' := ?_) rfl ?_ ?_ ?_
  rotate_left 2
  · intro K wx hS hK
    go_simp
    refine (K2.out _).mono (fun e w2 he => ?_)
    refine ⟨_, he.1, ?_⟩
    exact hK _ he.2
  · simp only [Act.put, List.setIfInBounds_toArray, List.set_cons_succ, List.set_cons_zero]
    rfl
  refine RN.go_end ?_
  intro g w3 m3 f3
  have m4 := Hm.cons m3 f3
  have c3 : ∀ o, o < 4 → w3.cell? ⟨g, o, none⟩ = some (.int .u64 (dg 0 o)) := (m4.ok _ (List.mem_cons_self ..)).c
  have z3 : ∀ o, w3.frozen? ⟨g, o, none⟩ = false := (m4.ok _ (List.mem_cons_self ..)).f
  have HV : Hid (Hm.Hd w (Hm.W4 g P :: [Hm.W4 (w.heap.size + 1) a, Hm.W4 (w.heap.size) n]) (((((w3).setCell ⟨g, 0, none⟩ (.int .u64 (dg P 0))).setCell ⟨g, 1, none⟩ (.int .u64 (dg P 1))).setCell ⟨g, 2, none⟩ (.int .u64 (dg P 2))).setCell ⟨g, 3, none⟩ (.int .u64 (dg P 3)))) := Hm.set4 m4 f3.ne
  clear m4 m3 f3 m1
  unfold Wd
  simp only [Act.put, List.setIfInBounds_toArray, List.set_cons_succ, List.set_cons_zero]
  go_upto_region 4 with fail
  generalize ((((w3).setCell ⟨g, 0, none⟩ (.int .u64 (dg P 0))).setCell ⟨g, 1, none⟩ (.int .u64 (dg P 1))).setCell ⟨g, 2, none⟩ (.int .u64 (dg P 2))).setCell ⟨g, 3, none⟩ (.int .u64 (dg P 3)) = W3 at HV ⊢
  have m4 := HV.out
  clear HV c3 z3
  generalize g = h at *
  refine RS.wp_region_one (Hm.Hd w [Hm.W4 h P, Hm.W4 (w.heap.size + 1) a, Hm.W4 (w.heap.size) n]) (by kernel_rfl) (by kernel_rfl) (Hm.drew m4) ?_
  dsimp only [List.toList_toArray]
  refine RS.go1 (v := ?_) (a' := ?_) rfl ?_ ?_ ?_
  rotate_left 2
  · intro K wx hS hK
    refine RW.ld rfl rfl (hS.ok (Hm.W4 (w.heap.size) (n)) (by simp)).c ?_
    exact hK _ hS
  · simp only [Act.put, List.setIfInBounds_toArray, List.set_cons_succ, List.set_cons_zero]
    rfl
  refine RS.go1 (v := ?_) (a' := ?_) rfl ?_ ?_ ?_
  rotate_left 2
  · intro K wx hS hK
    go_simp
    refine (K3.out _).mono (fun e w2 he => ?_)
    refine ⟨_, he.1, ?_⟩
    exact hK _ (Hm.below hS he.2)
  · simp only [Act.put, List.setIfInBounds_toArray, List.set_cons_succ, List.set_cons_zero]
    rfl
  refine RS.go1 (v := ?_) (a' := ?_) rfl ?_ ?_ ?_
  rotate_left 2
  · intro K wx hS hK
    go_simp
    refine (K4.out _).mono (fun e w2 he => ?_)
    refine ⟨_, he.1, ?_⟩
    exact hK _ (Hm.below hS he.2)
  · simp only [Act.put, List.setIfInBounds_toArray, List.set_cons_succ, List.set_cons_zero]
    rfl
  refine RS.go1 (v := ?_) (a' := ?_) rfl ?_ ?_ ?_
  rotate_left 2
  · intro K wx hS hK
    go_simp
    exact hK _ hS
  · simp only [Act.put, List.setIfInBounds_toArray, List.set_cons_succ, List.set_cons_zero]
    rfl
  refine RS.go_end ?_
  intro w5 m5
  clear m4
  have c1 : ∀ o, o < 4 → w5.cell? ⟨w.heap.size + 1, o, none⟩ = some (.int .u64 (dg a o)) := (m5.ok (Hm.W4 (w.heap.size + 1) a) (by simp)).c
  have c2 : ∀ o, o < 4 → w5.cell? ⟨h, o, none⟩ = some (.int .u64 (dg P o)) := (m5.ok (Hm.W4 h P) (by simp)).c
  go_wp2_with fail
  refine (K8.out _).mono ?_
  rintro e w6 ⟨rfl, hb⟩
  have m6 := Hm.new4 (g := w6.heap.size + 1) (n := n3) (T := 24) (Hm.new4 (g := w6.heap.size) (n := n2) (T := 24) (Hm.below m5 hb) rfl) (by simp)
  clear hb m5 c1 c2
  unfold Wd
  go_upto_region 7 with fail
  generalize (w6.alloc (.cells #[.int .u64 (dg n2 0), .int .u64 (dg n2 1), .int .u64 (dg n2 2), .int .u64 (dg n2 3)] 24)).alloc (.cells #[.int .u64 (dg n3 0), .int .u64 (dg n3 1), .int .u64 (dg n3 2), .int .u64 (dg n3 3)] 24) = W6 at m6 ⊢
  generalize w6.heap.size = h2 at *
  refine RS.wp_region_one (Hm.Hd w [Hm.W4 (h2 + 1) n3, Hm.W4 h2 n2, Hm.W4 h P, Hm.W4 (w.heap.size + 1) a, Hm.W4 (w.heap.size) n]) (by kernel_rfl) (by kernel_rfl) (Hm.drew m6) ?_
  dsimp only [List.toList_toArray]
  refine RS.go1 (v := ?_) (a' := ?_) rfl ?_ ?_ ?_
  rotate_left 2
  · intro K wx hS hK
    refine RW.ld rfl rfl (hS.ok (Hm.W4 (w.heap.size) (n)) (by simp)).c ?_
    exact hK _ hS
  · simp only [Act.put, List.setIfInBounds_toArray, List.set_cons_succ, List.set_cons_zero]
    rfl
  refine RS.go1 (v := ?_) (a' := ?_) rfl ?_ ?_ ?_
  rotate_left 2
  · intro K wx hS hK
    refine RW.ld rfl rfl (hS.ok (Hm.W4 (w.heap.size + 1) (a)) (by simp)).c ?_
    exact hK _ hS
  · simp only [Act.put, List.setIfInBounds_toArray, List.set_cons_succ, List.set_cons_zero]
    rfl
  refine RS.go1 (v := ?_) (a' := ?_) rfl ?_ ?_ ?_
  rotate_left 2
  · intro K wx hS hK
    go_simp
    refine (K5.out _).mono (fun e w2 he => ?_)
    refine ⟨_, he.1, ?_⟩
    exact hK _ (Hm.below hS he.2)
  · simp only [Act.put, List.setIfInBounds_toArray, List.set_cons_succ, List.set_cons_zero]
    rfl
  refine RS.go1 (v := ?_) (a' := ?_) rfl ?_ ?_ ?_
  rotate_left 2
  · intro K wx hS hK
    refine RW.ld rfl rfl (hS.ok (Hm.W4 (w.heap.size + 1) (a)) (by simp)).c ?_
    exact hK _ hS
  · simp only [Act.put, List.setIfInBounds_toArray, List.set_cons_succ, List.set_cons_zero]
    rfl
  refine RS.go1 (v := ?_) (a' := ?_) rfl ?_ ?_ ?_
  rotate_left 2
  · intro K wx hS hK
    refine RW.ld rfl rfl (hS.ok (Hm.W4 (h) (P)) (by simp)).c ?_
    exact hK _ hS
  · simp only [Act.put, List.setIfInBounds_toArray, List.set_cons_succ, List.set_cons_zero]
    rfl
  refine RS.go1 (v := ?_) (a' := ?_) rfl ?_ ?_ ?_
  rotate_left 2
  · intro K wx hS hK
    go_simp
    refine (K6.out _).mono (fun e w2 he => ?_)
    refine ⟨_, he.1, ?_⟩
    exact hK _ (Hm.below hS he.2)
  · simp only [Act.put, List.setIfInBounds_toArray, List.set_cons_succ, List.set_cons_zero]
    rfl
  refine RS.go1 (v := ?_) (a' := ?_) rfl ?_ ?_ ?_
  rotate_left 2
  · intro K wx hS hK
    refine RW.eq (b := true) rfl rfl rfl (decide_eq_true rfl) ?_
    exact hK _ hS
  · simp only [Act.put, List.setIfInBounds_toArray, List.set_cons_succ, List.set_cons_zero]
    rfl
  refine RS.go1 (v := ?_) (a' := ?_) rfl ?_ ?_ ?_
  rotate_left 2
  · intro K wx hS hK
    go_simp
    exact hK _ hS
  · simp only [Act.put, List.setIfInBounds_toArray, List.set_cons_succ, List.set_cons_zero]
    rfl
  refine RS.go1g (v := ?_) (a' := ?_) (by kernel_rfl) ?_ ?_ ?_
  rotate_left 2
  · intro K wx hS hK
    refine RW.ld rfl rfl (hS.ok (Hm.W4 (w.heap.size) (n)) (by simp)).c ?_
    exact hK _ hS
  · simp only [Act.put, List.setIfInBounds_toArray, List.set_cons_succ, List.set_cons_zero]
    rfl
  refine RS.go1g (v := ?_) (a' := ?_) (by kernel_rfl) ?_ ?_ ?_
  rotate_left 2
  · intro K wx hS hK
    refine RW.ld rfl rfl (hS.ok (Hm.W4 (w.heap.size + 1) (a)) (by simp)).c ?_
    exact hK _ hS
  · simp only [Act.put, List.setIfInBounds_toArray, List.set_cons_succ, List.set_cons_zero]
    rfl
  refine RS.go1g (v := ?_) (a' := ?_) (by kernel_rfl) ?_ ?_ ?_
  rotate_left 2
  · intro K wx hS hK
    go_simp
    refine (K7.out _).mono (fun e w2 he => ?_)
    refine ⟨_, he.1, ?_⟩
    exact hK _ (Hm.below hS he.2)
  · simp only [Act.put, List.setIfInBounds_toArray, List.set_cons_succ, List.set_cons_zero]
    rfl
  refine RS.go1g (v := ?_) (a' := ?_) (by kernel_rfl) ?_ ?_ ?_
  rotate_left 2
  · intro K wx hS hK
    refine RW.ld rfl rfl (hS.ok (Hm.W4 (h2) (n2)) (by simp)).c ?_
    exact hK _ hS
  · simp only [Act.put, List.setIfInBounds_toArray, List.set_cons_succ, List.set_cons_zero]
    rfl
  refine RS.go1g (v := ?_) (a' := ?_) (by kernel_rfl) ?_ ?_ ?_
  rotate_left 2
  · intro K wx hS hK
    refine RW.eq (b := true) rfl rfl rfl (decide_eq_true rfl) ?_
    exact hK _ hS
  · simp only [Act.put, List.setIfInBounds_toArray, List.set_cons_succ, List.set_cons_zero]
    rfl
  refine RS.go1 (v := ?_) (a' := ?_) rfl ?_ ?_ ?_
  rotate_left 2
  · intro K wx hS hK
    go_simp
    exact hK _ hS
  · simp only [Act.put, List.setIfInBounds_toArray, List.set_cons_succ, List.set_cons_zero]
    rfl
  refine RS.go1 (v := ?_) (a' := ?_) rfl ?_ ?_ ?_
  rotate_left 2
  · intro K wx hS hK
    go_simp
    exact hK _ hS
  · simp only [Act.put, List.setIfInBounds_toArray, List.set_cons_succ, List.set_cons_zero]
    rfl
  refine RS.go_end ?_
  intro w9 m9
  have HB : Hid (Below w.heap.size w w9) := m9.bel
  clear m9
  go_wp2_with fail
  go_ret
  exact ⟨rfl, HB.out⟩
theorem law_scale (n a : Nat) (hn : n < 2 ^ 256) (ha : a < 2 ^ 256) (w : World) :
    Calls Try.prog 5 #[Wd n, Wd a] w fun e w' => e = .returned (.bool true) ∧ Below w.heap.size w w' := by
  rcases Nat.lt_or_ge n 256 with h | h
  · exact law_scale_lo n a hn ha h w
  · exact law_scale_hi n a hn ha h w
end Go.Proofs.Ytblodmjnhmfjeaa
/- The order of two lists of bytes, the greatest first, is that of the numbers. -/
namespace Go.Proofs.Ytblodmjnhmfjeaa
open Go.RowKit Go.Shelf
/-- The m least bytes of a, the greatest first. -/
def BB (a : Nat) : Nat → List UInt8
  | 0 => []
  | m + 1 => UInt8.ofNat (a / 2 ^ (8 * m) % 256) :: BB a m
theorem u8_lt (x y : Nat) (hx : x < 256) (hy : y < 256) : decide (UInt8.ofNat x < UInt8.ofNat y) = decide (x < y) := by
  rw [decide_eq_decide, UInt8.lt_iff_toNat_lt, UInt8.toNat_ofNat', UInt8.toNat_ofNat', Nat.mod_eq_of_lt hx, Nat.mod_eq_of_lt hy]
theorem u8_eq (x y : Nat) (hx : x < 256) (hy : y < 256) : (UInt8.ofNat x == UInt8.ofNat y) = decide (x = y) := by
  rw [Bool.eq_iff_iff, beq_iff_eq, decide_eq_true_iff]
  constructor
  · intro h
    have := congrArg UInt8.toNat h
    rw [UInt8.toNat_ofNat', UInt8.toNat_ofNat', Nat.mod_eq_of_lt hx, Nat.mod_eq_of_lt hy] at this
    exact this
  · intro h; rw [h]
theorem mod_split (n m : Nat) : n % 2 ^ (8 * (m + 1)) = n % 2 ^ (8 * m) + 2 ^ (8 * m) * (n / 2 ^ (8 * m) % 256) := by
  rw [Nat.mul_add, Nat.pow_add, Nat.mod_mul]
theorem lex_lt (p x y u v : Nat) (hu : u < p) (hv : v < p) : (u + p * x < v + p * y) ↔ (x < y ∨ (x = y ∧ u < v)) := by
  rcases Nat.lt_trichotomy x y with h | h | h
  · have : p * x + p ≤ p * y := by rw [← Nat.mul_succ]; exact Nat.mul_le_mul_left p h
    constructor
    · intro _; exact Or.inl h
    · intro _; omega
  · subst h
    constructor
    · intro k; exact Or.inr ⟨rfl, by omega⟩
    · rintro (k | ⟨_, k⟩) <;> omega
  · have : p * y + p ≤ p * x := by rw [← Nat.mul_succ]; exact Nat.mul_le_mul_left p h
    constructor
    · intro k; omega
    · rintro (k | ⟨k, _⟩) <;> omega
theorem bb_less (a b : Nat) : ∀ m, Op.bytesLess (BB a m) (BB b m) = decide (a % 2 ^ (8 * m) < b % 2 ^ (8 * m))
  | 0 => by simp [BB, Op.bytesLess, Nat.mod_one]
  | m + 1 => by
    have hp : 0 < 2 ^ (8 * m) := Nat.two_pow_pos _
    have ha := Nat.mod_lt (a / 2 ^ (8 * m)) (show 0 < 256 by decide)
    have hb := Nat.mod_lt (b / 2 ^ (8 * m)) (show 0 < 256 by decide)
    rw [BB, BB, Op.bytesLess, bb_less a b m, u8_lt _ _ ha hb, u8_eq _ _ ha hb, mod_split a m, mod_split b m]
    have := lex_lt (2 ^ (8 * m)) (a / 2 ^ (8 * m) % 256) (b / 2 ^ (8 * m) % 256) (a % 2 ^ (8 * m)) (b % 2 ^ (8 * m)) (Nat.mod_lt _ hp) (Nat.mod_lt _ hp)
    rw [Bool.eq_iff_iff]
    simp only [Bool.or_eq_true, Bool.and_eq_true, decide_eq_true_iff]
    exact this.symm
/-- The bytes of a word as a string. -/
def wstr (a : Nat) : ByteArray := strOfNums ((List.range 32).map (bt a))
theorem wstr_list (a : Nat) : (wstr a).toList = BB a 32 := by
  rw [ByteArray.toList_eq]
  unfold wstr
  rw [strOfNums_data]
  rfl
theorem wstr_less (a b : Nat) (ha : a < 2 ^ 256) (hb : b < 2 ^ 256) : Op.bytesLess (wstr a).toList (wstr b).toList = decide (a < b) := by
  rw [wstr_list, wstr_list, bb_less, Nat.mod_eq_of_lt (by simpa using ha), Nat.mod_eq_of_lt (by simpa using hb)]
theorem bb_inj (a b : Nat) : ∀ m, BB a m = BB b m → a % 2 ^ (8 * m) = b % 2 ^ (8 * m)
  | 0, _ => by simp [Nat.mod_one]
  | m + 1, h => by
    have ha := Nat.mod_lt (a / 2 ^ (8 * m)) (show 0 < 256 by decide)
    have hb := Nat.mod_lt (b / 2 ^ (8 * m)) (show 0 < 256 by decide)
    rw [BB, BB, List.cons.injEq] at h
    have h1 := u8_eq _ _ ha hb
    rw [h.1, beq_self_eq_true] at h1
    have h2 := of_decide_eq_true h1.symm
    rw [mod_split a m, mod_split b m, bb_inj a b m h.2, h2]
theorem bt_getD (a i : Nat) (hi : i < 32) : ((List.range 32).map (bt a)).getD i 0 = bt a i := by
  rw [List.getD_eq_getElem?_getD, List.getElem?_map, List.getElem?_range hi]
  rfl
end Go.Proofs.Ytblodmjnhmfjeaa
/- lampbearerref.WLess: the order of words, by their bytes. -/
namespace Go.Proofs.Ytblodmjnhmfjeaa
open Go.RowKit Go.Shelf
attribute [local go_sem ↓] Go.wp_at_zero Go.wp_at_succ

end Go.Proofs.Ytblodmjnhmfjeaa
/- lampbearerref.WCmp: the document's own order of words. -/
namespace Go.Proofs.Ytblodmjnhmfjeaa
open Go.RowKit Go.Shelf
theorem dg_inj {a b : Nat} (ha : a < 2 ^ 256) (hb : b < 2 ^ 256) (h : ∀ o, o < 4 → dg a o = dg b o) : a = b := by
  have h0 := h 0 (by decide)
  have h1 := h 1 (by decide)
  have h2 := h 2 (by decide)
  have h3 := h 3 (by decide)
  simp only [dg0, dg1, dg2, dg3] at h0 h1 h2 h3
  omega
theorem Wd_get (a i : Nat) (hi : i < 4) : (#[Value.int .u64 (dg a 0), .int .u64 (dg a 1), .int .u64 (dg a 2), .int .u64 (dg a 3)] : Array Value)[i]? = some (.int .u64 (dg a i)) := by
  have : i = 0 ∨ i = 1 ∨ i = 2 ∨ i = 3 := by omega
  rcases this with rfl | rfl | rfl | rfl <;> rfl
/-- Two words are equal where their numbers are. -/
theorem eq_word (a b : Nat) (ha : a < 2 ^ 256) (hb : b < 2 ^ 256) (w : World) : (binOp .eql 24 (.agg #[.int .u64 (dg a 0), .int .u64 (dg a 1), .int .u64 (dg a 2), .int .u64 (dg a 3)]) (.agg #[.int .u64 (dg b 0), .int .u64 (dg b 1), .int .u64 (dg b 2), .int .u64 (dg b 3)])).run Try.prog w = .ok (.bool (decide (a = b))) w := by
  rw [Sp.eql_array 24 22 4 .u64 Try.underlying24 Try.underlying22 (by kernel_rfl) (by kernel_rfl) (by kernel_rfl) _ _ (dg a) (dg b) w (fun i hi => ⟨Wd_get a i hi, Wd_get b i hi⟩)]
  congr 2
  rw [Bool.eq_iff_iff, Sp.same_iff, decide_eq_true_iff]
  exact ⟨dg_inj ha hb, fun h => by rw [h]; exact fun _ _ => rfl⟩
end Go.Proofs.Ytblodmjnhmfjeaa
/- twos.SCmp and lampbearerref.TSCmp: the order of words with signs. -/
namespace Go.Proofs.Ytblodmjnhmfjeaa
open Go.RowKit Go.Shelf
/-- 2^255 more, rest 2^256. -/
def hf (a : Nat) : Nat := (a + 2 ^ 255) % 2 ^ 256
theorem hf_lt (a : Nat) : hf a < 2 ^ 256 := Nat.mod_lt _ (by decide)
theorem half_parts (H : Nat) (h : H = 2 ^ 255) : dg H 0 = 0 ∧ dg H 1 = 0 ∧ dg H 2 = 0 ∧ dg H 3 = 9223372036854775808 := by subst h; decide
/-- What holds while the two are moved up and held against each other. -/
def SC2 (w : World) (a b H X Y : Nat) (C : Int) (d : Nat → Bool) (x : Act) (wx : World) : Prop :=
  ∃ (u4 u7 u8 u9 u10 u11 u12 u13 : Value) (v6 : Value),
    x = { tmps := #[.agg #[.int .u64 (dg a 0), .int .u64 (dg a 1), .int .u64 (dg a 2), .int .u64 (dg a 3)], .agg #[.int .u64 (dg b 0), .int .u64 (dg b 1), .int .u64 (dg b 2), .int .u64 (dg b 3)], .pointer (some ⟨w.heap.size, 0, none⟩), .pointer (some ⟨w.heap.size + 1, 0, none⟩), u4, .pointer (some ⟨w.heap.size + 1 + 1, 0, none⟩), v6, u7, u8, u9, u10, u11, u12, u13], defers := [] } ∧
    (S3 w a b H wx) ∧
    (d 0 = true → u7 = Wd a) ∧ (d 1 = true → u8 = Wd H) ∧ (d 2 = true → u9 = Wd X) ∧ (d 3 = true → u10 = Wd b) ∧ (d 4 = true → u11 = Wd H) ∧ (d 5 = true → u12 = Wd Y) ∧ (d 6 = true → u13 = .int .i64 C) ∧ (d 7 = true → u4 = .int .i64 C)
set_option maxHeartbeats 4000000 in
set_option maxRecDepth 100000 in
theorem scmp_any (a b : Nat) (ha : a < 2 ^ 256) (hb : b < 2 ^ 256) (w : World) :
    Calls Try.prog 25 #[Wd a, Wd b] w fun e w' => e = .returned (.int .i64 (cm (hf a : Int) (hf b : Int))) ∧ Below w.heap.size w w' := by
  obtain ⟨H, hH⟩ : ∃ H, H = 2 ^ 255 := ⟨_, rfl⟩
  have hl : H < 2 ^ 256 := by rw [hH]; decide
  have KX : Hid (∀ w : World, Calls Try.prog 14 #[Wd a, Wd H] w fun e w' => e = .returned (Wd (hf a)) ∧ Below w.heap.size w w') := fun w => by
    have k := add_any a H ha hl w
    rw [← Wd_mod (a + H), hH] at k
    rw [hH]
    exact k
  have KY : Hid (∀ w : World, Calls Try.prog 14 #[Wd b, Wd H] w fun e w' => e = .returned (Wd (hf b)) ∧ Below w.heap.size w w') := fun w => by
    have k := add_any b H hb hl w
    rw [← Wd_mod (b + H), hH] at k
    rw [hH]
    exact k
  have KC : Hid (∀ w : World, Calls Try.prog 19 #[Wd (hf a), Wd (hf b)] w fun e w' => e = .returned (.int .i64 (cm (hf a : Int) (hf b : Int))) ∧ Below w.heap.size w w') := fun w => cmp_any _ _ (hf_lt a) (hf_lt b) w
  obtain ⟨e0, e1, e2, e3⟩ := half_parts H hH
  have m0 := S3_start w a b H
  rw [e0, e1, e2, e3] at m0
  clear ha hb hl hH e0 e1 e2 e3
  generalize cm (hf a : Int) (hf b : Int) = C at *
  generalize hf a = X at *
  generalize hf b = Y at *
  conv => arg 3; unfold Wd
  go_enter Try.func25, Try.ntmps25
  go_upto_region 2 with fail
  generalize ((w.alloc (.cells #[.int .u64 (dg a 0), .int .u64 (dg a 1), .int .u64 (dg a 2), .int .u64 (dg a 3)] 24)).alloc (.cells #[.int .u64 (dg b 0), .int .u64 (dg b 1), .int .u64 (dg b 2), .int .u64 (dg b 3)] 24)).alloc (.cells #[.int .u64 0, .int .u64 0, .int .u64 0, .int .u64 9223372036854775808] 24) = W0 at m0 ⊢
  refine RI.wp_region_inv (SC2 w a b H X Y C) (by kernel_rfl) (by kernel_rfl) ?_ ?_ ?_
  · exact ⟨.int .i64 0, undef, undef, undef, undef, undef, undef, undef, _, rfl, S3_drew m0, nofun, nofun, nofun, nofun, nofun, nofun, nofun, nofun⟩
  · clear m0
    intro d x wx i hI hi hm
    obtain ⟨u4, u7, u8, u9, u10, u11, u12, u13, v6, rfl, hS, p0, p1, p2, p3, p4, p5, p6, p7⟩ := hI
    have hi' : i = 0 ∨ i = 1 ∨ i = 2 ∨ i = 3 ∨ i = 4 ∨ i = 5 ∨ i = 6 ∨ i = 7 := by simp at hi; omega
    have hd := hm.2
    clear hm hi
    rcases hi' with rfl | rfl | rfl | rfl | rfl | rfl | rfl | rfl
    · refine RI.wpOp_plain rfl rfl ?_
      have c0 : ∀ o, o < 4 → wx.cell? ⟨w.heap.size, o, none⟩ = some (.int .u64 (dg a o)) := hS.c0
      go_simp
      exact ⟨u4, _, u8, u9, u10, u11, u12, u13, v6, rfl, hS, fun _ => rfl, RI.keep (by decide) p1, RI.keep (by decide) p2, RI.keep (by decide) p3, RI.keep (by decide) p4, RI.keep (by decide) p5, RI.keep (by decide) p6, RI.keep (by decide) p7⟩
    · refine RI.wpOp_plain rfl rfl ?_
      have c2 : ∀ o, o < 4 → wx.cell? ⟨w.heap.size + 1 + 1, o, none⟩ = some (.int .u64 (dg H o)) := hS.c2
      go_simp
      exact ⟨u4, u7, _, u9, u10, u11, u12, u13, v6, rfl, hS, RI.keep (by decide) p0, fun _ => rfl, RI.keep (by decide) p2, RI.keep (by decide) p3, RI.keep (by decide) p4, RI.keep (by decide) p5, RI.keep (by decide) p6, RI.keep (by decide) p7⟩
    · have hd := hd _ rfl
      simp [Region.binds] at hd
      obtain rfl := p0 (by simp [hd])
      obtain rfl := p1 (by simp [hd])
      refine RI.wpOp_plain rfl rfl ?_
      go_simp
      refine (KX.out _).mono ?_
      rintro e w1 ⟨rfl, hb1⟩
      exact ⟨u4, _, _, _, u10, u11, u12, u13, v6, rfl, S3_below hS hb1, RI.keep (by decide) p0, RI.keep (by decide) p1, fun _ => rfl, RI.keep (by decide) p3, RI.keep (by decide) p4, RI.keep (by decide) p5, RI.keep (by decide) p6, RI.keep (by decide) p7⟩
    · refine RI.wpOp_plain rfl rfl ?_
      have c1 : ∀ o, o < 4 → wx.cell? ⟨w.heap.size + 1, o, none⟩ = some (.int .u64 (dg b o)) := hS.c1
      go_simp
      exact ⟨u4, u7, u8, u9, _, u11, u12, u13, v6, rfl, hS, RI.keep (by decide) p0, RI.keep (by decide) p1, RI.keep (by decide) p2, fun _ => rfl, RI.keep (by decide) p4, RI.keep (by decide) p5, RI.keep (by decide) p6, RI.keep (by decide) p7⟩
    · refine RI.wpOp_plain rfl rfl ?_
      have c2 : ∀ o, o < 4 → wx.cell? ⟨w.heap.size + 1 + 1, o, none⟩ = some (.int .u64 (dg H o)) := hS.c2
      go_simp
      exact ⟨u4, u7, u8, u9, u10, _, u12, u13, v6, rfl, hS, RI.keep (by decide) p0, RI.keep (by decide) p1, RI.keep (by decide) p2, RI.keep (by decide) p3, fun _ => rfl, RI.keep (by decide) p5, RI.keep (by decide) p6, RI.keep (by decide) p7⟩
    · have hd := hd _ rfl
      simp [Region.binds] at hd
      obtain rfl := p2 (by simp [hd])
      obtain rfl := p3 (by simp [hd])
      obtain rfl := p4 (by simp [hd])
      refine RI.wpOp_plain rfl rfl ?_
      go_simp
      refine (KY.out _).mono ?_
      rintro e w1 ⟨rfl, hb1⟩
      exact ⟨u4, u7, u8, _, _, _, _, u13, v6, rfl, S3_below hS hb1, RI.keep (by decide) p0, RI.keep (by decide) p1, RI.keep (by decide) p2, RI.keep (by decide) p3, RI.keep (by decide) p4, fun _ => rfl, RI.keep (by decide) p6, RI.keep (by decide) p7⟩
    · have hd := hd _ rfl
      simp [Region.binds] at hd
      obtain rfl := p2 (by simp [hd])
      obtain rfl := p5 (by simp [hd])
      refine RI.wpOp_plain rfl rfl ?_
      go_simp
      refine (KC.out _).mono ?_
      rintro e w1 ⟨rfl, hb1⟩
      exact ⟨u4, u7, u8, _, u10, u11, _, _, v6, rfl, S3_below hS hb1, RI.keep (by decide) p0, RI.keep (by decide) p1, RI.keep (by decide) p2, RI.keep (by decide) p3, RI.keep (by decide) p4, RI.keep (by decide) p5, fun _ => rfl, RI.keep (by decide) p7⟩
    · have hd := hd _ rfl
      simp [Region.binds] at hd
      obtain rfl := p0 (by simp [hd])
      obtain rfl := p1 (by simp [hd])
      obtain rfl := p2 (by simp [hd])
      obtain rfl := p3 (by simp [hd])
      obtain rfl := p4 (by simp [hd])
      obtain rfl := p5 (by simp [hd])
      obtain rfl := p6 (by simp [hd])
      refine RI.wpOp_plain rfl rfl ?_
      go_simp
      exact ⟨_, _, _, _, _, _, _, _, v6, rfl, hS, RI.keep (by decide) p0, RI.keep (by decide) p1, RI.keep (by decide) p2, RI.keep (by decide) p3, RI.keep (by decide) p4, RI.keep (by decide) p5, RI.keep (by decide) p6, fun _ => rfl⟩
  · clear m0
    intro d x wx hI hd
    obtain ⟨u4, u7, u8, u9, u10, u11, u12, u13, v6, rfl, hS, p0, p1, p2, p3, p4, p5, p6, p7⟩ := hI
    obtain rfl := p7 (hd 7 (by decide))
    have HB : Hid (Below w.heap.size w wx) := hS.bel
    clear p0 p1 p2 p3 p4 p5 p6 p7 hS hd
    go_wp2_with fail
    go_ret
    exact ⟨rfl, HB.out⟩
end Go.Proofs.Ytblodmjnhmfjeaa
/- lampbearerkeep.TwosFloor. -/
namespace Go.Proofs.Ytblodmjnhmfjeaa
open Go.RowKit Go.Shelf
theorem cm_sg (a : Nat) (ha : a < 2 ^ 256) : decide (cm (hf a : Int) (hf 0 : Int) < 0) = sg a := by
  unfold cm hf sg
  rw [decide_eq_decide]
  split
  · constructor <;> intro _ <;> omega
  · split <;> constructor <;> intro _ <;> omega
theorem sar_rest (n a : Nat) (ha : a < 2 ^ 256) (hn : n < 255) : (a + 2 ^ 256 - sar n a * 2 ^ n % 2 ^ 256) % 2 ^ 256 < 2 ^ n ∧ sg (sar n a) = sg a := by
  have hP : 2 ^ n ≤ 2 ^ 254 := Nat.pow_le_pow_right (by decide) (by omega)
  have hP0 : 0 < 2 ^ n := Nat.pow_pos (by decide)
  unfold sar
  cases hs : sg a with
  | false =>
    rw [if_neg (by decide)]
    generalize 2 ^ n = P at *
    have h1 : a / P * P ≤ a := Nat.div_mul_le_self a P
    have h2 := Nat.div_add_mod a P
    rw [Nat.mul_comm] at h2
    have h3 := Nat.mod_lt a hP0
    have h4 : a / P ≤ a := Nat.div_le_self a P
    unfold sg at hs ⊢
    rw [decide_eq_false_iff_not] at hs ⊢
    generalize a / P * P = Y at *
    constructor <;> omega
  | true =>
    rw [if_pos rfl]
    unfold sg at hs
    rw [decide_eq_true_iff] at hs
    unfold nt sg
    generalize 2 ^ n = P at *
    have e : 2 ^ 256 - 1 - a % 2 ^ 256 = 2 ^ 256 - 1 - a := by omega
    rw [e]
    have h1 : (2 ^ 256 - 1 - a) / P * P ≤ 2 ^ 256 - 1 - a := Nat.div_mul_le_self _ P
    have h2 := Nat.div_add_mod (2 ^ 256 - 1 - a) P
    rw [Nat.mul_comm] at h2
    have h3 := Nat.mod_lt (2 ^ 256 - 1 - a) hP0
    have h4 : (2 ^ 256 - 1 - a) / P ≤ 2 ^ 256 - 1 - a := Nat.div_le_self _ P
    generalize (2 ^ 256 - 1 - a) % P = r at *
    generalize hq : (2 ^ 256 - 1 - a) / P = q at *
    have e2 : q % 2 ^ 256 = q := Nat.mod_eq_of_lt (by omega)
    rw [e2, Nat.sub_mul, Nat.sub_mul]
    rw [decide_eq_true_iff]
    generalize q * P = Y at *
    clear hq
    constructor <;> omega
set_option maxHeartbeats 4000000 in
set_option maxRecDepth 100000 in
theorem law_floor_A (n a : Nat) (hn : n < 2 ^ 256) (ha : a < 2 ^ 256) (hc : 255 ≤ n) (hs : sg a = false) (w : World) :
    Calls Try.prog 6 #[Wd n, Wd a] w fun e w' => e = .returned (.bool true) ∧ Below w.heap.size w w' := by
  have KA : Hid (∀ w : World, Calls Try.prog 9 #[] w fun e w' => e = .returned (.bool true) ∧ Below w.heap.size w w') := fun w => alive2_any w
  have K3 : Hid (∀ w : World, Calls Try.prog 16 #[.int .u64 255] w fun e w' => e = .returned (Wd 255) ∧ Below w.heap.size w w') := fun w => int_any 255 (by decide) w
  have K4 : Hid (∀ w : World, Calls Try.prog 19 #[Wd n, Wd 255] w fun e w' => e = .returned (.int .i64 (cm (n : Int) (255 : Int))) ∧ Below w.heap.size w w') := fun w => cmp_any n 255 hn (by decide) w
  have ev : sar (min n 256) a = 0 := by
    unfold sg at hs
    unfold sar sg
    rw [hs, if_neg (by decide)]
    rw [decide_eq_false_iff_not] at hs
    exact Nat.div_eq_of_lt (Nat.lt_of_lt_of_le (show a < 2 ^ 255 by omega) (Nat.pow_le_pow_right (by decide) (by omega)))
  have K5 : Hid (∀ w : World, Calls Try.prog 23 #[Wd n, Wd a] w fun e w' => e = .returned (Wd 0) ∧ Below w.heap.size w w') := fun w => by have := sar_any n a hn ha w; rwa [ev] at this
  have hc' : Hid (0 ≤ cm (n : Int) (255 : Int)) := cm_ge n 255 hc
  clear hn ha hc hs ev
  generalize cm (n : Int) (255 : Int) = c at *
  generalize Wd 255 = W255 at *
  have m0 := Hm.new4 (g := w.heap.size + 1) (n := a) (T := 24) (Hm.new4 (g := w.heap.size) (n := n) (T := 24) (Hm.start w) (by simp)) (by simp)
  conv => arg 3; unfold Wd
  go_enter Try.func6, Try.ntmps6
  go_wp2_with fail
  generalize (w.alloc (.cells #[.int .u64 (dg n 0), .int .u64 (dg n 1), .int .u64 (dg n 2), .int .u64 (dg n 3)] 24)).alloc (.cells #[.int .u64 (dg a 0), .int .u64 (dg a 1), .int .u64 (dg a 2), .int .u64 (dg a 3)] 24) = W0 at m0 ⊢
  refine (KA.out _).mono ?_
  rintro e w1 ⟨rfl, hb⟩
  have m1 := Hm.below m0 hb
  clear hb m0
  go_upto_region 3 with fail
  refine RS.wp_region_one (Hm.Hd w [Hm.W4 (w.heap.size + 1) a, Hm.W4 (w.heap.size) n]) (by kernel_rfl) (by kernel_rfl) (Hm.drew m1) ?_
  dsimp only [List.toList_toArray]
  refine RS.go1 (v := ?_) (a' := ?_) rfl ?_ ?_ ?_
  rotate_left 2
  · intro K wx hS hK
    refine RW.ld rfl rfl (hS.ok (Hm.W4 (w.heap.size) (n)) (by simp)).c ?_
    exact hK _ hS
  · simp only [Act.put, List.setIfInBounds_toArray, List.set_cons_succ, List.set_cons_zero]
    rfl
  refine RS.go1 (v := ?_) (a' := ?_) rfl ?_ ?_ ?_
  rotate_left 2
  · intro K wx hS hK
    go_simp
    refine (K3.out _).mono (fun e w2 he => ?_)
    refine ⟨_, he.1, ?_⟩
    exact hK _ (Hm.below hS he.2)
  · simp only [Act.put, List.setIfInBounds_toArray, List.set_cons_succ, List.set_cons_zero]
    rfl
  refine RS.go1 (v := ?_) (a' := ?_) rfl ?_ ?_ ?_
  rotate_left 2
  · intro K wx hS hK
    go_simp
    refine (K4.out _).mono (fun e w2 he => ?_)
    refine ⟨_, he.1, ?_⟩
    exact hK _ (Hm.below hS he.2)
  · simp only [Act.put, List.setIfInBounds_toArray, List.set_cons_succ, List.set_cons_zero]
    rfl
  refine RS.go1 (v := ?_) (a' := ?_) rfl ?_ ?_ ?_
  rotate_left 2
  · intro K wx hS hK
    have hq := hc'.out
    go_simp
    exact hK _ hS
  · simp only [Act.put, List.setIfInBounds_toArray, List.set_cons_succ, List.set_cons_zero]
    rfl
  refine RS.go_end ?_
  intro w3 m3
  clear m1
  go_upto_region 4 with fail
  refine RS.wp_region_flat (Hm.Hd w [Hm.W4 (w.heap.size + 1) a, Hm.W4 (w.heap.size) n]) 14 (by kernel_rfl) (m3) ?_
  simp only [List.take_succ_cons, List.take_zero, List.drop_succ_cons, List.drop_zero]
  refine RS.go1 (v := ?_) (a' := ?_) rfl ?_ ?_ ?_
  rotate_left 2
  · intro K wx hS hK
    refine RW.ld rfl rfl (hS.ok (Hm.W4 (w.heap.size) (n)) (by simp)).c ?_
    exact hK _ hS
  · simp only [Act.put, List.setIfInBounds_toArray, List.set_cons_succ, List.set_cons_zero]
    rfl
  refine RS.go1 (v := ?_) (a' := ?_) rfl ?_ ?_ ?_
  rotate_left 2
  · intro K wx hS hK
    refine RW.ld rfl rfl (hS.ok (Hm.W4 (w.heap.size + 1) (a)) (by simp)).c ?_
    exact hK _ hS
  · simp only [Act.put, List.setIfInBounds_toArray, List.set_cons_succ, List.set_cons_zero]
    rfl
  refine RS.go1 (v := ?_) (a' := ?_) rfl ?_ ?_ ?_
  rotate_left 2
  · intro K wx hS hK
    go_simp
    refine (K5.out _).mono (fun e w2 he => ?_)
    refine ⟨_, he.1, ?_⟩
    exact hK _ (Hm.below hS he.2)
  · simp only [Act.put, List.setIfInBounds_toArray, List.set_cons_succ, List.set_cons_zero]
    rfl
  refine RS.go1 (v := ?_) (a' := ?_) rfl ?_ ?_ ?_
  rotate_left 2
  · intro K wx hS hK
    go_simp
    exact hK _ hS
  · simp only [Act.put, List.setIfInBounds_toArray, List.set_cons_succ, List.set_cons_zero]
    rfl
  refine RS.go1 (v := ?_) (a' := ?_) rfl ?_ ?_ ?_
  rotate_left 2
  · intro K wx hS hK
    refine RW.eq (b := true) (y := 0) rfl rfl rfl (decide_eq_true rfl) ?_
    exact hK _ hS
  · simp only [Act.put, List.setIfInBounds_toArray, List.set_cons_succ, List.set_cons_zero]
    rfl
  refine RS.go1 (v := ?_) (a' := ?_) rfl ?_ ?_ ?_
  rotate_left 2
  · intro K wx hS hK
    go_simp
    exact hK _ hS
  · simp only [Act.put, List.setIfInBounds_toArray, List.set_cons_succ, List.set_cons_zero]
    rfl
  refine RS.go0 (a' := ?_) (by kernel_rfl) ?_ ?_
  rotate_left 1
  · simp only [Act.put, List.setIfInBounds_toArray, List.set_cons_succ, List.set_cons_zero]
    rfl
  refine RS.go0 (a' := ?_) (by kernel_rfl) ?_ ?_
  rotate_left 1
  · simp only [Act.put, List.setIfInBounds_toArray, List.set_cons_succ, List.set_cons_zero]
    rfl
  refine RS.go0 (a' := ?_) (by kernel_rfl) ?_ ?_
  rotate_left 1
  · simp only [Act.put, List.setIfInBounds_toArray, List.set_cons_succ, List.set_cons_zero]
    rfl
  refine RS.go0 (a' := ?_) (by kernel_rfl) ?_ ?_
  rotate_left 1
  · simp only [Act.put, List.setIfInBounds_toArray, List.set_cons_succ, List.set_cons_zero]
    rfl
  refine RS.go0 (a' := ?_) (by kernel_rfl) ?_ ?_
  rotate_left 1
  · simp only [Act.put, List.setIfInBounds_toArray, List.set_cons_succ, List.set_cons_zero]
    rfl
  refine RS.go0 (a' := ?_) (by kernel_rfl) ?_ ?_
  rotate_left 1
  · simp only [Act.put, List.setIfInBounds_toArray, List.set_cons_succ, List.set_cons_zero]
    rfl
  refine RS.go1 (v := ?_) (a' := ?_) rfl ?_ ?_ ?_
  rotate_left 2
  · intro K wx hS hK
    go_simp
    exact hK _ hS
  · simp only [Act.put, List.setIfInBounds_toArray, List.set_cons_succ, List.set_cons_zero]
    rfl
  refine RS.go1 (v := ?_) (a' := ?_) rfl ?_ ?_ ?_
  rotate_left 2
  · intro K wx hS hK
    go_simp
    exact hK _ hS
  · simp only [Act.put, List.setIfInBounds_toArray, List.set_cons_succ, List.set_cons_zero]
    rfl
  refine RS.go_end ?_
  intro w9 m9
  refine wpList_nil ?_
  have HB : Hid (Below w.heap.size w w9) := m9.bel
  clear m9 m3
  go_wp2_with fail
  go_ret
  exact ⟨rfl, HB.out⟩
set_option maxHeartbeats 4000000 in
set_option maxRecDepth 100000 in
theorem law_floor_B (n a : Nat) (hn : n < 2 ^ 256) (ha : a < 2 ^ 256) (hc : 255 ≤ n) (hs : sg a = true) (w : World) :
    Calls Try.prog 6 #[Wd n, Wd a] w fun e w' => e = .returned (.bool true) ∧ Below w.heap.size w w' := by
  have KA : Hid (∀ w : World, Calls Try.prog 9 #[] w fun e w' => e = .returned (.bool true) ∧ Below w.heap.size w w') := fun w => alive2_any w
  have K3 : Hid (∀ w : World, Calls Try.prog 16 #[.int .u64 255] w fun e w' => e = .returned (Wd 255) ∧ Below w.heap.size w w') := fun w => int_any 255 (by decide) w
  have K4 : Hid (∀ w : World, Calls Try.prog 19 #[Wd n, Wd 255] w fun e w' => e = .returned (.int .i64 (cm (n : Int) (255 : Int))) ∧ Below w.heap.size w w') := fun w => cmp_any n 255 hn (by decide) w
  have ev : sar (min n 256) a = nt 0 := by
    unfold sg at hs
    unfold sar sg
    rw [hs, if_pos rfl]
    rw [decide_eq_true_iff] at hs
    congr 1
    exact Nat.div_eq_of_lt (Nat.lt_of_lt_of_le (show nt a < 2 ^ 255 by unfold nt; omega) (Nat.pow_le_pow_right (by decide) (by omega)))
  have K5 : Hid (∀ w : World, Calls Try.prog 23 #[Wd n, Wd a] w fun e w' => e = .returned (Wd (nt 0)) ∧ Below w.heap.size w w') := fun w => by have := sar_any n a hn ha w; rwa [ev] at this
  have K6 : Hid (∀ w : World, Calls Try.prog 10 #[Wd 0] w fun e w' => e = .returned (Wd (nt 0)) ∧ Below w.heap.size w w') := fun w => not_any 0 w
  have hc' : Hid (0 ≤ cm (n : Int) (255 : Int)) := cm_ge n 255 hc
  have hd : Hid (decide (nt 0 % 2 ^ 256 = 0 % 2 ^ 256) = false) := (by decide +kernel : decide (nt 0 % 2 ^ 256 = 0 % 2 ^ 256) = false)
  clear hn ha hc hs ev
  generalize cm (n : Int) (255 : Int) = c at *
  generalize nt 0 = Z at *
  generalize Wd 255 = W255 at *
  have m0 := Hm.new4 (g := w.heap.size + 1) (n := a) (T := 24) (Hm.new4 (g := w.heap.size) (n := n) (T := 24) (Hm.start w) (by simp)) (by simp)
  conv => arg 3; unfold Wd
  go_enter Try.func6, Try.ntmps6
  go_wp2_with fail
  generalize (w.alloc (.cells #[.int .u64 (dg n 0), .int .u64 (dg n 1), .int .u64 (dg n 2), .int .u64 (dg n 3)] 24)).alloc (.cells #[.int .u64 (dg a 0), .int .u64 (dg a 1), .int .u64 (dg a 2), .int .u64 (dg a 3)] 24) = W0 at m0 ⊢
  refine (KA.out _).mono ?_
  rintro e w1 ⟨rfl, hb⟩
  have m1 := Hm.below m0 hb
  clear hb m0
  go_upto_region 3 with fail
  refine RS.wp_region_one (Hm.Hd w [Hm.W4 (w.heap.size + 1) a, Hm.W4 (w.heap.size) n]) (by kernel_rfl) (by kernel_rfl) (Hm.drew m1) ?_
  dsimp only [List.toList_toArray]
  refine RS.go1 (v := ?_) (a' := ?_) rfl ?_ ?_ ?_
  rotate_left 2
  · intro K wx hS hK
    refine RW.ld rfl rfl (hS.ok (Hm.W4 (w.heap.size) (n)) (by simp)).c ?_
    exact hK _ hS
  · simp only [Act.put, List.setIfInBounds_toArray, List.set_cons_succ, List.set_cons_zero]
    rfl
  refine RS.go1 (v := ?_) (a' := ?_) rfl ?_ ?_ ?_
  rotate_left 2
  · intro K wx hS hK
    go_simp
    refine (K3.out _).mono (fun e w2 he => ?_)
    refine ⟨_, he.1, ?_⟩
    exact hK _ (Hm.below hS he.2)
  · simp only [Act.put, List.setIfInBounds_toArray, List.set_cons_succ, List.set_cons_zero]
    rfl
  refine RS.go1 (v := ?_) (a' := ?_) rfl ?_ ?_ ?_
  rotate_left 2
  · intro K wx hS hK
    go_simp
    refine (K4.out _).mono (fun e w2 he => ?_)
    refine ⟨_, he.1, ?_⟩
    exact hK _ (Hm.below hS he.2)
  · simp only [Act.put, List.setIfInBounds_toArray, List.set_cons_succ, List.set_cons_zero]
    rfl
  refine RS.go1 (v := ?_) (a' := ?_) rfl ?_ ?_ ?_
  rotate_left 2
  · intro K wx hS hK
    have hq := hc'.out
    go_simp
    exact hK _ hS
  · simp only [Act.put, List.setIfInBounds_toArray, List.set_cons_succ, List.set_cons_zero]
    rfl
  refine RS.go_end ?_
  intro w3 m3
  clear m1
  go_upto_region 4 with fail
  refine RS.wp_region_flat (Hm.Hd w [Hm.W4 (w.heap.size + 1) a, Hm.W4 (w.heap.size) n]) 14 (by kernel_rfl) (m3) ?_
  simp only [List.take_succ_cons, List.take_zero, List.drop_succ_cons, List.drop_zero]
  refine RS.go1 (v := ?_) (a' := ?_) rfl ?_ ?_ ?_
  rotate_left 2
  · intro K wx hS hK
    refine RW.ld rfl rfl (hS.ok (Hm.W4 (w.heap.size) (n)) (by simp)).c ?_
    exact hK _ hS
  · simp only [Act.put, List.setIfInBounds_toArray, List.set_cons_succ, List.set_cons_zero]
    rfl
  refine RS.go1 (v := ?_) (a' := ?_) rfl ?_ ?_ ?_
  rotate_left 2
  · intro K wx hS hK
    refine RW.ld rfl rfl (hS.ok (Hm.W4 (w.heap.size + 1) (a)) (by simp)).c ?_
    exact hK _ hS
  · simp only [Act.put, List.setIfInBounds_toArray, List.set_cons_succ, List.set_cons_zero]
    rfl
  refine RS.go1 (v := ?_) (a' := ?_) rfl ?_ ?_ ?_
  rotate_left 2
  · intro K wx hS hK
    go_simp
    refine (K5.out _).mono (fun e w2 he => ?_)
    refine ⟨_, he.1, ?_⟩
    exact hK _ (Hm.below hS he.2)
  · simp only [Act.put, List.setIfInBounds_toArray, List.set_cons_succ, List.set_cons_zero]
    rfl
  refine RS.go1 (v := ?_) (a' := ?_) rfl ?_ ?_ ?_
  rotate_left 2
  · intro K wx hS hK
    go_simp
    exact hK _ hS
  · simp only [Act.put, List.setIfInBounds_toArray, List.set_cons_succ, List.set_cons_zero]
    rfl
  refine RS.go1 (v := ?_) (a' := ?_) rfl ?_ ?_ ?_
  rotate_left 2
  · intro K wx hS hK
    refine RW.eq (b := false) (y := 0) rfl rfl rfl (hd.out) ?_
    exact hK _ hS
  · simp only [Act.put, List.setIfInBounds_toArray, List.set_cons_succ, List.set_cons_zero]
    rfl
  refine RS.go1 (v := ?_) (a' := ?_) rfl ?_ ?_ ?_
  rotate_left 2
  · intro K wx hS hK
    go_simp
    exact hK _ hS
  · simp only [Act.put, List.setIfInBounds_toArray, List.set_cons_succ, List.set_cons_zero]
    rfl
  refine RS.go1g (v := ?_) (a' := ?_) (by kernel_rfl) ?_ ?_ ?_
  rotate_left 2
  · intro K wx hS hK
    refine RW.ld rfl rfl (hS.ok (Hm.W4 (w.heap.size) (n)) (by simp)).c ?_
    exact hK _ hS
  · simp only [Act.put, List.setIfInBounds_toArray, List.set_cons_succ, List.set_cons_zero]
    rfl
  refine RS.go1g (v := ?_) (a' := ?_) (by kernel_rfl) ?_ ?_ ?_
  rotate_left 2
  · intro K wx hS hK
    refine RW.ld rfl rfl (hS.ok (Hm.W4 (w.heap.size + 1) (a)) (by simp)).c ?_
    exact hK _ hS
  · simp only [Act.put, List.setIfInBounds_toArray, List.set_cons_succ, List.set_cons_zero]
    rfl
  refine RS.go1g (v := ?_) (a' := ?_) (by kernel_rfl) ?_ ?_ ?_
  rotate_left 2
  · intro K wx hS hK
    go_simp
    refine (K5.out _).mono (fun e w2 he => ?_)
    refine ⟨_, he.1, ?_⟩
    exact hK _ (Hm.below hS he.2)
  · simp only [Act.put, List.setIfInBounds_toArray, List.set_cons_succ, List.set_cons_zero]
    rfl
  refine RS.go1g (v := ?_) (a' := ?_) (by kernel_rfl) ?_ ?_ ?_
  rotate_left 2
  · intro K wx hS hK
    go_simp
    exact hK _ hS
  · simp only [Act.put, List.setIfInBounds_toArray, List.set_cons_succ, List.set_cons_zero]
    rfl
  refine RS.go1g (v := ?_) (a' := ?_) (by kernel_rfl) ?_ ?_ ?_
  rotate_left 2
  · intro K wx hS hK
    go_simp
    refine (K6.out _).mono (fun e w2 he => ?_)
    refine ⟨_, he.1, ?_⟩
    exact hK _ (Hm.below hS he.2)
  · simp only [Act.put, List.setIfInBounds_toArray, List.set_cons_succ, List.set_cons_zero]
    rfl
  refine RS.go1g (v := ?_) (a' := ?_) (by kernel_rfl) ?_ ?_ ?_
  rotate_left 2
  · intro K wx hS hK
    refine RW.eq (b := true) rfl rfl rfl (decide_eq_true rfl) ?_
    exact hK _ hS
  · simp only [Act.put, List.setIfInBounds_toArray, List.set_cons_succ, List.set_cons_zero]
    rfl
  refine RS.go1 (v := ?_) (a' := ?_) rfl ?_ ?_ ?_
  rotate_left 2
  · intro K wx hS hK
    go_simp
    exact hK _ hS
  · simp only [Act.put, List.setIfInBounds_toArray, List.set_cons_succ, List.set_cons_zero]
    rfl
  refine RS.go1 (v := ?_) (a' := ?_) rfl ?_ ?_ ?_
  rotate_left 2
  · intro K wx hS hK
    go_simp
    exact hK _ hS
  · simp only [Act.put, List.setIfInBounds_toArray, List.set_cons_succ, List.set_cons_zero]
    rfl
  refine RS.go_end ?_
  intro w9 m9
  refine wpList_nil ?_
  have HB : Hid (Below w.heap.size w w9) := m9.bel
  clear m9 m3
  go_wp2_with fail
  go_ret
  exact ⟨rfl, HB.out⟩
set_option maxHeartbeats 4000000 in
set_option maxRecDepth 100000 in
theorem law_floor_C (n a : Nat) (hn : n < 2 ^ 256) (ha : a < 2 ^ 256) (hc : n < 255) (w : World) :
    Calls Try.prog 6 #[Wd n, Wd a] w fun e w' => e = .returned (.bool true) ∧ Below w.heap.size w w' := by
  have KA : Hid (∀ w : World, Calls Try.prog 9 #[] w fun e w' => e = .returned (.bool true) ∧ Below w.heap.size w w') := fun w => alive2_any w
  obtain ⟨P, hP⟩ : ∃ P, P = 2 ^ n := ⟨_, rfl⟩
  obtain ⟨s, hs⟩ : ∃ s, s = sar n a := ⟨_, rfl⟩
  obtain ⟨r, hr⟩ : ∃ r, r = (a + 2 ^ 256 - s * P % 2 ^ 256) % 2 ^ 256 := ⟨_, rfl⟩
  have hsl : s < 2 ^ 256 := by rw [hs]; exact sar_lt n a ha
  have hPl : P < 2 ^ 256 := by rw [hP]; exact Nat.pow_lt_pow_right (by decide) (by omega)
  have hq := sar_rest n a ha hc
  rw [← hs, ← hP, ← hr] at hq
  have K1 : Hid (∀ w : World, Calls Try.prog 16 #[.int .u64 2] w fun e w' => e = .returned (Wd 2) ∧ Below w.heap.size w w') := fun w => int_any 2 (by decide) w
  have K2 : Hid (∀ w : World, Calls Try.prog 18 #[Wd 2, Wd n] w fun e w' => e = .returned (Wd P) ∧ Below w.heap.size w w') := fun w => by rw [hP]; exact exp_any 2 n hn w
  have K3 : Hid (∀ w : World, Calls Try.prog 16 #[.int .u64 255] w fun e w' => e = .returned (Wd 255) ∧ Below w.heap.size w w') := fun w => int_any 255 (by decide) w
  have K4 : Hid (∀ w : World, Calls Try.prog 19 #[Wd n, Wd 255] w fun e w' => e = .returned (.int .i64 (-1)) ∧ Below w.heap.size w w') := fun w => by have := cmp_any n 255 hn (by decide) w; rwa [cm_lt n 255 hc] at this
  have K5 : Hid (∀ w : World, Calls Try.prog 23 #[Wd n, Wd a] w fun e w' => e = .returned (Wd s) ∧ Below w.heap.size w w') := fun w => by have := sar_any n a hn ha w; rw [show min n 256 = n by omega] at this; rw [hs]; exact this
  have K6 : Hid (∀ w : World, Calls Try.prog 15 #[Wd s, Wd P] w fun e w' => e = .returned (Wd (s * P)) ∧ Below w.heap.size w w') := fun w => mul_mod _ _ w
  have K7 : Hid (∀ w : World, Calls Try.prog 24 #[Wd a, Wd (s * P)] w fun e w' => e = .returned (Wd r) ∧ Below w.heap.size w w') := fun w => by have := sub_any a (s * P % 2 ^ 256) (Nat.mod_lt _ (by decide)) w; rw [Wd_mod] at this; rw [hr, Wd_mod]; exact this
  have K8 : Hid (∀ w : World, Calls Try.prog 19 #[Wd r, Wd P] w fun e w' => e = .returned (.int .i64 (-1)) ∧ Below w.heap.size w w') := fun w => by have := cmp_any r P (by rw [hr]; exact Nat.mod_lt _ (by decide)) hPl w; rwa [cm_lt r P hq.1] at this
  have K9 : Hid (∀ w : World, Calls Try.prog 25 #[Wd s, Wd 0] w fun e w' => e = .returned (.int .i64 (cm (hf s : Int) (hf 0 : Int))) ∧ Below w.heap.size w w') := fun w => scmp_any s 0 hsl (by decide) w
  have K10 : Hid (∀ w : World, Calls Try.prog 25 #[Wd a, Wd 0] w fun e w' => e = .returned (.int .i64 (cm (hf a : Int) (hf 0 : Int))) ∧ Below w.heap.size w w') := fun w => scmp_any a 0 ha (by decide) w
  have E1 : Hid (decide (cm (hf s : Int) (hf 0 : Int) < 0) = sg a) := (cm_sg s hsl).trans hq.2
  have E2 : Hid (decide (cm (hf a : Int) (hf 0 : Int) < 0) = sg a) := cm_sg a ha
  clear hn ha hc hP hs hr hsl hPl hq
  generalize cm (hf s : Int) (hf 0 : Int) = c1 at *
  generalize cm (hf a : Int) (hf 0 : Int) = c2 at *
  generalize sg a = b at *
  generalize s * P = n1 at *
  generalize Wd 255 = W255 at *
  generalize Wd 2 = W22 at *
  have m0 := Hm.new4 (g := w.heap.size + 1) (n := a) (T := 24) (Hm.new4 (g := w.heap.size) (n := n) (T := 24) (Hm.start w) (by simp)) (by simp)
  conv => arg 3; unfold Wd
  go_enter Try.func6, Try.ntmps6
  go_wp2_with fail
  generalize (w.alloc (.cells #[.int .u64 (dg n 0), .int .u64 (dg n 1), .int .u64 (dg n 2), .int .u64 (dg n 3)] 24)).alloc (.cells #[.int .u64 (dg a 0), .int .u64 (dg a 1), .int .u64 (dg a 2), .int .u64 (dg a 3)] 24) = W0 at m0 ⊢
  refine (KA.out _).mono ?_
  rintro e w1 ⟨rfl, hb⟩
  have m1 := Hm.below m0 hb
  clear hb m0
  go_upto_region 3 with fail
  refine RS.wp_region_one (Hm.Hd w [Hm.W4 (w.heap.size + 1) a, Hm.W4 (w.heap.size) n]) (by kernel_rfl) (by kernel_rfl) (Hm.drew m1) ?_
  dsimp only [List.toList_toArray]
  refine RS.go1 (v := ?_) (a' := ?_) rfl ?_ ?_ ?_
  rotate_left 2
  · intro K wx hS hK
    refine RW.ld rfl rfl (hS.ok (Hm.W4 (w.heap.size) (n)) (by simp)).c ?_
    exact hK _ hS
  · simp only [Act.put, List.setIfInBounds_toArray, List.set_cons_succ, List.set_cons_zero]
    rfl
  refine RS.go1 (v := ?_) (a' := ?_) rfl ?_ ?_ ?_
  rotate_left 2
  · intro K wx hS hK
    go_simp
    refine (K3.out _).mono (fun e w2 he => ?_)
    refine ⟨_, he.1, ?_⟩
    exact hK _ (Hm.below hS he.2)
  · simp only [Act.put, List.setIfInBounds_toArray, List.set_cons_succ, List.set_cons_zero]
    rfl
  refine RS.go1 (v := ?_) (a' := ?_) rfl ?_ ?_ ?_
  rotate_left 2
  · intro K wx hS hK
    go_simp
    refine (K4.out _).mono (fun e w2 he => ?_)
    refine ⟨_, he.1, ?_⟩
    exact hK _ (Hm.below hS he.2)
  · simp only [Act.put, List.setIfInBounds_toArray, List.set_cons_succ, List.set_cons_zero]
    rfl
  refine RS.go1 (v := ?_) (a' := ?_) rfl ?_ ?_ ?_
  rotate_left 2
  · intro K wx hS hK
    go_simp
    exact hK _ hS
  · simp only [Act.put, List.setIfInBounds_toArray, List.set_cons_succ, List.set_cons_zero]
    rfl
  refine RS.go_end ?_
  intro w2 m2
  clear m1
  go_upto_region 5 with fail
  refine RN.wp_region_new1 (Hm.Hd w [Hm.W4 (w.heap.size + 1) a, Hm.W4 (w.heap.size) n]) (Hm.Fresh w [Hm.W4 (w.heap.size + 1) a, Hm.W4 (w.heap.size) n]) 3 5 (fun _ _ h hb => Hm.below h hb) (fun _ _ _ h hb => Hm.Fresh_below h hb) (fun _ _ h => h.ok.hi) (by kernel_rfl) (by kernel_rfl) (by decide) (by kernel_rfl) (Hm.drew m2) rfl (fun o ho => ?_) ?_
  · obtain rfl := Option.some.inj ho
    exact ⟨rfl, fun ρ K wx hS hK => RW.al rfl hS hK⟩
  simp only [List.take_succ_cons, List.take_zero, List.drop_succ_cons, List.drop_zero]
  refine RN.go1 (v := ?_) (a' := ?_) rfl ?_ ?_ ?_
  rotate_left 2
  · intro K wx hS hK
    go_simp
    refine (K1.out _).mono (fun e w2 he => ?_)
    refine ⟨_, he.1, ?_⟩
    exact hK _ he.2
  · simp only [Act.put, List.setIfInBounds_toArray, List.set_cons_succ, List.set_cons_zero]
    rfl
  refine RN.go1 (v := ?_) (a' := ?_) rfl ?_ ?_ ?_
  rotate_left 2
  · intro K wx hS hK
    refine RW.ld rfl rfl (hS.ok (Hm.W4 (w.heap.size) (n)) (by simp)).c ?_
    exact hK _ (Below.refl _ _)
  · simp only [Act.put, List.setIfInBounds_toArray, List.set_cons_succ, List.set_cons_zero]
    rfl
  refine RN.go1 (v := ?_) (a' := ?_) rfl ?_ ?_ ?_
  rotate_left 2
  · intro K wx hS hK
    go_simp
    refine (K2.out _).mono (fun e w2 he => ?_)
    refine ⟨_, he.1, ?_⟩
    exact hK _ he.2
  · simp only [Act.put, List.setIfInBounds_toArray, List.set_cons_succ, List.set_cons_zero]
    rfl
  refine RN.go_end ?_
  intro g w3 m3 f3
  have m4 := Hm.cons m3 f3
  have c3 : ∀ o, o < 4 → w3.cell? ⟨g, o, none⟩ = some (.int .u64 (dg 0 o)) := (m4.ok _ (List.mem_cons_self ..)).c
  have z3 : ∀ o, w3.frozen? ⟨g, o, none⟩ = false := (m4.ok _ (List.mem_cons_self ..)).f
  have HV : Hid (Hm.Hd w (Hm.W4 g P :: [Hm.W4 (w.heap.size + 1) a, Hm.W4 (w.heap.size) n]) (((((w3).setCell ⟨g, 0, none⟩ (.int .u64 (dg P 0))).setCell ⟨g, 1, none⟩ (.int .u64 (dg P 1))).setCell ⟨g, 2, none⟩ (.int .u64 (dg P 2))).setCell ⟨g, 3, none⟩ (.int .u64 (dg P 3)))) := Hm.set4 m4 f3.ne
  clear m4 m3 f3 m2
  unfold Wd
  simp only [Act.put, List.setIfInBounds_toArray, List.set_cons_succ, List.set_cons_zero]
  go_upto_region 6 with fail
  generalize ((((w3).setCell ⟨g, 0, none⟩ (.int .u64 (dg P 0))).setCell ⟨g, 1, none⟩ (.int .u64 (dg P 1))).setCell ⟨g, 2, none⟩ (.int .u64 (dg P 2))).setCell ⟨g, 3, none⟩ (.int .u64 (dg P 3)) = W3 at HV ⊢
  have m4 := HV.out
  clear HV c3 z3
  generalize g = h at *
  refine RN.wp_region_new1 (Hm.Hd w [Hm.W4 h P, Hm.W4 (w.heap.size + 1) a, Hm.W4 (w.heap.size) n]) (Hm.Fresh w [Hm.W4 h P, Hm.W4 (w.heap.size + 1) a, Hm.W4 (w.heap.size) n]) 7 6 (fun _ _ h hb => Hm.below h hb) (fun _ _ _ h hb => Hm.Fresh_below h hb) (fun _ _ h => h.ok.hi) (by kernel_rfl) (by kernel_rfl) (by decide) (by kernel_rfl) (Hm.drew m4) rfl (fun o ho => ?_) ?_
  · obtain rfl := Option.some.inj ho
    exact ⟨rfl, fun ρ K wx hS hK => RW.al rfl hS hK⟩
  simp only [List.take_succ_cons, List.take_zero, List.drop_succ_cons, List.drop_zero]
  refine RN.go1 (v := ?_) (a' := ?_) rfl ?_ ?_ ?_
  rotate_left 2
  · intro K wx hS hK
    refine RW.ld rfl rfl (hS.ok (Hm.W4 (w.heap.size + 1) (a)) (by simp)).c ?_
    exact hK _ (Below.refl _ _)
  · simp only [Act.put, List.setIfInBounds_toArray, List.set_cons_succ, List.set_cons_zero]
    rfl
  refine RN.go1 (v := ?_) (a' := ?_) rfl ?_ ?_ ?_
  rotate_left 2
  · intro K wx hS hK
    refine RW.ld rfl rfl (hS.ok (Hm.W4 (w.heap.size) (n)) (by simp)).c ?_
    exact hK _ (Below.refl _ _)
  · simp only [Act.put, List.setIfInBounds_toArray, List.set_cons_succ, List.set_cons_zero]
    rfl
  refine RN.go1 (v := ?_) (a' := ?_) rfl ?_ ?_ ?_
  rotate_left 2
  · intro K wx hS hK
    refine RW.ld rfl rfl (hS.ok (Hm.W4 (w.heap.size + 1) (a)) (by simp)).c ?_
    exact hK _ (Below.refl _ _)
  · simp only [Act.put, List.setIfInBounds_toArray, List.set_cons_succ, List.set_cons_zero]
    rfl
  refine RN.go1 (v := ?_) (a' := ?_) rfl ?_ ?_ ?_
  rotate_left 2
  · intro K wx hS hK
    go_simp
    refine (K5.out _).mono (fun e w2 he => ?_)
    refine ⟨_, he.1, ?_⟩
    exact hK _ he.2
  · simp only [Act.put, List.setIfInBounds_toArray, List.set_cons_succ, List.set_cons_zero]
    rfl
  refine RN.go1 (v := ?_) (a' := ?_) rfl ?_ ?_ ?_
  rotate_left 2
  · intro K wx hS hK
    refine RW.ld rfl rfl (hS.ok (Hm.W4 (h) (P)) (by simp)).c ?_
    exact hK _ (Below.refl _ _)
  · simp only [Act.put, List.setIfInBounds_toArray, List.set_cons_succ, List.set_cons_zero]
    rfl
  refine RN.go1 (v := ?_) (a' := ?_) rfl ?_ ?_ ?_
  rotate_left 2
  · intro K wx hS hK
    go_simp
    refine (K6.out _).mono (fun e w2 he => ?_)
    refine ⟨_, he.1, ?_⟩
    exact hK _ he.2
  · simp only [Act.put, List.setIfInBounds_toArray, List.set_cons_succ, List.set_cons_zero]
    rfl
  refine RN.go1 (v := ?_) (a' := ?_) rfl ?_ ?_ ?_
  rotate_left 2
  · intro K wx hS hK
    go_simp
    refine (K7.out _).mono (fun e w2 he => ?_)
    refine ⟨_, he.1, ?_⟩
    exact hK _ he.2
  · simp only [Act.put, List.setIfInBounds_toArray, List.set_cons_succ, List.set_cons_zero]
    rfl
  refine RN.go_end ?_
  intro g w3 m3 f3
  clear m4
  have m4 := Hm.cons m3 f3
  have c3 : ∀ o, o < 4 → w3.cell? ⟨g, o, none⟩ = some (.int .u64 (dg 0 o)) := (m4.ok _ (List.mem_cons_self ..)).c
  have z3 : ∀ o, w3.frozen? ⟨g, o, none⟩ = false := (m4.ok _ (List.mem_cons_self ..)).f
  have HV : Hid (Hm.Hd w (Hm.W4 g r :: [Hm.W4 h P, Hm.W4 (w.heap.size + 1) a, Hm.W4 (w.heap.size) n]) (((((w3).setCell ⟨g, 0, none⟩ (.int .u64 (dg r 0))).setCell ⟨g, 1, none⟩ (.int .u64 (dg r 1))).setCell ⟨g, 2, none⟩ (.int .u64 (dg r 2))).setCell ⟨g, 3, none⟩ (.int .u64 (dg r 3)))) := Hm.set4 m4 f3.ne
  clear m4 m3 f3 
  unfold Wd
  simp only [Act.put, List.setIfInBounds_toArray, List.set_cons_succ, List.set_cons_zero]
  go_upto_region 7 with fail
  generalize ((((w3).setCell ⟨g, 0, none⟩ (.int .u64 (dg r 0))).setCell ⟨g, 1, none⟩ (.int .u64 (dg r 1))).setCell ⟨g, 2, none⟩ (.int .u64 (dg r 2))).setCell ⟨g, 3, none⟩ (.int .u64 (dg r 3)) = W4 at HV ⊢
  have m4 := HV.out
  clear HV c3 z3
  refine RS.wp_region_one (Hm.Hd w [Hm.W4 g r, Hm.W4 h P, Hm.W4 (w.heap.size + 1) a, Hm.W4 (w.heap.size) n]) (by kernel_rfl) (by kernel_rfl) (Hm.drew m4) ?_
  dsimp only [List.toList_toArray]
  refine RS.go1 (v := ?_) (a' := ?_) rfl ?_ ?_ ?_
  rotate_left 2
  · intro K wx hS hK
    refine RW.ld rfl rfl (hS.ok (Hm.W4 (g) (r)) (by simp)).c ?_
    exact hK _ hS
  · simp only [Act.put, List.setIfInBounds_toArray, List.set_cons_succ, List.set_cons_zero]
    rfl
  refine RS.go1 (v := ?_) (a' := ?_) rfl ?_ ?_ ?_
  rotate_left 2
  · intro K wx hS hK
    refine RW.ld rfl rfl (hS.ok (Hm.W4 (h) (P)) (by simp)).c ?_
    exact hK _ hS
  · simp only [Act.put, List.setIfInBounds_toArray, List.set_cons_succ, List.set_cons_zero]
    rfl
  refine RS.go1 (v := ?_) (a' := ?_) rfl ?_ ?_ ?_
  rotate_left 2
  · intro K wx hS hK
    go_simp
    refine (K8.out _).mono (fun e w2 he => ?_)
    refine ⟨_, he.1, ?_⟩
    exact hK _ (Hm.below hS he.2)
  · simp only [Act.put, List.setIfInBounds_toArray, List.set_cons_succ, List.set_cons_zero]
    rfl
  refine RS.go1 (v := ?_) (a' := ?_) rfl ?_ ?_ ?_
  rotate_left 2
  · intro K wx hS hK
    go_simp
    exact hK _ hS
  · simp only [Act.put, List.setIfInBounds_toArray, List.set_cons_succ, List.set_cons_zero]
    rfl
  refine RS.go1 (v := ?_) (a' := ?_) rfl ?_ ?_ ?_
  rotate_left 2
  · intro K wx hS hK
    go_simp
    exact hK _ hS
  · simp only [Act.put, List.setIfInBounds_toArray, List.set_cons_succ, List.set_cons_zero]
    rfl
  refine RS.go1g (v := ?_) (a' := ?_) (by kernel_rfl) ?_ ?_ ?_
  rotate_left 2
  · intro K wx hS hK
    refine RW.ld rfl rfl (hS.ok (Hm.W4 (w.heap.size) (n)) (by simp)).c ?_
    exact hK _ hS
  · simp only [Act.put, List.setIfInBounds_toArray, List.set_cons_succ, List.set_cons_zero]
    rfl
  refine RS.go1g (v := ?_) (a' := ?_) (by kernel_rfl) ?_ ?_ ?_
  rotate_left 2
  · intro K wx hS hK
    refine RW.ld rfl rfl (hS.ok (Hm.W4 (w.heap.size + 1) (a)) (by simp)).c ?_
    exact hK _ hS
  · simp only [Act.put, List.setIfInBounds_toArray, List.set_cons_succ, List.set_cons_zero]
    rfl
  refine RS.go1g (v := ?_) (a' := ?_) (by kernel_rfl) ?_ ?_ ?_
  rotate_left 2
  · intro K wx hS hK
    go_simp
    refine (K5.out _).mono (fun e w2 he => ?_)
    refine ⟨_, he.1, ?_⟩
    exact hK _ (Hm.below hS he.2)
  · simp only [Act.put, List.setIfInBounds_toArray, List.set_cons_succ, List.set_cons_zero]
    rfl
  refine RS.go1g (v := ?_) (a' := ?_) (by kernel_rfl) ?_ ?_ ?_
  rotate_left 2
  · intro K wx hS hK
    go_simp
    exact hK _ hS
  · simp only [Act.put, List.setIfInBounds_toArray, List.set_cons_succ, List.set_cons_zero]
    rfl
  refine RS.go1g (v := ?_) (a' := ?_) (by kernel_rfl) ?_ ?_ ?_
  rotate_left 2
  · intro K wx hS hK
    go_simp
    refine (K9.out _).mono (fun e w2 he => ?_)
    refine ⟨_, he.1, ?_⟩
    exact hK _ (Hm.below hS he.2)
  · simp only [Act.put, List.setIfInBounds_toArray, List.set_cons_succ, List.set_cons_zero]
    rfl
  refine RS.go1g (v := ?_) (a' := ?_) (by kernel_rfl) ?_ ?_ ?_
  rotate_left 2
  · intro K wx hS hK
    have e := E1.out
    go_simp
    exact hK _ hS
  · simp only [Act.put, List.setIfInBounds_toArray, List.set_cons_succ, List.set_cons_zero]
    rfl
  refine RS.go1g (v := ?_) (a' := ?_) (by kernel_rfl) ?_ ?_ ?_
  rotate_left 2
  · intro K wx hS hK
    refine RW.ld rfl rfl (hS.ok (Hm.W4 (w.heap.size + 1) (a)) (by simp)).c ?_
    exact hK _ hS
  · simp only [Act.put, List.setIfInBounds_toArray, List.set_cons_succ, List.set_cons_zero]
    rfl
  refine RS.go1g (v := ?_) (a' := ?_) (by kernel_rfl) ?_ ?_ ?_
  rotate_left 2
  · intro K wx hS hK
    go_simp
    exact hK _ hS
  · simp only [Act.put, List.setIfInBounds_toArray, List.set_cons_succ, List.set_cons_zero]
    rfl
  refine RS.go1g (v := ?_) (a' := ?_) (by kernel_rfl) ?_ ?_ ?_
  rotate_left 2
  · intro K wx hS hK
    go_simp
    refine (K10.out _).mono (fun e w2 he => ?_)
    refine ⟨_, he.1, ?_⟩
    exact hK _ (Hm.below hS he.2)
  · simp only [Act.put, List.setIfInBounds_toArray, List.set_cons_succ, List.set_cons_zero]
    rfl
  refine RS.go1g (v := ?_) (a' := ?_) (by kernel_rfl) ?_ ?_ ?_
  rotate_left 2
  · intro K wx hS hK
    have e := E2.out
    go_simp
    exact hK _ hS
  · simp only [Act.put, List.setIfInBounds_toArray, List.set_cons_succ, List.set_cons_zero]
    rfl
  refine RS.go1g (v := ?_) (a' := ?_) (by kernel_rfl) ?_ ?_ ?_
  rotate_left 2
  · intro K wx hS hK
    go_simp
    exact hK _ hS
  · simp only [Act.put, List.setIfInBounds_toArray, List.set_cons_succ, List.set_cons_zero]
    rfl
  refine RS.go1 (v := ?_) (a' := ?_) rfl ?_ ?_ ?_
  rotate_left 2
  · intro K wx hS hK
    go_simp
    exact hK _ hS
  · simp only [Act.put, List.setIfInBounds_toArray, List.set_cons_succ, List.set_cons_zero]
    rfl
  refine RS.go1 (v := ?_) (a' := ?_) rfl ?_ ?_ ?_
  rotate_left 2
  · intro K wx hS hK
    go_simp
    exact hK _ hS
  · simp only [Act.put, List.setIfInBounds_toArray, List.set_cons_succ, List.set_cons_zero]
    rfl
  refine RS.go_end ?_
  intro w9 m9
  have HB : Hid (Below w.heap.size w w9) := m9.bel
  clear m9
  go_wp2_with fail
  go_ret
  exact ⟨rfl, HB.out⟩
theorem law_floor (n a : Nat) (hn : n < 2 ^ 256) (ha : a < 2 ^ 256) (w : World) :
    Calls Try.prog 6 #[Wd n, Wd a] w fun e w' => e = .returned (.bool true) ∧ Below w.heap.size w w' := by
  rcases Nat.lt_or_ge n 255 with h | h
  · exact law_floor_C n a hn ha h w
  · cases hs : sg a
    · exact law_floor_A n a hn ha h hs w
    · exact law_floor_B n a hn ha h hs w
end Go.Proofs.Ytblodmjnhmfjeaa
