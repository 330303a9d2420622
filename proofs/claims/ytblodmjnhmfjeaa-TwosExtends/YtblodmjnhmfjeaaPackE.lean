/- lampbearerkeep.TwosScale. -/
import Derived.Test.YtblodmjnhmfjeaaPackD
import Derived.Test.YtblodmjnhmfjeaaPackA
import Derived.Laws.BytesArg
import Derived.Test.YtblodmjnhmfjeaaPackB
import Derived.Laws.BitsAllLaws
import Derived.Deep.MidRow
import Derived.Deep.Cut
namespace Go.Proofs.Ytblodmjnhmfjeaa
open Go.RowKit Go.Shelf
theorem cm_ge (n k : Nat) (h : k ≤ n) : 0 ≤ cm (n : Int) (k : Int) := by unfold cm; split <;> (try split) <;> omega
theorem cm_lt (n k : Nat) (h : n < k) : cm (n : Int) (k : Int) = -1 := by unfold cm; rw [if_pos (by omega)]
theorem pow_hi (a n : Nat) (h : 256 ≤ n) : a * 2 ^ n % 2 ^ 256 = 0 := by
  obtain ⟨k, rfl⟩ : ∃ k, n = 256 + k := ⟨n - 256, by omega⟩
  rw [Nat.pow_add, ← Nat.mul_assoc, Nat.mul_comm a, Nat.mul_assoc, Nat.mul_mod_right]
set_option maxHeartbeats 4000000 in
set_option maxRecDepth 100000 in
theorem law_scale_hi (n a : Nat) (hn : n < 2 ^ 256) (ha : a < 2 ^ 256) (hc : 256 ≤ n) (w : World) :
    Calls Try.prog 5 #[Wd n, Wd a] w fun e w' => e = .returned (.bool true) ∧ Below w.heap.size w w' := by
  have KA : Hid (∀ w : World, Calls Try.prog 9 #[] w fun e w' => e = .returned (.bool true) ∧ Below w.heap.size w w') := fun w => alive2_any w
  obtain ⟨P, hP⟩ : ∃ P, P = 2 ^ n := ⟨_, rfl⟩
  have K1 : Hid (∀ w : World, Calls Try.prog 16 #[.int .u64 2] w fun e w' => e = .returned (Wd 2) ∧ Below w.heap.size w w') := fun w => int_any 2 (by decide) w
  have K2 : Hid (∀ w : World, Calls Try.prog 18 #[Wd 2, Wd n] w fun e w' => e = .returned (Wd P) ∧ Below w.heap.size w w') := fun w => by rw [hP]; exact exp_any 2 n hn w
  have K3 : Hid (∀ w : World, Calls Try.prog 16 #[.int .u64 256] w fun e w' => e = .returned (Wd 256) ∧ Below w.heap.size w w') := fun w => int_any 256 (by decide) w
  have K4 : Hid (∀ w : World, Calls Try.prog 19 #[Wd n, Wd 256] w fun e w' => e = .returned (.int .i64 (cm (n : Int) (256 : Int))) ∧ Below w.heap.size w w') := fun w => cmp_any n 256 hn (by decide) w
  have K5 : Hid (∀ w : World, Calls Try.prog 20 #[Wd n, Wd a] w fun e w' => e = .returned (Wd (a * P)) ∧ Below w.heap.size w w') := fun w => by have := shl_any n a hn ha w; rw [show min n 256 = 256 by omega, Nat.mul_mod_left] at this; rw [hP, ← Wd_mod (a * 2 ^ n), pow_hi a n hc]; exact this
  have K6 : Hid (∀ w : World, Calls Try.prog 15 #[Wd a, Wd P] w fun e w' => e = .returned (Wd (a * P)) ∧ Below w.heap.size w w') := fun w => mul_mod _ _ w
  have K7 : Hid (∀ w : World, Calls Try.prog 21 #[Wd n, Wd a] w fun e w' => e = .returned (Wd 0) ∧ Below w.heap.size w w') := fun w => by have := shr_any n a hn ha w; rwa [show min n 256 = 256 by omega, Nat.div_eq_of_lt ha] at this
  have hc' : Hid (0 ≤ cm (n : Int) (256 : Int)) := cm_ge n 256 hc
  clear hn ha hc hP
  generalize a * P = n1 at *
  generalize cm (n : Int) (256 : Int) = c at *
  generalize Wd 2 = W2 at *
  generalize Wd 256 = W256 at *
  have m0 := Hm.new4 (g := w.heap.size + 1) (n := a) (T := 24) (Hm.new4 (g := w.heap.size) (n := n) (T := 24) (Hm.start w) (by simp)) (by simp)
  conv => arg 3; unfold Wd
  go_enter Try.func5, Try.ntmps5
  go_wp2_with fail
  generalize (w.alloc (.cells #[.int .u64 (dg n 0), .int .u64 (dg n 1), .int .u64 (dg n 2), .int .u64 (dg n 3)] 24)).alloc (.cells #[.int .u64 (dg a 0), .int .u64 (dg a 1), .int .u64 (dg a 2), .int .u64 (dg a 3)] 24) = W0 at m0 ⊢
  refine (KA.out _).mono ?_
  rintro e w1 ⟨rfl, hb⟩
  have m1 := Hm.below m0 hb
  clear hb m0
  go_upto_region 3 with fail
  refine RN.wp_region_new1 (Hm.Hd w [Hm.W4 (w.heap.size + 1) a, Hm.W4 (w.heap.size) n]) (Hm.Fresh w [Hm.W4 (w.heap.size + 1) a, Hm.W4 (w.heap.size) n]) 3 5 (fun _ _ h hb => Hm.below h hb) (fun _ _ _ h hb => Hm.Fresh_below h hb) (fun _ _ h => h.ok.hi) (by kernel_rfl) (by kernel_rfl) (by decide) (by kernel_rfl) (Hm.drew m1) rfl (fun o ho => ?_) ?_
  · obtain rfl := Option.some.inj ho
    exact ⟨rfl, fun ρ K wx hS hK => RW.al rfl hS hK⟩
  simp only [List.take_succ_cons, List.take_zero, List.drop_succ_cons, List.drop_zero]
  refine RN.go1 (v := ?_) (a' := ?_) rfl ?_ ?_ ?_
  rotate_left 2
  · intro K wx hS hK
    go_simp
    refine (K1.out _).mono (fun e w2 he => ?_)
    refine ⟨_, he.1, ?_⟩
    exact hK _ he.2
  · simp only [Act.put, List.setIfInBounds_toArray, List.set_cons_succ, List.set_cons_zero]
    rfl
  refine RN.go1 (v := ?_) (a' := ?_) rfl ?_ ?_ ?_
  rotate_left 2
  · intro K wx hS hK
    refine RW.ld rfl rfl (hS.ok (Hm.W4 (w.heap.size) (n)) (by simp)).c ?_
    exact hK _ (Below.refl _ _)
  · simp only [Act.put, List.setIfInBounds_toArray, List.set_cons_succ, List.set_cons_zero]
    rfl
  refine RN.go1 (v := ?_) (a' := ?_) rfl ?_ ?_ ?_
  rotate_left 2
  · intro K wx hS hK
    go_simp
    refine (K2.out _).mono (fun e w2 he => ?_)
    refine ⟨_, he.1, ?_⟩
    exact hK _ he.2
  · simp only [Act.put, List.setIfInBounds_toArray, List.set_cons_succ, List.set_cons_zero]
    rfl
  refine RN.go_end ?_
  intro g w3 m3 f3
  have m4 := Hm.cons m3 f3
  have c3 : ∀ o, o < 4 → w3.cell? ⟨g, o, none⟩ = some (.int .u64 (dg 0 o)) := (m4.ok _ (List.mem_cons_self ..)).c
  have z3 : ∀ o, w3.frozen? ⟨g, o, none⟩ = false := (m4.ok _ (List.mem_cons_self ..)).f
  have HV : Hid (Hm.Hd w (Hm.W4 g P :: [Hm.W4 (w.heap.size + 1) a, Hm.W4 (w.heap.size) n]) (((((w3).setCell ⟨g, 0, none⟩ (.int .u64 (dg P 0))).setCell ⟨g, 1, none⟩ (.int .u64 (dg P 1))).setCell ⟨g, 2, none⟩ (.int .u64 (dg P 2))).setCell ⟨g, 3, none⟩ (.int .u64 (dg P 3)))) := Hm.set4 m4 f3.ne
  clear m4 m3 f3 m1
  unfold Wd
  simp only [Act.put, List.setIfInBounds_toArray, List.set_cons_succ, List.set_cons_zero]
  go_upto_region 4 with fail
  generalize ((((w3).setCell ⟨g, 0, none⟩ (.int .u64 (dg P 0))).setCell ⟨g, 1, none⟩ (.int .u64 (dg P 1))).setCell ⟨g, 2, none⟩ (.int .u64 (dg P 2))).setCell ⟨g, 3, none⟩ (.int .u64 (dg P 3)) = W3 at HV ⊢
  have m4 := HV.out
  clear HV c3 z3
  generalize g = h at *
  refine RS.wp_region_one (Hm.Hd w [Hm.W4 h P, Hm.W4 (w.heap.size + 1) a, Hm.W4 (w.heap.size) n]) (by kernel_rfl) (by kernel_rfl) (Hm.drew m4) ?_
  dsimp only [List.toList_toArray]
  refine RS.go1 (v := ?_) (a' := ?_) rfl ?_ ?_ ?_
  rotate_left 2
  · intro K wx hS hK
    refine RW.ld rfl rfl (hS.ok (Hm.W4 (w.heap.size) (n)) (by simp)).c ?_
    exact hK _ hS
  · simp only [Act.put, List.setIfInBounds_toArray, List.set_cons_succ, List.set_cons_zero]
    rfl
  refine RS.go1 (v := ?_) (a' := ?_) rfl ?_ ?_ ?_
  rotate_left 2
  · intro K wx hS hK
    go_simp
    refine (K3.out _).mono (fun e w2 he => ?_)
    refine ⟨_, he.1, ?_⟩
    exact hK _ (Hm.below hS he.2)
  · simp only [Act.put, List.setIfInBounds_toArray, List.set_cons_succ, List.set_cons_zero]
    rfl
  refine RS.go1 (v := ?_) (a' := ?_) rfl ?_ ?_ ?_
  rotate_left 2
  · intro K wx hS hK
    go_simp
    refine (K4.out _).mono (fun e w2 he => ?_)
    refine ⟨_, he.1, ?_⟩
    exact hK _ (Hm.below hS he.2)
  · simp only [Act.put, List.setIfInBounds_toArray, List.set_cons_succ, List.set_cons_zero]
    rfl
  refine RS.go1 (v := ?_) (a' := ?_) rfl ?_ ?_ ?_
  rotate_left 2
  · intro K wx hS hK
    have hq := hc'.out
    go_simp
    exact hK _ hS
  · simp only [Act.put, List.setIfInBounds_toArray, List.set_cons_succ, List.set_cons_zero]
    rfl
  refine RS.go_end ?_
  intro w5 m5
  clear m4
  go_upto_region 5 with fail
  refine RS.wp_region_one (Hm.Hd w [Hm.W4 h P, Hm.W4 (w.heap.size + 1) a, Hm.W4 (w.heap.size) n]) (by kernel_rfl) (by kernel_rfl) (Hm.drew m5) ?_
  dsimp only [List.toList_toArray]
  refine RS.go1 (v := ?_) (a' := ?_) rfl ?_ ?_ ?_
  rotate_left 2
  · intro K wx hS hK
    refine RW.ld rfl rfl (hS.ok (Hm.W4 (w.heap.size) (n)) (by simp)).c ?_
    exact hK _ hS
  · simp only [Act.put, List.setIfInBounds_toArray, List.set_cons_succ, List.set_cons_zero]
    rfl
  refine RS.go1 (v := ?_) (a' := ?_) rfl ?_ ?_ ?_
  rotate_left 2
  · intro K wx hS hK
    refine RW.ld rfl rfl (hS.ok (Hm.W4 (w.heap.size + 1) (a)) (by simp)).c ?_
    exact hK _ hS
  · simp only [Act.put, List.setIfInBounds_toArray, List.set_cons_succ, List.set_cons_zero]
    rfl
  refine RS.go1 (v := ?_) (a' := ?_) rfl ?_ ?_ ?_
  rotate_left 2
  · intro K wx hS hK
    go_simp
    refine (K5.out _).mono (fun e w2 he => ?_)
    refine ⟨_, he.1, ?_⟩
    exact hK _ (Hm.below hS he.2)
  · simp only [Act.put, List.setIfInBounds_toArray, List.set_cons_succ, List.set_cons_zero]
    rfl
  refine RS.go1 (v := ?_) (a' := ?_) rfl ?_ ?_ ?_
  rotate_left 2
  · intro K wx hS hK
    refine RW.ld rfl rfl (hS.ok (Hm.W4 (w.heap.size + 1) (a)) (by simp)).c ?_
    exact hK _ hS
  · simp only [Act.put, List.setIfInBounds_toArray, List.set_cons_succ, List.set_cons_zero]
    rfl
  refine RS.go1 (v := ?_) (a' := ?_) rfl ?_ ?_ ?_
  rotate_left 2
  · intro K wx hS hK
    refine RW.ld rfl rfl (hS.ok (Hm.W4 (h) (P)) (by simp)).c ?_
    exact hK _ hS
  · simp only [Act.put, List.setIfInBounds_toArray, List.set_cons_succ, List.set_cons_zero]
    rfl
  refine RS.go1 (v := ?_) (a' := ?_) rfl ?_ ?_ ?_
  rotate_left 2
  · intro K wx hS hK
    go_simp
    refine (K6.out _).mono (fun e w2 he => ?_)
    refine ⟨_, he.1, ?_⟩
    exact hK _ (Hm.below hS he.2)
  · simp only [Act.put, List.setIfInBounds_toArray, List.set_cons_succ, List.set_cons_zero]
    rfl
  refine RS.go1 (v := ?_) (a' := ?_) rfl ?_ ?_ ?_
  rotate_left 2
  · intro K wx hS hK
    refine RW.eq (b := true) rfl rfl rfl (decide_eq_true rfl) ?_
    exact hK _ hS
  · simp only [Act.put, List.setIfInBounds_toArray, List.set_cons_succ, List.set_cons_zero]
    rfl
  refine RS.go1 (v := ?_) (a' := ?_) rfl ?_ ?_ ?_
  rotate_left 2
  · intro K wx hS hK
    go_simp
    exact hK _ hS
  · simp only [Act.put, List.setIfInBounds_toArray, List.set_cons_succ, List.set_cons_zero]
    rfl
  refine RS.go1g (v := ?_) (a' := ?_) (by kernel_rfl) ?_ ?_ ?_
  rotate_left 2
  · intro K wx hS hK
    refine RW.ld rfl rfl (hS.ok (Hm.W4 (w.heap.size) (n)) (by simp)).c ?_
    exact hK _ hS
  · simp only [Act.put, List.setIfInBounds_toArray, List.set_cons_succ, List.set_cons_zero]
    rfl
  refine RS.go1g (v := ?_) (a' := ?_) (by kernel_rfl) ?_ ?_ ?_
  rotate_left 2
  · intro K wx hS hK
    refine RW.ld rfl rfl (hS.ok (Hm.W4 (w.heap.size + 1) (a)) (by simp)).c ?_
    exact hK _ hS
  · simp only [Act.put, List.setIfInBounds_toArray, List.set_cons_succ, List.set_cons_zero]
    rfl
  refine RS.go1g (v := ?_) (a' := ?_) (by kernel_rfl) ?_ ?_ ?_
  rotate_left 2
  · intro K wx hS hK
    go_simp
    refine (K7.out _).mono (fun e w2 he => ?_)
    refine ⟨_, he.1, ?_⟩
    exact hK _ (Hm.below hS he.2)
  · simp only [Act.put, List.setIfInBounds_toArray, List.set_cons_succ, List.set_cons_zero]
    rfl
  refine RS.go1g (v := ?_) (a' := ?_) (by kernel_rfl) ?_ ?_ ?_
  rotate_left 2
  · intro K wx hS hK
    go_simp
    exact hK _ hS
  · simp only [Act.put, List.setIfInBounds_toArray, List.set_cons_succ, List.set_cons_zero]
    rfl
  refine RS.go1g (v := ?_) (a' := ?_) (by kernel_rfl) ?_ ?_ ?_
  rotate_left 2
  · intro K wx hS hK
    refine RW.eq (b := true) (y := 0) rfl rfl rfl (decide_eq_true rfl) ?_
    exact hK _ hS
  · simp only [Act.put, List.setIfInBounds_toArray, List.set_cons_succ, List.set_cons_zero]
    rfl
  refine RS.go1 (v := ?_) (a' := ?_) rfl ?_ ?_ ?_
  rotate_left 2
  · intro K wx hS hK
    go_simp
    exact hK _ hS
  · simp only [Act.put, List.setIfInBounds_toArray, List.set_cons_succ, List.set_cons_zero]
    rfl
  refine RS.go1 (v := ?_) (a' := ?_) rfl ?_ ?_ ?_
  rotate_left 2
  · intro K wx hS hK
    go_simp
    exact hK _ hS
  · simp only [Act.put, List.setIfInBounds_toArray, List.set_cons_succ, List.set_cons_zero]
    rfl
  refine RS.go_end ?_
  intro w9 m9
  have HB : Hid (Below w.heap.size w w9) := m9.bel
  clear m9
  go_wp2_with fail
  go_ret
  exact ⟨rfl, HB.out⟩
set_option maxHeartbeats 4000000 in
set_option maxRecDepth 100000 in
theorem law_scale_lo (n a : Nat) (hn : n < 2 ^ 256) (ha : a < 2 ^ 256) (hc : n < 256) (w : World) :
    Calls Try.prog 5 #[Wd n, Wd a] w fun e w' => e = .returned (.bool true) ∧ Below w.heap.size w w' := by
  have KA : Hid (∀ w : World, Calls Try.prog 9 #[] w fun e w' => e = .returned (.bool true) ∧ Below w.heap.size w w') := fun w => alive2_any w
  obtain ⟨P, hP⟩ : ∃ P, P = 2 ^ n := ⟨_, rfl⟩
  have K1 : Hid (∀ w : World, Calls Try.prog 16 #[.int .u64 2] w fun e w' => e = .returned (Wd 2) ∧ Below w.heap.size w w') := fun w => int_any 2 (by decide) w
  have K2 : Hid (∀ w : World, Calls Try.prog 18 #[Wd 2, Wd n] w fun e w' => e = .returned (Wd P) ∧ Below w.heap.size w w') := fun w => by rw [hP]; exact exp_any 2 n hn w
  have K3 : Hid (∀ w : World, Calls Try.prog 16 #[.int .u64 256] w fun e w' => e = .returned (Wd 256) ∧ Below w.heap.size w w') := fun w => int_any 256 (by decide) w
  have K4 : Hid (∀ w : World, Calls Try.prog 19 #[Wd n, Wd 256] w fun e w' => e = .returned (.int .i64 (-1)) ∧ Below w.heap.size w w') := fun w => by have := cmp_any n 256 hn (by decide) w; rwa [cm_lt n 256 hc] at this
  have K5 : Hid (∀ w : World, Calls Try.prog 20 #[Wd n, Wd a] w fun e w' => e = .returned (Wd (a * P)) ∧ Below w.heap.size w w') := fun w => by have := shl_any n a hn ha w; rw [show min n 256 = n by omega, Wd_mod] at this; rw [hP]; exact this
  have K6 : Hid (∀ w : World, Calls Try.prog 15 #[Wd a, Wd P] w fun e w' => e = .returned (Wd (a * P)) ∧ Below w.heap.size w w') := fun w => mul_mod _ _ w
  have K7 : Hid (∀ w : World, Calls Try.prog 21 #[Wd n, Wd a] w fun e w' => e = .returned (Wd (a / P)) ∧ Below w.heap.size w w') := fun w => by have := shr_any n a hn ha w; rw [show min n 256 = n by omega] at this; rw [hP]; exact this
  have K8 : Hid (∀ w : World, Calls Try.prog 22 #[Wd a, Wd P] w fun e w' => e = .returned (.tuple #[Wd (a / P), Wd (md a P)]) ∧ Below w.heap.size w w') := fun w => divmod_any a P ha (by rw [hP]; exact Nat.pow_lt_pow_right (by decide) hc) w
  clear hn ha hc hP
  generalize a * P = n1 at *
  generalize a / P = n2 at *
  generalize md a P = n3 at *
  generalize Wd 2 = W2 at *
  generalize Wd 256 = W256 at *
  have m0 := Hm.new4 (g := w.heap.size + 1) (n := a) (T := 24) (Hm.new4 (g := w.heap.size) (n := n) (T := 24) (Hm.start w) (by simp)) (by simp)
  conv => arg 3; unfold Wd
  go_enter Try.func5, Try.ntmps5
  go_wp2_with fail
  generalize (w.alloc (.cells #[.int .u64 (dg n 0), .int .u64 (dg n 1), .int .u64 (dg n 2), .int .u64 (dg n 3)] 24)).alloc (.cells #[.int .u64 (dg a 0), .int .u64 (dg a 1), .int .u64 (dg a 2), .int .u64 (dg a 3)] 24) = W0 at m0 ⊢
  refine (KA.out _).mono ?_
  rintro e w1 ⟨rfl, hb⟩
  have m1 := Hm.below m0 hb
  clear hb m0
  go_upto_region 3 with fail
  refine RN.wp_region_new1 (Hm.Hd w [Hm.W4 (w.heap.size + 1) a, Hm.W4 (w.heap.size) n]) (Hm.Fresh w [Hm.W4 (w.heap.size + 1) a, Hm.W4 (w.heap.size) n]) 3 5 (fun _ _ h hb => Hm.below h hb) (fun _ _ _ h hb => Hm.Fresh_below h hb) (fun _ _ h => h.ok.hi) (by kernel_rfl) (by kernel_rfl) (by decide) (by kernel_rfl) (Hm.drew m1) rfl (fun o ho => ?_) ?_
  · obtain rfl := Option.some.inj ho
    exact ⟨rfl, fun ρ K wx hS hK => RW.al rfl hS hK⟩
  simp only [List.take_succ_cons, List.take_zero, List.drop_succ_cons, List.drop_zero]
  refine RN.go1 (v := ?_) (a' := ?_) rfl ?_ ?_ ?_
  rotate_left 2
  · intro K wx hS hK
    go_simp
    refine (K1.out _).mono (fun e w2 he => ?_)
    refine ⟨_, he.1, ?_⟩
    exact hK _ he.2
  · simp only [Act.put, List.setIfInBounds_toArray, List.set_cons_succ, List.set_cons_zero]
    rfl
  refine RN.go1 (v := ?_) (a' := ?_) rfl ?_ ?_ ?_
  rotate_left 2
  · intro K wx hS hK
    refine RW.ld rfl rfl (hS.ok (Hm.W4 (w.heap.size) (n)) (by simp)).c ?_
    exact hK _ (Below.refl _ _)
  · simp only [Act.put, List.setIfInBounds_toArray, List.set_cons_succ, List.set_cons_zero]
    rfl
  refine RN.go1 (v := ?_) (a' := ?_) rfl ?_ ?_ ?_
  rotate_left 2
  · intro K wx hS hK
    go_simp
    refine (K2.out _).mono (fun e w2 he => ?_)
    refine ⟨_, he.1, ?_⟩
    exact hK _ he.2
  · simp only [Act.put, List.setIfInBounds_toArray, List.set_cons_succ, List.set_cons_zero]
    rfl
  refine RN.go_end ?_
  intro g w3 m3 f3
  have m4 := Hm.cons m3 f3
  have c3 : ∀ o, o < 4 → w3.cell? ⟨g, o, none⟩ = some (.int .u64 (dg 0 o)) := (m4.ok _ (List.mem_cons_self ..)).c
  have z3 : ∀ o, w3.frozen? ⟨g, o, none⟩ = false := (m4.ok _ (List.mem_cons_self ..)).f
  have HV : Hid (Hm.Hd w (Hm.W4 g P :: [Hm.W4 (w.heap.size + 1) a, Hm.W4 (w.heap.size) n]) (((((w3).setCell ⟨g, 0, none⟩ (.int .u64 (dg P 0))).setCell ⟨g, 1, none⟩ (.int .u64 (dg P 1))).setCell ⟨g, 2, none⟩ (.int .u64 (dg P 2))).setCell ⟨g, 3, none⟩ (.int .u64 (dg P 3)))) := Hm.set4 m4 f3.ne
  clear m4 m3 f3 m1
  unfold Wd
  simp only [Act.put, List.setIfInBounds_toArray, List.set_cons_succ, List.set_cons_zero]
  go_upto_region 4 with fail
  generalize ((((w3).setCell ⟨g, 0, none⟩ (.int .u64 (dg P 0))).setCell ⟨g, 1, none⟩ (.int .u64 (dg P 1))).setCell ⟨g, 2, none⟩ (.int .u64 (dg P 2))).setCell ⟨g, 3, none⟩ (.int .u64 (dg P 3)) = W3 at HV ⊢
  have m4 := HV.out
  clear HV c3 z3
  generalize g = h at *
  refine RS.wp_region_one (Hm.Hd w [Hm.W4 h P, Hm.W4 (w.heap.size + 1) a, Hm.W4 (w.heap.size) n]) (by kernel_rfl) (by kernel_rfl) (Hm.drew m4) ?_
  dsimp only [List.toList_toArray]
  refine RS.go1 (v := ?_) (a' := ?_) rfl ?_ ?_ ?_
  rotate_left 2
  · intro K wx hS hK
    refine RW.ld rfl rfl (hS.ok (Hm.W4 (w.heap.size) (n)) (by simp)).c ?_
    exact hK _ hS
  · simp only [Act.put, List.setIfInBounds_toArray, List.set_cons_succ, List.set_cons_zero]
    rfl
  refine RS.go1 (v := ?_) (a' := ?_) rfl ?_ ?_ ?_
  rotate_left 2
  · intro K wx hS hK
    go_simp
    refine (K3.out _).mono (fun e w2 he => ?_)
    refine ⟨_, he.1, ?_⟩
    exact hK _ (Hm.below hS he.2)
  · simp only [Act.put, List.setIfInBounds_toArray, List.set_cons_succ, List.set_cons_zero]
    rfl
  refine RS.go1 (v := ?_) (a' := ?_) rfl ?_ ?_ ?_
  rotate_left 2
  · intro K wx hS hK
    go_simp
    refine (K4.out _).mono (fun e w2 he => ?_)
    refine ⟨_, he.1, ?_⟩
    exact hK _ (Hm.below hS he.2)
  · simp only [Act.put, List.setIfInBounds_toArray, List.set_cons_succ, List.set_cons_zero]
    rfl
  refine RS.go1 (v := ?_) (a' := ?_) rfl ?_ ?_ ?_
  rotate_left 2
  · intro K wx hS hK
    go_simp
    exact hK _ hS
  · simp only [Act.put, List.setIfInBounds_toArray, List.set_cons_succ, List.set_cons_zero]
    rfl
  refine RS.go_end ?_
  intro w5 m5
  clear m4
  have c1 : ∀ o, o < 4 → w5.cell? ⟨w.heap.size + 1, o, none⟩ = some (.int .u64 (dg a o)) := (m5.ok (Hm.W4 (w.heap.size + 1) a) (by simp)).c
  have c2 : ∀ o, o < 4 → w5.cell? ⟨h, o, none⟩ = some (.int .u64 (dg P o)) := (m5.ok (Hm.W4 h P) (by simp)).c
  go_wp2_with fail
  refine (K8.out _).mono ?_
  rintro e w6 ⟨rfl, hb⟩
  have m6 := Hm.new4 (g := w6.heap.size + 1) (n := n3) (T := 24) (Hm.new4 (g := w6.heap.size) (n := n2) (T := 24) (Hm.below m5 hb) rfl) (by simp)
  clear hb m5 c1 c2
  unfold Wd
  go_upto_region 7 with fail
  generalize (w6.alloc (.cells #[.int .u64 (dg n2 0), .int .u64 (dg n2 1), .int .u64 (dg n2 2), .int .u64 (dg n2 3)] 24)).alloc (.cells #[.int .u64 (dg n3 0), .int .u64 (dg n3 1), .int .u64 (dg n3 2), .int .u64 (dg n3 3)] 24) = W6 at m6 ⊢
  generalize w6.heap.size = h2 at *
  refine RS.wp_region_one (Hm.Hd w [Hm.W4 (h2 + 1) n3, Hm.W4 h2 n2, Hm.W4 h P, Hm.W4 (w.heap.size + 1) a, Hm.W4 (w.heap.size) n]) (by kernel_rfl) (by kernel_rfl) (Hm.drew m6) ?_
  dsimp only [List.toList_toArray]
  refine RS.go1 (v := ?_) (a' := ?_) rfl ?_ ?_ ?_
  rotate_left 2
  · intro K wx hS hK
    refine RW.ld rfl rfl (hS.ok (Hm.W4 (w.heap.size) (n)) (by simp)).c ?_
    exact hK _ hS
  · simp only [Act.put, List.setIfInBounds_toArray, List.set_cons_succ, List.set_cons_zero]
    rfl
  refine RS.go1 (v := ?_) (a' := ?_) rfl ?_ ?_ ?_
  rotate_left 2
  · intro K wx hS hK
    refine RW.ld rfl rfl (hS.ok (Hm.W4 (w.heap.size + 1) (a)) (by simp)).c ?_
    exact hK _ hS
  · simp only [Act.put, List.setIfInBounds_toArray, List.set_cons_succ, List.set_cons_zero]
    rfl
  refine RS.go1 (v := ?_) (a' := ?_) rfl ?_ ?_ ?_
  rotate_left 2
  · intro K wx hS hK
    go_simp
    refine (K5.out _).mono (fun e w2 he => ?_)
    refine ⟨_, he.1, ?_⟩
    exact hK _ (Hm.below hS he.2)
  · simp only [Act.put, List.setIfInBounds_toArray, List.set_cons_succ, List.set_cons_zero]
    rfl
  refine RS.go1 (v := ?_) (a' := ?_) rfl ?_ ?_ ?_
  rotate_left 2
  · intro K wx hS hK
    refine RW.ld rfl rfl (hS.ok (Hm.W4 (w.heap.size + 1) (a)) (by simp)).c ?_
    exact hK _ hS
  · simp only [Act.put, List.setIfInBounds_toArray, List.set_cons_succ, List.set_cons_zero]
    rfl
  refine RS.go1 (v := ?_) (a' := ?_) rfl ?_ ?_ ?_
  rotate_left 2
  · intro K wx hS hK
    refine RW.ld rfl rfl (hS.ok (Hm.W4 (h) (P)) (by simp)).c ?_
    exact hK _ hS
  · simp only [Act.put, List.setIfInBounds_toArray, List.set_cons_succ, List.set_cons_zero]
    rfl
  refine RS.go1 (v := ?_) (a' := ?_) rfl ?_ ?_ ?_
  rotate_left 2
  · intro K wx hS hK
    go_simp
    refine (K6.out _).mono (fun e w2 he => ?_)
    refine ⟨_, he.1, ?_⟩
    exact hK _ (Hm.below hS he.2)
  · simp only [Act.put, List.setIfInBounds_toArray, List.set_cons_succ, List.set_cons_zero]
    rfl
  refine RS.go1 (v := ?_) (a' := ?_) rfl ?_ ?_ ?_
  rotate_left 2
  · intro K wx hS hK
    refine RW.eq (b := true) rfl rfl rfl (decide_eq_true rfl) ?_
    exact hK _ hS
  · simp only [Act.put, List.setIfInBounds_toArray, List.set_cons_succ, List.set_cons_zero]
    rfl
  refine RS.go1 (v := ?_) (a' := ?_) rfl ?_ ?_ ?_
  rotate_left 2
  · intro K wx hS hK
    go_simp
    exact hK _ hS
  · simp only [Act.put, List.setIfInBounds_toArray, List.set_cons_succ, List.set_cons_zero]
    rfl
  refine RS.go1g (v := ?_) (a' := ?_) (by kernel_rfl) ?_ ?_ ?_
  rotate_left 2
  · intro K wx hS hK
    refine RW.ld rfl rfl (hS.ok (Hm.W4 (w.heap.size) (n)) (by simp)).c ?_
    exact hK _ hS
  · simp only [Act.put, List.setIfInBounds_toArray, List.set_cons_succ, List.set_cons_zero]
    rfl
  refine RS.go1g (v := ?_) (a' := ?_) (by kernel_rfl) ?_ ?_ ?_
  rotate_left 2
  · intro K wx hS hK
    refine RW.ld rfl rfl (hS.ok (Hm.W4 (w.heap.size + 1) (a)) (by simp)).c ?_
    exact hK _ hS
  · simp only [Act.put, List.setIfInBounds_toArray, List.set_cons_succ, List.set_cons_zero]
    rfl
  refine RS.go1g (v := ?_) (a' := ?_) (by kernel_rfl) ?_ ?_ ?_
  rotate_left 2
  · intro K wx hS hK
    go_simp
    refine (K7.out _).mono (fun e w2 he => ?_)
    refine ⟨_, he.1, ?_⟩
    exact hK _ (Hm.below hS he.2)
  · simp only [Act.put, List.setIfInBounds_toArray, List.set_cons_succ, List.set_cons_zero]
    rfl
  refine RS.go1g (v := ?_) (a' := ?_) (by kernel_rfl) ?_ ?_ ?_
  rotate_left 2
  · intro K wx hS hK
    refine RW.ld rfl rfl (hS.ok (Hm.W4 (h2) (n2)) (by simp)).c ?_
    exact hK _ hS
  · simp only [Act.put, List.setIfInBounds_toArray, List.set_cons_succ, List.set_cons_zero]
    rfl
  refine RS.go1g (v := ?_) (a' := ?_) (by kernel_rfl) ?_ ?_ ?_
  rotate_left 2
  · intro K wx hS hK
    refine RW.eq (b := true) rfl rfl rfl (decide_eq_true rfl) ?_
    exact hK _ hS
  · simp only [Act.put, List.setIfInBounds_toArray, List.set_cons_succ, List.set_cons_zero]
    rfl
  refine RS.go1 (v := ?_) (a' := ?_) rfl ?_ ?_ ?_
  rotate_left 2
  · intro K wx hS hK
    go_simp
    exact hK _ hS
  · simp only [Act.put, List.setIfInBounds_toArray, List.set_cons_succ, List.set_cons_zero]
    rfl
  refine RS.go1 (v := ?_) (a' := ?_) rfl ?_ ?_ ?_
  rotate_left 2
  · intro K wx hS hK
    go_simp
    exact hK _ hS
  · simp only [Act.put, List.setIfInBounds_toArray, List.set_cons_succ, List.set_cons_zero]
    rfl
  refine RS.go_end ?_
  intro w9 m9
  have HB : Hid (Below w.heap.size w w9) := m9.bel
  clear m9
  go_wp2_with fail
  go_ret
  exact ⟨rfl, HB.out⟩
theorem law_scale (n a : Nat) (hn : n < 2 ^ 256) (ha : a < 2 ^ 256) (w : World) :
    Calls Try.prog 5 #[Wd n, Wd a] w fun e w' => e = .returned (.bool true) ∧ Below w.heap.size w w' := by
  rcases Nat.lt_or_ge n 256 with h | h
  · exact law_scale_lo n a hn ha h w
  · exact law_scale_hi n a hn ha h w
end Go.Proofs.Ytblodmjnhmfjeaa
/- The order of two lists of bytes, the greatest first, is that of the numbers. -/
namespace Go.Proofs.Ytblodmjnhmfjeaa
open Go.RowKit Go.Shelf
/-- The m least bytes of a, the greatest first. -/
def BB (a : Nat) : Nat → List UInt8
  | 0 => []
  | m + 1 => UInt8.ofNat (a / 2 ^ (8 * m) % 256) :: BB a m
theorem u8_lt (x y : Nat) (hx : x < 256) (hy : y < 256) : decide (UInt8.ofNat x < UInt8.ofNat y) = decide (x < y) := by
  rw [decide_eq_decide, UInt8.lt_iff_toNat_lt, UInt8.toNat_ofNat', UInt8.toNat_ofNat', Nat.mod_eq_of_lt hx, Nat.mod_eq_of_lt hy]
theorem u8_eq (x y : Nat) (hx : x < 256) (hy : y < 256) : (UInt8.ofNat x == UInt8.ofNat y) = decide (x = y) := by
  rw [Bool.eq_iff_iff, beq_iff_eq, decide_eq_true_iff]
  constructor
  · intro h
    have := congrArg UInt8.toNat h
    rw [UInt8.toNat_ofNat', UInt8.toNat_ofNat', Nat.mod_eq_of_lt hx, Nat.mod_eq_of_lt hy] at this
    exact this
  · intro h; rw [h]
theorem mod_split (n m : Nat) : n % 2 ^ (8 * (m + 1)) = n % 2 ^ (8 * m) + 2 ^ (8 * m) * (n / 2 ^ (8 * m) % 256) := by
  rw [Nat.mul_add, Nat.pow_add, Nat.mod_mul]
theorem lex_lt (p x y u v : Nat) (hu : u < p) (hv : v < p) : (u + p * x < v + p * y) ↔ (x < y ∨ (x = y ∧ u < v)) := by
  rcases Nat.lt_trichotomy x y with h | h | h
  · have : p * x + p ≤ p * y := by rw [← Nat.mul_succ]; exact Nat.mul_le_mul_left p h
    constructor
    · intro _; exact Or.inl h
    · intro _; omega
  · subst h
    constructor
    · intro k; exact Or.inr ⟨rfl, by omega⟩
    · rintro (k | ⟨_, k⟩) <;> omega
  · have : p * y + p ≤ p * x := by rw [← Nat.mul_succ]; exact Nat.mul_le_mul_left p h
    constructor
    · intro k; omega
    · rintro (k | ⟨k, _⟩) <;> omega
theorem bb_less (a b : Nat) : ∀ m, Op.bytesLess (BB a m) (BB b m) = decide (a % 2 ^ (8 * m) < b % 2 ^ (8 * m))
  | 0 => by simp [BB, Op.bytesLess, Nat.mod_one]
  | m + 1 => by
    have hp : 0 < 2 ^ (8 * m) := Nat.two_pow_pos _
    have ha := Nat.mod_lt (a / 2 ^ (8 * m)) (show 0 < 256 by decide)
    have hb := Nat.mod_lt (b / 2 ^ (8 * m)) (show 0 < 256 by decide)
    rw [BB, BB, Op.bytesLess, bb_less a b m, u8_lt _ _ ha hb, u8_eq _ _ ha hb, mod_split a m, mod_split b m]
    have := lex_lt (2 ^ (8 * m)) (a / 2 ^ (8 * m) % 256) (b / 2 ^ (8 * m) % 256) (a % 2 ^ (8 * m)) (b % 2 ^ (8 * m)) (Nat.mod_lt _ hp) (Nat.mod_lt _ hp)
    rw [Bool.eq_iff_iff]
    simp only [Bool.or_eq_true, Bool.and_eq_true, decide_eq_true_iff]
    exact this.symm
/-- The bytes of a word as a string. -/
def wstr (a : Nat) : ByteArray := strOfNums ((List.range 32).map (bt a))
theorem wstr_list (a : Nat) : (wstr a).toList = BB a 32 := by
  rw [ByteArray.toList_eq]
  unfold wstr
  rw [strOfNums_data]
  rfl
theorem wstr_less (a b : Nat) (ha : a < 2 ^ 256) (hb : b < 2 ^ 256) : Op.bytesLess (wstr a).toList (wstr b).toList = decide (a < b) := by
  rw [wstr_list, wstr_list, bb_less, Nat.mod_eq_of_lt (by simpa using ha), Nat.mod_eq_of_lt (by simpa using hb)]
theorem bb_inj (a b : Nat) : ∀ m, BB a m = BB b m → a % 2 ^ (8 * m) = b % 2 ^ (8 * m)
  | 0, _ => by simp [Nat.mod_one]
  | m + 1, h => by
    have ha := Nat.mod_lt (a / 2 ^ (8 * m)) (show 0 < 256 by decide)
    have hb := Nat.mod_lt (b / 2 ^ (8 * m)) (show 0 < 256 by decide)
    rw [BB, BB, List.cons.injEq] at h
    have h1 := u8_eq _ _ ha hb
    rw [h.1, beq_self_eq_true] at h1
    have h2 := of_decide_eq_true h1.symm
    rw [mod_split a m, mod_split b m, bb_inj a b m h.2, h2]
theorem bt_getD (a i : Nat) (hi : i < 32) : ((List.range 32).map (bt a)).getD i 0 = bt a i := by
  rw [List.getD_eq_getElem?_getD, List.getElem?_map, List.getElem?_range hi]
  rfl
end Go.Proofs.Ytblodmjnhmfjeaa
/- lampbearerref.WLess: the order of words, by their bytes. -/
namespace Go.Proofs.Ytblodmjnhmfjeaa
open Go.RowKit Go.Shelf
attribute [local go_sem ↓] Go.wp_at_zero Go.wp_at_succ

end Go.Proofs.Ytblodmjnhmfjeaa
/- lampbearerref.WCmp: the document's own order of words. -/
namespace Go.Proofs.Ytblodmjnhmfjeaa
open Go.RowKit Go.Shelf
theorem dg_inj {a b : Nat} (ha : a < 2 ^ 256) (hb : b < 2 ^ 256) (h : ∀ o, o < 4 → dg a o = dg b o) : a = b := by
  have h0 := h 0 (by decide)
  have h1 := h 1 (by decide)
  have h2 := h 2 (by decide)
  have h3 := h 3 (by decide)
  simp only [dg0, dg1, dg2, dg3] at h0 h1 h2 h3
  omega
theorem Wd_get (a i : Nat) (hi : i < 4) : (#[Value.int .u64 (dg a 0), .int .u64 (dg a 1), .int .u64 (dg a 2), .int .u64 (dg a 3)] : Array Value)[i]? = some (.int .u64 (dg a i)) := by
  have : i = 0 ∨ i = 1 ∨ i = 2 ∨ i = 3 := by omega
  rcases this with rfl | rfl | rfl | rfl <;> rfl
/-- Two words are equal where their numbers are. -/
theorem eq_word (a b : Nat) (ha : a < 2 ^ 256) (hb : b < 2 ^ 256) (w : World) : (binOp .eql 24 (.agg #[.int .u64 (dg a 0), .int .u64 (dg a 1), .int .u64 (dg a 2), .int .u64 (dg a 3)]) (.agg #[.int .u64 (dg b 0), .int .u64 (dg b 1), .int .u64 (dg b 2), .int .u64 (dg b 3)])).run Try.prog w = .ok (.bool (decide (a = b))) w := by
  rw [Sp.eql_array 24 22 4 .u64 Try.underlying24 Try.underlying22 (by kernel_rfl) (by kernel_rfl) (by kernel_rfl) _ _ (dg a) (dg b) w (fun i hi => ⟨Wd_get a i hi, Wd_get b i hi⟩)]
  congr 2
  rw [Bool.eq_iff_iff, Sp.same_iff, decide_eq_true_iff]
  exact ⟨dg_inj ha hb, fun h => by rw [h]; exact fun _ _ => rfl⟩
end Go.Proofs.Ytblodmjnhmfjeaa
/- twos.SCmp and lampbearerref.TSCmp: the order of words with signs. -/
namespace Go.Proofs.Ytblodmjnhmfjeaa
open Go.RowKit Go.Shelf
/-- 2^255 more, rest 2^256. -/
def hf (a : Nat) : Nat := (a + 2 ^ 255) % 2 ^ 256
theorem hf_lt (a : Nat) : hf a < 2 ^ 256 := Nat.mod_lt _ (by decide)
theorem half_parts (H : Nat) (h : H = 2 ^ 255) : dg H 0 = 0 ∧ dg H 1 = 0 ∧ dg H 2 = 0 ∧ dg H 3 = 9223372036854775808 := by subst h; decide
/-- What holds while the two are moved up and held against each other. -/
def SC2 (w : World) (a b H X Y : Nat) (C : Int) (d : Nat → Bool) (x : Act) (wx : World) : Prop :=
  ∃ (u4 u7 u8 u9 u10 u11 u12 u13 : Value) (v6 : Value),
    x = { tmps := #[.agg #[.int .u64 (dg a 0), .int .u64 (dg a 1), .int .u64 (dg a 2), .int .u64 (dg a 3)], .agg #[.int .u64 (dg b 0), .int .u64 (dg b 1), .int .u64 (dg b 2), .int .u64 (dg b 3)], .pointer (some ⟨w.heap.size, 0, none⟩), .pointer (some ⟨w.heap.size + 1, 0, none⟩), u4, .pointer (some ⟨w.heap.size + 1 + 1, 0, none⟩), v6, u7, u8, u9, u10, u11, u12, u13], defers := [] } ∧
    (S3 w a b H wx) ∧
    (d 0 = true → u7 = Wd a) ∧ (d 1 = true → u8 = Wd H) ∧ (d 2 = true → u9 = Wd X) ∧ (d 3 = true → u10 = Wd b) ∧ (d 4 = true → u11 = Wd H) ∧ (d 5 = true → u12 = Wd Y) ∧ (d 6 = true → u13 = .int .i64 C) ∧ (d 7 = true → u4 = .int .i64 C)
set_option maxHeartbeats 4000000 in
set_option maxRecDepth 100000 in
theorem scmp_any (a b : Nat) (ha : a < 2 ^ 256) (hb : b < 2 ^ 256) (w : World) :
    Calls Try.prog 25 #[Wd a, Wd b] w fun e w' => e = .returned (.int .i64 (cm (hf a : Int) (hf b : Int))) ∧ Below w.heap.size w w' := by
  obtain ⟨H, hH⟩ : ∃ H, H = 2 ^ 255 := ⟨_, rfl⟩
  have hl : H < 2 ^ 256 := by rw [hH]; decide
  have KX : Hid (∀ w : World, Calls Try.prog 14 #[Wd a, Wd H] w fun e w' => e = .returned (Wd (hf a)) ∧ Below w.heap.size w w') := fun w => by
    have k := add_any a H ha hl w
    rw [← Wd_mod (a + H), hH] at k
    rw [hH]
    exact k
  have KY : Hid (∀ w : World, Calls Try.prog 14 #[Wd b, Wd H] w fun e w' => e = .returned (Wd (hf b)) ∧ Below w.heap.size w w') := fun w => by
    have k := add_any b H hb hl w
    rw [← Wd_mod (b + H), hH] at k
    rw [hH]
    exact k
  have KC : Hid (∀ w : World, Calls Try.prog 19 #[Wd (hf a), Wd (hf b)] w fun e w' => e = .returned (.int .i64 (cm (hf a : Int) (hf b : Int))) ∧ Below w.heap.size w w') := fun w => cmp_any _ _ (hf_lt a) (hf_lt b) w
  obtain ⟨e0, e1, e2, e3⟩ := half_parts H hH
  have m0 := S3_start w a b H
  rw [e0, e1, e2, e3] at m0
  clear ha hb hl hH e0 e1 e2 e3
  generalize cm (hf a : Int) (hf b : Int) = C at *
  generalize hf a = X at *
  generalize hf b = Y at *
  conv => arg 3; unfold Wd
  go_enter Try.func25, Try.ntmps25
  go_upto_region 2 with fail
  generalize ((w.alloc (.cells #[.int .u64 (dg a 0), .int .u64 (dg a 1), .int .u64 (dg a 2), .int .u64 (dg a 3)] 24)).alloc (.cells #[.int .u64 (dg b 0), .int .u64 (dg b 1), .int .u64 (dg b 2), .int .u64 (dg b 3)] 24)).alloc (.cells #[.int .u64 0, .int .u64 0, .int .u64 0, .int .u64 9223372036854775808] 24) = W0 at m0 ⊢
  refine RI.wp_region_inv (SC2 w a b H X Y C) (by kernel_rfl) (by kernel_rfl) ?_ ?_ ?_
  · exact ⟨.int .i64 0, undef, undef, undef, undef, undef, undef, undef, _, rfl, S3_drew m0, nofun, nofun, nofun, nofun, nofun, nofun, nofun, nofun⟩
  · clear m0
    intro d x wx i hI hi hm
    obtain ⟨u4, u7, u8, u9, u10, u11, u12, u13, v6, rfl, hS, p0, p1, p2, p3, p4, p5, p6, p7⟩ := hI
    have hi' : i = 0 ∨ i = 1 ∨ i = 2 ∨ i = 3 ∨ i = 4 ∨ i = 5 ∨ i = 6 ∨ i = 7 := by simp at hi; omega
    have hd := hm.2
    clear hm hi
    rcases hi' with rfl | rfl | rfl | rfl | rfl | rfl | rfl | rfl
    · refine RI.wpOp_plain rfl rfl ?_
      have c0 : ∀ o, o < 4 → wx.cell? ⟨w.heap.size, o, none⟩ = some (.int .u64 (dg a o)) := hS.c0
      go_simp
      exact ⟨u4, _, u8, u9, u10, u11, u12, u13, v6, rfl, hS, fun _ => rfl, RI.keep (by decide) p1, RI.keep (by decide) p2, RI.keep (by decide) p3, RI.keep (by decide) p4, RI.keep (by decide) p5, RI.keep (by decide) p6, RI.keep (by decide) p7⟩
    · refine RI.wpOp_plain rfl rfl ?_
      have c2 : ∀ o, o < 4 → wx.cell? ⟨w.heap.size + 1 + 1, o, none⟩ = some (.int .u64 (dg H o)) := hS.c2
      go_simp
      exact ⟨u4, u7, _, u9, u10, u11, u12, u13, v6, rfl, hS, RI.keep (by decide) p0, fun _ => rfl, RI.keep (by decide) p2, RI.keep (by decide) p3, RI.keep (by decide) p4, RI.keep (by decide) p5, RI.keep (by decide) p6, RI.keep (by decide) p7⟩
    · have hd := hd _ rfl
      simp [Region.binds] at hd
      obtain rfl := p0 (by simp [hd])
      obtain rfl := p1 (by simp [hd])
      refine RI.wpOp_plain rfl rfl ?_
      go_simp
      refine (KX.out _).mono ?_
      rintro e w1 ⟨rfl, hb1⟩
      exact ⟨u4, _, _, _, u10, u11, u12, u13, v6, rfl, S3_below hS hb1, RI.keep (by decide) p0, RI.keep (by decide) p1, fun _ => rfl, RI.keep (by decide) p3, RI.keep (by decide) p4, RI.keep (by decide) p5, RI.keep (by decide) p6, RI.keep (by decide) p7⟩
    · refine RI.wpOp_plain rfl rfl ?_
      have c1 : ∀ o, o < 4 → wx.cell? ⟨w.heap.size + 1, o, none⟩ = some (.int .u64 (dg b o)) := hS.c1
      go_simp
      exact ⟨u4, u7, u8, u9, _, u11, u12, u13, v6, rfl, hS, RI.keep (by decide) p0, RI.keep (by decide) p1, RI.keep (by decide) p2, fun _ => rfl, RI.keep (by decide) p4, RI.keep (by decide) p5, RI.keep (by decide) p6, RI.keep (by decide) p7⟩
    · refine RI.wpOp_plain rfl rfl ?_
      have c2 : ∀ o, o < 4 → wx.cell? ⟨w.heap.size + 1 + 1, o, none⟩ = some (.int .u64 (dg H o)) := hS.c2
      go_simp
      exact ⟨u4, u7, u8, u9, u10, _, u12, u13, v6, rfl, hS, RI.keep (by decide) p0, RI.keep (by decide) p1, RI.keep (by decide) p2, RI.keep (by decide) p3, fun _ => rfl, RI.keep (by decide) p5, RI.keep (by decide) p6, RI.keep (by decide) p7⟩
    · have hd := hd _ rfl
      simp [Region.binds] at hd
      obtain rfl := p2 (by simp [hd])
      obtain rfl := p3 (by simp [hd])
      obtain rfl := p4 (by simp [hd])
      refine RI.wpOp_plain rfl rfl ?_
      go_simp
      refine (KY.out _).mono ?_
      rintro e w1 ⟨rfl, hb1⟩
      exact ⟨u4, u7, u8, _, _, _, _, u13, v6, rfl, S3_below hS hb1, RI.keep (by decide) p0, RI.keep (by decide) p1, RI.keep (by decide) p2, RI.keep (by decide) p3, RI.keep (by decide) p4, fun _ => rfl, RI.keep (by decide) p6, RI.keep (by decide) p7⟩
    · have hd := hd _ rfl
      simp [Region.binds] at hd
      obtain rfl := p2 (by simp [hd])
      obtain rfl := p5 (by simp [hd])
      refine RI.wpOp_plain rfl rfl ?_
      go_simp
      refine (KC.out _).mono ?_
      rintro e w1 ⟨rfl, hb1⟩
      exact ⟨u4, u7, u8, _, u10, u11, _, _, v6, rfl, S3_below hS hb1, RI.keep (by decide) p0, RI.keep (by decide) p1, RI.keep (by decide) p2, RI.keep (by decide) p3, RI.keep (by decide) p4, RI.keep (by decide) p5, fun _ => rfl, RI.keep (by decide) p7⟩
    · have hd := hd _ rfl
      simp [Region.binds] at hd
      obtain rfl := p0 (by simp [hd])
      obtain rfl := p1 (by simp [hd])
      obtain rfl := p2 (by simp [hd])
      obtain rfl := p3 (by simp [hd])
      obtain rfl := p4 (by simp [hd])
      obtain rfl := p5 (by simp [hd])
      obtain rfl := p6 (by simp [hd])
      refine RI.wpOp_plain rfl rfl ?_
      go_simp
      exact ⟨_, _, _, _, _, _, _, _, v6, rfl, hS, RI.keep (by decide) p0, RI.keep (by decide) p1, RI.keep (by decide) p2, RI.keep (by decide) p3, RI.keep (by decide) p4, RI.keep (by decide) p5, RI.keep (by decide) p6, fun _ => rfl⟩
  · clear m0
    intro d x wx hI hd
    obtain ⟨u4, u7, u8, u9, u10, u11, u12, u13, v6, rfl, hS, p0, p1, p2, p3, p4, p5, p6, p7⟩ := hI
    obtain rfl := p7 (hd 7 (by decide))
    have HB : Hid (Below w.heap.size w wx) := hS.bel
    clear p0 p1 p2 p3 p4 p5 p6 p7 hS hd
    go_wp2_with fail
    go_ret
    exact ⟨rfl, HB.out⟩
end Go.Proofs.Ytblodmjnhmfjeaa
/- lampbearerkeep.TwosFloor. -/
namespace Go.Proofs.Ytblodmjnhmfjeaa
open Go.RowKit Go.Shelf
theorem cm_sg (a : Nat) (ha : a < 2 ^ 256) : decide (cm (hf a : Int) (hf 0 : Int) < 0) = sg a := by
  unfold cm hf sg
  rw [decide_eq_decide]
  split
  · constructor <;> intro _ <;> omega
  · split <;> constructor <;> intro _ <;> omega
theorem sar_rest (n a : Nat) (ha : a < 2 ^ 256) (hn : n < 255) : (a + 2 ^ 256 - sar n a * 2 ^ n % 2 ^ 256) % 2 ^ 256 < 2 ^ n ∧ sg (sar n a) = sg a := by
  have hP : 2 ^ n ≤ 2 ^ 254 := Nat.pow_le_pow_right (by decide) (by omega)
  have hP0 : 0 < 2 ^ n := Nat.pow_pos (by decide)
  unfold sar
  cases hs : sg a with
  | false =>
    rw [if_neg (by decide)]
    generalize 2 ^ n = P at *
    have h1 : a / P * P ≤ a := Nat.div_mul_le_self a P
    have h2 := Nat.div_add_mod a P
    rw [Nat.mul_comm] at h2
    have h3 := Nat.mod_lt a hP0
    have h4 : a / P ≤ a := Nat.div_le_self a P
    unfold sg at hs ⊢
    rw [decide_eq_false_iff_not] at hs ⊢
    generalize a / P * P = Y at *
    constructor <;> omega
  | true =>
    rw [if_pos rfl]
    unfold sg at hs
    rw [decide_eq_true_iff] at hs
    unfold nt sg
    generalize 2 ^ n = P at *
    have e : 2 ^ 256 - 1 - a % 2 ^ 256 = 2 ^ 256 - 1 - a := by omega
    rw [e]
    have h1 : (2 ^ 256 - 1 - a) / P * P ≤ 2 ^ 256 - 1 - a := Nat.div_mul_le_self _ P
    have h2 := Nat.div_add_mod (2 ^ 256 - 1 - a) P
    rw [Nat.mul_comm] at h2
    have h3 := Nat.mod_lt (2 ^ 256 - 1 - a) hP0
    have h4 : (2 ^ 256 - 1 - a) / P ≤ 2 ^ 256 - 1 - a := Nat.div_le_self _ P
    generalize (2 ^ 256 - 1 - a) % P = r at *
    generalize hq : (2 ^ 256 - 1 - a) / P = q at *
    have e2 : q % 2 ^ 256 = q := Nat.mod_eq_of_lt (by omega)
    rw [e2, Nat.sub_mul, Nat.sub_mul]
    rw [decide_eq_true_iff]
    generalize q * P = Y at *
    clear hq
    constructor <;> omega
set_option maxHeartbeats 4000000 in
set_option maxRecDepth 100000 in
theorem law_floor_A (n a : Nat) (hn : n < 2 ^ 256) (ha : a < 2 ^ 256) (hc : 255 ≤ n) (hs : sg a = false) (w : World) :
    Calls Try.prog 6 #[Wd n, Wd a] w fun e w' => e = .returned (.bool true) ∧ Below w.heap.size w w' := by
  have KA : Hid (∀ w : World, Calls Try.prog 9 #[] w fun e w' => e = .returned (.bool true) ∧ Below w.heap.size w w') := fun w => alive2_any w
  have K3 : Hid (∀ w : World, Calls Try.prog 16 #[.int .u64 255] w fun e w' => e = .returned (Wd 255) ∧ Below w.heap.size w w') := fun w => int_any 255 (by decide) w
  have K4 : Hid (∀ w : World, Calls Try.prog 19 #[Wd n, Wd 255] w fun e w' => e = .returned (.int .i64 (cm (n : Int) (255 : Int))) ∧ Below w.heap.size w w') := fun w => cmp_any n 255 hn (by decide) w
  have ev : sar (min n 256) a = 0 := by
    unfold sg at hs
    unfold sar sg
    rw [hs, if_neg (by decide)]
    rw [decide_eq_false_iff_not] at hs
    exact Nat.div_eq_of_lt (Nat.lt_of_lt_of_le (show a < 2 ^ 255 by omega) (Nat.pow_le_pow_right (by decide) (by omega)))
  have K5 : Hid (∀ w : World, Calls Try.prog 23 #[Wd n, Wd a] w fun e w' => e = .returned (Wd 0) ∧ Below w.heap.size w w') := fun w => by have := sar_any n a hn ha w; rwa [ev] at this
  have hc' : Hid (0 ≤ cm (n : Int) (255 : Int)) := cm_ge n 255 hc
  clear hn ha hc hs ev
  generalize cm (n : Int) (255 : Int) = c at *
  generalize Wd 255 = W255 at *
  have m0 := Hm.new4 (g := w.heap.size + 1) (n := a) (T := 24) (Hm.new4 (g := w.heap.size) (n := n) (T := 24) (Hm.start w) (by simp)) (by simp)
  conv => arg 3; unfold Wd
  go_enter Try.func6, Try.ntmps6
  go_wp2_with fail
  generalize (w.alloc (.cells #[.int .u64 (dg n 0), .int .u64 (dg n 1), .int .u64 (dg n 2), .int .u64 (dg n 3)] 24)).alloc (.cells #[.int .u64 (dg a 0), .int .u64 (dg a 1), .int .u64 (dg a 2), .int .u64 (dg a 3)] 24) = W0 at m0 ⊢
  refine (KA.out _).mono ?_
  rintro e w1 ⟨rfl, hb⟩
  have m1 := Hm.below m0 hb
  clear hb m0
  go_upto_region 3 with fail
  refine RS.wp_region_one (Hm.Hd w [Hm.W4 (w.heap.size + 1) a, Hm.W4 (w.heap.size) n]) (by kernel_rfl) (by kernel_rfl) (Hm.drew m1) ?_
  dsimp only [List.toList_toArray]
  refine RS.go1 (v := ?_) (a' := ?_) rfl ?_ ?_ ?_
  rotate_left 2
  · intro K wx hS hK
    refine RW.ld rfl rfl (hS.ok (Hm.W4 (w.heap.size) (n)) (by simp)).c ?_
    exact hK _ hS
  · simp only [Act.put, List.setIfInBounds_toArray, List.set_cons_succ, List.set_cons_zero]
    rfl
  refine RS.go1 (v := ?_) (a' := ?_) rfl ?_ ?_ ?_
  rotate_left 2
  · intro K wx hS hK
    go_simp
    refine (K3.out _).mono (fun e w2 he => ?_)
    refine ⟨_, he.1, ?_⟩
    exact hK _ (Hm.below hS he.2)
  · simp only [Act.put, List.setIfInBounds_toArray, List.set_cons_succ, List.set_cons_zero]
    rfl
  refine RS.go1 (v := ?_) (a' := ?_) rfl ?_ ?_ ?_
  rotate_left 2
  · intro K wx hS hK
    go_simp
    refine (K4.out _).mono (fun e w2 he => ?_)
    refine ⟨_, he.1, ?_⟩
    exact hK _ (Hm.below hS he.2)
  · simp only [Act.put, List.setIfInBounds_toArray, List.set_cons_succ, List.set_cons_zero]
    rfl
  refine RS.go1 (v := ?_) (a' := ?_) rfl ?_ ?_ ?_
  rotate_left 2
  · intro K wx hS hK
    have hq := hc'.out
    go_simp
    exact hK _ hS
  · simp only [Act.put, List.setIfInBounds_toArray, List.set_cons_succ, List.set_cons_zero]
    rfl
  refine RS.go_end ?_
  intro w3 m3
  clear m1
  go_upto_region 4 with fail
  refine RS.wp_region_flat (Hm.Hd w [Hm.W4 (w.heap.size + 1) a, Hm.W4 (w.heap.size) n]) 14 (by kernel_rfl) (m3) ?_
  simp only [List.take_succ_cons, List.take_zero, List.drop_succ_cons, List.drop_zero]
  refine RS.go1 (v := ?_) (a' := ?_) rfl ?_ ?_ ?_
  rotate_left 2
  · intro K wx hS hK
    refine RW.ld rfl rfl (hS.ok (Hm.W4 (w.heap.size) (n)) (by simp)).c ?_
    exact hK _ hS
  · simp only [Act.put, List.setIfInBounds_toArray, List.set_cons_succ, List.set_cons_zero]
    rfl
  refine RS.go1 (v := ?_) (a' := ?_) rfl ?_ ?_ ?_
  rotate_left 2
  · intro K wx hS hK
    refine RW.ld rfl rfl (hS.ok (Hm.W4 (w.heap.size + 1) (a)) (by simp)).c ?_
    exact hK _ hS
  · simp only [Act.put, List.setIfInBounds_toArray, List.set_cons_succ, List.set_cons_zero]
    rfl
  refine RS.go1 (v := ?_) (a' := ?_) rfl ?_ ?_ ?_
  rotate_left 2
  · intro K wx hS hK
    go_simp
    refine (K5.out _).mono (fun e w2 he => ?_)
    refine ⟨_, he.1, ?_⟩
    exact hK _ (Hm.below hS he.2)
  · simp only [Act.put, List.setIfInBounds_toArray, List.set_cons_succ, List.set_cons_zero]
    rfl
  refine RS.go1 (v := ?_) (a' := ?_) rfl ?_ ?_ ?_
  rotate_left 2
  · intro K wx hS hK
    go_simp
    exact hK _ hS
  · simp only [Act.put, List.setIfInBounds_toArray, List.set_cons_succ, List.set_cons_zero]
    rfl
  refine RS.go1 (v := ?_) (a' := ?_) rfl ?_ ?_ ?_
  rotate_left 2
  · intro K wx hS hK
    refine RW.eq (b := true) (y := 0) rfl rfl rfl (decide_eq_true rfl) ?_
    exact hK _ hS
  · simp only [Act.put, List.setIfInBounds_toArray, List.set_cons_succ, List.set_cons_zero]
    rfl
  refine RS.go1 (v := ?_) (a' := ?_) rfl ?_ ?_ ?_
  rotate_left 2
  · intro K wx hS hK
    go_simp
    exact hK _ hS
  · simp only [Act.put, List.setIfInBounds_toArray, List.set_cons_succ, List.set_cons_zero]
    rfl
  refine RS.go0 (a' := ?_) (by kernel_rfl) ?_ ?_
  rotate_left 1
  · simp only [Act.put, List.setIfInBounds_toArray, List.set_cons_succ, List.set_cons_zero]
    rfl
  refine RS.go0 (a' := ?_) (by kernel_rfl) ?_ ?_
  rotate_left 1
  · simp only [Act.put, List.setIfInBounds_toArray, List.set_cons_succ, List.set_cons_zero]
    rfl
  refine RS.go0 (a' := ?_) (by kernel_rfl) ?_ ?_
  rotate_left 1
  · simp only [Act.put, List.setIfInBounds_toArray, List.set_cons_succ, List.set_cons_zero]
    rfl
  refine RS.go0 (a' := ?_) (by kernel_rfl) ?_ ?_
  rotate_left 1
  · simp only [Act.put, List.setIfInBounds_toArray, List.set_cons_succ, List.set_cons_zero]
    rfl
  refine RS.go0 (a' := ?_) (by kernel_rfl) ?_ ?_
  rotate_left 1
  · simp only [Act.put, List.setIfInBounds_toArray, List.set_cons_succ, List.set_cons_zero]
    rfl
  refine RS.go0 (a' := ?_) (by kernel_rfl) ?_ ?_
  rotate_left 1
  · simp only [Act.put, List.setIfInBounds_toArray, List.set_cons_succ, List.set_cons_zero]
    rfl
  refine RS.go1 (v := ?_) (a' := ?_) rfl ?_ ?_ ?_
  rotate_left 2
  · intro K wx hS hK
    go_simp
    exact hK _ hS
  · simp only [Act.put, List.setIfInBounds_toArray, List.set_cons_succ, List.set_cons_zero]
    rfl
  refine RS.go1 (v := ?_) (a' := ?_) rfl ?_ ?_ ?_
  rotate_left 2
  · intro K wx hS hK
    go_simp
    exact hK _ hS
  · simp only [Act.put, List.setIfInBounds_toArray, List.set_cons_succ, List.set_cons_zero]
    rfl
  refine RS.go_end ?_
  intro w9 m9
  refine wpList_nil ?_
  have HB : Hid (Below w.heap.size w w9) := m9.bel
  clear m9 m3
  go_wp2_with fail
  go_ret
  exact ⟨rfl, HB.out⟩
set_option maxHeartbeats 4000000 in
set_option maxRecDepth 100000 in
theorem law_floor_B (n a : Nat) (hn : n < 2 ^ 256) (ha : a < 2 ^ 256) (hc : 255 ≤ n) (hs : sg a = true) (w : World) :
    Calls Try.prog 6 #[Wd n, Wd a] w fun e w' => e = .returned (.bool true) ∧ Below w.heap.size w w' := by
  have KA : Hid (∀ w : World, Calls Try.prog 9 #[] w fun e w' => e = .returned (.bool true) ∧ Below w.heap.size w w') := fun w => alive2_any w
  have K3 : Hid (∀ w : World, Calls Try.prog 16 #[.int .u64 255] w fun e w' => e = .returned (Wd 255) ∧ Below w.heap.size w w') := fun w => int_any 255 (by decide) w
  have K4 : Hid (∀ w : World, Calls Try.prog 19 #[Wd n, Wd 255] w fun e w' => e = .returned (.int .i64 (cm (n : Int) (255 : Int))) ∧ Below w.heap.size w w') := fun w => cmp_any n 255 hn (by decide) w
  have ev : sar (min n 256) a = nt 0 := by
    unfold sg at hs
    unfold sar sg
    rw [hs, if_pos rfl]
    rw [decide_eq_true_iff] at hs
    congr 1
    exact Nat.div_eq_of_lt (Nat.lt_of_lt_of_le (show nt a < 2 ^ 255 by unfold nt; omega) (Nat.pow_le_pow_right (by decide) (by omega)))
  have K5 : Hid (∀ w : World, Calls Try.prog 23 #[Wd n, Wd a] w fun e w' => e = .returned (Wd (nt 0)) ∧ Below w.heap.size w w') := fun w => by have := sar_any n a hn ha w; rwa [ev] at this
  have K6 : Hid (∀ w : World, Calls Try.prog 10 #[Wd 0] w fun e w' => e = .returned (Wd (nt 0)) ∧ Below w.heap.size w w') := fun w => not_any 0 w
  have hc' : Hid (0 ≤ cm (n : Int) (255 : Int)) := cm_ge n 255 hc
  have hd : Hid (decide (nt 0 % 2 ^ 256 = 0 % 2 ^ 256) = false) := (by decide +kernel : decide (nt 0 % 2 ^ 256 = 0 % 2 ^ 256) = false)
  clear hn ha hc hs ev
  generalize cm (n : Int) (255 : Int) = c at *
  generalize nt 0 = Z at *
  generalize Wd 255 = W255 at *
  have m0 := Hm.new4 (g := w.heap.size + 1) (n := a) (T := 24) (Hm.new4 (g := w.heap.size) (n := n) (T := 24) (Hm.start w) (by simp)) (by simp)
  conv => arg 3; unfold Wd
  go_enter Try.func6, Try.ntmps6
  go_wp2_with fail
  generalize (w.alloc (.cells #[.int .u64 (dg n 0), .int .u64 (dg n 1), .int .u64 (dg n 2), .int .u64 (dg n 3)] 24)).alloc (.cells #[.int .u64 (dg a 0), .int .u64 (dg a 1), .int .u64 (dg a 2), .int .u64 (dg a 3)] 24) = W0 at m0 ⊢
  refine (KA.out _).mono ?_
  rintro e w1 ⟨rfl, hb⟩
  have m1 := Hm.below m0 hb
  clear hb m0
  go_upto_region 3 with fail
  refine RS.wp_region_one (Hm.Hd w [Hm.W4 (w.heap.size + 1) a, Hm.W4 (w.heap.size) n]) (by kernel_rfl) (by kernel_rfl) (Hm.drew m1) ?_
  dsimp only [List.toList_toArray]
  refine RS.go1 (v := ?_) (a' := ?_) rfl ?_ ?_ ?_
  rotate_left 2
  · intro K wx hS hK
    refine RW.ld rfl rfl (hS.ok (Hm.W4 (w.heap.size) (n)) (by simp)).c ?_
    exact hK _ hS
  · simp only [Act.put, List.setIfInBounds_toArray, List.set_cons_succ, List.set_cons_zero]
    rfl
  refine RS.go1 (v := ?_) (a' := ?_) rfl ?_ ?_ ?_
  rotate_left 2
  · intro K wx hS hK
    go_simp
    refine (K3.out _).mono (fun e w2 he => ?_)
    refine ⟨_, he.1, ?_⟩
    exact hK _ (Hm.below hS he.2)
  · simp only [Act.put, List.setIfInBounds_toArray, List.set_cons_succ, List.set_cons_zero]
    rfl
  refine RS.go1 (v := ?_) (a' := ?_) rfl ?_ ?_ ?_
  rotate_left 2
  · intro K wx hS hK
    go_simp
    refine (K4.out _).mono (fun e w2 he => ?_)
    refine ⟨_, he.1, ?_⟩
    exact hK _ (Hm.below hS he.2)
  · simp only [Act.put, List.setIfInBounds_toArray, List.set_cons_succ, List.set_cons_zero]
    rfl
  refine RS.go1 (v := ?_) (a' := ?_) rfl ?_ ?_ ?_
  rotate_left 2
  · intro K wx hS hK
    have hq := hc'.out
    go_simp
    exact hK _ hS
  · simp only [Act.put, List.setIfInBounds_toArray, List.set_cons_succ, List.set_cons_zero]
    rfl
  refine RS.go_end ?_
  intro w3 m3
  clear m1
  go_upto_region 4 with fail
  refine RS.wp_region_flat (Hm.Hd w [Hm.W4 (w.heap.size + 1) a, Hm.W4 (w.heap.size) n]) 14 (by kernel_rfl) (m3) ?_
  simp only [List.take_succ_cons, List.take_zero, List.drop_succ_cons, List.drop_zero]
  refine RS.go1 (v := ?_) (a' := ?_) rfl ?_ ?_ ?_
  rotate_left 2
  · intro K wx hS hK
    refine RW.ld rfl rfl (hS.ok (Hm.W4 (w.heap.size) (n)) (by simp)).c ?_
    exact hK _ hS
  · simp only [Act.put, List.setIfInBounds_toArray, List.set_cons_succ, List.set_cons_zero]
    rfl
  refine RS.go1 (v := ?_) (a' := ?_) rfl ?_ ?_ ?_
  rotate_left 2
  · intro K wx hS hK
    refine RW.ld rfl rfl (hS.ok (Hm.W4 (w.heap.size + 1) (a)) (by simp)).c ?_
    exact hK _ hS
  · simp only [Act.put, List.setIfInBounds_toArray, List.set_cons_succ, List.set_cons_zero]
    rfl
  refine RS.go1 (v := ?_) (a' := ?_) rfl ?_ ?_ ?_
  rotate_left 2
  · intro K wx hS hK
    go_simp
    refine (K5.out _).mono (fun e w2 he => ?_)
    refine ⟨_, he.1, ?_⟩
    exact hK _ (Hm.below hS he.2)
  · simp only [Act.put, List.setIfInBounds_toArray, List.set_cons_succ, List.set_cons_zero]
    rfl
  refine RS.go1 (v := ?_) (a' := ?_) rfl ?_ ?_ ?_
  rotate_left 2
  · intro K wx hS hK
    go_simp
    exact hK _ hS
  · simp only [Act.put, List.setIfInBounds_toArray, List.set_cons_succ, List.set_cons_zero]
    rfl
  refine RS.go1 (v := ?_) (a' := ?_) rfl ?_ ?_ ?_
  rotate_left 2
  · intro K wx hS hK
    refine RW.eq (b := false) (y := 0) rfl rfl rfl (hd.out) ?_
    exact hK _ hS
  · simp only [Act.put, List.setIfInBounds_toArray, List.set_cons_succ, List.set_cons_zero]
    rfl
  refine RS.go1 (v := ?_) (a' := ?_) rfl ?_ ?_ ?_
  rotate_left 2
  · intro K wx hS hK
    go_simp
    exact hK _ hS
  · simp only [Act.put, List.setIfInBounds_toArray, List.set_cons_succ, List.set_cons_zero]
    rfl
  refine RS.go1g (v := ?_) (a' := ?_) (by kernel_rfl) ?_ ?_ ?_
  rotate_left 2
  · intro K wx hS hK
    refine RW.ld rfl rfl (hS.ok (Hm.W4 (w.heap.size) (n)) (by simp)).c ?_
    exact hK _ hS
  · simp only [Act.put, List.setIfInBounds_toArray, List.set_cons_succ, List.set_cons_zero]
    rfl
  refine RS.go1g (v := ?_) (a' := ?_) (by kernel_rfl) ?_ ?_ ?_
  rotate_left 2
  · intro K wx hS hK
    refine RW.ld rfl rfl (hS.ok (Hm.W4 (w.heap.size + 1) (a)) (by simp)).c ?_
    exact hK _ hS
  · simp only [Act.put, List.setIfInBounds_toArray, List.set_cons_succ, List.set_cons_zero]
    rfl
  refine RS.go1g (v := ?_) (a' := ?_) (by kernel_rfl) ?_ ?_ ?_
  rotate_left 2
  · intro K wx hS hK
    go_simp
    refine (K5.out _).mono (fun e w2 he => ?_)
    refine ⟨_, he.1, ?_⟩
    exact hK _ (Hm.below hS he.2)
  · simp only [Act.put, List.setIfInBounds_toArray, List.set_cons_succ, List.set_cons_zero]
    rfl
  refine RS.go1g (v := ?_) (a' := ?_) (by kernel_rfl) ?_ ?_ ?_
  rotate_left 2
  · intro K wx hS hK
    go_simp
    exact hK _ hS
  · simp only [Act.put, List.setIfInBounds_toArray, List.set_cons_succ, List.set_cons_zero]
    rfl
  refine RS.go1g (v := ?_) (a' := ?_) (by kernel_rfl) ?_ ?_ ?_
  rotate_left 2
  · intro K wx hS hK
    go_simp
    refine (K6.out _).mono (fun e w2 he => ?_)
    refine ⟨_, he.1, ?_⟩
    exact hK _ (Hm.below hS he.2)
  · simp only [Act.put, List.setIfInBounds_toArray, List.set_cons_succ, List.set_cons_zero]
    rfl
  refine RS.go1g (v := ?_) (a' := ?_) (by kernel_rfl) ?_ ?_ ?_
  rotate_left 2
  · intro K wx hS hK
    refine RW.eq (b := true) rfl rfl rfl (decide_eq_true rfl) ?_
    exact hK _ hS
  · simp only [Act.put, List.setIfInBounds_toArray, List.set_cons_succ, List.set_cons_zero]
    rfl
  refine RS.go1 (v := ?_) (a' := ?_) rfl ?_ ?_ ?_
  rotate_left 2
  · intro K wx hS hK
    go_simp
    exact hK _ hS
  · simp only [Act.put, List.setIfInBounds_toArray, List.set_cons_succ, List.set_cons_zero]
    rfl
  refine RS.go1 (v := ?_) (a' := ?_) rfl ?_ ?_ ?_
  rotate_left 2
  · intro K wx hS hK
    go_simp
    exact hK _ hS
  · simp only [Act.put, List.setIfInBounds_toArray, List.set_cons_succ, List.set_cons_zero]
    rfl
  refine RS.go_end ?_
  intro w9 m9
  refine wpList_nil ?_
  have HB : Hid (Below w.heap.size w w9) := m9.bel
  clear m9 m3
  go_wp2_with fail
  go_ret
  exact ⟨rfl, HB.out⟩
set_option maxHeartbeats 4000000 in
set_option maxRecDepth 100000 in
theorem law_floor_C (n a : Nat) (hn : n < 2 ^ 256) (ha : a < 2 ^ 256) (hc : n < 255) (w : World) :
    Calls Try.prog 6 #[Wd n, Wd a] w fun e w' => e = .returned (.bool true) ∧ Below w.heap.size w w' := by
  have KA : Hid (∀ w : World, Calls Try.prog 9 #[] w fun e w' => e = .returned (.bool true) ∧ Below w.heap.size w w') := fun w => alive2_any w
  obtain ⟨P, hP⟩ : ∃ P, P = 2 ^ n := ⟨_, rfl⟩
  obtain ⟨s, hs⟩ : ∃ s, s = sar n a := ⟨_, rfl⟩
  obtain ⟨r, hr⟩ : ∃ r, r = (a + 2 ^ 256 - s * P % 2 ^ 256) % 2 ^ 256 := ⟨_, rfl⟩
  have hsl : s < 2 ^ 256 := by rw [hs]; exact sar_lt n a ha
  have hPl : P < 2 ^ 256 := by rw [hP]; exact Nat.pow_lt_pow_right (by decide) (by omega)
  have hq := sar_rest n a ha hc
  rw [← hs, ← hP, ← hr] at hq
  have K1 : Hid (∀ w : World, Calls Try.prog 16 #[.int .u64 2] w fun e w' => e = .returned (Wd 2) ∧ Below w.heap.size w w') := fun w => int_any 2 (by decide) w
  have K2 : Hid (∀ w : World, Calls Try.prog 18 #[Wd 2, Wd n] w fun e w' => e = .returned (Wd P) ∧ Below w.heap.size w w') := fun w => by rw [hP]; exact exp_any 2 n hn w
  have K3 : Hid (∀ w : World, Calls Try.prog 16 #[.int .u64 255] w fun e w' => e = .returned (Wd 255) ∧ Below w.heap.size w w') := fun w => int_any 255 (by decide) w
  have K4 : Hid (∀ w : World, Calls Try.prog 19 #[Wd n, Wd 255] w fun e w' => e = .returned (.int .i64 (-1)) ∧ Below w.heap.size w w') := fun w => by have := cmp_any n 255 hn (by decide) w; rwa [cm_lt n 255 hc] at this
  have K5 : Hid (∀ w : World, Calls Try.prog 23 #[Wd n, Wd a] w fun e w' => e = .returned (Wd s) ∧ Below w.heap.size w w') := fun w => by have := sar_any n a hn ha w; rw [show min n 256 = n by omega] at this; rw [hs]; exact this
  have K6 : Hid (∀ w : World, Calls Try.prog 15 #[Wd s, Wd P] w fun e w' => e = .returned (Wd (s * P)) ∧ Below w.heap.size w w') := fun w => mul_mod _ _ w
  have K7 : Hid (∀ w : World, Calls Try.prog 24 #[Wd a, Wd (s * P)] w fun e w' => e = .returned (Wd r) ∧ Below w.heap.size w w') := fun w => by have := sub_any a (s * P % 2 ^ 256) (Nat.mod_lt _ (by decide)) w; rw [Wd_mod] at this; rw [hr, Wd_mod]; exact this
  have K8 : Hid (∀ w : World, Calls Try.prog 19 #[Wd r, Wd P] w fun e w' => e = .returned (.int .i64 (-1)) ∧ Below w.heap.size w w') := fun w => by have := cmp_any r P (by rw [hr]; exact Nat.mod_lt _ (by decide)) hPl w; rwa [cm_lt r P hq.1] at this
  have K9 : Hid (∀ w : World, Calls Try.prog 25 #[Wd s, Wd 0] w fun e w' => e = .returned (.int .i64 (cm (hf s : Int) (hf 0 : Int))) ∧ Below w.heap.size w w') := fun w => scmp_any s 0 hsl (by decide) w
  have K10 : Hid (∀ w : World, Calls Try.prog 25 #[Wd a, Wd 0] w fun e w' => e = .returned (.int .i64 (cm (hf a : Int) (hf 0 : Int))) ∧ Below w.heap.size w w') := fun w => scmp_any a 0 ha (by decide) w
  have E1 : Hid (decide (cm (hf s : Int) (hf 0 : Int) < 0) = sg a) := (cm_sg s hsl).trans hq.2
  have E2 : Hid (decide (cm (hf a : Int) (hf 0 : Int) < 0) = sg a) := cm_sg a ha
  clear hn ha hc hP hs hr hsl hPl hq
  generalize cm (hf s : Int) (hf 0 : Int) = c1 at *
  generalize cm (hf a : Int) (hf 0 : Int) = c2 at *
  generalize sg a = b at *
  generalize s * P = n1 at *
  generalize Wd 255 = W255 at *
  generalize Wd 2 = W22 at *
  have m0 := Hm.new4 (g := w.heap.size + 1) (n := a) (T := 24) (Hm.new4 (g := w.heap.size) (n := n) (T := 24) (Hm.start w) (by simp)) (by simp)
  conv => arg 3; unfold Wd
  go_enter Try.func6, Try.ntmps6
  go_wp2_with fail
  generalize (w.alloc (.cells #[.int .u64 (dg n 0), .int .u64 (dg n 1), .int .u64 (dg n 2), .int .u64 (dg n 3)] 24)).alloc (.cells #[.int .u64 (dg a 0), .int .u64 (dg a 1), .int .u64 (dg a 2), .int .u64 (dg a 3)] 24) = W0 at m0 ⊢
  refine (KA.out _).mono ?_
  rintro e w1 ⟨rfl, hb⟩
  have m1 := Hm.below m0 hb
  clear hb m0
  go_upto_region 3 with fail
  refine RS.wp_region_one (Hm.Hd w [Hm.W4 (w.heap.size + 1) a, Hm.W4 (w.heap.size) n]) (by kernel_rfl) (by kernel_rfl) (Hm.drew m1) ?_
  dsimp only [List.toList_toArray]
  refine RS.go1 (v := ?_) (a' := ?_) rfl ?_ ?_ ?_
  rotate_left 2
  · intro K wx hS hK
    refine RW.ld rfl rfl (hS.ok (Hm.W4 (w.heap.size) (n)) (by simp)).c ?_
    exact hK _ hS
  · simp only [Act.put, List.setIfInBounds_toArray, List.set_cons_succ, List.set_cons_zero]
    rfl
  refine RS.go1 (v := ?_) (a' := ?_) rfl ?_ ?_ ?_
  rotate_left 2
  · intro K wx hS hK
    go_simp
    refine (K3.out _).mono (fun e w2 he => ?_)
    refine ⟨_, he.1, ?_⟩
    exact hK _ (Hm.below hS he.2)
  · simp only [Act.put, List.setIfInBounds_toArray, List.set_cons_succ, List.set_cons_zero]
    rfl
  refine RS.go1 (v := ?_) (a' := ?_) rfl ?_ ?_ ?_
  rotate_left 2
  · intro K wx hS hK
    go_simp
    refine (K4.out _).mono (fun e w2 he => ?_)
    refine ⟨_, he.1, ?_⟩
    exact hK _ (Hm.below hS he.2)
  · simp only [Act.put, List.setIfInBounds_toArray, List.set_cons_succ, List.set_cons_zero]
    rfl
  refine RS.go1 (v := ?_) (a' := ?_) rfl ?_ ?_ ?_
  rotate_left 2
  · intro K wx hS hK
    go_simp
    exact hK _ hS
  · simp only [Act.put, List.setIfInBounds_toArray, List.set_cons_succ, List.set_cons_zero]
    rfl
  refine RS.go_end ?_
  intro w2 m2
  clear m1
  go_upto_region 5 with fail
  refine RN.wp_region_new1 (Hm.Hd w [Hm.W4 (w.heap.size + 1) a, Hm.W4 (w.heap.size) n]) (Hm.Fresh w [Hm.W4 (w.heap.size + 1) a, Hm.W4 (w.heap.size) n]) 3 5 (fun _ _ h hb => Hm.below h hb) (fun _ _ _ h hb => Hm.Fresh_below h hb) (fun _ _ h => h.ok.hi) (by kernel_rfl) (by kernel_rfl) (by decide) (by kernel_rfl) (Hm.drew m2) rfl (fun o ho => ?_) ?_
  · obtain rfl := Option.some.inj ho
    exact ⟨rfl, fun ρ K wx hS hK => RW.al rfl hS hK⟩
  simp only [List.take_succ_cons, List.take_zero, List.drop_succ_cons, List.drop_zero]
  refine RN.go1 (v := ?_) (a' := ?_) rfl ?_ ?_ ?_
  rotate_left 2
  · intro K wx hS hK
    go_simp
    refine (K1.out _).mono (fun e w2 he => ?_)
    refine ⟨_, he.1, ?_⟩
    exact hK _ he.2
  · simp only [Act.put, List.setIfInBounds_toArray, List.set_cons_succ, List.set_cons_zero]
    rfl
  refine RN.go1 (v := ?_) (a' := ?_) rfl ?_ ?_ ?_
  rotate_left 2
  · intro K wx hS hK
    refine RW.ld rfl rfl (hS.ok (Hm.W4 (w.heap.size) (n)) (by simp)).c ?_
    exact hK _ (Below.refl _ _)
  · simp only [Act.put, List.setIfInBounds_toArray, List.set_cons_succ, List.set_cons_zero]
    rfl
  refine RN.go1 (v := ?_) (a' := ?_) rfl ?_ ?_ ?_
  rotate_left 2
  · intro K wx hS hK
    go_simp
    refine (K2.out _).mono (fun e w2 he => ?_)
    refine ⟨_, he.1, ?_⟩
    exact hK _ he.2
  · simp only [Act.put, List.setIfInBounds_toArray, List.set_cons_succ, List.set_cons_zero]
    rfl
  refine RN.go_end ?_
  intro g w3 m3 f3
  have m4 := Hm.cons m3 f3
  have c3 : ∀ o, o < 4 → w3.cell? ⟨g, o, none⟩ = some (.int .u64 (dg 0 o)) := (m4.ok _ (List.mem_cons_self ..)).c
  have z3 : ∀ o, w3.frozen? ⟨g, o, none⟩ = false := (m4.ok _ (List.mem_cons_self ..)).f
  have HV : Hid (Hm.Hd w (Hm.W4 g P :: [Hm.W4 (w.heap.size + 1) a, Hm.W4 (w.heap.size) n]) (((((w3).setCell ⟨g, 0, none⟩ (.int .u64 (dg P 0))).setCell ⟨g, 1, none⟩ (.int .u64 (dg P 1))).setCell ⟨g, 2, none⟩ (.int .u64 (dg P 2))).setCell ⟨g, 3, none⟩ (.int .u64 (dg P 3)))) := Hm.set4 m4 f3.ne
  clear m4 m3 f3 m2
  unfold Wd
  simp only [Act.put, List.setIfInBounds_toArray, List.set_cons_succ, List.set_cons_zero]
  go_upto_region 6 with fail
  generalize ((((w3).setCell ⟨g, 0, none⟩ (.int .u64 (dg P 0))).setCell ⟨g, 1, none⟩ (.int .u64 (dg P 1))).setCell ⟨g, 2, none⟩ (.int .u64 (dg P 2))).setCell ⟨g, 3, none⟩ (.int .u64 (dg P 3)) = W3 at HV ⊢
  have m4 := HV.out
  clear HV c3 z3
  generalize g = h at *
  refine RN.wp_region_new1 (Hm.Hd w [Hm.W4 h P, Hm.W4 (w.heap.size + 1) a, Hm.W4 (w.heap.size) n]) (Hm.Fresh w [Hm.W4 h P, Hm.W4 (w.heap.size + 1) a, Hm.W4 (w.heap.size) n]) 7 6 (fun _ _ h hb => Hm.below h hb) (fun _ _ _ h hb => Hm.Fresh_below h hb) (fun _ _ h => h.ok.hi) (by kernel_rfl) (by kernel_rfl) (by decide) (by kernel_rfl) (Hm.drew m4) rfl (fun o ho => ?_) ?_
  · obtain rfl := Option.some.inj ho
    exact ⟨rfl, fun ρ K wx hS hK => RW.al rfl hS hK⟩
  simp only [List.take_succ_cons, List.take_zero, List.drop_succ_cons, List.drop_zero]
  refine RN.go1 (v := ?_) (a' := ?_) rfl ?_ ?_ ?_
  rotate_left 2
  · intro K wx hS hK
    refine RW.ld rfl rfl (hS.ok (Hm.W4 (w.heap.size + 1) (a)) (by simp)).c ?_
    exact hK _ (Below.refl _ _)
  · simp only [Act.put, List.setIfInBounds_toArray, List.set_cons_succ, List.set_cons_zero]
    rfl
  refine RN.go1 (v := ?_) (a' := ?_) rfl ?_ ?_ ?_
  rotate_left 2
  · intro K wx hS hK
    refine RW.ld rfl rfl (hS.ok (Hm.W4 (w.heap.size) (n)) (by simp)).c ?_
    exact hK _ (Below.refl _ _)
  · simp only [Act.put, List.setIfInBounds_toArray, List.set_cons_succ, List.set_cons_zero]
    rfl
  refine RN.go1 (v := ?_) (a' := ?_) rfl ?_ ?_ ?_
  rotate_left 2
  · intro K wx hS hK
    refine RW.ld rfl rfl (hS.ok (Hm.W4 (w.heap.size + 1) (a)) (by simp)).c ?_
    exact hK _ (Below.refl _ _)
  · simp only [Act.put, List.setIfInBounds_toArray, List.set_cons_succ, List.set_cons_zero]
    rfl
  refine RN.go1 (v := ?_) (a' := ?_) rfl ?_ ?_ ?_
  rotate_left 2
  · intro K wx hS hK
    go_simp
    refine (K5.out _).mono (fun e w2 he => ?_)
    refine ⟨_, he.1, ?_⟩
    exact hK _ he.2
  · simp only [Act.put, List.setIfInBounds_toArray, List.set_cons_succ, List.set_cons_zero]
    rfl
  refine RN.go1 (v := ?_) (a' := ?_) rfl ?_ ?_ ?_
  rotate_left 2
  · intro K wx hS hK
    refine RW.ld rfl rfl (hS.ok (Hm.W4 (h) (P)) (by simp)).c ?_
    exact hK _ (Below.refl _ _)
  · simp only [Act.put, List.setIfInBounds_toArray, List.set_cons_succ, List.set_cons_zero]
    rfl
  refine RN.go1 (v := ?_) (a' := ?_) rfl ?_ ?_ ?_
  rotate_left 2
  · intro K wx hS hK
    go_simp
    refine (K6.out _).mono (fun e w2 he => ?_)
    refine ⟨_, he.1, ?_⟩
    exact hK _ he.2
  · simp only [Act.put, List.setIfInBounds_toArray, List.set_cons_succ, List.set_cons_zero]
    rfl
  refine RN.go1 (v := ?_) (a' := ?_) rfl ?_ ?_ ?_
  rotate_left 2
  · intro K wx hS hK
    go_simp
    refine (K7.out _).mono (fun e w2 he => ?_)
    refine ⟨_, he.1, ?_⟩
    exact hK _ he.2
  · simp only [Act.put, List.setIfInBounds_toArray, List.set_cons_succ, List.set_cons_zero]
    rfl
  refine RN.go_end ?_
  intro g w3 m3 f3
  clear m4
  have m4 := Hm.cons m3 f3
  have c3 : ∀ o, o < 4 → w3.cell? ⟨g, o, none⟩ = some (.int .u64 (dg 0 o)) := (m4.ok _ (List.mem_cons_self ..)).c
  have z3 : ∀ o, w3.frozen? ⟨g, o, none⟩ = false := (m4.ok _ (List.mem_cons_self ..)).f
  have HV : Hid (Hm.Hd w (Hm.W4 g r :: [Hm.W4 h P, Hm.W4 (w.heap.size + 1) a, Hm.W4 (w.heap.size) n]) (((((w3).setCell ⟨g, 0, none⟩ (.int .u64 (dg r 0))).setCell ⟨g, 1, none⟩ (.int .u64 (dg r 1))).setCell ⟨g, 2, none⟩ (.int .u64 (dg r 2))).setCell ⟨g, 3, none⟩ (.int .u64 (dg r 3)))) := Hm.set4 m4 f3.ne
  clear m4 m3 f3 
  unfold Wd
  simp only [Act.put, List.setIfInBounds_toArray, List.set_cons_succ, List.set_cons_zero]
  go_upto_region 7 with fail
  generalize ((((w3).setCell ⟨g, 0, none⟩ (.int .u64 (dg r 0))).setCell ⟨g, 1, none⟩ (.int .u64 (dg r 1))).setCell ⟨g, 2, none⟩ (.int .u64 (dg r 2))).setCell ⟨g, 3, none⟩ (.int .u64 (dg r 3)) = W4 at HV ⊢
  have m4 := HV.out
  clear HV c3 z3
  refine RS.wp_region_one (Hm.Hd w [Hm.W4 g r, Hm.W4 h P, Hm.W4 (w.heap.size + 1) a, Hm.W4 (w.heap.size) n]) (by kernel_rfl) (by kernel_rfl) (Hm.drew m4) ?_
  dsimp only [List.toList_toArray]
  refine RS.go1 (v := ?_) (a' := ?_) rfl ?_ ?_ ?_
  rotate_left 2
  · intro K wx hS hK
    refine RW.ld rfl rfl (hS.ok (Hm.W4 (g) (r)) (by simp)).c ?_
    exact hK _ hS
  · simp only [Act.put, List.setIfInBounds_toArray, List.set_cons_succ, List.set_cons_zero]
    rfl
  refine RS.go1 (v := ?_) (a' := ?_) rfl ?_ ?_ ?_
  rotate_left 2
  · intro K wx hS hK
    refine RW.ld rfl rfl (hS.ok (Hm.W4 (h) (P)) (by simp)).c ?_
    exact hK _ hS
  · simp only [Act.put, List.setIfInBounds_toArray, List.set_cons_succ, List.set_cons_zero]
    rfl
  refine RS.go1 (v := ?_) (a' := ?_) rfl ?_ ?_ ?_
  rotate_left 2
  · intro K wx hS hK
    go_simp
    refine (K8.out _).mono (fun e w2 he => ?_)
    refine ⟨_, he.1, ?_⟩
    exact hK _ (Hm.below hS he.2)
  · simp only [Act.put, List.setIfInBounds_toArray, List.set_cons_succ, List.set_cons_zero]
    rfl
  refine RS.go1 (v := ?_) (a' := ?_) rfl ?_ ?_ ?_
  rotate_left 2
  · intro K wx hS hK
    go_simp
    exact hK _ hS
  · simp only [Act.put, List.setIfInBounds_toArray, List.set_cons_succ, List.set_cons_zero]
    rfl
  refine RS.go1 (v := ?_) (a' := ?_) rfl ?_ ?_ ?_
  rotate_left 2
  · intro K wx hS hK
    go_simp
    exact hK _ hS
  · simp only [Act.put, List.setIfInBounds_toArray, List.set_cons_succ, List.set_cons_zero]
    rfl
  refine RS.go1g (v := ?_) (a' := ?_) (by kernel_rfl) ?_ ?_ ?_
  rotate_left 2
  · intro K wx hS hK
    refine RW.ld rfl rfl (hS.ok (Hm.W4 (w.heap.size) (n)) (by simp)).c ?_
    exact hK _ hS
  · simp only [Act.put, List.setIfInBounds_toArray, List.set_cons_succ, List.set_cons_zero]
    rfl
  refine RS.go1g (v := ?_) (a' := ?_) (by kernel_rfl) ?_ ?_ ?_
  rotate_left 2
  · intro K wx hS hK
    refine RW.ld rfl rfl (hS.ok (Hm.W4 (w.heap.size + 1) (a)) (by simp)).c ?_
    exact hK _ hS
  · simp only [Act.put, List.setIfInBounds_toArray, List.set_cons_succ, List.set_cons_zero]
    rfl
  refine RS.go1g (v := ?_) (a' := ?_) (by kernel_rfl) ?_ ?_ ?_
  rotate_left 2
  · intro K wx hS hK
    go_simp
    refine (K5.out _).mono (fun e w2 he => ?_)
    refine ⟨_, he.1, ?_⟩
    exact hK _ (Hm.below hS he.2)
  · simp only [Act.put, List.setIfInBounds_toArray, List.set_cons_succ, List.set_cons_zero]
    rfl
  refine RS.go1g (v := ?_) (a' := ?_) (by kernel_rfl) ?_ ?_ ?_
  rotate_left 2
  · intro K wx hS hK
    go_simp
    exact hK _ hS
  · simp only [Act.put, List.setIfInBounds_toArray, List.set_cons_succ, List.set_cons_zero]
    rfl
  refine RS.go1g (v := ?_) (a' := ?_) (by kernel_rfl) ?_ ?_ ?_
  rotate_left 2
  · intro K wx hS hK
    go_simp
    refine (K9.out _).mono (fun e w2 he => ?_)
    refine ⟨_, he.1, ?_⟩
    exact hK _ (Hm.below hS he.2)
  · simp only [Act.put, List.setIfInBounds_toArray, List.set_cons_succ, List.set_cons_zero]
    rfl
  refine RS.go1g (v := ?_) (a' := ?_) (by kernel_rfl) ?_ ?_ ?_
  rotate_left 2
  · intro K wx hS hK
    have e := E1.out
    go_simp
    exact hK _ hS
  · simp only [Act.put, List.setIfInBounds_toArray, List.set_cons_succ, List.set_cons_zero]
    rfl
  refine RS.go1g (v := ?_) (a' := ?_) (by kernel_rfl) ?_ ?_ ?_
  rotate_left 2
  · intro K wx hS hK
    refine RW.ld rfl rfl (hS.ok (Hm.W4 (w.heap.size + 1) (a)) (by simp)).c ?_
    exact hK _ hS
  · simp only [Act.put, List.setIfInBounds_toArray, List.set_cons_succ, List.set_cons_zero]
    rfl
  refine RS.go1g (v := ?_) (a' := ?_) (by kernel_rfl) ?_ ?_ ?_
  rotate_left 2
  · intro K wx hS hK
    go_simp
    exact hK _ hS
  · simp only [Act.put, List.setIfInBounds_toArray, List.set_cons_succ, List.set_cons_zero]
    rfl
  refine RS.go1g (v := ?_) (a' := ?_) (by kernel_rfl) ?_ ?_ ?_
  rotate_left 2
  · intro K wx hS hK
    go_simp
    refine (K10.out _).mono (fun e w2 he => ?_)
    refine ⟨_, he.1, ?_⟩
    exact hK _ (Hm.below hS he.2)
  · simp only [Act.put, List.setIfInBounds_toArray, List.set_cons_succ, List.set_cons_zero]
    rfl
  refine RS.go1g (v := ?_) (a' := ?_) (by kernel_rfl) ?_ ?_ ?_
  rotate_left 2
  · intro K wx hS hK
    have e := E2.out
    go_simp
    exact hK _ hS
  · simp only [Act.put, List.setIfInBounds_toArray, List.set_cons_succ, List.set_cons_zero]
    rfl
  refine RS.go1g (v := ?_) (a' := ?_) (by kernel_rfl) ?_ ?_ ?_
  rotate_left 2
  · intro K wx hS hK
    go_simp
    exact hK _ hS
  · simp only [Act.put, List.setIfInBounds_toArray, List.set_cons_succ, List.set_cons_zero]
    rfl
  refine RS.go1 (v := ?_) (a' := ?_) rfl ?_ ?_ ?_
  rotate_left 2
  · intro K wx hS hK
    go_simp
    exact hK _ hS
  · simp only [Act.put, List.setIfInBounds_toArray, List.set_cons_succ, List.set_cons_zero]
    rfl
  refine RS.go1 (v := ?_) (a' := ?_) rfl ?_ ?_ ?_
  rotate_left 2
  · intro K wx hS hK
    go_simp
    exact hK _ hS
  · simp only [Act.put, List.setIfInBounds_toArray, List.set_cons_succ, List.set_cons_zero]
    rfl
  refine RS.go_end ?_
  intro w9 m9
  have HB : Hid (Below w.heap.size w w9) := m9.bel
  clear m9
  go_wp2_with fail
  go_ret
  exact ⟨rfl, HB.out⟩
theorem law_floor (n a : Nat) (hn : n < 2 ^ 256) (ha : a < 2 ^ 256) (w : World) :
    Calls Try.prog 6 #[Wd n, Wd a] w fun e w' => e = .returned (.bool true) ∧ Below w.heap.size w w' := by
  rcases Nat.lt_or_ge n 255 with h | h
  · exact law_floor_C n a hn ha h w
  · cases hs : sg a
    · exact law_floor_A n a hn ha h hs w
    · exact law_floor_B n a hn ha h hs w
end Go.Proofs.Ytblodmjnhmfjeaa
/- Plain arithmetic on the bytes of words: one out of its part, and one more into its part. -/
namespace Go.Proofs.Ytblodmjnhmfjeaa
theorem pow_split (p : Nat) : 2 ^ (64 * (p / 8)) * 2 ^ (8 * (p % 8)) = 2 ^ (8 * p) := by
  rw [← Nat.pow_add]; congr 1; omega
theorem mod_div_mod (x s : Nat) (hs : s ≤ 56) : x % 18446744073709551616 / 2 ^ s % 256 = x / 2 ^ s % 256 := by
  obtain ⟨t, ht⟩ : ∃ t, s + 8 + t = 64 := ⟨56 - s, by omega⟩
  have e : (18446744073709551616 : Nat) = 2 ^ s * (256 * 2 ^ t) := by
    rw [show (256 : Nat) = 2 ^ 8 by decide, ← Nat.pow_add, ← Nat.pow_add, ← Nat.add_assoc, ht]
  rw [e, Nat.mod_mul_right_div_self, Nat.mod_mul_right_mod]
/-- Byte p, the least first, out of its part. -/
theorem byte_out (n p : Nat) : dg n (p / 8) / 2 ^ (8 * (p % 8)) % 256 = ((n / 2 ^ (8 * p) % 256 : Nat) : Int) := by
  have h := mod_div_mod (n / 2 ^ (64 * (p / 8))) (8 * (p % 8)) (by omega)
  rw [Nat.div_div_eq_div_mul, pow_split] at h
  rw [← h]
  unfold dg
  have e : (2 : Int) ^ (8 * (p % 8)) = ((2 ^ (8 * (p % 8)) : Nat) : Int) := by simp
  rw [e, ← Int.natCast_ediv]
  omega
theorem dg_nat (n i : Nat) : dg n i = ((n / 2 ^ (64 * i) % 18446744073709551616 : Nat) : Int) := rfl
theorem byte_in_below (N x k o : Nat) (ho : o < k / 8) : dg (N + x * 2 ^ (8 * k)) o = dg N o := by
  rw [dg_nat, dg_nat]
  obtain ⟨d, hd⟩ : ∃ d, 8 * k = 64 * o + (64 + d) := ⟨8 * k - 64 * o - 64, by omega⟩
  rw [hd, Nat.pow_add, Nat.pow_add, Nat.mul_left_comm, Nat.add_mul_div_left _ _ (Nat.two_pow_pos _), Nat.mul_left_comm, show (2 : Nat) ^ 64 = 18446744073709551616 by decide, Nat.add_mul_mod_self_left]
theorem byte_in_above (N x k o : Nat) (hN : N < 2 ^ (8 * k)) (hx : x < 256) (ho : k / 8 < o) : dg (N + x * 2 ^ (8 * k)) o = dg N o := by
  have h1 : N + x * 2 ^ (8 * k) < 2 ^ (8 * k + 8) := by
    rw [Nat.pow_add, show (2 : Nat) ^ 8 = 256 by decide]
    have := Nat.mul_le_mul_right (2 ^ (8 * k)) (show x + 1 ≤ 256 from hx)
    rw [Nat.add_mul] at this
    omega
  have h2 : 2 ^ (8 * k + 8) ≤ 2 ^ (64 * o) := Nat.pow_le_pow_right (by decide) (by omega)
  have h3 : 2 ^ (8 * k) ≤ 2 ^ (64 * o) := Nat.pow_le_pow_right (by decide) (by omega)
  rw [dg_nat, dg_nat, Nat.div_eq_of_lt (by omega), Nat.div_eq_of_lt (by omega)]
theorem byte_in_at (N x k : Nat) (hN : N < 2 ^ (8 * k)) (hx : x < 256) : bits .or .u64 (dg N (k / 8)) (IntKind.u64.wrap ((x : Int) * 2 ^ (8 * (k % 8)))) = dg (N + x * 2 ^ (8 * k)) (k / 8) := by
  have hs : 8 * (k % 8) ≤ 56 := by omega
  have e1 : N / 2 ^ (64 * (k / 8)) < 2 ^ (8 * (k % 8)) := by
    rw [Nat.div_lt_iff_lt_mul (Nat.two_pow_pos _), Nat.mul_comm, pow_split]; exact hN
  have e2 : (N + x * 2 ^ (8 * k)) / 2 ^ (64 * (k / 8)) = N / 2 ^ (64 * (k / 8)) + x * 2 ^ (8 * (k % 8)) := by
    rw [← pow_split, Nat.mul_left_comm, Nat.add_mul_div_left _ _ (Nat.two_pow_pos _)]
  generalize hq : N / 2 ^ (64 * (k / 8)) = q at *
  generalize 8 * (k % 8) = s at *
  have p56 : 2 ^ s ≤ 2 ^ 56 := Nat.pow_le_pow_right (by decide) hs
  have hb : q + x * 2 ^ s < 18446744073709551616 := by
    have := Nat.mul_le_mul (show x ≤ 255 by omega) p56
    have : (2 : Nat) ^ 56 = 72057594037927936 := by decide
    omega
  rw [dg_nat, dg_nat, e2, hq, IntKind.wrap_u64]
  have e3 : (x : Int) * 2 ^ s % 18446744073709551616 = ((x * 2 ^ s : Nat) : Int) := by
    have : (x : Int) * 2 ^ s = ((x * 2 ^ s : Nat) : Int) := by simp
    rw [this]; omega
  rw [e3, Nat.mod_eq_of_lt (show q < 18446744073709551616 by omega), u64_or_nat _ _ (by omega) (by omega), Nat.mod_eq_of_lt hb, Nat.or_comm, nat_join s _ _ (Nat.mul_mod_left _ _) e1, Nat.add_comm]
end Go.Proofs.Ytblodmjnhmfjeaa
/- (*sponge.soaker).squeeze: the bytes that come out. -/
namespace Go.Proofs.Ytblodmjnhmfjeaa
namespace Sp
open Go.RowKit
theorem infoHash : (Try.prog.info? 55).map (·.size) = some 32 := by kernel_rfl
theorem range32 {g : Nat} {G : Nat → Int} {w : World} (h : CK .u8 g 32 G w) : w.rangeAt g 0 (h32 G) := fun j v hv => by
  have hj : j < 32 := by
    have := (List.getElem?_eq_some_iff.1 hv).1
    rwa [h32_length] at this
  rw [h32_get G j hj] at hv
  rw [Nat.zero_add, h j hj]; exact hv
theorem there32 {g : Nat} {G : Nat → Int} {w : World} (h : CK .u8 g 32 G w) (f : Fz g w) : w.there g 0 32 := fun j hj => by
  rw [Nat.zero_add, h j hj]; exact ⟨rfl, f j⟩
theorem there32a {g : Nat} {F G : Nat → Int} {w : World} (h : CK .u8 g 32 F w) (f : Fz g w) : w.there g 0 (h32 G).toArray.size := by
  rw [List.size_toArray, h32_length]; exact there32 h f
theorem info32 {G : Nat → Int} : (Try.prog.info? 55).map (·.size) = some (h32 G).length := by rw [h32_length]; exact infoHash
theorem info32a {G : Nat → Int} : (Try.prog.info? 55).map (·.size) = some (h32 G).toArray.size := by rw [List.size_toArray]; exact info32
theorem load32 {g : Nat} {G : Nat → Int} {w : World} (h : CK .u8 g 32 G w) : (Instr.loadAt 55 (.pointer (some ⟨g, 0, none⟩))).run Try.prog w = .ok (Hv G) w :=
  run_loadAt_mid w g 0 55 (h32 G) _ (range32 h) Try.underlying55 rfl (by rw [h32_length]; exact infoHash)
theorem store32 {g : Nat} {F G : Nat → Int} {w : World} (h : CK .u8 g 32 F w) (f : Fz g w) : (Instr.storeAt 55 (.pointer (some ⟨g, 0, none⟩)) (Hv G)).run Try.prog w = .ok () (w.setCells g 0 (h32 G)) := by
  have k := run_storeAt_mid (P := Try.prog) w g 0 55 (h32 G).toArray (by
    rw [List.size_toArray, h32_length]; exact there32 h f) (by rw [List.size_toArray, h32_length]; exact infoHash) (all_oneCell_toArray (h32_one G))
  exact k
theorem CK_zero32 (w : World) (T : TypeId) : CK .u8 w.heap.size 32 (fun _ => 0) (w.alloc (.cells #[.int .u8 0, .int .u8 0, .int .u8 0, .int .u8 0, .int .u8 0, .int .u8 0, .int .u8 0, .int .u8 0, .int .u8 0, .int .u8 0, .int .u8 0, .int .u8 0, .int .u8 0, .int .u8 0, .int .u8 0, .int .u8 0, .int .u8 0, .int .u8 0, .int .u8 0, .int .u8 0, .int .u8 0, .int .u8 0, .int .u8 0, .int .u8 0, .int .u8 0, .int .u8 0, .int .u8 0, .int .u8 0, .int .u8 0, .int .u8 0, .int .u8 0, .int .u8 0] T)) := by
  have e : (#[.int .u8 0, .int .u8 0, .int .u8 0, .int .u8 0, .int .u8 0, .int .u8 0, .int .u8 0, .int .u8 0, .int .u8 0, .int .u8 0, .int .u8 0, .int .u8 0, .int .u8 0, .int .u8 0, .int .u8 0, .int .u8 0, .int .u8 0, .int .u8 0, .int .u8 0, .int .u8 0, .int .u8 0, .int .u8 0, .int .u8 0, .int .u8 0, .int .u8 0, .int .u8 0, .int .u8 0, .int .u8 0, .int .u8 0, .int .u8 0, .int .u8 0, .int .u8 0] : Array Value) = (List.replicate 32 (Value.int .u8 0)).toArray := rfl
  rw [e]
  exact CK_row (Deep.blk_alloc_new _ _) (fun o ho => by rw [List.getElem?_replicate, if_pos ho])
theorem result32 (f : Func) (tm : Array Value) (W : World) (g s : Nat) (G : Nat → Int) (hf : f.results = #[.cell s 55]) (htm : tm.getD s undef = .pointer (some ⟨g, 0, none⟩)) (h : CK .u8 g 32 G W) : (results f tm).run Try.prog W = .ok (Hv G) W := by
  have h' := run_loadVar_mid (P := Try.prog) W g 0 55 (h32 G) _ (range32 h) Try.underlying55 rfl (by rw [h32_length]; exact infoHash)
  simp at htm
  simp [results, hf, htm, asAddr, h', Hv]
theorem CK_set32 {g : Nat} {F G : Nat → Int} {w : World} (h : CK .u8 g 32 F w) (f : Fz g w) : CK .u8 g 32 G (w.setCells g 0 (h32 G)) := fun o ho => by
  have k := World.rangeAt_setCells_same w g 0 (h32 G) (by rw [h32_length]; exact there32 h f) o _ (h32_get G o ho)
  rwa [Nat.zero_add] at k
theorem size_setCells (g : Nat) : ∀ (vs : List Value) (o : Nat) (w : World), (w.setCells g o vs).heap.size = w.heap.size
  | [], _, _ => rfl
  | v :: r, o, w => by rw [World.setCells, size_setCells g r]; simp
theorem Bel_sets {B g : Nat} {w0 : World} (hB : B ≤ g) : ∀ (vs : List Value) (o : Nat) (w : World), Below B w0 w → Below B w0 (w.setCells g o vs)
  | [], _, _, h => h
  | v :: r, o, w, h => by rw [World.setCells]; exact Bel_sets hB r _ _ (h.setCell (p := ⟨g, o, none⟩) hB v)
theorem CK_sets {k : IntKind} {g h n : Nat} {F : Nat → Int} {w : World} (c : CK k h n F w) (hne : h ≠ g) (vs : List Value) (o : Nat) : CK k h n F (w.setCells g o vs) := fun j hj => by
  rw [World.cell?_setCells_out g vs o w ⟨h, j, none⟩ (fun e => absurd e hne)]; exact c j hj
theorem Fz_sets {g h : Nat} {w : World} (c : Fz h w) (vs : List Value) (o : Nat) : Fz h (w.setCells g o vs) := fun j => by
  rw [World.frozen?_setCells]; exact c j
theorem Vb_sets {k : IntKind} {B g h n : Nat} {F : Nat → Int} {w : World} (c : Vb k B h n F w) (hne : h ≠ g) (vs : List Value) (o : Nat) : Vb k B h n F (w.setCells g o vs) := ⟨c.lo, by rw [size_setCells]; exact c.hi, CK_sets c.c hne vs o, Fz_sets c.f vs o⟩
theorem Vb_zero32 (B : Nat) (w : World) (T : TypeId) (hB : B ≤ w.heap.size) : Vb .u8 B w.heap.size 32 (fun _ => 0) (w.alloc (.cells #[.int .u8 0, .int .u8 0, .int .u8 0, .int .u8 0, .int .u8 0, .int .u8 0, .int .u8 0, .int .u8 0, .int .u8 0, .int .u8 0, .int .u8 0, .int .u8 0, .int .u8 0, .int .u8 0, .int .u8 0, .int .u8 0, .int .u8 0, .int .u8 0, .int .u8 0, .int .u8 0, .int .u8 0, .int .u8 0, .int .u8 0, .int .u8 0, .int .u8 0, .int .u8 0, .int .u8 0, .int .u8 0, .int .u8 0, .int .u8 0, .int .u8 0, .int .u8 0] T)) := ⟨hB, by simp, CK_zero32 w T, Fz_new w _ T⟩
/-- The first k bytes of G, noughts behind them. -/
def upto (G : Nat → Int) (k j : Nat) : Int := if j < k then G j else 0
theorem upto_step (G : Nat → Int) (k : Nat) : upd (upto G k) k (G k) = upto G (k + 1) := by
  funext j
  unfold upd upto
  repeat' split
  all_goals first | rfl | omega | (rename_i h _; rw [h])
theorem CK_upto {g : Nat} {G : Nat → Int} {w : World} (h : CK .u8 g 32 (upto G 32) w) : CK .u8 g 32 G w := CK_ext h (fun o ho => by unfold upto; rw [if_pos ho])
theorem Vb_byte {B g k : Nat} {F : Nat → Int} {w1 : World} (h : Vb .u8 B g 32 (upto (hb F) k) w1) (hk : k < 32) : Vb .u8 B g 32 (upto (hb F) (k + 1)) (w1.setCell ⟨g, k, none⟩ (.int .u8 (IntKind.u8.wrap (F (k / 8) / 2 ^ (8 * (k % 8)))))) := by
  rw [IntKind.wrap_u8', ← upto_step]; exact Vb_set h hk
end Sp
end Go.Proofs.Ytblodmjnhmfjeaa
/- word.Bytes: the 32 bytes of a word, the greatest first. -/
namespace Go.Proofs.Ytblodmjnhmfjeaa
open Go.RowKit Go.Shelf
theorem bt_out (a k p : Nat) (h : k + p = 31) : dg a (p / 8) / 2 ^ (8 * (p % 8)) % 256 = bt a k := by
  rw [byte_out]; unfold bt; rw [show 31 - k = p by omega]
theorem Vb_bt {B g k p a : Nat} {w1 : World} (h : Sp.Vb .u8 B g 32 (Sp.upto (bt a) k) w1) (hk : k < 32) (hp : k + p = 31) : Sp.Vb .u8 B g 32 (Sp.upto (bt a) (k + 1)) (w1.setCell ⟨g, k, none⟩ (.int .u8 (IntKind.u8.wrap (dg a (p / 8) / 2 ^ (8 * (p % 8)))))) := by
  rw [IntKind.wrap_u8', bt_out a k p hp, ← Sp.upto_step]; exact Sp.Vb_set h hk
theorem Vb_bt' {B g k p a : Nat} {w1 : World} (h : Sp.Vb .u8 B g 32 (Sp.upto (bt a) k) w1) (hk : k < 32) (hp : k + p = 31) : Sp.Vb .u8 B g 32 (Sp.upto (bt a) (k + 1)) (w1.setCell ⟨g, k, none⟩ (.int .u8 (dg a (p / 8) / 2 ^ (8 * (p % 8)) % 256))) := by
  rw [bt_out a k p hp, ← Sp.upto_step]; exact Sp.Vb_set h hk
set_option maxHeartbeats 2000000 in
set_option maxRecDepth 100000 in
theorem bytes_any (a : Nat) (w : World) :
    Calls Try.prog 48 #[Wd a] w fun e w' => e = .returned (Sp.Hv (bt a)) ∧ Below w.heap.size w w' := by
  conv => arg 3; unfold Wd
  go_enter Try.func48, Try.ntmps48
  go_wp2_with fail
  go_loopw [6] (fun s wr => ∃ k : Nat, k ≤ 32 ∧ s = .int .i64 k ∧ C4 w.heap.size a wr ∧ Sp.Vb .u8 w.heap.size (w.heap.size + 1) 32 (fun _ => 0) wr ∧ Sp.Vb .u8 w.heap.size (w.heap.size + 1 + 1) 32 (Sp.upto (bt a) k) wr ∧ Below w.heap.size w wr) (fun s _ => (32 - intOf s).toNat)
  case atStart =>
    have v1 := Sp.Vb_zero32 w.heap.size (w.alloc (.cells #[.int .u64 (dg a 0), .int .u64 (dg a 1), .int .u64 (dg a 2), .int .u64 (dg a 3)] 24)) 55 (by simp)
    have v2 := Sp.Vb_zero32 w.heap.size ((w.alloc (.cells #[.int .u64 (dg a 0), .int .u64 (dg a 1), .int .u64 (dg a 2), .int .u64 (dg a 3)] 24)).alloc (.cells #[.int .u8 0, .int .u8 0, .int .u8 0, .int .u8 0, .int .u8 0, .int .u8 0, .int .u8 0, .int .u8 0, .int .u8 0, .int .u8 0, .int .u8 0, .int .u8 0, .int .u8 0, .int .u8 0, .int .u8 0, .int .u8 0, .int .u8 0, .int .u8 0, .int .u8 0, .int .u8 0, .int .u8 0, .int .u8 0, .int .u8 0, .int .u8 0, .int .u8 0, .int .u8 0, .int .u8 0, .int .u8 0, .int .u8 0, .int .u8 0, .int .u8 0, .int .u8 0] 55)) 55 (by simp; omega)
    have b1 : Below w.heap.size w (((w.alloc (.cells #[.int .u64 (dg a 0), .int .u64 (dg a 1), .int .u64 (dg a 2), .int .u64 (dg a 3)] 24)).alloc (.cells #[.int .u8 0, .int .u8 0, .int .u8 0, .int .u8 0, .int .u8 0, .int .u8 0, .int .u8 0, .int .u8 0, .int .u8 0, .int .u8 0, .int .u8 0, .int .u8 0, .int .u8 0, .int .u8 0, .int .u8 0, .int .u8 0, .int .u8 0, .int .u8 0, .int .u8 0, .int .u8 0, .int .u8 0, .int .u8 0, .int .u8 0, .int .u8 0, .int .u8 0, .int .u8 0, .int .u8 0, .int .u8 0, .int .u8 0, .int .u8 0, .int .u8 0, .int .u8 0] 55)).alloc (.cells #[.int .u8 0, .int .u8 0, .int .u8 0, .int .u8 0, .int .u8 0, .int .u8 0, .int .u8 0, .int .u8 0, .int .u8 0, .int .u8 0, .int .u8 0, .int .u8 0, .int .u8 0, .int .u8 0, .int .u8 0, .int .u8 0, .int .u8 0, .int .u8 0, .int .u8 0, .int .u8 0, .int .u8 0, .int .u8 0, .int .u8 0, .int .u8 0, .int .u8 0, .int .u8 0, .int .u8 0, .int .u8 0, .int .u8 0, .int .u8 0, .int .u8 0, .int .u8 0] 55)) := by
      repeat (first | exact Below.refl _ _ | refine Below.alloc ?_ (by simp <;> omega) _)
    have c1 : C4 w.heap.size a (((w.alloc (.cells #[.int .u64 (dg a 0), .int .u64 (dg a 1), .int .u64 (dg a 2), .int .u64 (dg a 3)] 24)).alloc (.cells #[.int .u8 0, .int .u8 0, .int .u8 0, .int .u8 0, .int .u8 0, .int .u8 0, .int .u8 0, .int .u8 0, .int .u8 0, .int .u8 0, .int .u8 0, .int .u8 0, .int .u8 0, .int .u8 0, .int .u8 0, .int .u8 0, .int .u8 0, .int .u8 0, .int .u8 0, .int .u8 0, .int .u8 0, .int .u8 0, .int .u8 0, .int .u8 0, .int .u8 0, .int .u8 0, .int .u8 0, .int .u8 0, .int .u8 0, .int .u8 0, .int .u8 0, .int .u8 0] 55)).alloc (.cells #[.int .u8 0, .int .u8 0, .int .u8 0, .int .u8 0, .int .u8 0, .int .u8 0, .int .u8 0, .int .u8 0, .int .u8 0, .int .u8 0, .int .u8 0, .int .u8 0, .int .u8 0, .int .u8 0, .int .u8 0, .int .u8 0, .int .u8 0, .int .u8 0, .int .u8 0, .int .u8 0, .int .u8 0, .int .u8 0, .int .u8 0, .int .u8 0, .int .u8 0, .int .u8 0, .int .u8 0, .int .u8 0, .int .u8 0, .int .u8 0, .int .u8 0, .int .u8 0] 55)) := C4_below (C4_below (C4_alloc a w 24) ((Below.refl _ _).alloc (Nat.le_refl _) _) (by simp)) ((Below.refl _ _).alloc (Nat.le_refl _) _) (by simp; omega)
    simp only [World.size_alloc] at v1 v2
    exact ⟨0, by omega, rfl, c1, Sp.Vb_al v1 _, v2, b1⟩
  case round =>
    obtain ⟨k, hk, rfl, ca, v0, v1, hb0⟩ := hrel
    by_cases hlt : k < 32
    · obtain ⟨p, hp⟩ : ∃ p, k + p = 31 := ⟨31 - k, by omega⟩
      have e1 : (31 : Int) - (k : Int) = (p : Int) := by omega
      have HP : Hid (k + p = 31) := hp
      have hp32 : p < 32 := by omega
      clear hp
      have c0 := ca (p / 8) (by omega)
      have c1 := v1.c k hlt
      have f1 := v1.f k
      have u1 := dg_nn a (p / 8)
      have d1 : (k : Int) < 32 := by omega
      have d2 : (0 : Int) ≤ (p : Int) / 8 := by omega
      have d3 : (p : Int) / 8 < 4 := by omega
      have t1 : ((p : Int) / 8).toNat = p / 8 := by omega
      have d4 : (0 : Int) ≤ 8 * ((p : Int) % 8) := by omega
      have d5 : 8 * ((p : Int) % 8) ≤ 64 := by omega
      have t2 : (8 * ((p : Int) % 8)).toNat = 8 * (p % 8) := by omega
      go_wp2_with fail
      go_roundw
      case rel => exact ⟨k + 1, by omega, by go_num, C4_other ca (by dsimp only; omega), Sp.Vb_other v0 (by dsimp only; omega), by first | exact Vb_bt v1 hlt HP.out | exact Vb_bt' v1 hlt HP.out, hb0.setCell (by dsimp only; omega) _⟩
      case measure => simp [intOf]; omega
    · have hk32 : k = 32 := by omega
      subst hk32
      have r1 := Sp.range32 (Sp.CK_upto v1.c)
      have t1 := Sp.there32a (G := bt a) v0.c v0.f
      have C0 : Hid (Sp.CK .u8 (w.heap.size + 1) 32 (bt a) (wr.setCells (w.heap.size + 1) 0 (Sp.h32 (bt a)).toArray.toList)) := Sp.CK_set32 v0.c v0.f
      have HB : Hid (Below w.heap.size w (wr.setCells (w.heap.size + 1) 0 (Sp.h32 (bt a)).toArray.toList)) := Sp.Bel_sets (by omega) _ _ _ hb0
      clear v0 v1 hb0 ca
      go_upto_region 8 with fail
      refine wp_region_lit ?_
      refine wpList_load_mid rfl 55 (.tmp 3) rfl (w.heap.size + 1 + 1) 0 rfl (Sp.h32 (bt a)) _ r1 Try.underlying55 rfl Sp.info32 ?_
      refine wpList_store_mid rfl 55 (.tmp 2) (.tmp 23) rfl (w.heap.size + 1) 0 (Sp.h32 (bt a)).toArray rfl rfl t1 Sp.info32a (all_oneCell_toArray (Sp.h32_one (bt a))) ?_
      refine wpList_nil ?_
      clear r1 t1
      generalize wr.setCells (w.heap.size + 1) 0 (Sp.h32 (bt a)).toArray.toList = W2 at C0 HB ⊢
      generalize (Sp.h32 (bt a)).toArray = cs
      go_wp2_with fail
      exact bodyPost_ret (v := Sp.Hv (bt a)) (Sp.result32 _ _ _ (w.heap.size + 1) 2 _ rfl rfl C0.out) rfl ⟨rfl, HB.out⟩
end Go.Proofs.Ytblodmjnhmfjeaa
/- twos.Byte. -/
namespace Go.Proofs.Ytblodmjnhmfjeaa
open Go.RowKit Go.Shelf
theorem RW.idx {K : Value → World → Prop} {a : Act} {o : Oper} {X I : Operand} {G : Nat → Int} {i : Nat} {w : World} (ho : o.op = .index 55 X I) (hx : a.eval X = Sp.Hv G) (hi : a.eval I = .int .u64 (i : Int)) (h : i < 32)
    (hK : K (.int .u8 (G i)) w) : RS.upv Try.prog K ((execOp a.eval o).run Try.prog w) := by
  obtain ⟨dst, op, ty, pos, after, guard⟩ := o
  simp only at ho
  subst ho
  generalize a.eval = ρ at *
  unfold Sp.Hv at hx
  have e1 : (Sp.h32 G).toArray[i]? = some (.int .u8 (G i)) := by simp [Sp.h32, h]
  generalize (Sp.h32 G).toArray = xs at *
  have hU : Try.prog.underlying 55 = some (.array 32 5) := by kernel_rfl
  have e3 : (Instr.index 55 (.agg xs) (.int .u64 (i : Int))).run Try.prog w = .ok (.int .u8 (G i)) w := by
    simp [Instr.index, run_underlying hU, asIntOf, h, go_sem, e1]
  go_simp
  exact hK
/-- Byte n of a word, as a number. -/
def byn (n a : Nat) : Nat := if n < 32 then a / 2 ^ (8 * (31 - n)) % 256 else 0
set_option maxHeartbeats 4000000 in
set_option maxRecDepth 100000 in
theorem byte_far (n a : Nat) (hn : n < 2 ^ 256) (h : 32 ≤ n) (w : World) :
    Calls Try.prog 29 #[Wd n, Wd a] w fun e w' => e = .returned (Wd 0) ∧ Below w.heap.size w w' := by
  have KA : Hid (∀ w : World, Calls Try.prog 47 #[Wd n, .int .u64 32] w fun e w' => e = .returned (.int .u64 32) ∧ Below w.heap.size w w') := fun w => by have := atmost_any n 32 hn (by decide) w; rwa [show min n 32 = 32 by omega] at this
  clear hn h
  obtain ⟨N, hN⟩ : ∃ N, N = 0 := ⟨_, rfl⟩
  rw [← hN]
  have m0 := Hm.new0 (g := w.heap.size + 1 + 1) (T := 24) (Hm.new4 (g := w.heap.size + 1) (n := a) (T := 24) (Hm.new4 (g := w.heap.size) (n := n) (T := 24) (Hm.start w) rfl) (by simp)) (by simp)
  have hne : ∀ b, b ∈ [Hm.W4 (w.heap.size + 1) a, Hm.W4 w.heap.size n] → w.heap.size + 1 + 1 ≠ b.g := by
    intro b hb
    simp only [List.mem_cons, List.not_mem_nil, or_false] at hb
    rcases hb with rfl | rfl <;> simp only [Hm.W4] <;> omega
  conv => arg 3; unfold Wd
  go_enter Try.func29, Try.ntmps29
  go_wp2_with fail
  generalize ((w.alloc (.cells #[.int .u64 (dg n 0), .int .u64 (dg n 1), .int .u64 (dg n 2), .int .u64 (dg n 3)] 24)).alloc (.cells #[.int .u64 (dg a 0), .int .u64 (dg a 1), .int .u64 (dg a 2), .int .u64 (dg a 3)] 24)).alloc (.cells #[.int .u64 0, .int .u64 0, .int .u64 0, .int .u64 0] 24) = W0 at m0 ⊢
  refine (KA.out _).mono ?_
  rintro e w1 ⟨rfl, hb⟩
  have m1 := Hm.below m0 hb
  clear hb m0
  have m2 := m1
  clear m1
  have c2 : ∀ o, o < 4 → w1.cell? ⟨w.heap.size + 1 + 1, o, none⟩ = some (.int .u64 (dg 0 o)) := (m2.ok _ (List.mem_cons_self ..)).c
  have f2 : ∀ o, w1.frozen? ⟨w.heap.size + 1 + 1, o, none⟩ = false := (m2.ok _ (List.mem_cons_self ..)).f
  have HV : Hid (Hm.Hd w [Hm.W4 (w.heap.size + 1 + 1) N, Hm.W4 (w.heap.size + 1) a, Hm.W4 w.heap.size n] _) := Hm.set4 m2 hne
  clear m2 hne
  subst hN
  go_wp2_with fail
  exact bodyPost_ret (v := Wd 0) (resultTw _ _ _ (w.heap.size + 1 + 1) 0 4 rfl rfl (HV.out.ok _ (List.mem_cons_self ..)).c) rfl ⟨rfl, HV.out.bel⟩
set_option maxHeartbeats 4000000 in
set_option maxRecDepth 100000 in
theorem byte_at (n a : Nat) (hn : n < 2 ^ 256) (h : n < 32) (w : World) :
    Calls Try.prog 29 #[Wd n, Wd a] w fun e w' => e = .returned (Wd (a / 2 ^ (8 * (31 - n)) % 256)) ∧ Below w.heap.size w w' := by
  obtain ⟨N, hN⟩ : ∃ N, N = a / 2 ^ (8 * (31 - n)) % 256 := ⟨_, rfl⟩
  have KA : Hid (∀ w : World, Calls Try.prog 47 #[Wd n, .int .u64 32] w fun e w' => e = .returned (.int .u64 (n : Int)) ∧ Below w.heap.size w w') := fun w => by have := atmost_any n 32 hn (by decide) w; rwa [show min n 32 = n by omega] at this
  have KB : Hid (∀ w : World, Calls Try.prog 48 #[Wd a] w fun e w' => e = .returned (Sp.Hv (bt a)) ∧ Below w.heap.size w w') := fun w => bytes_any a w
  have KI : Hid (∀ w : World, Calls Try.prog 16 #[.int .u64 (N : Int)] w fun e w' => e = .returned (Wd N) ∧ Below w.heap.size w w') := fun w => int_any N (by omega) w
  have eN : Hid (bt a n = (N : Int)) := (by rw [hN]; rfl : bt a n = (N : Int))
  have hn32 : Hid (n < 32) := h
  have eW : Hid (IntKind.u64.wrap (N : Int) = N) := (by rw [IntKind.wrap_u64]; omega : IntKind.u64.wrap (N : Int) = N)
  rw [← hN]
  clear hn hN
  have m0 := Hm.new0 (g := w.heap.size + 1 + 1) (T := 24) (Hm.new4 (g := w.heap.size + 1) (n := a) (T := 24) (Hm.new4 (g := w.heap.size) (n := n) (T := 24) (Hm.start w) rfl) (by simp)) (by simp)
  have hne : ∀ b, b ∈ [Hm.W4 (w.heap.size + 1) a, Hm.W4 w.heap.size n] → w.heap.size + 1 + 1 ≠ b.g := by
    intro b hb
    simp only [List.mem_cons, List.not_mem_nil, or_false] at hb
    rcases hb with rfl | rfl <;> simp only [Hm.W4] <;> omega
  conv => arg 3; unfold Wd
  go_enter Try.func29, Try.ntmps29
  go_wp2_with fail
  generalize ((w.alloc (.cells #[.int .u64 (dg n 0), .int .u64 (dg n 1), .int .u64 (dg n 2), .int .u64 (dg n 3)] 24)).alloc (.cells #[.int .u64 (dg a 0), .int .u64 (dg a 1), .int .u64 (dg a 2), .int .u64 (dg a 3)] 24)).alloc (.cells #[.int .u64 0, .int .u64 0, .int .u64 0, .int .u64 0] 24) = W0 at m0 ⊢
  refine (KA.out _).mono ?_
  rintro e w1 ⟨rfl, hb⟩
  have m1 := Hm.below m0 hb
  clear hb m0
  go_upto_region 4 with fail
  refine RS.wp_region_flat (Hm.Hd w [⟨w.heap.size + 1 + 1, 4, fun o => .int .u64 (dg 0 o)⟩, Hm.W4 (w.heap.size + 1) a, Hm.W4 w.heap.size n]) 6 (by kernel_rfl) (m1) ?_
  simp only [List.take_succ_cons, List.take_zero, List.drop_succ_cons, List.drop_zero]
  refine RS.go1 (v := ?_) (a' := ?_) rfl ?_ ?_ ?_
  rotate_left 2
  · intro K wx hS hK
    refine RW.ld rfl rfl (hS.ok (Hm.W4 (w.heap.size + 1) (a)) (by simp)).c ?_
    exact hK _ hS
  · simp only [Act.put, List.setIfInBounds_toArray, List.set_cons_succ, List.set_cons_zero]
    rfl
  refine RS.go1 (v := ?_) (a' := ?_) rfl ?_ ?_ ?_
  rotate_left 2
  · intro K wx hS hK
    go_simp
    refine (KB.out _).mono (fun e w2 he => ?_)
    refine ⟨_, he.1, ?_⟩
    exact hK _ (Hm.below hS he.2)
  · simp only [Act.put, List.setIfInBounds_toArray, List.set_cons_succ, List.set_cons_zero]
    rfl
  refine RS.go1 (v := ?_) (a' := ?_) rfl ?_ ?_ ?_
  rotate_left 2
  · intro K wx hS hK
    go_simp
    exact hK _ hS
  · simp only [Act.put, List.setIfInBounds_toArray, List.set_cons_succ, List.set_cons_zero]
    rfl
  refine RS.go1 (v := ?_) (a' := ?_) rfl ?_ ?_ ?_
  rotate_left 2
  · intro K wx hS hK
    refine RW.idx rfl rfl rfl hn32.out ?_
    rw [eN.out]
    exact hK _ hS
  · simp only [Act.put, List.setIfInBounds_toArray, List.set_cons_succ, List.set_cons_zero]
    rfl
  refine RS.go1 (v := ?_) (a' := ?_) rfl ?_ ?_ ?_
  rotate_left 2
  · intro K wx hS hK
    have e := eW.out
    go_simp
    exact hK _ hS
  · simp only [Act.put, List.setIfInBounds_toArray, List.set_cons_succ, List.set_cons_zero]
    rfl
  refine RS.go1 (v := ?_) (a' := ?_) rfl ?_ ?_ ?_
  rotate_left 2
  · intro K wx hS hK
    go_simp
    refine (KI.out _).mono (fun e w2 he => ?_)
    refine ⟨_, he.1, ?_⟩
    exact hK _ (Hm.below hS he.2)
  · simp only [Act.put, List.setIfInBounds_toArray, List.set_cons_succ, List.set_cons_zero]
    rfl
  refine RS.go_end ?_
  intro w2 m2
  clear m1
  have c2 : ∀ o, o < 4 → w2.cell? ⟨w.heap.size + 1 + 1, o, none⟩ = some (.int .u64 (dg 0 o)) := (m2.ok _ (List.mem_cons_self ..)).c
  have f2 : ∀ o, w2.frozen? ⟨w.heap.size + 1 + 1, o, none⟩ = false := (m2.ok _ (List.mem_cons_self ..)).f
  have HV : Hid (Hm.Hd w [Hm.W4 (w.heap.size + 1 + 1) N, Hm.W4 (w.heap.size + 1) a, Hm.W4 w.heap.size n] _) := Hm.set4 m2 hne
  clear m2 hne
  unfold Wd
  go_wp2_with fail
  exact bodyPost_ret (v := Wd N) (resultTw _ _ _ (w.heap.size + 1 + 1) N 4 rfl rfl (HV.out.ok _ (List.mem_cons_self ..)).c) rfl ⟨rfl, HV.out.bel⟩
theorem byte_any (n a : Nat) (hn : n < 2 ^ 256) (w : World) :
    Calls Try.prog 29 #[Wd n, Wd a] w fun e w' => e = .returned (Wd (byn n a)) ∧ Below w.heap.size w w' := by
  unfold byn
  by_cases h : n < 32
  · rw [if_pos h]; exact byte_at n a hn h w
  · rw [if_neg h]; exact byte_far n a hn (by omega) w
end Go.Proofs.Ytblodmjnhmfjeaa
/- lampbearerkeep.TwosExtends. -/
namespace Go.Proofs.Ytblodmjnhmfjeaa
open Go.RowKit Go.Shelf
/-- What the last bytes are with their sign, as a number. -/
def exn (M2 a : Nat) : Nat := if M2 ≤ a % (2 * M2) then 2 ^ 256 - 2 * M2 + a % (2 * M2) else a % (2 * M2)
theorem ext_eq (k a : Nat) : ext k a = exn (2 ^ (255 - ahd k)) a := by
  have hk := ahd_le k
  have hHM : 2 ^ ahd k * 2 ^ (255 - ahd k) = 2 ^ 255 := by rw [← Nat.pow_add]; congr 1; omega
  have hH : 0 < 2 ^ ahd k := Nat.pow_pos (by decide)
  have hM0 : 0 < 2 ^ (255 - ahd k) := Nat.pow_pos (by decide)
  unfold ext exn
  generalize 2 ^ (255 - ahd k) = M2 at *
  generalize e : ahd k = h at *
  unfold sar
  generalize 2 ^ h = H at *
  have e1 : a * H % 2 ^ 256 = H * (a % (2 * M2)) := by
    rw [Nat.mul_comm a H, show 2 ^ 256 = H * (2 * M2) by rw [Nat.mul_left_comm, hHM], Nat.mul_mod_mul_left]
  rw [e1]
  have hm : a % (2 * M2) < 2 * M2 := Nat.mod_lt _ (by omega)
  generalize a % (2 * M2) = m at *
  have hHm : H * m + H ≤ 2 ^ 256 := by
    have : H * (m + 1) ≤ H * (2 * M2) := Nat.mul_le_mul_left H (by omega)
    rw [Nat.mul_left_comm, hHM, Nat.mul_add, Nat.mul_one] at this
    exact this
  by_cases hc : M2 ≤ m
  · have hs : sg (H * m) = true := by
      unfold sg; rw [decide_eq_true_iff, ← hHM]; exact Nat.mul_le_mul_left H hc
    rw [hs, if_pos rfl, if_pos hc]
    have e2 : nt (H * m) = H * (2 * M2 - 1 - m) + (H - 1) := by
      unfold nt
      rw [Nat.mod_eq_of_lt (by omega), Nat.mul_sub, Nat.mul_sub, Nat.mul_left_comm, hHM, Nat.mul_one]
      omega
    have hM : 2 * M2 ≤ 2 ^ 256 := by
      have : 1 * M2 ≤ H * M2 := Nat.mul_le_mul_right M2 hH
      omega
    rw [e2, Nat.mul_add_div hH, Nat.div_eq_of_lt (by omega), Nat.add_zero]
    unfold nt
    rw [Nat.mod_eq_of_lt (by omega)]
    omega
  · have hs : sg (H * m) = false := by
      unfold sg; rw [decide_eq_false_iff_not, ← hHM, Nat.not_le]; exact Nat.mul_lt_mul_of_pos_left (by omega) hH
    rw [hs, if_neg (by decide), if_neg hc, Nat.mul_div_cancel_left _ hH]
theorem ext_last (k a : Nat) : ext k a % 256 = a % 256 := by
  rw [ext_eq]
  have hk := ahd_le k
  obtain ⟨c, hc⟩ : ∃ c, 2 ^ (255 - ahd k) = 128 * c := ⟨2 ^ (248 - ahd k), by rw [show 128 = 2 ^ 7 from rfl, ← Nat.pow_add]; congr 1; omega⟩
  have hle : 2 ^ (255 - ahd k) ≤ 2 ^ 255 := Nat.pow_le_pow_right (by decide) (by omega)
  rw [hc] at hle ⊢
  unfold exn
  have h1 : a % (2 * (128 * c)) % 256 = a % 256 := Nat.mod_mod_of_dvd a ⟨c, by omega⟩
  generalize a % (2 * (128 * c)) = m at *
  split <;> omega
theorem ext_lt (k a : Nat) : ext k a < 2 ^ 256 := sar_lt _ _ (Nat.mod_lt _ (by decide))
theorem ext_ext (k n a : Nat) (h : k ≤ n) : ext n (ext k a) = ext k a := by
  have hnk : ahd n ≤ ahd k := by unfold ahd; omega
  have hk := ahd_le k
  rw [ext_eq n, ext_eq k]
  obtain ⟨c, hc⟩ : ∃ c, 2 ^ (255 - ahd n) = 2 ^ (255 - ahd k) * c := ⟨2 ^ (ahd k - ahd n), by rw [← Nat.pow_add]; congr 1; omega⟩
  obtain ⟨d, hd⟩ : ∃ d, 2 ^ 256 = 2 * 2 ^ (255 - ahd n) * d := ⟨2 ^ ahd n, by rw [← Nat.pow_succ', ← Nat.pow_add]; congr 1; omega⟩
  have hle : 2 ^ (255 - ahd k) ≤ 2 ^ (255 - ahd n) := Nat.pow_le_pow_right (by decide) (by omega)
  have hM0 : 0 < 2 ^ (255 - ahd k) := Nat.pow_pos (by decide)
  have hl : 2 ^ (255 - ahd n) ≤ 2 ^ 255 := Nat.pow_le_pow_right (by decide) (by omega)
  clear hc c
  generalize 2 ^ (255 - ahd n) = N2 at *
  generalize 2 ^ (255 - ahd k) = M2 at *
  unfold exn
  have hm : a % (2 * M2) < 2 * M2 := Nat.mod_lt _ (by omega)
  generalize a % (2 * M2) = m at *
  by_cases hc : M2 ≤ m
  · rw [if_pos hc]
    have e : (2 ^ 256 - 2 * M2 + m) % (2 * N2) = 2 * N2 - 2 * M2 + m := by
      have h1 : 1 ≤ d := by
        rcases Nat.eq_zero_or_pos d with h0 | h0
        · rw [h0, Nat.mul_zero] at hd; omega
        · exact h0
      have h2 : 2 ^ 256 - 2 * M2 + m = 2 * N2 * (d - 1) + (2 * N2 - 2 * M2 + m) := by
        rw [Nat.mul_sub, ← hd, Nat.mul_one]; omega
      rw [h2, Nat.mul_add_mod, Nat.mod_eq_of_lt (by omega)]
    rw [e, if_pos (by omega)]
    omega
  · rw [if_neg hc, Nat.mod_eq_of_lt (by omega), if_neg (by omega)]
theorem byn_last (k a : Nat) : byn 31 (ext k a) = byn 31 a := by
  unfold byn
  rw [if_pos (by decide), if_pos (by decide)]
  have := ext_last k a
  simpa using this
set_option maxHeartbeats 4000000 in
set_option maxRecDepth 100000 in
theorem law_ext_hi (k n a b : Nat) (hk : k < 2 ^ 256) (hn : n < 2 ^ 256) (ha : a < 2 ^ 256) (hb : b < 2 ^ 256) (hc : k ≤ n) (w : World) :
    Calls Try.prog 8 #[Wd k, Wd n, Wd a, Wd b] w fun e w' => e = .returned (.bool true) ∧ Below w.heap.size w w' := by
  have KA : Hid (∀ w : World, Calls Try.prog 9 #[] w fun e w' => e = .returned (.bool true) ∧ Below w.heap.size w w') := fun w => alive2_any w
  obtain ⟨x, hx⟩ : ∃ x, x = ext k a := ⟨_, rfl⟩
  obtain ⟨P, hP⟩ : ∃ P, P = 2 ^ 255 := ⟨_, rfl⟩
  have hxl : x < 2 ^ 256 := by rw [hx]; exact ext_lt k a
  have K1 : Hid (∀ w : World, Calls Try.prog 28 #[Wd k, Wd a] w fun e w' => e = .returned (Wd x) ∧ Below w.heap.size w w') := fun w => by rw [hx]; exact extend_any k a hk ha w
  have K2 : Hid (∀ w : World, Calls Try.prog 16 #[.int .u64 2] w fun e w' => e = .returned (Wd 2) ∧ Below w.heap.size w w') := fun w => int_any 2 (by decide) w
  have K3 : Hid (∀ w : World, Calls Try.prog 16 #[.int .u64 255] w fun e w' => e = .returned (Wd 255) ∧ Below w.heap.size w w') := fun w => int_any 255 (by decide) w
  have K4 : Hid (∀ w : World, Calls Try.prog 18 #[Wd 2, Wd 255] w fun e w' => e = .returned (Wd P) ∧ Below w.heap.size w w') := fun w => by rw [hP]; exact exp_any 2 255 (by decide) w
  have K5 : Hid (∀ w : World, Calls Try.prog 19 #[Wd n, Wd k] w fun e w' => e = .returned (.int .i64 (cm (n : Int) (k : Int))) ∧ Below w.heap.size w w') := fun w => cmp_any n k hn hk w
  have K6 : Hid (∀ w : World, Calls Try.prog 28 #[Wd n, Wd x] w fun e w' => e = .returned (Wd x) ∧ Below w.heap.size w w') := fun w => by have := extend_any n x hn hxl w; rw [show ext n x = x by rw [hx]; exact ext_ext k n a hc] at this; exact this
  have hc' : Hid (0 ≤ cm (n : Int) (k : Int)) := cm_ge n k hc
  have K7 : Hid (∀ w : World, Calls Try.prog 25 #[Wd a, Wd b] w fun e w' => e = .returned (.int .i64 (cm (hf a : Int) (hf b : Int))) ∧ Below w.heap.size w w') := fun w => scmp_any a b ha hb w
  have K8 : Hid (∀ w : World, Calls Try.prog 14 #[Wd a, Wd P] w fun e w' => e = .returned (Wd (hf a)) ∧ Below w.heap.size w w') := fun w => by have := add_mod a P w; rw [← Wd_mod (a + P), hP] at this; rw [hP]; exact this
  have K9 : Hid (∀ w : World, Calls Try.prog 14 #[Wd b, Wd P] w fun e w' => e = .returned (Wd (hf b)) ∧ Below w.heap.size w w') := fun w => by have := add_mod b P w; rw [← Wd_mod (b + P), hP] at this; rw [hP]; exact this
  have K10 : Hid (∀ w : World, Calls Try.prog 19 #[Wd (hf a), Wd (hf b)] w fun e w' => e = .returned (.int .i64 (cm (hf a : Int) (hf b : Int))) ∧ Below w.heap.size w w') := fun w => cmp_any _ _ (hf_lt a) (hf_lt b) w
  have K11 : Hid (∀ w : World, Calls Try.prog 16 #[.int .u64 31] w fun e w' => e = .returned (Wd 31) ∧ Below w.heap.size w w') := fun w => int_any 31 (by decide) w
  have K12 : Hid (∀ w : World, Calls Try.prog 29 #[Wd 31, Wd x] w fun e w' => e = .returned (Wd (byn 31 a)) ∧ Below w.heap.size w w') := fun w => by have := byte_any 31 x (by decide) w; rw [hx, byn_last] at this; rw [hx]; exact this
  have K13 : Hid (∀ w : World, Calls Try.prog 29 #[Wd 31, Wd a] w fun e w' => e = .returned (Wd (byn 31 a)) ∧ Below w.heap.size w w') := fun w => byte_any 31 a (by decide) w
  clear hk hn ha hb hc hx hP hxl
  generalize cm (hf a : Int) (hf b : Int) = c1 at *
  generalize hf a = n1 at *
  generalize hf b = n2 at *
  generalize byn 31 a = n3 at *
  generalize cm (n : Int) (k : Int) = c2 at *
  generalize Wd 2 = W2 at *
  generalize Wd 255 = W255 at *
  generalize Wd 31 = W31 at *
  have m0 := Hm.new4 (g := w.heap.size + 1 + 1 + 1) (n := b) (T := 24) (Hm.new4 (g := w.heap.size + 1 + 1) (n := a) (T := 24) (Hm.new4 (g := w.heap.size + 1) (n := n) (T := 24) (Hm.new4 (g := w.heap.size) (n := k) (T := 24) (Hm.start w) (by simp)) (by simp)) (by simp)) (by simp)
  conv => arg 3; unfold Wd
  go_enter Try.func8, Try.ntmps8
  go_wp2_with fail
  generalize (((w.alloc (.cells #[.int .u64 (dg k 0), .int .u64 (dg k 1), .int .u64 (dg k 2), .int .u64 (dg k 3)] 24)).alloc (.cells #[.int .u64 (dg n 0), .int .u64 (dg n 1), .int .u64 (dg n 2), .int .u64 (dg n 3)] 24)).alloc (.cells #[.int .u64 (dg a 0), .int .u64 (dg a 1), .int .u64 (dg a 2), .int .u64 (dg a 3)] 24)).alloc (.cells #[.int .u64 (dg b 0), .int .u64 (dg b 1), .int .u64 (dg b 2), .int .u64 (dg b 3)] 24) = W0 at m0 ⊢
  refine (KA.out _).mono ?_
  rintro e w1 ⟨rfl, hb⟩
  have m1 := Hm.below m0 hb
  clear hb m0
  have c1' : ∀ o, o < 4 → w1.cell? ⟨w.heap.size, o, none⟩ = some (.int .u64 (dg k o)) := (m1.ok (Hm.W4 w.heap.size k) (by simp)).c
  have c2' : ∀ o, o < 4 → w1.cell? ⟨w.heap.size + 1 + 1, o, none⟩ = some (.int .u64 (dg a o)) := (m1.ok (Hm.W4 (w.heap.size + 1 + 1) a) (by simp)).c
  go_wp2_with fail
  refine (K1.out _).mono ?_
  rintro e w2 ⟨rfl, hb⟩
  have m2 := Hm.new4 (g := w2.heap.size) (n := x) (T := 24) (Hm.below m1 hb) rfl
  clear hb m1 c1' c2'
  unfold Wd
  go_wp2_with fail
  generalize w2.alloc (.cells #[.int .u64 (dg x 0), .int .u64 (dg x 1), .int .u64 (dg x 2), .int .u64 (dg x 3)] 24) = W2' at m2 ⊢
  generalize w2.heap.size = h at *
  refine (K2.out _).mono ?_
  rintro e w3 ⟨rfl, hb⟩
  have m3 := Hm.below m2 hb
  clear hb m2
  go_wp2_with fail
  refine (K3.out _).mono ?_
  rintro e w4 ⟨rfl, hb⟩
  have m4 := Hm.below m3 hb
  clear hb m3
  go_wp2_with fail
  refine (K4.out _).mono ?_
  rintro e w5 ⟨rfl, hb⟩
  have m5 := Hm.new4 (g := w5.heap.size) (n := P) (T := 24) (Hm.below m4 hb) rfl
  clear hb m4
  unfold Wd
  go_upto_region 5 with fail
  generalize w5.alloc (.cells #[.int .u64 (dg P 0), .int .u64 (dg P 1), .int .u64 (dg P 2), .int .u64 (dg P 3)] 24) = W5' at m5 ⊢
  generalize w5.heap.size = g at *
  refine RS.wp_region_one (Hm.Hd w [Hm.W4 g P, Hm.W4 h x, Hm.W4 (w.heap.size + 1 + 1 + 1) b, Hm.W4 (w.heap.size + 1 + 1) a, Hm.W4 (w.heap.size + 1) n, Hm.W4 (w.heap.size) k]) (by kernel_rfl) (by kernel_rfl) (Hm.drew m5) ?_
  dsimp only [List.toList_toArray]
  refine RS.go1 (v := ?_) (a' := ?_) rfl ?_ ?_ ?_
  rotate_left 2
  · intro K wx hS hK
    refine RW.ld rfl rfl (hS.ok (Hm.W4 (w.heap.size + 1) (n)) (by simp)).c ?_
    exact hK _ hS
  · simp only [Act.put, List.setIfInBounds_toArray, List.set_cons_succ, List.set_cons_zero]
    rfl
  refine RS.go1 (v := ?_) (a' := ?_) rfl ?_ ?_ ?_
  rotate_left 2
  · intro K wx hS hK
    refine RW.ld rfl rfl (hS.ok (Hm.W4 (w.heap.size) (k)) (by simp)).c ?_
    exact hK _ hS
  · simp only [Act.put, List.setIfInBounds_toArray, List.set_cons_succ, List.set_cons_zero]
    rfl
  refine RS.go1 (v := ?_) (a' := ?_) rfl ?_ ?_ ?_
  rotate_left 2
  · intro K wx hS hK
    go_simp
    refine (K5.out _).mono (fun e w2 he => ?_)
    refine ⟨_, he.1, ?_⟩
    exact hK _ (Hm.below hS he.2)
  · simp only [Act.put, List.setIfInBounds_toArray, List.set_cons_succ, List.set_cons_zero]
    rfl
  refine RS.go1 (v := ?_) (a' := ?_) rfl ?_ ?_ ?_
  rotate_left 2
  · intro K wx hS hK
    have hq := hc'.out
    go_simp
    exact hK _ hS
  · simp only [Act.put, List.setIfInBounds_toArray, List.set_cons_succ, List.set_cons_zero]
    rfl
  refine RS.go1 (v := ?_) (a' := ?_) rfl ?_ ?_ ?_
  rotate_left 2
  · intro K wx hS hK
    go_simp
    exact hK _ hS
  · simp only [Act.put, List.setIfInBounds_toArray, List.set_cons_succ, List.set_cons_zero]
    rfl
  refine RS.go1g (v := ?_) (a' := ?_) (by kernel_rfl) ?_ ?_ ?_
  rotate_left 2
  · intro K wx hS hK
    refine RW.ld rfl rfl (hS.ok (Hm.W4 (w.heap.size + 1) (n)) (by simp)).c ?_
    exact hK _ hS
  · simp only [Act.put, List.setIfInBounds_toArray, List.set_cons_succ, List.set_cons_zero]
    rfl
  refine RS.go1g (v := ?_) (a' := ?_) (by kernel_rfl) ?_ ?_ ?_
  rotate_left 2
  · intro K wx hS hK
    refine RW.ld rfl rfl (hS.ok (Hm.W4 (h) (x)) (by simp)).c ?_
    exact hK _ hS
  · simp only [Act.put, List.setIfInBounds_toArray, List.set_cons_succ, List.set_cons_zero]
    rfl
  refine RS.go1g (v := ?_) (a' := ?_) (by kernel_rfl) ?_ ?_ ?_
  rotate_left 2
  · intro K wx hS hK
    go_simp
    refine (K6.out _).mono (fun e w2 he => ?_)
    refine ⟨_, he.1, ?_⟩
    exact hK _ (Hm.below hS he.2)
  · simp only [Act.put, List.setIfInBounds_toArray, List.set_cons_succ, List.set_cons_zero]
    rfl
  refine RS.go1g (v := ?_) (a' := ?_) (by kernel_rfl) ?_ ?_ ?_
  rotate_left 2
  · intro K wx hS hK
    refine RW.ld rfl rfl (hS.ok (Hm.W4 (h) (x)) (by simp)).c ?_
    exact hK _ hS
  · simp only [Act.put, List.setIfInBounds_toArray, List.set_cons_succ, List.set_cons_zero]
    rfl
  refine RS.go1g (v := ?_) (a' := ?_) (by kernel_rfl) ?_ ?_ ?_
  rotate_left 2
  · intro K wx hS hK
    refine RW.neq (b := false) rfl rfl rfl (by simp) ?_
    exact hK _ hS
  · simp only [Act.put, List.setIfInBounds_toArray, List.set_cons_succ, List.set_cons_zero]
    rfl
  refine RS.go1 (v := ?_) (a' := ?_) rfl ?_ ?_ ?_
  rotate_left 2
  · intro K wx hS hK
    go_simp
    exact hK _ hS
  · simp only [Act.put, List.setIfInBounds_toArray, List.set_cons_succ, List.set_cons_zero]
    rfl
  refine RS.go_end ?_
  intro w6 m6
  clear m5
  go_upto_region 7 with fail
  refine RS.wp_region_one (Hm.Hd w [Hm.W4 g P, Hm.W4 h x, Hm.W4 (w.heap.size + 1 + 1 + 1) b, Hm.W4 (w.heap.size + 1 + 1) a, Hm.W4 (w.heap.size + 1) n, Hm.W4 (w.heap.size) k]) (by kernel_rfl) (by kernel_rfl) (Hm.drew m6) ?_
  dsimp only [List.toList_toArray]
  refine RS.go1 (v := ?_) (a' := ?_) rfl ?_ ?_ ?_
  rotate_left 2
  · intro K wx hS hK
    refine RW.ld rfl rfl (hS.ok (Hm.W4 (w.heap.size + 1 + 1) (a)) (by simp)).c ?_
    exact hK _ hS
  · simp only [Act.put, List.setIfInBounds_toArray, List.set_cons_succ, List.set_cons_zero]
    rfl
  refine RS.go1 (v := ?_) (a' := ?_) rfl ?_ ?_ ?_
  rotate_left 2
  · intro K wx hS hK
    refine RW.ld rfl rfl (hS.ok (Hm.W4 (w.heap.size + 1 + 1 + 1) (b)) (by simp)).c ?_
    exact hK _ hS
  · simp only [Act.put, List.setIfInBounds_toArray, List.set_cons_succ, List.set_cons_zero]
    rfl
  refine RS.go1 (v := ?_) (a' := ?_) rfl ?_ ?_ ?_
  rotate_left 2
  · intro K wx hS hK
    go_simp
    refine (K7.out _).mono (fun e w2 he => ?_)
    refine ⟨_, he.1, ?_⟩
    exact hK _ (Hm.below hS he.2)
  · simp only [Act.put, List.setIfInBounds_toArray, List.set_cons_succ, List.set_cons_zero]
    rfl
  refine RS.go1 (v := ?_) (a' := ?_) rfl ?_ ?_ ?_
  rotate_left 2
  · intro K wx hS hK
    refine RW.ld rfl rfl (hS.ok (Hm.W4 (w.heap.size + 1 + 1) (a)) (by simp)).c ?_
    exact hK _ hS
  · simp only [Act.put, List.setIfInBounds_toArray, List.set_cons_succ, List.set_cons_zero]
    rfl
  refine RS.go1 (v := ?_) (a' := ?_) rfl ?_ ?_ ?_
  rotate_left 2
  · intro K wx hS hK
    refine RW.ld rfl rfl (hS.ok (Hm.W4 (g) (P)) (by simp)).c ?_
    exact hK _ hS
  · simp only [Act.put, List.setIfInBounds_toArray, List.set_cons_succ, List.set_cons_zero]
    rfl
  refine RS.go1 (v := ?_) (a' := ?_) rfl ?_ ?_ ?_
  rotate_left 2
  · intro K wx hS hK
    go_simp
    refine (K8.out _).mono (fun e w2 he => ?_)
    refine ⟨_, he.1, ?_⟩
    exact hK _ (Hm.below hS he.2)
  · simp only [Act.put, List.setIfInBounds_toArray, List.set_cons_succ, List.set_cons_zero]
    rfl
  refine RS.go1 (v := ?_) (a' := ?_) rfl ?_ ?_ ?_
  rotate_left 2
  · intro K wx hS hK
    refine RW.ld rfl rfl (hS.ok (Hm.W4 (w.heap.size + 1 + 1 + 1) (b)) (by simp)).c ?_
    exact hK _ hS
  · simp only [Act.put, List.setIfInBounds_toArray, List.set_cons_succ, List.set_cons_zero]
    rfl
  refine RS.go1 (v := ?_) (a' := ?_) rfl ?_ ?_ ?_
  rotate_left 2
  · intro K wx hS hK
    refine RW.ld rfl rfl (hS.ok (Hm.W4 (g) (P)) (by simp)).c ?_
    exact hK _ hS
  · simp only [Act.put, List.setIfInBounds_toArray, List.set_cons_succ, List.set_cons_zero]
    rfl
  refine RS.go1 (v := ?_) (a' := ?_) rfl ?_ ?_ ?_
  rotate_left 2
  · intro K wx hS hK
    go_simp
    refine (K9.out _).mono (fun e w2 he => ?_)
    refine ⟨_, he.1, ?_⟩
    exact hK _ (Hm.below hS he.2)
  · simp only [Act.put, List.setIfInBounds_toArray, List.set_cons_succ, List.set_cons_zero]
    rfl
  refine RS.go1 (v := ?_) (a' := ?_) rfl ?_ ?_ ?_
  rotate_left 2
  · intro K wx hS hK
    go_simp
    refine (K10.out _).mono (fun e w2 he => ?_)
    refine ⟨_, he.1, ?_⟩
    exact hK _ (Hm.below hS he.2)
  · simp only [Act.put, List.setIfInBounds_toArray, List.set_cons_succ, List.set_cons_zero]
    rfl
  refine RS.go1 (v := ?_) (a' := ?_) rfl ?_ ?_ ?_
  rotate_left 2
  · intro K wx hS hK
    go_simp
    exact hK _ hS
  · simp only [Act.put, List.setIfInBounds_toArray, List.set_cons_succ, List.set_cons_zero]
    rfl
  refine RS.go1 (v := ?_) (a' := ?_) rfl ?_ ?_ ?_
  rotate_left 2
  · intro K wx hS hK
    go_simp
    exact hK _ hS
  · simp only [Act.put, List.setIfInBounds_toArray, List.set_cons_succ, List.set_cons_zero]
    rfl
  refine RS.go1g (v := ?_) (a' := ?_) (by kernel_rfl) ?_ ?_ ?_
  rotate_left 2
  · intro K wx hS hK
    go_simp
    refine (K11.out _).mono (fun e w2 he => ?_)
    refine ⟨_, he.1, ?_⟩
    exact hK _ (Hm.below hS he.2)
  · simp only [Act.put, List.setIfInBounds_toArray, List.set_cons_succ, List.set_cons_zero]
    rfl
  refine RS.go1g (v := ?_) (a' := ?_) (by kernel_rfl) ?_ ?_ ?_
  rotate_left 2
  · intro K wx hS hK
    refine RW.ld rfl rfl (hS.ok (Hm.W4 (h) (x)) (by simp)).c ?_
    exact hK _ hS
  · simp only [Act.put, List.setIfInBounds_toArray, List.set_cons_succ, List.set_cons_zero]
    rfl
  refine RS.go1g (v := ?_) (a' := ?_) (by kernel_rfl) ?_ ?_ ?_
  rotate_left 2
  · intro K wx hS hK
    go_simp
    refine (K12.out _).mono (fun e w2 he => ?_)
    refine ⟨_, he.1, ?_⟩
    exact hK _ (Hm.below hS he.2)
  · simp only [Act.put, List.setIfInBounds_toArray, List.set_cons_succ, List.set_cons_zero]
    rfl
  refine RS.go1g (v := ?_) (a' := ?_) (by kernel_rfl) ?_ ?_ ?_
  rotate_left 2
  · intro K wx hS hK
    go_simp
    refine (K11.out _).mono (fun e w2 he => ?_)
    refine ⟨_, he.1, ?_⟩
    exact hK _ (Hm.below hS he.2)
  · simp only [Act.put, List.setIfInBounds_toArray, List.set_cons_succ, List.set_cons_zero]
    rfl
  refine RS.go1g (v := ?_) (a' := ?_) (by kernel_rfl) ?_ ?_ ?_
  rotate_left 2
  · intro K wx hS hK
    refine RW.ld rfl rfl (hS.ok (Hm.W4 (w.heap.size + 1 + 1) (a)) (by simp)).c ?_
    exact hK _ hS
  · simp only [Act.put, List.setIfInBounds_toArray, List.set_cons_succ, List.set_cons_zero]
    rfl
  refine RS.go1g (v := ?_) (a' := ?_) (by kernel_rfl) ?_ ?_ ?_
  rotate_left 2
  · intro K wx hS hK
    go_simp
    refine (K13.out _).mono (fun e w2 he => ?_)
    refine ⟨_, he.1, ?_⟩
    exact hK _ (Hm.below hS he.2)
  · simp only [Act.put, List.setIfInBounds_toArray, List.set_cons_succ, List.set_cons_zero]
    rfl
  refine RS.go1g (v := ?_) (a' := ?_) (by kernel_rfl) ?_ ?_ ?_
  rotate_left 2
  · intro K wx hS hK
    refine RW.eq (b := true) rfl rfl rfl (decide_eq_true rfl) ?_
    exact hK _ hS
  · simp only [Act.put, List.setIfInBounds_toArray, List.set_cons_succ, List.set_cons_zero]
    rfl
  refine RS.go1 (v := ?_) (a' := ?_) rfl ?_ ?_ ?_
  rotate_left 2
  · intro K wx hS hK
    go_simp
    exact hK _ hS
  · simp only [Act.put, List.setIfInBounds_toArray, List.set_cons_succ, List.set_cons_zero]
    rfl
  refine RS.go1 (v := ?_) (a' := ?_) rfl ?_ ?_ ?_
  rotate_left 2
  · intro K wx hS hK
    go_simp
    exact hK _ hS
  · simp only [Act.put, List.setIfInBounds_toArray, List.set_cons_succ, List.set_cons_zero]
    rfl
  refine RS.go_end ?_
  intro w9 m9
  have HB : Hid (Below w.heap.size w w9) := m9.bel
  clear m9
  go_wp2_with fail
  go_ret
  exact ⟨rfl, HB.out⟩
set_option maxHeartbeats 4000000 in
set_option maxRecDepth 100000 in
theorem law_ext_lo (k n a b : Nat) (hk : k < 2 ^ 256) (hn : n < 2 ^ 256) (ha : a < 2 ^ 256) (hb : b < 2 ^ 256) (hc : n < k) (w : World) :
    Calls Try.prog 8 #[Wd k, Wd n, Wd a, Wd b] w fun e w' => e = .returned (.bool true) ∧ Below w.heap.size w w' := by
  have KA : Hid (∀ w : World, Calls Try.prog 9 #[] w fun e w' => e = .returned (.bool true) ∧ Below w.heap.size w w') := fun w => alive2_any w
  obtain ⟨x, hx⟩ : ∃ x, x = ext k a := ⟨_, rfl⟩
  obtain ⟨P, hP⟩ : ∃ P, P = 2 ^ 255 := ⟨_, rfl⟩
  have hxl : x < 2 ^ 256 := by rw [hx]; exact ext_lt k a
  have K1 : Hid (∀ w : World, Calls Try.prog 28 #[Wd k, Wd a] w fun e w' => e = .returned (Wd x) ∧ Below w.heap.size w w') := fun w => by rw [hx]; exact extend_any k a hk ha w
  have K2 : Hid (∀ w : World, Calls Try.prog 16 #[.int .u64 2] w fun e w' => e = .returned (Wd 2) ∧ Below w.heap.size w w') := fun w => int_any 2 (by decide) w
  have K3 : Hid (∀ w : World, Calls Try.prog 16 #[.int .u64 255] w fun e w' => e = .returned (Wd 255) ∧ Below w.heap.size w w') := fun w => int_any 255 (by decide) w
  have K4 : Hid (∀ w : World, Calls Try.prog 18 #[Wd 2, Wd 255] w fun e w' => e = .returned (Wd P) ∧ Below w.heap.size w w') := fun w => by rw [hP]; exact exp_any 2 255 (by decide) w
  have K5 : Hid (∀ w : World, Calls Try.prog 19 #[Wd n, Wd k] w fun e w' => e = .returned (.int .i64 (-1)) ∧ Below w.heap.size w w') := fun w => by have := cmp_any n k hn hk w; rwa [cm_lt n k hc] at this
  have K7 : Hid (∀ w : World, Calls Try.prog 25 #[Wd a, Wd b] w fun e w' => e = .returned (.int .i64 (cm (hf a : Int) (hf b : Int))) ∧ Below w.heap.size w w') := fun w => scmp_any a b ha hb w
  have K8 : Hid (∀ w : World, Calls Try.prog 14 #[Wd a, Wd P] w fun e w' => e = .returned (Wd (hf a)) ∧ Below w.heap.size w w') := fun w => by have := add_mod a P w; rw [← Wd_mod (a + P), hP] at this; rw [hP]; exact this
  have K9 : Hid (∀ w : World, Calls Try.prog 14 #[Wd b, Wd P] w fun e w' => e = .returned (Wd (hf b)) ∧ Below w.heap.size w w') := fun w => by have := add_mod b P w; rw [← Wd_mod (b + P), hP] at this; rw [hP]; exact this
  have K10 : Hid (∀ w : World, Calls Try.prog 19 #[Wd (hf a), Wd (hf b)] w fun e w' => e = .returned (.int .i64 (cm (hf a : Int) (hf b : Int))) ∧ Below w.heap.size w w') := fun w => cmp_any _ _ (hf_lt a) (hf_lt b) w
  have K11 : Hid (∀ w : World, Calls Try.prog 16 #[.int .u64 31] w fun e w' => e = .returned (Wd 31) ∧ Below w.heap.size w w') := fun w => int_any 31 (by decide) w
  have K12 : Hid (∀ w : World, Calls Try.prog 29 #[Wd 31, Wd x] w fun e w' => e = .returned (Wd (byn 31 a)) ∧ Below w.heap.size w w') := fun w => by have := byte_any 31 x (by decide) w; rw [hx, byn_last] at this; rw [hx]; exact this
  have K13 : Hid (∀ w : World, Calls Try.prog 29 #[Wd 31, Wd a] w fun e w' => e = .returned (Wd (byn 31 a)) ∧ Below w.heap.size w w') := fun w => byte_any 31 a (by decide) w
  clear hk hn ha hb hc hx hP hxl
  generalize cm (hf a : Int) (hf b : Int) = c1 at *
  generalize hf a = n1 at *
  generalize hf b = n2 at *
  generalize byn 31 a = n3 at *
  generalize Wd 2 = W2 at *
  generalize Wd 255 = W255 at *
  generalize Wd 31 = W31 at *
  have m0 := Hm.new4 (g := w.heap.size + 1 + 1 + 1) (n := b) (T := 24) (Hm.new4 (g := w.heap.size + 1 + 1) (n := a) (T := 24) (Hm.new4 (g := w.heap.size + 1) (n := n) (T := 24) (Hm.new4 (g := w.heap.size) (n := k) (T := 24) (Hm.start w) (by simp)) (by simp)) (by simp)) (by simp)
  conv => arg 3; unfold Wd
  go_enter Try.func8, Try.ntmps8
  go_wp2_with fail
  generalize (((w.alloc (.cells #[.int .u64 (dg k 0), .int .u64 (dg k 1), .int .u64 (dg k 2), .int .u64 (dg k 3)] 24)).alloc (.cells #[.int .u64 (dg n 0), .int .u64 (dg n 1), .int .u64 (dg n 2), .int .u64 (dg n 3)] 24)).alloc (.cells #[.int .u64 (dg a 0), .int .u64 (dg a 1), .int .u64 (dg a 2), .int .u64 (dg a 3)] 24)).alloc (.cells #[.int .u64 (dg b 0), .int .u64 (dg b 1), .int .u64 (dg b 2), .int .u64 (dg b 3)] 24) = W0 at m0 ⊢
  refine (KA.out _).mono ?_
  rintro e w1 ⟨rfl, hb⟩
  have m1 := Hm.below m0 hb
  clear hb m0
  have c1' : ∀ o, o < 4 → w1.cell? ⟨w.heap.size, o, none⟩ = some (.int .u64 (dg k o)) := (m1.ok (Hm.W4 w.heap.size k) (by simp)).c
  have c2' : ∀ o, o < 4 → w1.cell? ⟨w.heap.size + 1 + 1, o, none⟩ = some (.int .u64 (dg a o)) := (m1.ok (Hm.W4 (w.heap.size + 1 + 1) a) (by simp)).c
  go_wp2_with fail
  refine (K1.out _).mono ?_
  rintro e w2 ⟨rfl, hb⟩
  have m2 := Hm.new4 (g := w2.heap.size) (n := x) (T := 24) (Hm.below m1 hb) rfl
  clear hb m1 c1' c2'
  unfold Wd
  go_wp2_with fail
  generalize w2.alloc (.cells #[.int .u64 (dg x 0), .int .u64 (dg x 1), .int .u64 (dg x 2), .int .u64 (dg x 3)] 24) = W2' at m2 ⊢
  generalize w2.heap.size = h at *
  refine (K2.out _).mono ?_
  rintro e w3 ⟨rfl, hb⟩
  have m3 := Hm.below m2 hb
  clear hb m2
  go_wp2_with fail
  refine (K3.out _).mono ?_
  rintro e w4 ⟨rfl, hb⟩
  have m4 := Hm.below m3 hb
  clear hb m3
  go_wp2_with fail
  refine (K4.out _).mono ?_
  rintro e w5 ⟨rfl, hb⟩
  have m5 := Hm.new4 (g := w5.heap.size) (n := P) (T := 24) (Hm.below m4 hb) rfl
  clear hb m4
  unfold Wd
  go_upto_region 5 with fail
  generalize w5.alloc (.cells #[.int .u64 (dg P 0), .int .u64 (dg P 1), .int .u64 (dg P 2), .int .u64 (dg P 3)] 24) = W5' at m5 ⊢
  generalize w5.heap.size = g at *
  refine RS.wp_region_one (Hm.Hd w [Hm.W4 g P, Hm.W4 h x, Hm.W4 (w.heap.size + 1 + 1 + 1) b, Hm.W4 (w.heap.size + 1 + 1) a, Hm.W4 (w.heap.size + 1) n, Hm.W4 (w.heap.size) k]) (by kernel_rfl) (by kernel_rfl) (Hm.drew m5) ?_
  dsimp only [List.toList_toArray]
  refine RS.go1 (v := ?_) (a' := ?_) rfl ?_ ?_ ?_
  rotate_left 2
  · intro K wx hS hK
    refine RW.ld rfl rfl (hS.ok (Hm.W4 (w.heap.size + 1) (n)) (by simp)).c ?_
    exact hK _ hS
  · simp only [Act.put, List.setIfInBounds_toArray, List.set_cons_succ, List.set_cons_zero]
    rfl
  refine RS.go1 (v := ?_) (a' := ?_) rfl ?_ ?_ ?_
  rotate_left 2
  · intro K wx hS hK
    refine RW.ld rfl rfl (hS.ok (Hm.W4 (w.heap.size) (k)) (by simp)).c ?_
    exact hK _ hS
  · simp only [Act.put, List.setIfInBounds_toArray, List.set_cons_succ, List.set_cons_zero]
    rfl
  refine RS.go1 (v := ?_) (a' := ?_) rfl ?_ ?_ ?_
  rotate_left 2
  · intro K wx hS hK
    go_simp
    refine (K5.out _).mono (fun e w2 he => ?_)
    refine ⟨_, he.1, ?_⟩
    exact hK _ (Hm.below hS he.2)
  · simp only [Act.put, List.setIfInBounds_toArray, List.set_cons_succ, List.set_cons_zero]
    rfl
  refine RS.go1 (v := ?_) (a' := ?_) rfl ?_ ?_ ?_
  rotate_left 2
  · intro K wx hS hK
    go_simp
    exact hK _ hS
  · simp only [Act.put, List.setIfInBounds_toArray, List.set_cons_succ, List.set_cons_zero]
    rfl
  refine RS.go1 (v := ?_) (a' := ?_) rfl ?_ ?_ ?_
  rotate_left 2
  · intro K wx hS hK
    go_simp
    exact hK _ hS
  · simp only [Act.put, List.setIfInBounds_toArray, List.set_cons_succ, List.set_cons_zero]
    rfl
  refine RS.go0 (a' := ?_) (by kernel_rfl) ?_ ?_
  rotate_left 1
  · simp only [Act.put, List.setIfInBounds_toArray, List.set_cons_succ, List.set_cons_zero]
    rfl
  refine RS.go0 (a' := ?_) (by kernel_rfl) ?_ ?_
  rotate_left 1
  · simp only [Act.put, List.setIfInBounds_toArray, List.set_cons_succ, List.set_cons_zero]
    rfl
  refine RS.go0 (a' := ?_) (by kernel_rfl) ?_ ?_
  rotate_left 1
  · simp only [Act.put, List.setIfInBounds_toArray, List.set_cons_succ, List.set_cons_zero]
    rfl
  refine RS.go0 (a' := ?_) (by kernel_rfl) ?_ ?_
  rotate_left 1
  · simp only [Act.put, List.setIfInBounds_toArray, List.set_cons_succ, List.set_cons_zero]
    rfl
  refine RS.go0 (a' := ?_) (by kernel_rfl) ?_ ?_
  rotate_left 1
  · simp only [Act.put, List.setIfInBounds_toArray, List.set_cons_succ, List.set_cons_zero]
    rfl
  refine RS.go1 (v := ?_) (a' := ?_) rfl ?_ ?_ ?_
  rotate_left 2
  · intro K wx hS hK
    go_simp
    exact hK _ hS
  · simp only [Act.put, List.setIfInBounds_toArray, List.set_cons_succ, List.set_cons_zero]
    rfl
  refine RS.go_end ?_
  intro w6 m6
  clear m5
  go_upto_region 7 with fail
  refine RS.wp_region_one (Hm.Hd w [Hm.W4 g P, Hm.W4 h x, Hm.W4 (w.heap.size + 1 + 1 + 1) b, Hm.W4 (w.heap.size + 1 + 1) a, Hm.W4 (w.heap.size + 1) n, Hm.W4 (w.heap.size) k]) (by kernel_rfl) (by kernel_rfl) (Hm.drew m6) ?_
  dsimp only [List.toList_toArray]
  refine RS.go1 (v := ?_) (a' := ?_) rfl ?_ ?_ ?_
  rotate_left 2
  · intro K wx hS hK
    refine RW.ld rfl rfl (hS.ok (Hm.W4 (w.heap.size + 1 + 1) (a)) (by simp)).c ?_
    exact hK _ hS
  · simp only [Act.put, List.setIfInBounds_toArray, List.set_cons_succ, List.set_cons_zero]
    rfl
  refine RS.go1 (v := ?_) (a' := ?_) rfl ?_ ?_ ?_
  rotate_left 2
  · intro K wx hS hK
    refine RW.ld rfl rfl (hS.ok (Hm.W4 (w.heap.size + 1 + 1 + 1) (b)) (by simp)).c ?_
    exact hK _ hS
  · simp only [Act.put, List.setIfInBounds_toArray, List.set_cons_succ, List.set_cons_zero]
    rfl
  refine RS.go1 (v := ?_) (a' := ?_) rfl ?_ ?_ ?_
  rotate_left 2
  · intro K wx hS hK
    go_simp
    refine (K7.out _).mono (fun e w2 he => ?_)
    refine ⟨_, he.1, ?_⟩
    exact hK _ (Hm.below hS he.2)
  · simp only [Act.put, List.setIfInBounds_toArray, List.set_cons_succ, List.set_cons_zero]
    rfl
  refine RS.go1 (v := ?_) (a' := ?_) rfl ?_ ?_ ?_
  rotate_left 2
  · intro K wx hS hK
    refine RW.ld rfl rfl (hS.ok (Hm.W4 (w.heap.size + 1 + 1) (a)) (by simp)).c ?_
    exact hK _ hS
  · simp only [Act.put, List.setIfInBounds_toArray, List.set_cons_succ, List.set_cons_zero]
    rfl
  refine RS.go1 (v := ?_) (a' := ?_) rfl ?_ ?_ ?_
  rotate_left 2
  · intro K wx hS hK
    refine RW.ld rfl rfl (hS.ok (Hm.W4 (g) (P)) (by simp)).c ?_
    exact hK _ hS
  · simp only [Act.put, List.setIfInBounds_toArray, List.set_cons_succ, List.set_cons_zero]
    rfl
  refine RS.go1 (v := ?_) (a' := ?_) rfl ?_ ?_ ?_
  rotate_left 2
  · intro K wx hS hK
    go_simp
    refine (K8.out _).mono (fun e w2 he => ?_)
    refine ⟨_, he.1, ?_⟩
    exact hK _ (Hm.below hS he.2)
  · simp only [Act.put, List.setIfInBounds_toArray, List.set_cons_succ, List.set_cons_zero]
    rfl
  refine RS.go1 (v := ?_) (a' := ?_) rfl ?_ ?_ ?_
  rotate_left 2
  · intro K wx hS hK
    refine RW.ld rfl rfl (hS.ok (Hm.W4 (w.heap.size + 1 + 1 + 1) (b)) (by simp)).c ?_
    exact hK _ hS
  · simp only [Act.put, List.setIfInBounds_toArray, List.set_cons_succ, List.set_cons_zero]
    rfl
  refine RS.go1 (v := ?_) (a' := ?_) rfl ?_ ?_ ?_
  rotate_left 2
  · intro K wx hS hK
    refine RW.ld rfl rfl (hS.ok (Hm.W4 (g) (P)) (by simp)).c ?_
    exact hK _ hS
  · simp only [Act.put, List.setIfInBounds_toArray, List.set_cons_succ, List.set_cons_zero]
    rfl
  refine RS.go1 (v := ?_) (a' := ?_) rfl ?_ ?_ ?_
  rotate_left 2
  · intro K wx hS hK
    go_simp
    refine (K9.out _).mono (fun e w2 he => ?_)
    refine ⟨_, he.1, ?_⟩
    exact hK _ (Hm.below hS he.2)
  · simp only [Act.put, List.setIfInBounds_toArray, List.set_cons_succ, List.set_cons_zero]
    rfl
  refine RS.go1 (v := ?_) (a' := ?_) rfl ?_ ?_ ?_
  rotate_left 2
  · intro K wx hS hK
    go_simp
    refine (K10.out _).mono (fun e w2 he => ?_)
    refine ⟨_, he.1, ?_⟩
    exact hK _ (Hm.below hS he.2)
  · simp only [Act.put, List.setIfInBounds_toArray, List.set_cons_succ, List.set_cons_zero]
    rfl
  refine RS.go1 (v := ?_) (a' := ?_) rfl ?_ ?_ ?_
  rotate_left 2
  · intro K wx hS hK
    go_simp
    exact hK _ hS
  · simp only [Act.put, List.setIfInBounds_toArray, List.set_cons_succ, List.set_cons_zero]
    rfl
  refine RS.go1 (v := ?_) (a' := ?_) rfl ?_ ?_ ?_
  rotate_left 2
  · intro K wx hS hK
    go_simp
    exact hK _ hS
  · simp only [Act.put, List.setIfInBounds_toArray, List.set_cons_succ, List.set_cons_zero]
    rfl
  refine RS.go1g (v := ?_) (a' := ?_) (by kernel_rfl) ?_ ?_ ?_
  rotate_left 2
  · intro K wx hS hK
    go_simp
    refine (K11.out _).mono (fun e w2 he => ?_)
    refine ⟨_, he.1, ?_⟩
    exact hK _ (Hm.below hS he.2)
  · simp only [Act.put, List.setIfInBounds_toArray, List.set_cons_succ, List.set_cons_zero]
    rfl
  refine RS.go1g (v := ?_) (a' := ?_) (by kernel_rfl) ?_ ?_ ?_
  rotate_left 2
  · intro K wx hS hK
    refine RW.ld rfl rfl (hS.ok (Hm.W4 (h) (x)) (by simp)).c ?_
    exact hK _ hS
  · simp only [Act.put, List.setIfInBounds_toArray, List.set_cons_succ, List.set_cons_zero]
    rfl
  refine RS.go1g (v := ?_) (a' := ?_) (by kernel_rfl) ?_ ?_ ?_
  rotate_left 2
  · intro K wx hS hK
    go_simp
    refine (K12.out _).mono (fun e w2 he => ?_)
    refine ⟨_, he.1, ?_⟩
    exact hK _ (Hm.below hS he.2)
  · simp only [Act.put, List.setIfInBounds_toArray, List.set_cons_succ, List.set_cons_zero]
    rfl
  refine RS.go1g (v := ?_) (a' := ?_) (by kernel_rfl) ?_ ?_ ?_
  rotate_left 2
  · intro K wx hS hK
    go_simp
    refine (K11.out _).mono (fun e w2 he => ?_)
    refine ⟨_, he.1, ?_⟩
    exact hK _ (Hm.below hS he.2)
  · simp only [Act.put, List.setIfInBounds_toArray, List.set_cons_succ, List.set_cons_zero]
    rfl
  refine RS.go1g (v := ?_) (a' := ?_) (by kernel_rfl) ?_ ?_ ?_
  rotate_left 2
  · intro K wx hS hK
    refine RW.ld rfl rfl (hS.ok (Hm.W4 (w.heap.size + 1 + 1) (a)) (by simp)).c ?_
    exact hK _ hS
  · simp only [Act.put, List.setIfInBounds_toArray, List.set_cons_succ, List.set_cons_zero]
    rfl
  refine RS.go1g (v := ?_) (a' := ?_) (by kernel_rfl) ?_ ?_ ?_
  rotate_left 2
  · intro K wx hS hK
    go_simp
    refine (K13.out _).mono (fun e w2 he => ?_)
    refine ⟨_, he.1, ?_⟩
    exact hK _ (Hm.below hS he.2)
  · simp only [Act.put, List.setIfInBounds_toArray, List.set_cons_succ, List.set_cons_zero]
    rfl
  refine RS.go1g (v := ?_) (a' := ?_) (by kernel_rfl) ?_ ?_ ?_
  rotate_left 2
  · intro K wx hS hK
    refine RW.eq (b := true) rfl rfl rfl (decide_eq_true rfl) ?_
    exact hK _ hS
  · simp only [Act.put, List.setIfInBounds_toArray, List.set_cons_succ, List.set_cons_zero]
    rfl
  refine RS.go1 (v := ?_) (a' := ?_) rfl ?_ ?_ ?_
  rotate_left 2
  · intro K wx hS hK
    go_simp
    exact hK _ hS
  · simp only [Act.put, List.setIfInBounds_toArray, List.set_cons_succ, List.set_cons_zero]
    rfl
  refine RS.go1 (v := ?_) (a' := ?_) rfl ?_ ?_ ?_
  rotate_left 2
  · intro K wx hS hK
    go_simp
    exact hK _ hS
  · simp only [Act.put, List.setIfInBounds_toArray, List.set_cons_succ, List.set_cons_zero]
    rfl
  refine RS.go_end ?_
  intro w9 m9
  have HB : Hid (Below w.heap.size w w9) := m9.bel
  clear m9
  go_wp2_with fail
  go_ret
  exact ⟨rfl, HB.out⟩
theorem law_ext (k n a b : Nat) (hk : k < 2 ^ 256) (hn : n < 2 ^ 256) (ha : a < 2 ^ 256) (hb : b < 2 ^ 256) (w : World) :
    Calls Try.prog 8 #[Wd k, Wd n, Wd a, Wd b] w fun e w' => e = .returned (.bool true) ∧ Below w.heap.size w w' := by
  rcases Nat.lt_or_ge n k with h | h
  · exact law_ext_lo k n a b hk hn ha hb h w
  · exact law_ext_hi k n a b hk hn ha hb h w
end Go.Proofs.Ytblodmjnhmfjeaa
