/- lampbearerkeep.TwosTruncates. -/
import Derived.Test.YtblodmjnhmfjeaaLawFloor
import Derived.Test.YtblodmjnhmfjeaaTwH
import Derived.Test.YtblodmjnhmfjeaaRWN
namespace Go.Proofs.Ytblodmjnhmfjeaa
open Go.RowKit Go.Shelf
theorem ng_int (x : Nat) (h : x < 2 ^ 256) : ∃ k : Int, (ng x : Int) = k * 2 ^ 256 - x := by
  unfold ng
  by_cases e : x = 0
  · exact ⟨0, by subst e; decide⟩
  · exact ⟨1, by omega⟩
theorem back_mod (x a : Nat) (m : Int) (h : (x : Int) = a + m * 2 ^ 256) : x % 2 ^ 256 = a % 2 ^ 256 := by
  have : ((x : Int) % 2 ^ 256) = ((a : Int) % 2 ^ 256) := by rw [h, Int.add_mul_emod_self_right]
  omega
theorem sz_pos (b : Nat) (hb : b < 2 ^ 256) (h0 : b ≠ 0) : 0 < sz b ∧ sz b ≤ 2 ^ 255 := by
  unfold sz sg ng
  split
  · rename_i h; rw [decide_eq_true_iff] at h; omega
  · rename_i h; rw [decide_eq_true_iff] at h; omega
theorem sz_up (a : Nat) (h : sg a = false) : sz a = a ∧ a < 2 ^ 255 := by
  unfold sz; rw [h]; unfold sg at h; rw [decide_eq_false_iff_not] at h
  exact ⟨if_neg (by decide), by omega⟩
theorem sz_down (a : Nat) (ha : a < 2 ^ 256) (h : sg a = true) : sz a + a = 2 ^ 256 := by
  unfold sz; rw [h]; unfold sg at h; rw [decide_eq_true_iff] at h
  rw [if_pos rfl]; unfold ng; omega
theorem trunc_sum (a b : Nat) (ha : a < 2 ^ 256) (hb : b < 2 ^ 256) (h0 : b ≠ 0) : (sq a b * b + sr a b) % 2 ^ 256 = a % 2 ^ 256 := by
  have hB := sz_pos b hb h0
  unfold sq sr md
  rw [if_neg (show ¬ sz b = 0 by omega)]
  have h2 : sz b * (sz a / sz b) + sz a % sz b = sz a := Nat.div_add_mod (sz a) (sz b)
  have hA : sz a < 2 ^ 256 := sz_lt a ha
  have hQ : sz a / sz b < 2 ^ 256 := Nat.lt_of_le_of_lt (Nat.div_le_self _ _) hA
  have hR : sz a % sz b < 2 ^ 256 := Nat.lt_of_le_of_lt (Nat.mod_le _ _) hA
  obtain ⟨k1, e1⟩ := ng_int _ hQ
  obtain ⟨k2, e2⟩ := ng_int _ hR
  generalize sz a / sz b = Q at *
  generalize sz a % sz b = R at *
  have h3 : (sz b : Int) * Q + R = sz a := by exact_mod_cast h2
  cases sa : sg a <;> cases sb : sg b
  · rw [(sz_up b sb).1, (sz_up a sa).1, Nat.mul_comm] at h2
    rw [if_neg (by decide), if_neg (by decide), h2]
  · have ea := (sz_up a sa).1
    have eb := sz_down b hb sb
    rw [if_pos (by decide), if_neg (by decide)]
    refine back_mod _ _ (k1 * 2 ^ 256 - k1 * sz b - Q) ?_
    have eb' : (b : Int) = 2 ^ 256 - sz b := by omega
    push_cast
    rw [e1, eb', show (a : Int) = sz a by omega, ← h3]
    grind
  · have ea := sz_down a ha sa
    have eb := (sz_up b sb).1
    rw [if_pos (by decide), if_pos (by decide)]
    refine back_mod _ _ (k1 * sz b + k2 - 1) ?_
    have ea' : (a : Int) = 2 ^ 256 - sz a := by omega
    push_cast
    rw [e1, e2, ea', ← h3, show (b : Int) = sz b by omega]
    grind
  · have ea := sz_down a ha sa
    have eb := sz_down b hb sb
    rw [if_neg (by decide), if_pos (by decide)]
    refine back_mod _ _ (Q + k2 - 1) ?_
    have ea' : (a : Int) = 2 ^ 256 - sz a := by omega
    have eb' : (b : Int) = 2 ^ 256 - sz b := by omega
    push_cast
    rw [e2, ea', eb', ← h3]
    grind
theorem trunc_rest (a b : Nat) (hb : b < 2 ^ 256) (h0 : b ≠ 0) : sz (sr a b) < sz b ∧ (sr a b ≠ 0 → sg (sr a b) = sg a) ∧ sr a b < 2 ^ 256 := by
  have hB := sz_pos b hb h0
  unfold sr md
  rw [if_neg (show ¬ sz b = 0 by omega)]
  have hR := Nat.mod_lt (sz a) hB.1
  generalize sz a % sz b = R at *
  generalize sz b = B at *
  cases sa : sg a
  · rw [if_neg (by decide)]
    have e : sg R = false := by unfold sg; rw [decide_eq_false_iff_not]; omega
    refine ⟨?_, fun _ => e, by omega⟩
    unfold sz; rw [e, if_neg (by decide)]; exact hR
  · rw [if_pos rfl]
    by_cases h : R = 0
    · subst h
      have e : ng 0 = 0 := by decide +kernel
      rw [e]
      refine ⟨?_, fun h => absurd rfl h, by decide⟩
      have e2 : sz 0 = 0 := by decide +kernel
      rw [e2]; exact hB.1
    · have e : sg (ng R) = true := by unfold sg ng; rw [decide_eq_true_iff]; omega
      refine ⟨?_, fun _ => e, ng_lt R⟩
      unfold sz; rw [e, if_pos rfl]
      have : ng (ng R) = R := by unfold ng; omega
      rw [this]; exact hR
set_option maxHeartbeats 4000000 in
set_option maxRecDepth 100000 in
theorem size_clo (a : Nat) (ha : a < 2 ^ 256) (w : World) :
    Calls Try.prog 27 #[Wd a] w fun e w' => e = .returned (Wd (sz a)) ∧ Below w.heap.size w w' := by
  have K1 : Hid (∀ w : World, Calls Try.prog 25 #[Wd a, Wd 0] w fun e w' => e = .returned (.int .i64 (cm (hf a : Int) (hf 0 : Int))) ∧ Below w.heap.size w w') := fun w => scmp_any a 0 ha (by decide) w
  have K2 : Hid (∀ w : World, Calls Try.prog 17 #[Wd a] w fun e w' => e = .returned (Wd (ng a)) ∧ Below w.heap.size w w') := fun w => neg_any a ha w
  have E1 : Hid (decide (cm (hf a : Int) (hf 0 : Int) < 0) = sg a) := cm_sg a ha
  have hz : Hid (sz a = if sg a = true then ng a else a) := (rfl : sz a = if sg a = true then ng a else a)
  clear ha
  generalize cm (hf a : Int) (hf 0 : Int) = c at *
  generalize sz a = N at *
  generalize ng a = M at *
  generalize sg a = b at *
  have m0 := M2_start w a
  conv => arg 3; unfold Wd
  go_enter Try.func27, Try.ntmps27
  go_wp2_with fail
  generalize (w.alloc (.cells #[.int .u64 (dg a 0), .int .u64 (dg a 1), .int .u64 (dg a 2), .int .u64 (dg a 3)] 24)).alloc (.cells #[.int .u64 0, .int .u64 0, .int .u64 0, .int .u64 0] 24) = W0 at m0 ⊢
  refine (K1.out _).mono ?_
  rintro e w1 ⟨rfl, hb⟩
  have m1 := M2_below m0 hb
  clear hb m0
  have c0 : ∀ o, o < 4 → w1.cell? ⟨w.heap.size, o, none⟩ = some (.int .u64 (dg a o)) := m1.v0.c
  have c1 : ∀ o, o < 4 → w1.cell? ⟨w.heap.size + 1, o, none⟩ = some (.int .u64 (dg 0 o)) := m1.v1.c
  have f1 : ∀ o, w1.frozen? ⟨w.heap.size + 1, o, none⟩ = false := m1.v1.f
  have HM : Hid (M2 w a 0 w1) := m1
  clear m1
  have e1 := E1.out
  cases b
  · have : N = a := hz.out
    subst this
    go_wp2_with fail
    have m2 := M2_set1 (m := N) HM.out
    exact bodyPost_ret (v := Wd N) (resultTw _ _ _ (w.heap.size + 1) N 2 rfl rfl m2.v1.c) rfl ⟨rfl, m2.bel⟩
  · have : N = M := hz.out
    subst this
    go_wp2_with fail
    refine (K2.out _).mono ?_
    rintro e w2 ⟨rfl, hb⟩
    have HM2 : Hid (M2 w a 0 w2) := M2_below HM.out hb
    clear hb c0 c1 f1 HM
    have c1 : ∀ o, o < 4 → w2.cell? ⟨w.heap.size + 1, o, none⟩ = some (.int .u64 (dg 0 o)) := HM2.out.v1.c
    have f1 : ∀ o, w2.frozen? ⟨w.heap.size + 1, o, none⟩ = false := HM2.out.v1.f
    unfold Wd
    go_wp2_with fail
    have m2 := M2_set1 (m := N) HM2.out
    exact bodyPost_ret (v := Wd N) (resultTw _ _ _ (w.heap.size + 1) N 2 rfl rfl m2.v1.c) rfl ⟨rfl, m2.bel⟩
set_option maxHeartbeats 4000000 in
set_option maxRecDepth 100000 in
theorem law_trunc_Z (a b : Nat) (ha : a < 2 ^ 256) (hb : b < 2 ^ 256) (h0 : b = 0) (w : World) :
    Calls Try.prog 7 #[Wd a, Wd b] w fun e w' => e = .returned (.bool true) ∧ Below w.heap.size w w' := by
  have KA : Hid (∀ w : World, Calls Try.prog 9 #[] w fun e w' => e = .returned (.bool true) ∧ Below w.heap.size w w') := fun w => alive2_any w
  have e1 : sq a 0 = 0 := by
    unfold sq; rw [show sz 0 = 0 by decide +kernel, Nat.div_zero]; split
    · decide +kernel
    · rfl
  have e2 : sr a 0 = 0 := by
    unfold sr md; rw [show sz 0 = 0 by decide +kernel, if_pos rfl]; split
    · decide +kernel
    · rfl
  have KD : Hid (∀ w : World, Calls Try.prog 26 #[Wd a, Wd b] w fun e w' => e = .returned (.tuple #[Wd b, Wd b]) ∧ Below w.heap.size w w') := fun w => by have := sdivmod_any a b ha hb w; rw [h0] at this ⊢; rwa [e1, e2] at this
  have E0 : Hid (b % 2 ^ 256 = 0 % 2 ^ 256) := (by rw [h0] : b % 2 ^ 256 = 0 % 2 ^ 256)
  clear ha hb e1 e2 h0
  have m0 := Hm.new4 (g := w.heap.size + 1) (n := b) (T := 24) (Hm.new4 (g := w.heap.size) (n := a) (T := 24) (Hm.start w) (by simp)) (by simp)
  conv => arg 3; unfold Wd
  go_enter Try.func7, Try.ntmps7
  go_wp2_with fail
  generalize (w.alloc (.cells #[.int .u64 (dg a 0), .int .u64 (dg a 1), .int .u64 (dg a 2), .int .u64 (dg a 3)] 24)).alloc (.cells #[.int .u64 (dg b 0), .int .u64 (dg b 1), .int .u64 (dg b 2), .int .u64 (dg b 3)] 24) = W0 at m0 ⊢
  refine (KA.out _).mono ?_
  rintro e w1 ⟨rfl, hb⟩
  have m1 := Hm.below m0 hb
  clear hb m0
  have c1 : ∀ o, o < 4 → w1.cell? ⟨w.heap.size, o, none⟩ = some (.int .u64 (dg a o)) := (m1.ok (Hm.W4 w.heap.size a) (by simp)).c
  have c2 : ∀ o, o < 4 → w1.cell? ⟨w.heap.size + 1, o, none⟩ = some (.int .u64 (dg b o)) := (m1.ok (Hm.W4 (w.heap.size + 1) b) (by simp)).c
  go_wp2_with fail
  refine (KD.out _).mono ?_
  rintro e w6 ⟨rfl, hb⟩
  have m6 := Hm.new4 (g := w6.heap.size + 1) (n := b) (T := 24) (Hm.new4 (g := w6.heap.size) (n := b) (T := 24) (Hm.below m1 hb) rfl) (by simp)
  clear hb m1 c1 c2
  unfold Wd
  go_upto_region 4 with fail
  generalize (w6.alloc (.cells #[.int .u64 (dg b 0), .int .u64 (dg b 1), .int .u64 (dg b 2), .int .u64 (dg b 3)] 24)).alloc (.cells #[.int .u64 (dg b 0), .int .u64 (dg b 1), .int .u64 (dg b 2), .int .u64 (dg b 3)] 24) = W6 at m6 ⊢
  generalize w6.heap.size = h at *
  refine RS.wp_region_flat (Hm.Hd w [Hm.W4 (h + 1) b, Hm.W4 h b, Hm.W4 (w.heap.size + 1) b, Hm.W4 (w.heap.size) a]) 3 (by kernel_rfl) (m6) ?_
  simp only [List.take_succ_cons, List.take_zero, List.drop_succ_cons, List.drop_zero]
  refine RS.go1 (v := ?_) (a' := ?_) rfl ?_ ?_ ?_
  rotate_left 2
  · intro K wx hS hK
    refine RW.ld rfl rfl (hS.ok (Hm.W4 (w.heap.size + 1) (b)) (by simp)).c ?_
    exact hK _ hS
  · simp only [Act.put, List.setIfInBounds_toArray, List.set_cons_succ, List.set_cons_zero]
    rfl
  refine RS.go1 (v := ?_) (a' := ?_) rfl ?_ ?_ ?_
  rotate_left 2
  · intro K wx hS hK
    go_simp
    exact hK _ hS
  · simp only [Act.put, List.setIfInBounds_toArray, List.set_cons_succ, List.set_cons_zero]
    rfl
  refine RS.go1 (v := ?_) (a' := ?_) rfl ?_ ?_ ?_
  rotate_left 2
  · intro K wx hS hK
    refine RW.eq (b := true) (y := 0) rfl rfl rfl (decide_eq_true E0.out) ?_
    exact hK _ hS
  · simp only [Act.put, List.setIfInBounds_toArray, List.set_cons_succ, List.set_cons_zero]
    rfl
  refine RS.go_end ?_
  intro w7 m7
  refine wpList_nil ?_
  clear m6
  go_upto_region 5 with fail
  refine RS.wp_region_flat (Hm.Hd w [Hm.W4 (h + 1) b, Hm.W4 h b, Hm.W4 (w.heap.size + 1) b, Hm.W4 (w.heap.size) a]) 9 (by kernel_rfl) (m7) ?_
  simp only [List.take_succ_cons, List.take_zero, List.drop_succ_cons, List.drop_zero]
  refine RS.go1 (v := ?_) (a' := ?_) rfl ?_ ?_ ?_
  rotate_left 2
  · intro K wx hS hK
    refine RW.ld rfl rfl (hS.ok (Hm.W4 (h) (b)) (by simp)).c ?_
    exact hK _ hS
  · simp only [Act.put, List.setIfInBounds_toArray, List.set_cons_succ, List.set_cons_zero]
    rfl
  refine RS.go1 (v := ?_) (a' := ?_) rfl ?_ ?_ ?_
  rotate_left 2
  · intro K wx hS hK
    refine RW.ld rfl rfl (hS.ok (Hm.W4 (w.heap.size + 1) (b)) (by simp)).c ?_
    exact hK _ hS
  · simp only [Act.put, List.setIfInBounds_toArray, List.set_cons_succ, List.set_cons_zero]
    rfl
  refine RS.go1 (v := ?_) (a' := ?_) rfl ?_ ?_ ?_
  rotate_left 2
  · intro K wx hS hK
    refine RW.eq (b := true) rfl rfl rfl (decide_eq_true rfl) ?_
    exact hK _ hS
  · simp only [Act.put, List.setIfInBounds_toArray, List.set_cons_succ, List.set_cons_zero]
    rfl
  refine RS.go1 (v := ?_) (a' := ?_) rfl ?_ ?_ ?_
  rotate_left 2
  · intro K wx hS hK
    go_simp
    exact hK _ hS
  · simp only [Act.put, List.setIfInBounds_toArray, List.set_cons_succ, List.set_cons_zero]
    rfl
  refine RS.go1g (v := ?_) (a' := ?_) (by kernel_rfl) ?_ ?_ ?_
  rotate_left 2
  · intro K wx hS hK
    refine RW.ld rfl rfl (hS.ok (Hm.W4 (h + 1) (b)) (by simp)).c ?_
    exact hK _ hS
  · simp only [Act.put, List.setIfInBounds_toArray, List.set_cons_succ, List.set_cons_zero]
    rfl
  refine RS.go1g (v := ?_) (a' := ?_) (by kernel_rfl) ?_ ?_ ?_
  rotate_left 2
  · intro K wx hS hK
    refine RW.ld rfl rfl (hS.ok (Hm.W4 (w.heap.size + 1) (b)) (by simp)).c ?_
    exact hK _ hS
  · simp only [Act.put, List.setIfInBounds_toArray, List.set_cons_succ, List.set_cons_zero]
    rfl
  refine RS.go1g (v := ?_) (a' := ?_) (by kernel_rfl) ?_ ?_ ?_
  rotate_left 2
  · intro K wx hS hK
    refine RW.eq (b := true) rfl rfl rfl (decide_eq_true rfl) ?_
    exact hK _ hS
  · simp only [Act.put, List.setIfInBounds_toArray, List.set_cons_succ, List.set_cons_zero]
    rfl
  refine RS.go1 (v := ?_) (a' := ?_) rfl ?_ ?_ ?_
  rotate_left 2
  · intro K wx hS hK
    go_simp
    exact hK _ hS
  · simp only [Act.put, List.setIfInBounds_toArray, List.set_cons_succ, List.set_cons_zero]
    rfl
  refine RS.go1 (v := ?_) (a' := ?_) rfl ?_ ?_ ?_
  rotate_left 2
  · intro K wx hS hK
    go_simp
    exact hK _ hS
  · simp only [Act.put, List.setIfInBounds_toArray, List.set_cons_succ, List.set_cons_zero]
    rfl
  refine RS.go_end ?_
  intro w9 m9
  refine wpList_nil ?_
  have HB : Hid (Below w.heap.size w w9) := m9.bel
  clear m9
  go_wp2_with fail
  go_ret
  exact ⟨rfl, HB.out⟩
set_option maxHeartbeats 4000000 in
set_option maxRecDepth 100000 in
theorem law_trunc_0 (a b : Nat) (ha : a < 2 ^ 256) (hb : b < 2 ^ 256) (h0 : b ≠ 0) (hr : sr a b = 0) (w : World) :
    Calls Try.prog 7 #[Wd a, Wd b] w fun e w' => e = .returned (.bool true) ∧ Below w.heap.size w w' := by
  have KA : Hid (∀ w : World, Calls Try.prog 9 #[] w fun e w' => e = .returned (.bool true) ∧ Below w.heap.size w w') := fun w => alive2_any w
  obtain ⟨q, hq⟩ : ∃ q, q = sq a b := ⟨_, rfl⟩
  obtain ⟨r, hr'⟩ : ∃ r, r = sr a b := ⟨_, rfl⟩
  have hs := trunc_sum a b ha hb h0
  have ht := trunc_rest a b hb h0
  rw [← hq, ← hr'] at hs
  rw [← hr'] at ht hr
  have KD : Hid (∀ w : World, Calls Try.prog 26 #[Wd a, Wd b] w fun e w' => e = .returned (.tuple #[Wd q, Wd r]) ∧ Below w.heap.size w w') := fun w => by rw [hq, hr']; exact sdivmod_any a b ha hb w
  have K1 : Hid (∀ w : World, Calls Try.prog 15 #[Wd q, Wd b] w fun e w' => e = .returned (Wd (q * b)) ∧ Below w.heap.size w w') := fun w => mul_mod _ _ w
  have K2 : Hid (∀ w : World, Calls Try.prog 14 #[Wd (q * b), Wd r] w fun e w' => e = .returned (Wd (q * b + r)) ∧ Below w.heap.size w w') := fun w => add_mod _ _ w
  have K3 : Hid (∀ w : World, Calls Try.prog 27 #[Wd r] w fun e w' => e = .returned (Wd (sz r)) ∧ Below w.heap.size w w') := fun w => size_clo r ht.2.2 w
  have K4 : Hid (∀ w : World, Calls Try.prog 27 #[Wd b] w fun e w' => e = .returned (Wd (sz b)) ∧ Below w.heap.size w w') := fun w => size_clo b hb w
  have K5 : Hid (∀ w : World, Calls Try.prog 19 #[Wd (sz r), Wd (sz b)] w fun e w' => e = .returned (.int .i64 (-1)) ∧ Below w.heap.size w w') := fun w => by have := cmp_any (sz r) (sz b) (sz_lt r ht.2.2) (sz_lt b hb) w; rwa [cm_lt _ _ ht.1] at this
  have E0 : Hid (decide (b % 2 ^ 256 = 0 % 2 ^ 256) = false) := (by rw [decide_eq_false_iff_not]; omega : decide (b % 2 ^ 256 = 0 % 2 ^ 256) = false)
  have E1 : Hid ((q * b + r) % 2 ^ 256 = a % 2 ^ 256) := hs
  have E2 : Hid (decide (r % 2 ^ 256 = 0 % 2 ^ 256) = true) := (by rw [hr]; decide : decide (r % 2 ^ 256 = 0 % 2 ^ 256) = true)
  clear ha hb h0 hq hr' hs ht hr
  generalize q * b + r = n1 at *
  generalize q * b = n2 at *
  generalize sz r = n3 at *
  generalize sz b = n4 at *
  have m0 := Hm.new4 (g := w.heap.size + 1) (n := b) (T := 24) (Hm.new4 (g := w.heap.size) (n := a) (T := 24) (Hm.start w) (by simp)) (by simp)
  conv => arg 3; unfold Wd
  go_enter Try.func7, Try.ntmps7
  go_wp2_with fail
  generalize (w.alloc (.cells #[.int .u64 (dg a 0), .int .u64 (dg a 1), .int .u64 (dg a 2), .int .u64 (dg a 3)] 24)).alloc (.cells #[.int .u64 (dg b 0), .int .u64 (dg b 1), .int .u64 (dg b 2), .int .u64 (dg b 3)] 24) = W0 at m0 ⊢
  refine (KA.out _).mono ?_
  rintro e w1 ⟨rfl, hb⟩
  have m1 := Hm.below m0 hb
  clear hb m0
  have c1 : ∀ o, o < 4 → w1.cell? ⟨w.heap.size, o, none⟩ = some (.int .u64 (dg a o)) := (m1.ok (Hm.W4 w.heap.size a) (by simp)).c
  have c2 : ∀ o, o < 4 → w1.cell? ⟨w.heap.size + 1, o, none⟩ = some (.int .u64 (dg b o)) := (m1.ok (Hm.W4 (w.heap.size + 1) b) (by simp)).c
  go_wp2_with fail
  refine (KD.out _).mono ?_
  rintro e w6 ⟨rfl, hb⟩
  have m6 := Hm.new4 (g := w6.heap.size + 1) (n := r) (T := 24) (Hm.new4 (g := w6.heap.size) (n := q) (T := 24) (Hm.below m1 hb) rfl) (by simp)
  clear hb m1 c1 c2
  unfold Wd
  go_upto_region 4 with fail
  generalize (w6.alloc (.cells #[.int .u64 (dg q 0), .int .u64 (dg q 1), .int .u64 (dg q 2), .int .u64 (dg q 3)] 24)).alloc (.cells #[.int .u64 (dg r 0), .int .u64 (dg r 1), .int .u64 (dg r 2), .int .u64 (dg r 3)] 24) = W6 at m6 ⊢
  generalize w6.heap.size = h at *
  refine RS.wp_region_flat (Hm.Hd w [Hm.W4 (h + 1) r, Hm.W4 h q, Hm.W4 (w.heap.size + 1) b, Hm.W4 (w.heap.size) a]) 3 (by kernel_rfl) (m6) ?_
  simp only [List.take_succ_cons, List.take_zero, List.drop_succ_cons, List.drop_zero]
  refine RS.go1 (v := ?_) (a' := ?_) rfl ?_ ?_ ?_
  rotate_left 2
  · intro K wx hS hK
    refine RW.ld rfl rfl (hS.ok (Hm.W4 (w.heap.size + 1) (b)) (by simp)).c ?_
    exact hK _ hS
  · simp only [Act.put, List.setIfInBounds_toArray, List.set_cons_succ, List.set_cons_zero]
    rfl
  refine RS.go1 (v := ?_) (a' := ?_) rfl ?_ ?_ ?_
  rotate_left 2
  · intro K wx hS hK
    go_simp
    exact hK _ hS
  · simp only [Act.put, List.setIfInBounds_toArray, List.set_cons_succ, List.set_cons_zero]
    rfl
  refine RS.go1 (v := ?_) (a' := ?_) rfl ?_ ?_ ?_
  rotate_left 2
  · intro K wx hS hK
    refine RW.eq (b := false) (y := 0) rfl rfl rfl (E0.out) ?_
    exact hK _ hS
  · simp only [Act.put, List.setIfInBounds_toArray, List.set_cons_succ, List.set_cons_zero]
    rfl
  refine RS.go_end ?_
  intro w7 m7
  refine wpList_nil ?_
  clear m6
  go_upto_region 7 with fail
  refine RS.wp_region_one (Hm.Hd w [Hm.W4 (h + 1) r, Hm.W4 h q, Hm.W4 (w.heap.size + 1) b, Hm.W4 (w.heap.size) a]) (by kernel_rfl) (by kernel_rfl) (Hm.drew m7) ?_
  dsimp only [List.toList_toArray]
  refine RS.go1 (v := ?_) (a' := ?_) rfl ?_ ?_ ?_
  rotate_left 2
  · intro K wx hS hK
    refine RW.ld rfl rfl (hS.ok (Hm.W4 (h) (q)) (by simp)).c ?_
    exact hK _ hS
  · simp only [Act.put, List.setIfInBounds_toArray, List.set_cons_succ, List.set_cons_zero]
    rfl
  refine RS.go1 (v := ?_) (a' := ?_) rfl ?_ ?_ ?_
  rotate_left 2
  · intro K wx hS hK
    refine RW.ld rfl rfl (hS.ok (Hm.W4 (w.heap.size + 1) (b)) (by simp)).c ?_
    exact hK _ hS
  · simp only [Act.put, List.setIfInBounds_toArray, List.set_cons_succ, List.set_cons_zero]
    rfl
  refine RS.go1 (v := ?_) (a' := ?_) rfl ?_ ?_ ?_
  rotate_left 2
  · intro K wx hS hK
    go_simp
    refine (K1.out _).mono (fun e w2 he => ?_)
    refine ⟨_, he.1, ?_⟩
    exact hK _ (Hm.below hS he.2)
  · simp only [Act.put, List.setIfInBounds_toArray, List.set_cons_succ, List.set_cons_zero]
    rfl
  refine RS.go1 (v := ?_) (a' := ?_) rfl ?_ ?_ ?_
  rotate_left 2
  · intro K wx hS hK
    refine RW.ld rfl rfl (hS.ok (Hm.W4 (h + 1) (r)) (by simp)).c ?_
    exact hK _ hS
  · simp only [Act.put, List.setIfInBounds_toArray, List.set_cons_succ, List.set_cons_zero]
    rfl
  refine RS.go1 (v := ?_) (a' := ?_) rfl ?_ ?_ ?_
  rotate_left 2
  · intro K wx hS hK
    go_simp
    refine (K2.out _).mono (fun e w2 he => ?_)
    refine ⟨_, he.1, ?_⟩
    exact hK _ (Hm.below hS he.2)
  · simp only [Act.put, List.setIfInBounds_toArray, List.set_cons_succ, List.set_cons_zero]
    rfl
  refine RS.go1 (v := ?_) (a' := ?_) rfl ?_ ?_ ?_
  rotate_left 2
  · intro K wx hS hK
    refine RW.ld rfl rfl (hS.ok (Hm.W4 (w.heap.size) (a)) (by simp)).c ?_
    exact hK _ hS
  · simp only [Act.put, List.setIfInBounds_toArray, List.set_cons_succ, List.set_cons_zero]
    rfl
  refine RS.go1 (v := ?_) (a' := ?_) rfl ?_ ?_ ?_
  rotate_left 2
  · intro K wx hS hK
    refine RW.eq (b := true) rfl rfl rfl (decide_eq_true E1.out) ?_
    exact hK _ hS
  · simp only [Act.put, List.setIfInBounds_toArray, List.set_cons_succ, List.set_cons_zero]
    rfl
  refine RS.go1 (v := ?_) (a' := ?_) rfl ?_ ?_ ?_
  rotate_left 2
  · intro K wx hS hK
    go_simp
    exact hK _ hS
  · simp only [Act.put, List.setIfInBounds_toArray, List.set_cons_succ, List.set_cons_zero]
    rfl
  refine RS.go1g (v := ?_) (a' := ?_) (by kernel_rfl) ?_ ?_ ?_
  rotate_left 2
  · intro K wx hS hK
    go_simp
    exact hK _ hS
  · simp only [Act.put, List.setIfInBounds_toArray, List.set_cons_succ, List.set_cons_zero]
    rfl
  refine RS.go1g (v := ?_) (a' := ?_) (by kernel_rfl) ?_ ?_ ?_
  rotate_left 2
  · intro K wx hS hK
    refine RW.ld rfl rfl (hS.ok (Hm.W4 (h + 1) (r)) (by simp)).c ?_
    exact hK _ hS
  · simp only [Act.put, List.setIfInBounds_toArray, List.set_cons_succ, List.set_cons_zero]
    rfl
  refine RS.go1g (v := ?_) (a' := ?_) (by kernel_rfl) ?_ ?_ ?_
  rotate_left 2
  · intro K wx hS hK
    go_simp
    refine (K3.out _).mono (fun e w2 he => ?_)
    refine ⟨_, he.1, ?_⟩
    exact hK _ (Hm.below hS he.2)
  · simp only [Act.put, List.setIfInBounds_toArray, List.set_cons_succ, List.set_cons_zero]
    rfl
  refine RS.go1g (v := ?_) (a' := ?_) (by kernel_rfl) ?_ ?_ ?_
  rotate_left 2
  · intro K wx hS hK
    go_simp
    exact hK _ hS
  · simp only [Act.put, List.setIfInBounds_toArray, List.set_cons_succ, List.set_cons_zero]
    rfl
  refine RS.go1g (v := ?_) (a' := ?_) (by kernel_rfl) ?_ ?_ ?_
  rotate_left 2
  · intro K wx hS hK
    refine RW.ld rfl rfl (hS.ok (Hm.W4 (w.heap.size + 1) (b)) (by simp)).c ?_
    exact hK _ hS
  · simp only [Act.put, List.setIfInBounds_toArray, List.set_cons_succ, List.set_cons_zero]
    rfl
  refine RS.go1g (v := ?_) (a' := ?_) (by kernel_rfl) ?_ ?_ ?_
  rotate_left 2
  · intro K wx hS hK
    go_simp
    refine (K4.out _).mono (fun e w2 he => ?_)
    refine ⟨_, he.1, ?_⟩
    exact hK _ (Hm.below hS he.2)
  · simp only [Act.put, List.setIfInBounds_toArray, List.set_cons_succ, List.set_cons_zero]
    rfl
  refine RS.go1g (v := ?_) (a' := ?_) (by kernel_rfl) ?_ ?_ ?_
  rotate_left 2
  · intro K wx hS hK
    go_simp
    refine (K5.out _).mono (fun e w2 he => ?_)
    refine ⟨_, he.1, ?_⟩
    exact hK _ (Hm.below hS he.2)
  · simp only [Act.put, List.setIfInBounds_toArray, List.set_cons_succ, List.set_cons_zero]
    rfl
  refine RS.go1g (v := ?_) (a' := ?_) (by kernel_rfl) ?_ ?_ ?_
  rotate_left 2
  · intro K wx hS hK
    go_simp
    exact hK _ hS
  · simp only [Act.put, List.setIfInBounds_toArray, List.set_cons_succ, List.set_cons_zero]
    rfl
  refine RS.go1 (v := ?_) (a' := ?_) rfl ?_ ?_ ?_
  rotate_left 2
  · intro K wx hS hK
    go_simp
    exact hK _ hS
  · simp only [Act.put, List.setIfInBounds_toArray, List.set_cons_succ, List.set_cons_zero]
    rfl
  refine RS.go1 (v := ?_) (a' := ?_) rfl ?_ ?_ ?_
  rotate_left 2
  · intro K wx hS hK
    go_simp
    exact hK _ hS
  · simp only [Act.put, List.setIfInBounds_toArray, List.set_cons_succ, List.set_cons_zero]
    rfl
  refine RS.go1g (v := ?_) (a' := ?_) (by kernel_rfl) ?_ ?_ ?_
  rotate_left 2
  · intro K wx hS hK
    refine RW.ld rfl rfl (hS.ok (Hm.W4 (h + 1) (r)) (by simp)).c ?_
    exact hK _ hS
  · simp only [Act.put, List.setIfInBounds_toArray, List.set_cons_succ, List.set_cons_zero]
    rfl
  refine RS.go1g (v := ?_) (a' := ?_) (by kernel_rfl) ?_ ?_ ?_
  rotate_left 2
  · intro K wx hS hK
    go_simp
    exact hK _ hS
  · simp only [Act.put, List.setIfInBounds_toArray, List.set_cons_succ, List.set_cons_zero]
    rfl
  refine RS.go1g (v := ?_) (a' := ?_) (by kernel_rfl) ?_ ?_ ?_
  rotate_left 2
  · intro K wx hS hK
    refine RW.eq (b := true) (y := 0) rfl rfl rfl (E2.out) ?_
    exact hK _ hS
  · simp only [Act.put, List.setIfInBounds_toArray, List.set_cons_succ, List.set_cons_zero]
    rfl
  refine RS.go1g (v := ?_) (a' := ?_) (by kernel_rfl) ?_ ?_ ?_
  rotate_left 2
  · intro K wx hS hK
    go_simp
    exact hK _ hS
  · simp only [Act.put, List.setIfInBounds_toArray, List.set_cons_succ, List.set_cons_zero]
    rfl
  refine RS.go0 (a' := ?_) (by kernel_rfl) ?_ ?_
  rotate_left 1
  · simp only [Act.put, List.setIfInBounds_toArray, List.set_cons_succ, List.set_cons_zero]
    rfl
  refine RS.go0 (a' := ?_) (by kernel_rfl) ?_ ?_
  rotate_left 1
  · simp only [Act.put, List.setIfInBounds_toArray, List.set_cons_succ, List.set_cons_zero]
    rfl
  refine RS.go0 (a' := ?_) (by kernel_rfl) ?_ ?_
  rotate_left 1
  · simp only [Act.put, List.setIfInBounds_toArray, List.set_cons_succ, List.set_cons_zero]
    rfl
  refine RS.go0 (a' := ?_) (by kernel_rfl) ?_ ?_
  rotate_left 1
  · simp only [Act.put, List.setIfInBounds_toArray, List.set_cons_succ, List.set_cons_zero]
    rfl
  refine RS.go0 (a' := ?_) (by kernel_rfl) ?_ ?_
  rotate_left 1
  · simp only [Act.put, List.setIfInBounds_toArray, List.set_cons_succ, List.set_cons_zero]
    rfl
  refine RS.go0 (a' := ?_) (by kernel_rfl) ?_ ?_
  rotate_left 1
  · simp only [Act.put, List.setIfInBounds_toArray, List.set_cons_succ, List.set_cons_zero]
    rfl
  refine RS.go0 (a' := ?_) (by kernel_rfl) ?_ ?_
  rotate_left 1
  · simp only [Act.put, List.setIfInBounds_toArray, List.set_cons_succ, List.set_cons_zero]
    rfl
  refine RS.go0 (a' := ?_) (by kernel_rfl) ?_ ?_
  rotate_left 1
  · simp only [Act.put, List.setIfInBounds_toArray, List.set_cons_succ, List.set_cons_zero]
    rfl
  refine RS.go0 (a' := ?_) (by kernel_rfl) ?_ ?_
  rotate_left 1
  · simp only [Act.put, List.setIfInBounds_toArray, List.set_cons_succ, List.set_cons_zero]
    rfl
  refine RS.go1g (v := ?_) (a' := ?_) (by kernel_rfl) ?_ ?_ ?_
  rotate_left 2
  · intro K wx hS hK
    go_simp
    exact hK _ hS
  · simp only [Act.put, List.setIfInBounds_toArray, List.set_cons_succ, List.set_cons_zero]
    rfl
  refine RS.go1 (v := ?_) (a' := ?_) rfl ?_ ?_ ?_
  rotate_left 2
  · intro K wx hS hK
    go_simp
    exact hK _ hS
  · simp only [Act.put, List.setIfInBounds_toArray, List.set_cons_succ, List.set_cons_zero]
    rfl
  refine RS.go1 (v := ?_) (a' := ?_) rfl ?_ ?_ ?_
  rotate_left 2
  · intro K wx hS hK
    go_simp
    exact hK _ hS
  · simp only [Act.put, List.setIfInBounds_toArray, List.set_cons_succ, List.set_cons_zero]
    rfl
  refine RS.go_end ?_
  intro w9 m9
  have HB : Hid (Below w.heap.size w w9) := m9.bel
  clear m9
  go_wp2_with fail
  go_ret
  exact ⟨rfl, HB.out⟩
set_option maxHeartbeats 4000000 in
set_option maxRecDepth 100000 in
theorem law_trunc_1 (a b : Nat) (ha : a < 2 ^ 256) (hb : b < 2 ^ 256) (h0 : b ≠ 0) (hr : sr a b ≠ 0) (w : World) :
    Calls Try.prog 7 #[Wd a, Wd b] w fun e w' => e = .returned (.bool true) ∧ Below w.heap.size w w' := by
  have KA : Hid (∀ w : World, Calls Try.prog 9 #[] w fun e w' => e = .returned (.bool true) ∧ Below w.heap.size w w') := fun w => alive2_any w
  obtain ⟨q, hq⟩ : ∃ q, q = sq a b := ⟨_, rfl⟩
  obtain ⟨r, hr'⟩ : ∃ r, r = sr a b := ⟨_, rfl⟩
  have hs := trunc_sum a b ha hb h0
  have ht := trunc_rest a b hb h0
  rw [← hq, ← hr'] at hs
  rw [← hr'] at ht hr
  have KD : Hid (∀ w : World, Calls Try.prog 26 #[Wd a, Wd b] w fun e w' => e = .returned (.tuple #[Wd q, Wd r]) ∧ Below w.heap.size w w') := fun w => by rw [hq, hr']; exact sdivmod_any a b ha hb w
  have K1 : Hid (∀ w : World, Calls Try.prog 15 #[Wd q, Wd b] w fun e w' => e = .returned (Wd (q * b)) ∧ Below w.heap.size w w') := fun w => mul_mod _ _ w
  have K2 : Hid (∀ w : World, Calls Try.prog 14 #[Wd (q * b), Wd r] w fun e w' => e = .returned (Wd (q * b + r)) ∧ Below w.heap.size w w') := fun w => add_mod _ _ w
  have K3 : Hid (∀ w : World, Calls Try.prog 27 #[Wd r] w fun e w' => e = .returned (Wd (sz r)) ∧ Below w.heap.size w w') := fun w => size_clo r ht.2.2 w
  have K4 : Hid (∀ w : World, Calls Try.prog 27 #[Wd b] w fun e w' => e = .returned (Wd (sz b)) ∧ Below w.heap.size w w') := fun w => size_clo b hb w
  have K5 : Hid (∀ w : World, Calls Try.prog 19 #[Wd (sz r), Wd (sz b)] w fun e w' => e = .returned (.int .i64 (-1)) ∧ Below w.heap.size w w') := fun w => by have := cmp_any (sz r) (sz b) (sz_lt r ht.2.2) (sz_lt b hb) w; rwa [cm_lt _ _ ht.1] at this
  have E0 : Hid (decide (b % 2 ^ 256 = 0 % 2 ^ 256) = false) := (by rw [decide_eq_false_iff_not]; omega : decide (b % 2 ^ 256 = 0 % 2 ^ 256) = false)
  have E1 : Hid ((q * b + r) % 2 ^ 256 = a % 2 ^ 256) := hs
  have E2 : Hid (decide (r % 2 ^ 256 = 0 % 2 ^ 256) = false) := (by have := ht.2.2; rw [decide_eq_false_iff_not]; omega : decide (r % 2 ^ 256 = 0 % 2 ^ 256) = false)
  have K6 : Hid (∀ w : World, Calls Try.prog 25 #[Wd r, Wd 0] w fun e w' => e = .returned (.int .i64 (cm (hf r : Int) (hf 0 : Int))) ∧ Below w.heap.size w w') := fun w => scmp_any r 0 ht.2.2 (by decide) w
  have K7 : Hid (∀ w : World, Calls Try.prog 25 #[Wd a, Wd 0] w fun e w' => e = .returned (.int .i64 (cm (hf a : Int) (hf 0 : Int))) ∧ Below w.heap.size w w') := fun w => scmp_any a 0 ha (by decide) w
  have E3 : Hid (decide (cm (hf r : Int) (hf 0 : Int) < 0) = sg a) := (cm_sg r ht.2.2).trans (ht.2.1 hr)
  have E4 : Hid (decide (cm (hf a : Int) (hf 0 : Int) < 0) = sg a) := cm_sg a ha
  clear ha hb h0 hq hr' hs ht hr
  generalize cm (hf r : Int) (hf 0 : Int) = c1 at *
  generalize cm (hf a : Int) (hf 0 : Int) = c2 at *
  generalize sg a = y at *
  generalize q * b + r = n1 at *
  generalize q * b = n2 at *
  generalize sz r = n3 at *
  generalize sz b = n4 at *
  have m0 := Hm.new4 (g := w.heap.size + 1) (n := b) (T := 24) (Hm.new4 (g := w.heap.size) (n := a) (T := 24) (Hm.start w) (by simp)) (by simp)
  conv => arg 3; unfold Wd
  go_enter Try.func7, Try.ntmps7
  go_wp2_with fail
  generalize (w.alloc (.cells #[.int .u64 (dg a 0), .int .u64 (dg a 1), .int .u64 (dg a 2), .int .u64 (dg a 3)] 24)).alloc (.cells #[.int .u64 (dg b 0), .int .u64 (dg b 1), .int .u64 (dg b 2), .int .u64 (dg b 3)] 24) = W0 at m0 ⊢
  refine (KA.out _).mono ?_
  rintro e w1 ⟨rfl, hb⟩
  have m1 := Hm.below m0 hb
  clear hb m0
  have c1 : ∀ o, o < 4 → w1.cell? ⟨w.heap.size, o, none⟩ = some (.int .u64 (dg a o)) := (m1.ok (Hm.W4 w.heap.size a) (by simp)).c
  have c2 : ∀ o, o < 4 → w1.cell? ⟨w.heap.size + 1, o, none⟩ = some (.int .u64 (dg b o)) := (m1.ok (Hm.W4 (w.heap.size + 1) b) (by simp)).c
  go_wp2_with fail
  refine (KD.out _).mono ?_
  rintro e w6 ⟨rfl, hb⟩
  have m6 := Hm.new4 (g := w6.heap.size + 1) (n := r) (T := 24) (Hm.new4 (g := w6.heap.size) (n := q) (T := 24) (Hm.below m1 hb) rfl) (by simp)
  clear hb m1 c1 c2
  unfold Wd
  go_upto_region 4 with fail
  generalize (w6.alloc (.cells #[.int .u64 (dg q 0), .int .u64 (dg q 1), .int .u64 (dg q 2), .int .u64 (dg q 3)] 24)).alloc (.cells #[.int .u64 (dg r 0), .int .u64 (dg r 1), .int .u64 (dg r 2), .int .u64 (dg r 3)] 24) = W6 at m6 ⊢
  generalize w6.heap.size = h at *
  refine RS.wp_region_flat (Hm.Hd w [Hm.W4 (h + 1) r, Hm.W4 h q, Hm.W4 (w.heap.size + 1) b, Hm.W4 (w.heap.size) a]) 3 (by kernel_rfl) (m6) ?_
  simp only [List.take_succ_cons, List.take_zero, List.drop_succ_cons, List.drop_zero]
  refine RS.go1 (v := ?_) (a' := ?_) rfl ?_ ?_ ?_
  rotate_left 2
  · intro K wx hS hK
    refine RW.ld rfl rfl (hS.ok (Hm.W4 (w.heap.size + 1) (b)) (by simp)).c ?_
    exact hK _ hS
  · simp only [Act.put, List.setIfInBounds_toArray, List.set_cons_succ, List.set_cons_zero]
    rfl
  refine RS.go1 (v := ?_) (a' := ?_) rfl ?_ ?_ ?_
  rotate_left 2
  · intro K wx hS hK
    go_simp
    exact hK _ hS
  · simp only [Act.put, List.setIfInBounds_toArray, List.set_cons_succ, List.set_cons_zero]
    rfl
  refine RS.go1 (v := ?_) (a' := ?_) rfl ?_ ?_ ?_
  rotate_left 2
  · intro K wx hS hK
    refine RW.eq (b := false) (y := 0) rfl rfl rfl (E0.out) ?_
    exact hK _ hS
  · simp only [Act.put, List.setIfInBounds_toArray, List.set_cons_succ, List.set_cons_zero]
    rfl
  refine RS.go_end ?_
  intro w7 m7
  refine wpList_nil ?_
  clear m6
  go_upto_region 7 with fail
  refine RS.wp_region_one (Hm.Hd w [Hm.W4 (h + 1) r, Hm.W4 h q, Hm.W4 (w.heap.size + 1) b, Hm.W4 (w.heap.size) a]) (by kernel_rfl) (by kernel_rfl) (Hm.drew m7) ?_
  dsimp only [List.toList_toArray]
  refine RS.go1 (v := ?_) (a' := ?_) rfl ?_ ?_ ?_
  rotate_left 2
  · intro K wx hS hK
    refine RW.ld rfl rfl (hS.ok (Hm.W4 (h) (q)) (by simp)).c ?_
    exact hK _ hS
  · simp only [Act.put, List.setIfInBounds_toArray, List.set_cons_succ, List.set_cons_zero]
    rfl
  refine RS.go1 (v := ?_) (a' := ?_) rfl ?_ ?_ ?_
  rotate_left 2
  · intro K wx hS hK
    refine RW.ld rfl rfl (hS.ok (Hm.W4 (w.heap.size + 1) (b)) (by simp)).c ?_
    exact hK _ hS
  · simp only [Act.put, List.setIfInBounds_toArray, List.set_cons_succ, List.set_cons_zero]
    rfl
  refine RS.go1 (v := ?_) (a' := ?_) rfl ?_ ?_ ?_
  rotate_left 2
  · intro K wx hS hK
    go_simp
    refine (K1.out _).mono (fun e w2 he => ?_)
    refine ⟨_, he.1, ?_⟩
    exact hK _ (Hm.below hS he.2)
  · simp only [Act.put, List.setIfInBounds_toArray, List.set_cons_succ, List.set_cons_zero]
    rfl
  refine RS.go1 (v := ?_) (a' := ?_) rfl ?_ ?_ ?_
  rotate_left 2
  · intro K wx hS hK
    refine RW.ld rfl rfl (hS.ok (Hm.W4 (h + 1) (r)) (by simp)).c ?_
    exact hK _ hS
  · simp only [Act.put, List.setIfInBounds_toArray, List.set_cons_succ, List.set_cons_zero]
    rfl
  refine RS.go1 (v := ?_) (a' := ?_) rfl ?_ ?_ ?_
  rotate_left 2
  · intro K wx hS hK
    go_simp
    refine (K2.out _).mono (fun e w2 he => ?_)
    refine ⟨_, he.1, ?_⟩
    exact hK _ (Hm.below hS he.2)
  · simp only [Act.put, List.setIfInBounds_toArray, List.set_cons_succ, List.set_cons_zero]
    rfl
  refine RS.go1 (v := ?_) (a' := ?_) rfl ?_ ?_ ?_
  rotate_left 2
  · intro K wx hS hK
    refine RW.ld rfl rfl (hS.ok (Hm.W4 (w.heap.size) (a)) (by simp)).c ?_
    exact hK _ hS
  · simp only [Act.put, List.setIfInBounds_toArray, List.set_cons_succ, List.set_cons_zero]
    rfl
  refine RS.go1 (v := ?_) (a' := ?_) rfl ?_ ?_ ?_
  rotate_left 2
  · intro K wx hS hK
    refine RW.eq (b := true) rfl rfl rfl (decide_eq_true E1.out) ?_
    exact hK _ hS
  · simp only [Act.put, List.setIfInBounds_toArray, List.set_cons_succ, List.set_cons_zero]
    rfl
  refine RS.go1 (v := ?_) (a' := ?_) rfl ?_ ?_ ?_
  rotate_left 2
  · intro K wx hS hK
    go_simp
    exact hK _ hS
  · simp only [Act.put, List.setIfInBounds_toArray, List.set_cons_succ, List.set_cons_zero]
    rfl
  refine RS.go1g (v := ?_) (a' := ?_) (by kernel_rfl) ?_ ?_ ?_
  rotate_left 2
  · intro K wx hS hK
    go_simp
    exact hK _ hS
  · simp only [Act.put, List.setIfInBounds_toArray, List.set_cons_succ, List.set_cons_zero]
    rfl
  refine RS.go1g (v := ?_) (a' := ?_) (by kernel_rfl) ?_ ?_ ?_
  rotate_left 2
  · intro K wx hS hK
    refine RW.ld rfl rfl (hS.ok (Hm.W4 (h + 1) (r)) (by simp)).c ?_
    exact hK _ hS
  · simp only [Act.put, List.setIfInBounds_toArray, List.set_cons_succ, List.set_cons_zero]
    rfl
  refine RS.go1g (v := ?_) (a' := ?_) (by kernel_rfl) ?_ ?_ ?_
  rotate_left 2
  · intro K wx hS hK
    go_simp
    refine (K3.out _).mono (fun e w2 he => ?_)
    refine ⟨_, he.1, ?_⟩
    exact hK _ (Hm.below hS he.2)
  · simp only [Act.put, List.setIfInBounds_toArray, List.set_cons_succ, List.set_cons_zero]
    rfl
  refine RS.go1g (v := ?_) (a' := ?_) (by kernel_rfl) ?_ ?_ ?_
  rotate_left 2
  · intro K wx hS hK
    go_simp
    exact hK _ hS
  · simp only [Act.put, List.setIfInBounds_toArray, List.set_cons_succ, List.set_cons_zero]
    rfl
  refine RS.go1g (v := ?_) (a' := ?_) (by kernel_rfl) ?_ ?_ ?_
  rotate_left 2
  · intro K wx hS hK
    refine RW.ld rfl rfl (hS.ok (Hm.W4 (w.heap.size + 1) (b)) (by simp)).c ?_
    exact hK _ hS
  · simp only [Act.put, List.setIfInBounds_toArray, List.set_cons_succ, List.set_cons_zero]
    rfl
  refine RS.go1g (v := ?_) (a' := ?_) (by kernel_rfl) ?_ ?_ ?_
  rotate_left 2
  · intro K wx hS hK
    go_simp
    refine (K4.out _).mono (fun e w2 he => ?_)
    refine ⟨_, he.1, ?_⟩
    exact hK _ (Hm.below hS he.2)
  · simp only [Act.put, List.setIfInBounds_toArray, List.set_cons_succ, List.set_cons_zero]
    rfl
  refine RS.go1g (v := ?_) (a' := ?_) (by kernel_rfl) ?_ ?_ ?_
  rotate_left 2
  · intro K wx hS hK
    go_simp
    refine (K5.out _).mono (fun e w2 he => ?_)
    refine ⟨_, he.1, ?_⟩
    exact hK _ (Hm.below hS he.2)
  · simp only [Act.put, List.setIfInBounds_toArray, List.set_cons_succ, List.set_cons_zero]
    rfl
  refine RS.go1g (v := ?_) (a' := ?_) (by kernel_rfl) ?_ ?_ ?_
  rotate_left 2
  · intro K wx hS hK
    go_simp
    exact hK _ hS
  · simp only [Act.put, List.setIfInBounds_toArray, List.set_cons_succ, List.set_cons_zero]
    rfl
  refine RS.go1 (v := ?_) (a' := ?_) rfl ?_ ?_ ?_
  rotate_left 2
  · intro K wx hS hK
    go_simp
    exact hK _ hS
  · simp only [Act.put, List.setIfInBounds_toArray, List.set_cons_succ, List.set_cons_zero]
    rfl
  refine RS.go1 (v := ?_) (a' := ?_) rfl ?_ ?_ ?_
  rotate_left 2
  · intro K wx hS hK
    go_simp
    exact hK _ hS
  · simp only [Act.put, List.setIfInBounds_toArray, List.set_cons_succ, List.set_cons_zero]
    rfl
  refine RS.go1g (v := ?_) (a' := ?_) (by kernel_rfl) ?_ ?_ ?_
  rotate_left 2
  · intro K wx hS hK
    refine RW.ld rfl rfl (hS.ok (Hm.W4 (h + 1) (r)) (by simp)).c ?_
    exact hK _ hS
  · simp only [Act.put, List.setIfInBounds_toArray, List.set_cons_succ, List.set_cons_zero]
    rfl
  refine RS.go1g (v := ?_) (a' := ?_) (by kernel_rfl) ?_ ?_ ?_
  rotate_left 2
  · intro K wx hS hK
    go_simp
    exact hK _ hS
  · simp only [Act.put, List.setIfInBounds_toArray, List.set_cons_succ, List.set_cons_zero]
    rfl
  refine RS.go1g (v := ?_) (a' := ?_) (by kernel_rfl) ?_ ?_ ?_
  rotate_left 2
  · intro K wx hS hK
    refine RW.eq (b := false) (y := 0) rfl rfl rfl (E2.out) ?_
    exact hK _ hS
  · simp only [Act.put, List.setIfInBounds_toArray, List.set_cons_succ, List.set_cons_zero]
    rfl
  refine RS.go1g (v := ?_) (a' := ?_) (by kernel_rfl) ?_ ?_ ?_
  rotate_left 2
  · intro K wx hS hK
    go_simp
    exact hK _ hS
  · simp only [Act.put, List.setIfInBounds_toArray, List.set_cons_succ, List.set_cons_zero]
    rfl
  refine RS.go1g (v := ?_) (a' := ?_) (by kernel_rfl) ?_ ?_ ?_
  rotate_left 2
  · intro K wx hS hK
    refine RW.ld rfl rfl (hS.ok (Hm.W4 (h + 1) (r)) (by simp)).c ?_
    exact hK _ hS
  · simp only [Act.put, List.setIfInBounds_toArray, List.set_cons_succ, List.set_cons_zero]
    rfl
  refine RS.go1g (v := ?_) (a' := ?_) (by kernel_rfl) ?_ ?_ ?_
  rotate_left 2
  · intro K wx hS hK
    go_simp
    exact hK _ hS
  · simp only [Act.put, List.setIfInBounds_toArray, List.set_cons_succ, List.set_cons_zero]
    rfl
  refine RS.go1g (v := ?_) (a' := ?_) (by kernel_rfl) ?_ ?_ ?_
  rotate_left 2
  · intro K wx hS hK
    go_simp
    refine (K6.out _).mono (fun e w2 he => ?_)
    refine ⟨_, he.1, ?_⟩
    exact hK _ (Hm.below hS he.2)
  · simp only [Act.put, List.setIfInBounds_toArray, List.set_cons_succ, List.set_cons_zero]
    rfl
  refine RS.go1g (v := ?_) (a' := ?_) (by kernel_rfl) ?_ ?_ ?_
  rotate_left 2
  · intro K wx hS hK
    have e := E3.out
    go_simp
    exact hK _ hS
  · simp only [Act.put, List.setIfInBounds_toArray, List.set_cons_succ, List.set_cons_zero]
    rfl
  refine RS.go1g (v := ?_) (a' := ?_) (by kernel_rfl) ?_ ?_ ?_
  rotate_left 2
  · intro K wx hS hK
    refine RW.ld rfl rfl (hS.ok (Hm.W4 (w.heap.size) (a)) (by simp)).c ?_
    exact hK _ hS
  · simp only [Act.put, List.setIfInBounds_toArray, List.set_cons_succ, List.set_cons_zero]
    rfl
  refine RS.go1g (v := ?_) (a' := ?_) (by kernel_rfl) ?_ ?_ ?_
  rotate_left 2
  · intro K wx hS hK
    go_simp
    exact hK _ hS
  · simp only [Act.put, List.setIfInBounds_toArray, List.set_cons_succ, List.set_cons_zero]
    rfl
  refine RS.go1g (v := ?_) (a' := ?_) (by kernel_rfl) ?_ ?_ ?_
  rotate_left 2
  · intro K wx hS hK
    go_simp
    refine (K7.out _).mono (fun e w2 he => ?_)
    refine ⟨_, he.1, ?_⟩
    exact hK _ (Hm.below hS he.2)
  · simp only [Act.put, List.setIfInBounds_toArray, List.set_cons_succ, List.set_cons_zero]
    rfl
  refine RS.go1g (v := ?_) (a' := ?_) (by kernel_rfl) ?_ ?_ ?_
  rotate_left 2
  · intro K wx hS hK
    have e := E4.out
    go_simp
    exact hK _ hS
  · simp only [Act.put, List.setIfInBounds_toArray, List.set_cons_succ, List.set_cons_zero]
    rfl
  refine RS.go1g (v := ?_) (a' := ?_) (by kernel_rfl) ?_ ?_ ?_
  rotate_left 2
  · intro K wx hS hK
    go_simp
    exact hK _ hS
  · simp only [Act.put, List.setIfInBounds_toArray, List.set_cons_succ, List.set_cons_zero]
    rfl
  refine RS.go1g (v := ?_) (a' := ?_) (by kernel_rfl) ?_ ?_ ?_
  rotate_left 2
  · intro K wx hS hK
    go_simp
    exact hK _ hS
  · simp only [Act.put, List.setIfInBounds_toArray, List.set_cons_succ, List.set_cons_zero]
    rfl
  refine RS.go1 (v := ?_) (a' := ?_) rfl ?_ ?_ ?_
  rotate_left 2
  · intro K wx hS hK
    go_simp
    exact hK _ hS
  · simp only [Act.put, List.setIfInBounds_toArray, List.set_cons_succ, List.set_cons_zero]
    rfl
  refine RS.go1 (v := ?_) (a' := ?_) rfl ?_ ?_ ?_
  rotate_left 2
  · intro K wx hS hK
    go_simp
    exact hK _ hS
  · simp only [Act.put, List.setIfInBounds_toArray, List.set_cons_succ, List.set_cons_zero]
    rfl
  refine RS.go_end ?_
  intro w9 m9
  have HB : Hid (Below w.heap.size w w9) := m9.bel
  clear m9
  go_wp2_with fail
  go_ret
  exact ⟨rfl, HB.out⟩
theorem law_trunc (a b : Nat) (ha : a < 2 ^ 256) (hb : b < 2 ^ 256) (w : World) :
    Calls Try.prog 7 #[Wd a, Wd b] w fun e w' => e = .returned (.bool true) ∧ Below w.heap.size w w' := by
  by_cases h0 : b = 0
  · exact law_trunc_Z a b ha hb h0 w
  · by_cases hr : sr a b = 0
    · exact law_trunc_0 a b ha hb h0 hr w
    · exact law_trunc_1 a b ha hb h0 hr w
end Go.Proofs.Ytblodmjnhmfjeaa
