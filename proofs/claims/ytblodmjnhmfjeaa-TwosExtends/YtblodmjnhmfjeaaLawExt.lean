/- lampbearerkeep.TwosExtends. -/
import Derived.Test.YtblodmjnhmfjeaaLawFloor
import Derived.Test.YtblodmjnhmfjeaaTwI
import Derived.Test.YtblodmjnhmfjeaaTwH
import Derived.Test.YtblodmjnhmfjeaaRWN
namespace Go.Proofs.Ytblodmjnhmfjeaa
open Go.RowKit Go.Shelf
/-- What the last bytes are with their sign, as a number. -/
def exn (M2 a : Nat) : Nat := if M2 ≤ a % (2 * M2) then 2 ^ 256 - 2 * M2 + a % (2 * M2) else a % (2 * M2)
theorem ext_eq (k a : Nat) : ext k a = exn (2 ^ (255 - ahd k)) a := by
  have hk := ahd_le k
  have hHM : 2 ^ ahd k * 2 ^ (255 - ahd k) = 2 ^ 255 := by rw [← Nat.pow_add]; congr 1; omega
  have hH : 0 < 2 ^ ahd k := Nat.pow_pos (by decide)
  have hM0 : 0 < 2 ^ (255 - ahd k) := Nat.pow_pos (by decide)
  unfold ext exn
  generalize 2 ^ (255 - ahd k) = M2 at *
  generalize e : ahd k = h at *
  unfold sar
  generalize 2 ^ h = H at *
  have e1 : a * H % 2 ^ 256 = H * (a % (2 * M2)) := by
    rw [Nat.mul_comm a H, show 2 ^ 256 = H * (2 * M2) by rw [Nat.mul_left_comm, hHM], Nat.mul_mod_mul_left]
  rw [e1]
  have hm : a % (2 * M2) < 2 * M2 := Nat.mod_lt _ (by omega)
  generalize a % (2 * M2) = m at *
  have hHm : H * m + H ≤ 2 ^ 256 := by
    have : H * (m + 1) ≤ H * (2 * M2) := Nat.mul_le_mul_left H (by omega)
    rw [Nat.mul_left_comm, hHM, Nat.mul_add, Nat.mul_one] at this
    exact this
  by_cases hc : M2 ≤ m
  · have hs : sg (H * m) = true := by
      unfold sg; rw [decide_eq_true_iff, ← hHM]; exact Nat.mul_le_mul_left H hc
    rw [hs, if_pos rfl, if_pos hc]
    have e2 : nt (H * m) = H * (2 * M2 - 1 - m) + (H - 1) := by
      unfold nt
      rw [Nat.mod_eq_of_lt (by omega), Nat.mul_sub, Nat.mul_sub, Nat.mul_left_comm, hHM, Nat.mul_one]
      omega
    have hM : 2 * M2 ≤ 2 ^ 256 := by
      have : 1 * M2 ≤ H * M2 := Nat.mul_le_mul_right M2 hH
      omega
    rw [e2, Nat.mul_add_div hH, Nat.div_eq_of_lt (by omega), Nat.add_zero]
    unfold nt
    rw [Nat.mod_eq_of_lt (by omega)]
    omega
  · have hs : sg (H * m) = false := by
      unfold sg; rw [decide_eq_false_iff_not, ← hHM, Nat.not_le]; exact Nat.mul_lt_mul_of_pos_left (by omega) hH
    rw [hs, if_neg (by decide), if_neg hc, Nat.mul_div_cancel_left _ hH]
theorem ext_last (k a : Nat) : ext k a % 256 = a % 256 := by
  rw [ext_eq]
  have hk := ahd_le k
  obtain ⟨c, hc⟩ : ∃ c, 2 ^ (255 - ahd k) = 128 * c := ⟨2 ^ (248 - ahd k), by rw [show 128 = 2 ^ 7 from rfl, ← Nat.pow_add]; congr 1; omega⟩
  have hle : 2 ^ (255 - ahd k) ≤ 2 ^ 255 := Nat.pow_le_pow_right (by decide) (by omega)
  rw [hc] at hle ⊢
  unfold exn
  have h1 : a % (2 * (128 * c)) % 256 = a % 256 := Nat.mod_mod_of_dvd a ⟨c, by omega⟩
  generalize a % (2 * (128 * c)) = m at *
  split <;> omega
theorem ext_lt (k a : Nat) : ext k a < 2 ^ 256 := sar_lt _ _ (Nat.mod_lt _ (by decide))
theorem ext_ext (k n a : Nat) (h : k ≤ n) : ext n (ext k a) = ext k a := by
  have hnk : ahd n ≤ ahd k := by unfold ahd; omega
  have hk := ahd_le k
  rw [ext_eq n, ext_eq k]
  obtain ⟨c, hc⟩ : ∃ c, 2 ^ (255 - ahd n) = 2 ^ (255 - ahd k) * c := ⟨2 ^ (ahd k - ahd n), by rw [← Nat.pow_add]; congr 1; omega⟩
  obtain ⟨d, hd⟩ : ∃ d, 2 ^ 256 = 2 * 2 ^ (255 - ahd n) * d := ⟨2 ^ ahd n, by rw [← Nat.pow_succ', ← Nat.pow_add]; congr 1; omega⟩
  have hle : 2 ^ (255 - ahd k) ≤ 2 ^ (255 - ahd n) := Nat.pow_le_pow_right (by decide) (by omega)
  have hM0 : 0 < 2 ^ (255 - ahd k) := Nat.pow_pos (by decide)
  have hl : 2 ^ (255 - ahd n) ≤ 2 ^ 255 := Nat.pow_le_pow_right (by decide) (by omega)
  clear hc c
  generalize 2 ^ (255 - ahd n) = N2 at *
  generalize 2 ^ (255 - ahd k) = M2 at *
  unfold exn
  have hm : a % (2 * M2) < 2 * M2 := Nat.mod_lt _ (by omega)
  generalize a % (2 * M2) = m at *
  by_cases hc : M2 ≤ m
  · rw [if_pos hc]
    have e : (2 ^ 256 - 2 * M2 + m) % (2 * N2) = 2 * N2 - 2 * M2 + m := by
      have h1 : 1 ≤ d := by
        rcases Nat.eq_zero_or_pos d with h0 | h0
        · rw [h0, Nat.mul_zero] at hd; omega
        · exact h0
      have h2 : 2 ^ 256 - 2 * M2 + m = 2 * N2 * (d - 1) + (2 * N2 - 2 * M2 + m) := by
        rw [Nat.mul_sub, ← hd, Nat.mul_one]; omega
      rw [h2, Nat.mul_add_mod, Nat.mod_eq_of_lt (by omega)]
    rw [e, if_pos (by omega)]
    omega
  · rw [if_neg hc, Nat.mod_eq_of_lt (by omega), if_neg (by omega)]
theorem byn_last (k a : Nat) : byn 31 (ext k a) = byn 31 a := by
  unfold byn
  rw [if_pos (by decide), if_pos (by decide)]
  have := ext_last k a
  simpa using this
set_option maxHeartbeats 4000000 in
set_option maxRecDepth 100000 in
theorem law_ext_hi (k n a b : Nat) (hk : k < 2 ^ 256) (hn : n < 2 ^ 256) (ha : a < 2 ^ 256) (hb : b < 2 ^ 256) (hc : k ≤ n) (w : World) :
    Calls Try.prog 8 #[Wd k, Wd n, Wd a, Wd b] w fun e w' => e = .returned (.bool true) ∧ Below w.heap.size w w' := by
  have KA : Hid (∀ w : World, Calls Try.prog 9 #[] w fun e w' => e = .returned (.bool true) ∧ Below w.heap.size w w') := fun w => alive2_any w
  obtain ⟨x, hx⟩ : ∃ x, x = ext k a := ⟨_, rfl⟩
  obtain ⟨P, hP⟩ : ∃ P, P = 2 ^ 255 := ⟨_, rfl⟩
  have hxl : x < 2 ^ 256 := by rw [hx]; exact ext_lt k a
  have K1 : Hid (∀ w : World, Calls Try.prog 28 #[Wd k, Wd a] w fun e w' => e = .returned (Wd x) ∧ Below w.heap.size w w') := fun w => by rw [hx]; exact extend_any k a hk ha w
  have K2 : Hid (∀ w : World, Calls Try.prog 16 #[.int .u64 2] w fun e w' => e = .returned (Wd 2) ∧ Below w.heap.size w w') := fun w => int_any 2 (by decide) w
  have K3 : Hid (∀ w : World, Calls Try.prog 16 #[.int .u64 255] w fun e w' => e = .returned (Wd 255) ∧ Below w.heap.size w w') := fun w => int_any 255 (by decide) w
  have K4 : Hid (∀ w : World, Calls Try.prog 18 #[Wd 2, Wd 255] w fun e w' => e = .returned (Wd P) ∧ Below w.heap.size w w') := fun w => by rw [hP]; exact exp_any 2 255 (by decide) w
  have K5 : Hid (∀ w : World, Calls Try.prog 19 #[Wd n, Wd k] w fun e w' => e = .returned (.int .i64 (cm (n : Int) (k : Int))) ∧ Below w.heap.size w w') := fun w => cmp_any n k hn hk w
  have K6 : Hid (∀ w : World, Calls Try.prog 28 #[Wd n, Wd x] w fun e w' => e = .returned (Wd x) ∧ Below w.heap.size w w') := fun w => by have := extend_any n x hn hxl w; rw [show ext n x = x by rw [hx]; exact ext_ext k n a hc] at this; exact this
  have hc' : Hid (0 ≤ cm (n : Int) (k : Int)) := cm_ge n k hc
  have K7 : Hid (∀ w : World, Calls Try.prog 25 #[Wd a, Wd b] w fun e w' => e = .returned (.int .i64 (cm (hf a : Int) (hf b : Int))) ∧ Below w.heap.size w w') := fun w => scmp_any a b ha hb w
  have K8 : Hid (∀ w : World, Calls Try.prog 14 #[Wd a, Wd P] w fun e w' => e = .returned (Wd (hf a)) ∧ Below w.heap.size w w') := fun w => by have := add_mod a P w; rw [← Wd_mod (a + P), hP] at this; rw [hP]; exact this
  have K9 : Hid (∀ w : World, Calls Try.prog 14 #[Wd b, Wd P] w fun e w' => e = .returned (Wd (hf b)) ∧ Below w.heap.size w w') := fun w => by have := add_mod b P w; rw [← Wd_mod (b + P), hP] at this; rw [hP]; exact this
  have K10 : Hid (∀ w : World, Calls Try.prog 19 #[Wd (hf a), Wd (hf b)] w fun e w' => e = .returned (.int .i64 (cm (hf a : Int) (hf b : Int))) ∧ Below w.heap.size w w') := fun w => cmp_any _ _ (hf_lt a) (hf_lt b) w
  have K11 : Hid (∀ w : World, Calls Try.prog 16 #[.int .u64 31] w fun e w' => e = .returned (Wd 31) ∧ Below w.heap.size w w') := fun w => int_any 31 (by decide) w
  have K12 : Hid (∀ w : World, Calls Try.prog 29 #[Wd 31, Wd x] w fun e w' => e = .returned (Wd (byn 31 a)) ∧ Below w.heap.size w w') := fun w => by have := byte_any 31 x (by decide) w; rw [hx, byn_last] at this; rw [hx]; exact this
  have K13 : Hid (∀ w : World, Calls Try.prog 29 #[Wd 31, Wd a] w fun e w' => e = .returned (Wd (byn 31 a)) ∧ Below w.heap.size w w') := fun w => byte_any 31 a (by decide) w
  clear hk hn ha hb hc hx hP hxl
  generalize cm (hf a : Int) (hf b : Int) = c1 at *
  generalize hf a = n1 at *
  generalize hf b = n2 at *
  generalize byn 31 a = n3 at *
  generalize cm (n : Int) (k : Int) = c2 at *
  generalize Wd 2 = W2 at *
  generalize Wd 255 = W255 at *
  generalize Wd 31 = W31 at *
  have m0 := Hm.new4 (g := w.heap.size + 1 + 1 + 1) (n := b) (T := 24) (Hm.new4 (g := w.heap.size + 1 + 1) (n := a) (T := 24) (Hm.new4 (g := w.heap.size + 1) (n := n) (T := 24) (Hm.new4 (g := w.heap.size) (n := k) (T := 24) (Hm.start w) (by simp)) (by simp)) (by simp)) (by simp)
  conv => arg 3; unfold Wd
  go_enter Try.func8, Try.ntmps8
  go_wp2_with fail
  generalize (((w.alloc (.cells #[.int .u64 (dg k 0), .int .u64 (dg k 1), .int .u64 (dg k 2), .int .u64 (dg k 3)] 24)).alloc (.cells #[.int .u64 (dg n 0), .int .u64 (dg n 1), .int .u64 (dg n 2), .int .u64 (dg n 3)] 24)).alloc (.cells #[.int .u64 (dg a 0), .int .u64 (dg a 1), .int .u64 (dg a 2), .int .u64 (dg a 3)] 24)).alloc (.cells #[.int .u64 (dg b 0), .int .u64 (dg b 1), .int .u64 (dg b 2), .int .u64 (dg b 3)] 24) = W0 at m0 ⊢
  refine (KA.out _).mono ?_
  rintro e w1 ⟨rfl, hb⟩
  have m1 := Hm.below m0 hb
  clear hb m0
  have c1' : ∀ o, o < 4 → w1.cell? ⟨w.heap.size, o, none⟩ = some (.int .u64 (dg k o)) := (m1.ok (Hm.W4 w.heap.size k) (by simp)).c
  have c2' : ∀ o, o < 4 → w1.cell? ⟨w.heap.size + 1 + 1, o, none⟩ = some (.int .u64 (dg a o)) := (m1.ok (Hm.W4 (w.heap.size + 1 + 1) a) (by simp)).c
  go_wp2_with fail
  refine (K1.out _).mono ?_
  rintro e w2 ⟨rfl, hb⟩
  have m2 := Hm.new4 (g := w2.heap.size) (n := x) (T := 24) (Hm.below m1 hb) rfl
  clear hb m1 c1' c2'
  unfold Wd
  go_wp2_with fail
  generalize w2.alloc (.cells #[.int .u64 (dg x 0), .int .u64 (dg x 1), .int .u64 (dg x 2), .int .u64 (dg x 3)] 24) = W2' at m2 ⊢
  generalize w2.heap.size = h at *
  refine (K2.out _).mono ?_
  rintro e w3 ⟨rfl, hb⟩
  have m3 := Hm.below m2 hb
  clear hb m2
  go_wp2_with fail
  refine (K3.out _).mono ?_
  rintro e w4 ⟨rfl, hb⟩
  have m4 := Hm.below m3 hb
  clear hb m3
  go_wp2_with fail
  refine (K4.out _).mono ?_
  rintro e w5 ⟨rfl, hb⟩
  have m5 := Hm.new4 (g := w5.heap.size) (n := P) (T := 24) (Hm.below m4 hb) rfl
  clear hb m4
  unfold Wd
  go_upto_region 5 with fail
  generalize w5.alloc (.cells #[.int .u64 (dg P 0), .int .u64 (dg P 1), .int .u64 (dg P 2), .int .u64 (dg P 3)] 24) = W5' at m5 ⊢
  generalize w5.heap.size = g at *
  refine RS.wp_region_one (Hm.Hd w [Hm.W4 g P, Hm.W4 h x, Hm.W4 (w.heap.size + 1 + 1 + 1) b, Hm.W4 (w.heap.size + 1 + 1) a, Hm.W4 (w.heap.size + 1) n, Hm.W4 (w.heap.size) k]) (by kernel_rfl) (by kernel_rfl) (Hm.drew m5) ?_
  dsimp only [List.toList_toArray]
  refine RS.go1 (v := ?_) (a' := ?_) rfl ?_ ?_ ?_
  rotate_left 2
  · intro K wx hS hK
    refine RW.ld rfl rfl (hS.ok (Hm.W4 (w.heap.size + 1) (n)) (by simp)).c ?_
    exact hK _ hS
  · simp only [Act.put, List.setIfInBounds_toArray, List.set_cons_succ, List.set_cons_zero]
    rfl
  refine RS.go1 (v := ?_) (a' := ?_) rfl ?_ ?_ ?_
  rotate_left 2
  · intro K wx hS hK
    refine RW.ld rfl rfl (hS.ok (Hm.W4 (w.heap.size) (k)) (by simp)).c ?_
    exact hK _ hS
  · simp only [Act.put, List.setIfInBounds_toArray, List.set_cons_succ, List.set_cons_zero]
    rfl
  refine RS.go1 (v := ?_) (a' := ?_) rfl ?_ ?_ ?_
  rotate_left 2
  · intro K wx hS hK
    go_simp
    refine (K5.out _).mono (fun e w2 he => ?_)
    refine ⟨_, he.1, ?_⟩
    exact hK _ (Hm.below hS he.2)
  · simp only [Act.put, List.setIfInBounds_toArray, List.set_cons_succ, List.set_cons_zero]
    rfl
  refine RS.go1 (v := ?_) (a' := ?_) rfl ?_ ?_ ?_
  rotate_left 2
  · intro K wx hS hK
    have hq := hc'.out
    go_simp
    exact hK _ hS
  · simp only [Act.put, List.setIfInBounds_toArray, List.set_cons_succ, List.set_cons_zero]
    rfl
  refine RS.go1 (v := ?_) (a' := ?_) rfl ?_ ?_ ?_
  rotate_left 2
  · intro K wx hS hK
    go_simp
    exact hK _ hS
  · simp only [Act.put, List.setIfInBounds_toArray, List.set_cons_succ, List.set_cons_zero]
    rfl
  refine RS.go1g (v := ?_) (a' := ?_) (by kernel_rfl) ?_ ?_ ?_
  rotate_left 2
  · intro K wx hS hK
    refine RW.ld rfl rfl (hS.ok (Hm.W4 (w.heap.size + 1) (n)) (by simp)).c ?_
    exact hK _ hS
  · simp only [Act.put, List.setIfInBounds_toArray, List.set_cons_succ, List.set_cons_zero]
    rfl
  refine RS.go1g (v := ?_) (a' := ?_) (by kernel_rfl) ?_ ?_ ?_
  rotate_left 2
  · intro K wx hS hK
    refine RW.ld rfl rfl (hS.ok (Hm.W4 (h) (x)) (by simp)).c ?_
    exact hK _ hS
  · simp only [Act.put, List.setIfInBounds_toArray, List.set_cons_succ, List.set_cons_zero]
    rfl
  refine RS.go1g (v := ?_) (a' := ?_) (by kernel_rfl) ?_ ?_ ?_
  rotate_left 2
  · intro K wx hS hK
    go_simp
    refine (K6.out _).mono (fun e w2 he => ?_)
    refine ⟨_, he.1, ?_⟩
    exact hK _ (Hm.below hS he.2)
  · simp only [Act.put, List.setIfInBounds_toArray, List.set_cons_succ, List.set_cons_zero]
    rfl
  refine RS.go1g (v := ?_) (a' := ?_) (by kernel_rfl) ?_ ?_ ?_
  rotate_left 2
  · intro K wx hS hK
    refine RW.ld rfl rfl (hS.ok (Hm.W4 (h) (x)) (by simp)).c ?_
    exact hK _ hS
  · simp only [Act.put, List.setIfInBounds_toArray, List.set_cons_succ, List.set_cons_zero]
    rfl
  refine RS.go1g (v := ?_) (a' := ?_) (by kernel_rfl) ?_ ?_ ?_
  rotate_left 2
  · intro K wx hS hK
    refine RW.neq (b := false) rfl rfl rfl (by simp) ?_
    exact hK _ hS
  · simp only [Act.put, List.setIfInBounds_toArray, List.set_cons_succ, List.set_cons_zero]
    rfl
  refine RS.go1 (v := ?_) (a' := ?_) rfl ?_ ?_ ?_
  rotate_left 2
  · intro K wx hS hK
    go_simp
    exact hK _ hS
  · simp only [Act.put, List.setIfInBounds_toArray, List.set_cons_succ, List.set_cons_zero]
    rfl
  refine RS.go_end ?_
  intro w6 m6
  clear m5
  go_upto_region 7 with fail
  refine RS.wp_region_one (Hm.Hd w [Hm.W4 g P, Hm.W4 h x, Hm.W4 (w.heap.size + 1 + 1 + 1) b, Hm.W4 (w.heap.size + 1 + 1) a, Hm.W4 (w.heap.size + 1) n, Hm.W4 (w.heap.size) k]) (by kernel_rfl) (by kernel_rfl) (Hm.drew m6) ?_
  dsimp only [List.toList_toArray]
  refine RS.go1 (v := ?_) (a' := ?_) rfl ?_ ?_ ?_
  rotate_left 2
  · intro K wx hS hK
    refine RW.ld rfl rfl (hS.ok (Hm.W4 (w.heap.size + 1 + 1) (a)) (by simp)).c ?_
    exact hK _ hS
  · simp only [Act.put, List.setIfInBounds_toArray, List.set_cons_succ, List.set_cons_zero]
    rfl
  refine RS.go1 (v := ?_) (a' := ?_) rfl ?_ ?_ ?_
  rotate_left 2
  · intro K wx hS hK
    refine RW.ld rfl rfl (hS.ok (Hm.W4 (w.heap.size + 1 + 1 + 1) (b)) (by simp)).c ?_
    exact hK _ hS
  · simp only [Act.put, List.setIfInBounds_toArray, List.set_cons_succ, List.set_cons_zero]
    rfl
  refine RS.go1 (v := ?_) (a' := ?_) rfl ?_ ?_ ?_
  rotate_left 2
  · intro K wx hS hK
    go_simp
    refine (K7.out _).mono (fun e w2 he => ?_)
    refine ⟨_, he.1, ?_⟩
    exact hK _ (Hm.below hS he.2)
  · simp only [Act.put, List.setIfInBounds_toArray, List.set_cons_succ, List.set_cons_zero]
    rfl
  refine RS.go1 (v := ?_) (a' := ?_) rfl ?_ ?_ ?_
  rotate_left 2
  · intro K wx hS hK
    refine RW.ld rfl rfl (hS.ok (Hm.W4 (w.heap.size + 1 + 1) (a)) (by simp)).c ?_
    exact hK _ hS
  · simp only [Act.put, List.setIfInBounds_toArray, List.set_cons_succ, List.set_cons_zero]
    rfl
  refine RS.go1 (v := ?_) (a' := ?_) rfl ?_ ?_ ?_
  rotate_left 2
  · intro K wx hS hK
    refine RW.ld rfl rfl (hS.ok (Hm.W4 (g) (P)) (by simp)).c ?_
    exact hK _ hS
  · simp only [Act.put, List.setIfInBounds_toArray, List.set_cons_succ, List.set_cons_zero]
    rfl
  refine RS.go1 (v := ?_) (a' := ?_) rfl ?_ ?_ ?_
  rotate_left 2
  · intro K wx hS hK
    go_simp
    refine (K8.out _).mono (fun e w2 he => ?_)
    refine ⟨_, he.1, ?_⟩
    exact hK _ (Hm.below hS he.2)
  · simp only [Act.put, List.setIfInBounds_toArray, List.set_cons_succ, List.set_cons_zero]
    rfl
  refine RS.go1 (v := ?_) (a' := ?_) rfl ?_ ?_ ?_
  rotate_left 2
  · intro K wx hS hK
    refine RW.ld rfl rfl (hS.ok (Hm.W4 (w.heap.size + 1 + 1 + 1) (b)) (by simp)).c ?_
    exact hK _ hS
  · simp only [Act.put, List.setIfInBounds_toArray, List.set_cons_succ, List.set_cons_zero]
    rfl
  refine RS.go1 (v := ?_) (a' := ?_) rfl ?_ ?_ ?_
  rotate_left 2
  · intro K wx hS hK
    refine RW.ld rfl rfl (hS.ok (Hm.W4 (g) (P)) (by simp)).c ?_
    exact hK _ hS
  · simp only [Act.put, List.setIfInBounds_toArray, List.set_cons_succ, List.set_cons_zero]
    rfl
  refine RS.go1 (v := ?_) (a' := ?_) rfl ?_ ?_ ?_
  rotate_left 2
  · intro K wx hS hK
    go_simp
    refine (K9.out _).mono (fun e w2 he => ?_)
    refine ⟨_, he.1, ?_⟩
    exact hK _ (Hm.below hS he.2)
  · simp only [Act.put, List.setIfInBounds_toArray, List.set_cons_succ, List.set_cons_zero]
    rfl
  refine RS.go1 (v := ?_) (a' := ?_) rfl ?_ ?_ ?_
  rotate_left 2
  · intro K wx hS hK
    go_simp
    refine (K10.out _).mono (fun e w2 he => ?_)
    refine ⟨_, he.1, ?_⟩
    exact hK _ (Hm.below hS he.2)
  · simp only [Act.put, List.setIfInBounds_toArray, List.set_cons_succ, List.set_cons_zero]
    rfl
  refine RS.go1 (v := ?_) (a' := ?_) rfl ?_ ?_ ?_
  rotate_left 2
  · intro K wx hS hK
    go_simp
    exact hK _ hS
  · simp only [Act.put, List.setIfInBounds_toArray, List.set_cons_succ, List.set_cons_zero]
    rfl
  refine RS.go1 (v := ?_) (a' := ?_) rfl ?_ ?_ ?_
  rotate_left 2
  · intro K wx hS hK
    go_simp
    exact hK _ hS
  · simp only [Act.put, List.setIfInBounds_toArray, List.set_cons_succ, List.set_cons_zero]
    rfl
  refine RS.go1g (v := ?_) (a' := ?_) (by kernel_rfl) ?_ ?_ ?_
  rotate_left 2
  · intro K wx hS hK
    go_simp
    refine (K11.out _).mono (fun e w2 he => ?_)
    refine ⟨_, he.1, ?_⟩
    exact hK _ (Hm.below hS he.2)
  · simp only [Act.put, List.setIfInBounds_toArray, List.set_cons_succ, List.set_cons_zero]
    rfl
  refine RS.go1g (v := ?_) (a' := ?_) (by kernel_rfl) ?_ ?_ ?_
  rotate_left 2
  · intro K wx hS hK
    refine RW.ld rfl rfl (hS.ok (Hm.W4 (h) (x)) (by simp)).c ?_
    exact hK _ hS
  · simp only [Act.put, List.setIfInBounds_toArray, List.set_cons_succ, List.set_cons_zero]
    rfl
  refine RS.go1g (v := ?_) (a' := ?_) (by kernel_rfl) ?_ ?_ ?_
  rotate_left 2
  · intro K wx hS hK
    go_simp
    refine (K12.out _).mono (fun e w2 he => ?_)
    refine ⟨_, he.1, ?_⟩
    exact hK _ (Hm.below hS he.2)
  · simp only [Act.put, List.setIfInBounds_toArray, List.set_cons_succ, List.set_cons_zero]
    rfl
  refine RS.go1g (v := ?_) (a' := ?_) (by kernel_rfl) ?_ ?_ ?_
  rotate_left 2
  · intro K wx hS hK
    go_simp
    refine (K11.out _).mono (fun e w2 he => ?_)
    refine ⟨_, he.1, ?_⟩
    exact hK _ (Hm.below hS he.2)
  · simp only [Act.put, List.setIfInBounds_toArray, List.set_cons_succ, List.set_cons_zero]
    rfl
  refine RS.go1g (v := ?_) (a' := ?_) (by kernel_rfl) ?_ ?_ ?_
  rotate_left 2
  · intro K wx hS hK
    refine RW.ld rfl rfl (hS.ok (Hm.W4 (w.heap.size + 1 + 1) (a)) (by simp)).c ?_
    exact hK _ hS
  · simp only [Act.put, List.setIfInBounds_toArray, List.set_cons_succ, List.set_cons_zero]
    rfl
  refine RS.go1g (v := ?_) (a' := ?_) (by kernel_rfl) ?_ ?_ ?_
  rotate_left 2
  · intro K wx hS hK
    go_simp
    refine (K13.out _).mono (fun e w2 he => ?_)
    refine ⟨_, he.1, ?_⟩
    exact hK _ (Hm.below hS he.2)
  · simp only [Act.put, List.setIfInBounds_toArray, List.set_cons_succ, List.set_cons_zero]
    rfl
  refine RS.go1g (v := ?_) (a' := ?_) (by kernel_rfl) ?_ ?_ ?_
  rotate_left 2
  · intro K wx hS hK
    refine RW.eq (b := true) rfl rfl rfl (decide_eq_true rfl) ?_
    exact hK _ hS
  · simp only [Act.put, List.setIfInBounds_toArray, List.set_cons_succ, List.set_cons_zero]
    rfl
  refine RS.go1 (v := ?_) (a' := ?_) rfl ?_ ?_ ?_
  rotate_left 2
  · intro K wx hS hK
    go_simp
    exact hK _ hS
  · simp only [Act.put, List.setIfInBounds_toArray, List.set_cons_succ, List.set_cons_zero]
    rfl
  refine RS.go1 (v := ?_) (a' := ?_) rfl ?_ ?_ ?_
  rotate_left 2
  · intro K wx hS hK
    go_simp
    exact hK _ hS
  · simp only [Act.put, List.setIfInBounds_toArray, List.set_cons_succ, List.set_cons_zero]
    rfl
  refine RS.go_end ?_
  intro w9 m9
  have HB : Hid (Below w.heap.size w w9) := m9.bel
  clear m9
  go_wp2_with fail
  go_ret
  exact ⟨rfl, HB.out⟩
set_option maxHeartbeats 4000000 in
set_option maxRecDepth 100000 in
theorem law_ext_lo (k n a b : Nat) (hk : k < 2 ^ 256) (hn : n < 2 ^ 256) (ha : a < 2 ^ 256) (hb : b < 2 ^ 256) (hc : n < k) (w : World) :
    Calls Try.prog 8 #[Wd k, Wd n, Wd a, Wd b] w fun e w' => e = .returned (.bool true) ∧ Below w.heap.size w w' := by
  have KA : Hid (∀ w : World, Calls Try.prog 9 #[] w fun e w' => e = .returned (.bool true) ∧ Below w.heap.size w w') := fun w => alive2_any w
  obtain ⟨x, hx⟩ : ∃ x, x = ext k a := ⟨_, rfl⟩
  obtain ⟨P, hP⟩ : ∃ P, P = 2 ^ 255 := ⟨_, rfl⟩
  have hxl : x < 2 ^ 256 := by rw [hx]; exact ext_lt k a
  have K1 : Hid (∀ w : World, Calls Try.prog 28 #[Wd k, Wd a] w fun e w' => e = .returned (Wd x) ∧ Below w.heap.size w w') := fun w => by rw [hx]; exact extend_any k a hk ha w
  have K2 : Hid (∀ w : World, Calls Try.prog 16 #[.int .u64 2] w fun e w' => e = .returned (Wd 2) ∧ Below w.heap.size w w') := fun w => int_any 2 (by decide) w
  have K3 : Hid (∀ w : World, Calls Try.prog 16 #[.int .u64 255] w fun e w' => e = .returned (Wd 255) ∧ Below w.heap.size w w') := fun w => int_any 255 (by decide) w
  have K4 : Hid (∀ w : World, Calls Try.prog 18 #[Wd 2, Wd 255] w fun e w' => e = .returned (Wd P) ∧ Below w.heap.size w w') := fun w => by rw [hP]; exact exp_any 2 255 (by decide) w
  have K5 : Hid (∀ w : World, Calls Try.prog 19 #[Wd n, Wd k] w fun e w' => e = .returned (.int .i64 (-1)) ∧ Below w.heap.size w w') := fun w => by have := cmp_any n k hn hk w; rwa [cm_lt n k hc] at this
  have K7 : Hid (∀ w : World, Calls Try.prog 25 #[Wd a, Wd b] w fun e w' => e = .returned (.int .i64 (cm (hf a : Int) (hf b : Int))) ∧ Below w.heap.size w w') := fun w => scmp_any a b ha hb w
  have K8 : Hid (∀ w : World, Calls Try.prog 14 #[Wd a, Wd P] w fun e w' => e = .returned (Wd (hf a)) ∧ Below w.heap.size w w') := fun w => by have := add_mod a P w; rw [← Wd_mod (a + P), hP] at this; rw [hP]; exact this
  have K9 : Hid (∀ w : World, Calls Try.prog 14 #[Wd b, Wd P] w fun e w' => e = .returned (Wd (hf b)) ∧ Below w.heap.size w w') := fun w => by have := add_mod b P w; rw [← Wd_mod (b + P), hP] at this; rw [hP]; exact this
  have K10 : Hid (∀ w : World, Calls Try.prog 19 #[Wd (hf a), Wd (hf b)] w fun e w' => e = .returned (.int .i64 (cm (hf a : Int) (hf b : Int))) ∧ Below w.heap.size w w') := fun w => cmp_any _ _ (hf_lt a) (hf_lt b) w
  have K11 : Hid (∀ w : World, Calls Try.prog 16 #[.int .u64 31] w fun e w' => e = .returned (Wd 31) ∧ Below w.heap.size w w') := fun w => int_any 31 (by decide) w
  have K12 : Hid (∀ w : World, Calls Try.prog 29 #[Wd 31, Wd x] w fun e w' => e = .returned (Wd (byn 31 a)) ∧ Below w.heap.size w w') := fun w => by have := byte_any 31 x (by decide) w; rw [hx, byn_last] at this; rw [hx]; exact this
  have K13 : Hid (∀ w : World, Calls Try.prog 29 #[Wd 31, Wd a] w fun e w' => e = .returned (Wd (byn 31 a)) ∧ Below w.heap.size w w') := fun w => byte_any 31 a (by decide) w
  clear hk hn ha hb hc hx hP hxl
  generalize cm (hf a : Int) (hf b : Int) = c1 at *
  generalize hf a = n1 at *
  generalize hf b = n2 at *
  generalize byn 31 a = n3 at *
  generalize Wd 2 = W2 at *
  generalize Wd 255 = W255 at *
  generalize Wd 31 = W31 at *
  have m0 := Hm.new4 (g := w.heap.size + 1 + 1 + 1) (n := b) (T := 24) (Hm.new4 (g := w.heap.size + 1 + 1) (n := a) (T := 24) (Hm.new4 (g := w.heap.size + 1) (n := n) (T := 24) (Hm.new4 (g := w.heap.size) (n := k) (T := 24) (Hm.start w) (by simp)) (by simp)) (by simp)) (by simp)
  conv => arg 3; unfold Wd
  go_enter Try.func8, Try.ntmps8
  go_wp2_with fail
  generalize (((w.alloc (.cells #[.int .u64 (dg k 0), .int .u64 (dg k 1), .int .u64 (dg k 2), .int .u64 (dg k 3)] 24)).alloc (.cells #[.int .u64 (dg n 0), .int .u64 (dg n 1), .int .u64 (dg n 2), .int .u64 (dg n 3)] 24)).alloc (.cells #[.int .u64 (dg a 0), .int .u64 (dg a 1), .int .u64 (dg a 2), .int .u64 (dg a 3)] 24)).alloc (.cells #[.int .u64 (dg b 0), .int .u64 (dg b 1), .int .u64 (dg b 2), .int .u64 (dg b 3)] 24) = W0 at m0 ⊢
  refine (KA.out _).mono ?_
  rintro e w1 ⟨rfl, hb⟩
  have m1 := Hm.below m0 hb
  clear hb m0
  have c1' : ∀ o, o < 4 → w1.cell? ⟨w.heap.size, o, none⟩ = some (.int .u64 (dg k o)) := (m1.ok (Hm.W4 w.heap.size k) (by simp)).c
  have c2' : ∀ o, o < 4 → w1.cell? ⟨w.heap.size + 1 + 1, o, none⟩ = some (.int .u64 (dg a o)) := (m1.ok (Hm.W4 (w.heap.size + 1 + 1) a) (by simp)).c
  go_wp2_with fail
  refine (K1.out _).mono ?_
  rintro e w2 ⟨rfl, hb⟩
  have m2 := Hm.new4 (g := w2.heap.size) (n := x) (T := 24) (Hm.below m1 hb) rfl
  clear hb m1 c1' c2'
  unfold Wd
  go_wp2_with fail
  generalize w2.alloc (.cells #[.int .u64 (dg x 0), .int .u64 (dg x 1), .int .u64 (dg x 2), .int .u64 (dg x 3)] 24) = W2' at m2 ⊢
  generalize w2.heap.size = h at *
  refine (K2.out _).mono ?_
  rintro e w3 ⟨rfl, hb⟩
  have m3 := Hm.below m2 hb
  clear hb m2
  go_wp2_with fail
  refine (K3.out _).mono ?_
  rintro e w4 ⟨rfl, hb⟩
  have m4 := Hm.below m3 hb
  clear hb m3
  go_wp2_with fail
  refine (K4.out _).mono ?_
  rintro e w5 ⟨rfl, hb⟩
  have m5 := Hm.new4 (g := w5.heap.size) (n := P) (T := 24) (Hm.below m4 hb) rfl
  clear hb m4
  unfold Wd
  go_upto_region 5 with fail
  generalize w5.alloc (.cells #[.int .u64 (dg P 0), .int .u64 (dg P 1), .int .u64 (dg P 2), .int .u64 (dg P 3)] 24) = W5' at m5 ⊢
  generalize w5.heap.size = g at *
  refine RS.wp_region_one (Hm.Hd w [Hm.W4 g P, Hm.W4 h x, Hm.W4 (w.heap.size + 1 + 1 + 1) b, Hm.W4 (w.heap.size + 1 + 1) a, Hm.W4 (w.heap.size + 1) n, Hm.W4 (w.heap.size) k]) (by kernel_rfl) (by kernel_rfl) (Hm.drew m5) ?_
  dsimp only [List.toList_toArray]
  refine RS.go1 (v := ?_) (a' := ?_) rfl ?_ ?_ ?_
  rotate_left 2
  · intro K wx hS hK
    refine RW.ld rfl rfl (hS.ok (Hm.W4 (w.heap.size + 1) (n)) (by simp)).c ?_
    exact hK _ hS
  · simp only [Act.put, List.setIfInBounds_toArray, List.set_cons_succ, List.set_cons_zero]
    rfl
  refine RS.go1 (v := ?_) (a' := ?_) rfl ?_ ?_ ?_
  rotate_left 2
  · intro K wx hS hK
    refine RW.ld rfl rfl (hS.ok (Hm.W4 (w.heap.size) (k)) (by simp)).c ?_
    exact hK _ hS
  · simp only [Act.put, List.setIfInBounds_toArray, List.set_cons_succ, List.set_cons_zero]
    rfl
  refine RS.go1 (v := ?_) (a' := ?_) rfl ?_ ?_ ?_
  rotate_left 2
  · intro K wx hS hK
    go_simp
    refine (K5.out _).mono (fun e w2 he => ?_)
    refine ⟨_, he.1, ?_⟩
    exact hK _ (Hm.below hS he.2)
  · simp only [Act.put, List.setIfInBounds_toArray, List.set_cons_succ, List.set_cons_zero]
    rfl
  refine RS.go1 (v := ?_) (a' := ?_) rfl ?_ ?_ ?_
  rotate_left 2
  · intro K wx hS hK
    go_simp
    exact hK _ hS
  · simp only [Act.put, List.setIfInBounds_toArray, List.set_cons_succ, List.set_cons_zero]
    rfl
  refine RS.go1 (v := ?_) (a' := ?_) rfl ?_ ?_ ?_
  rotate_left 2
  · intro K wx hS hK
    go_simp
    exact hK _ hS
  · simp only [Act.put, List.setIfInBounds_toArray, List.set_cons_succ, List.set_cons_zero]
    rfl
  refine RS.go0 (a' := ?_) (by kernel_rfl) ?_ ?_
  rotate_left 1
  · simp only [Act.put, List.setIfInBounds_toArray, List.set_cons_succ, List.set_cons_zero]
    rfl
  refine RS.go0 (a' := ?_) (by kernel_rfl) ?_ ?_
  rotate_left 1
  · simp only [Act.put, List.setIfInBounds_toArray, List.set_cons_succ, List.set_cons_zero]
    rfl
  refine RS.go0 (a' := ?_) (by kernel_rfl) ?_ ?_
  rotate_left 1
  · simp only [Act.put, List.setIfInBounds_toArray, List.set_cons_succ, List.set_cons_zero]
    rfl
  refine RS.go0 (a' := ?_) (by kernel_rfl) ?_ ?_
  rotate_left 1
  · simp only [Act.put, List.setIfInBounds_toArray, List.set_cons_succ, List.set_cons_zero]
    rfl
  refine RS.go0 (a' := ?_) (by kernel_rfl) ?_ ?_
  rotate_left 1
  · simp only [Act.put, List.setIfInBounds_toArray, List.set_cons_succ, List.set_cons_zero]
    rfl
  refine RS.go1 (v := ?_) (a' := ?_) rfl ?_ ?_ ?_
  rotate_left 2
  · intro K wx hS hK
    go_simp
    exact hK _ hS
  · simp only [Act.put, List.setIfInBounds_toArray, List.set_cons_succ, List.set_cons_zero]
    rfl
  refine RS.go_end ?_
  intro w6 m6
  clear m5
  go_upto_region 7 with fail
  refine RS.wp_region_one (Hm.Hd w [Hm.W4 g P, Hm.W4 h x, Hm.W4 (w.heap.size + 1 + 1 + 1) b, Hm.W4 (w.heap.size + 1 + 1) a, Hm.W4 (w.heap.size + 1) n, Hm.W4 (w.heap.size) k]) (by kernel_rfl) (by kernel_rfl) (Hm.drew m6) ?_
  dsimp only [List.toList_toArray]
  refine RS.go1 (v := ?_) (a' := ?_) rfl ?_ ?_ ?_
  rotate_left 2
  · intro K wx hS hK
    refine RW.ld rfl rfl (hS.ok (Hm.W4 (w.heap.size + 1 + 1) (a)) (by simp)).c ?_
    exact hK _ hS
  · simp only [Act.put, List.setIfInBounds_toArray, List.set_cons_succ, List.set_cons_zero]
    rfl
  refine RS.go1 (v := ?_) (a' := ?_) rfl ?_ ?_ ?_
  rotate_left 2
  · intro K wx hS hK
    refine RW.ld rfl rfl (hS.ok (Hm.W4 (w.heap.size + 1 + 1 + 1) (b)) (by simp)).c ?_
    exact hK _ hS
  · simp only [Act.put, List.setIfInBounds_toArray, List.set_cons_succ, List.set_cons_zero]
    rfl
  refine RS.go1 (v := ?_) (a' := ?_) rfl ?_ ?_ ?_
  rotate_left 2
  · intro K wx hS hK
    go_simp
    refine (K7.out _).mono (fun e w2 he => ?_)
    refine ⟨_, he.1, ?_⟩
    exact hK _ (Hm.below hS he.2)
  · simp only [Act.put, List.setIfInBounds_toArray, List.set_cons_succ, List.set_cons_zero]
    rfl
  refine RS.go1 (v := ?_) (a' := ?_) rfl ?_ ?_ ?_
  rotate_left 2
  · intro K wx hS hK
    refine RW.ld rfl rfl (hS.ok (Hm.W4 (w.heap.size + 1 + 1) (a)) (by simp)).c ?_
    exact hK _ hS
  · simp only [Act.put, List.setIfInBounds_toArray, List.set_cons_succ, List.set_cons_zero]
    rfl
  refine RS.go1 (v := ?_) (a' := ?_) rfl ?_ ?_ ?_
  rotate_left 2
  · intro K wx hS hK
    refine RW.ld rfl rfl (hS.ok (Hm.W4 (g) (P)) (by simp)).c ?_
    exact hK _ hS
  · simp only [Act.put, List.setIfInBounds_toArray, List.set_cons_succ, List.set_cons_zero]
    rfl
  refine RS.go1 (v := ?_) (a' := ?_) rfl ?_ ?_ ?_
  rotate_left 2
  · intro K wx hS hK
    go_simp
    refine (K8.out _).mono (fun e w2 he => ?_)
    refine ⟨_, he.1, ?_⟩
    exact hK _ (Hm.below hS he.2)
  · simp only [Act.put, List.setIfInBounds_toArray, List.set_cons_succ, List.set_cons_zero]
    rfl
  refine RS.go1 (v := ?_) (a' := ?_) rfl ?_ ?_ ?_
  rotate_left 2
  · intro K wx hS hK
    refine RW.ld rfl rfl (hS.ok (Hm.W4 (w.heap.size + 1 + 1 + 1) (b)) (by simp)).c ?_
    exact hK _ hS
  · simp only [Act.put, List.setIfInBounds_toArray, List.set_cons_succ, List.set_cons_zero]
    rfl
  refine RS.go1 (v := ?_) (a' := ?_) rfl ?_ ?_ ?_
  rotate_left 2
  · intro K wx hS hK
    refine RW.ld rfl rfl (hS.ok (Hm.W4 (g) (P)) (by simp)).c ?_
    exact hK _ hS
  · simp only [Act.put, List.setIfInBounds_toArray, List.set_cons_succ, List.set_cons_zero]
    rfl
  refine RS.go1 (v := ?_) (a' := ?_) rfl ?_ ?_ ?_
  rotate_left 2
  · intro K wx hS hK
    go_simp
    refine (K9.out _).mono (fun e w2 he => ?_)
    refine ⟨_, he.1, ?_⟩
    exact hK _ (Hm.below hS he.2)
  · simp only [Act.put, List.setIfInBounds_toArray, List.set_cons_succ, List.set_cons_zero]
    rfl
  refine RS.go1 (v := ?_) (a' := ?_) rfl ?_ ?_ ?_
  rotate_left 2
  · intro K wx hS hK
    go_simp
    refine (K10.out _).mono (fun e w2 he => ?_)
    refine ⟨_, he.1, ?_⟩
    exact hK _ (Hm.below hS he.2)
  · simp only [Act.put, List.setIfInBounds_toArray, List.set_cons_succ, List.set_cons_zero]
    rfl
  refine RS.go1 (v := ?_) (a' := ?_) rfl ?_ ?_ ?_
  rotate_left 2
  · intro K wx hS hK
    go_simp
    exact hK _ hS
  · simp only [Act.put, List.setIfInBounds_toArray, List.set_cons_succ, List.set_cons_zero]
    rfl
  refine RS.go1 (v := ?_) (a' := ?_) rfl ?_ ?_ ?_
  rotate_left 2
  · intro K wx hS hK
    go_simp
    exact hK _ hS
  · simp only [Act.put, List.setIfInBounds_toArray, List.set_cons_succ, List.set_cons_zero]
    rfl
  refine RS.go1g (v := ?_) (a' := ?_) (by kernel_rfl) ?_ ?_ ?_
  rotate_left 2
  · intro K wx hS hK
    go_simp
    refine (K11.out _).mono (fun e w2 he => ?_)
    refine ⟨_, he.1, ?_⟩
    exact hK _ (Hm.below hS he.2)
  · simp only [Act.put, List.setIfInBounds_toArray, List.set_cons_succ, List.set_cons_zero]
    rfl
  refine RS.go1g (v := ?_) (a' := ?_) (by kernel_rfl) ?_ ?_ ?_
  rotate_left 2
  · intro K wx hS hK
    refine RW.ld rfl rfl (hS.ok (Hm.W4 (h) (x)) (by simp)).c ?_
    exact hK _ hS
  · simp only [Act.put, List.setIfInBounds_toArray, List.set_cons_succ, List.set_cons_zero]
    rfl
  refine RS.go1g (v := ?_) (a' := ?_) (by kernel_rfl) ?_ ?_ ?_
  rotate_left 2
  · intro K wx hS hK
    go_simp
    refine (K12.out _).mono (fun e w2 he => ?_)
    refine ⟨_, he.1, ?_⟩
    exact hK _ (Hm.below hS he.2)
  · simp only [Act.put, List.setIfInBounds_toArray, List.set_cons_succ, List.set_cons_zero]
    rfl
  refine RS.go1g (v := ?_) (a' := ?_) (by kernel_rfl) ?_ ?_ ?_
  rotate_left 2
  · intro K wx hS hK
    go_simp
    refine (K11.out _).mono (fun e w2 he => ?_)
    refine ⟨_, he.1, ?_⟩
    exact hK _ (Hm.below hS he.2)
  · simp only [Act.put, List.setIfInBounds_toArray, List.set_cons_succ, List.set_cons_zero]
    rfl
  refine RS.go1g (v := ?_) (a' := ?_) (by kernel_rfl) ?_ ?_ ?_
  rotate_left 2
  · intro K wx hS hK
    refine RW.ld rfl rfl (hS.ok (Hm.W4 (w.heap.size + 1 + 1) (a)) (by simp)).c ?_
    exact hK _ hS
  · simp only [Act.put, List.setIfInBounds_toArray, List.set_cons_succ, List.set_cons_zero]
    rfl
  refine RS.go1g (v := ?_) (a' := ?_) (by kernel_rfl) ?_ ?_ ?_
  rotate_left 2
  · intro K wx hS hK
    go_simp
    refine (K13.out _).mono (fun e w2 he => ?_)
    refine ⟨_, he.1, ?_⟩
    exact hK _ (Hm.below hS he.2)
  · simp only [Act.put, List.setIfInBounds_toArray, List.set_cons_succ, List.set_cons_zero]
    rfl
  refine RS.go1g (v := ?_) (a' := ?_) (by kernel_rfl) ?_ ?_ ?_
  rotate_left 2
  · intro K wx hS hK
    refine RW.eq (b := true) rfl rfl rfl (decide_eq_true rfl) ?_
    exact hK _ hS
  · simp only [Act.put, List.setIfInBounds_toArray, List.set_cons_succ, List.set_cons_zero]
    rfl
  refine RS.go1 (v := ?_) (a' := ?_) rfl ?_ ?_ ?_
  rotate_left 2
  · intro K wx hS hK
    go_simp
    exact hK _ hS
  · simp only [Act.put, List.setIfInBounds_toArray, List.set_cons_succ, List.set_cons_zero]
    rfl
  refine RS.go1 (v := ?_) (a' := ?_) rfl ?_ ?_ ?_
  rotate_left 2
  · intro K wx hS hK
    go_simp
    exact hK _ hS
  · simp only [Act.put, List.setIfInBounds_toArray, List.set_cons_succ, List.set_cons_zero]
    rfl
  refine RS.go_end ?_
  intro w9 m9
  have HB : Hid (Below w.heap.size w w9) := m9.bel
  clear m9
  go_wp2_with fail
  go_ret
  exact ⟨rfl, HB.out⟩
theorem law_ext (k n a b : Nat) (hk : k < 2 ^ 256) (hn : n < 2 ^ 256) (ha : a < 2 ^ 256) (hb : b < 2 ^ 256) (w : World) :
    Calls Try.prog 8 #[Wd k, Wd n, Wd a, Wd b] w fun e w' => e = .returned (.bool true) ∧ Below w.heap.size w w' := by
  rcases Nat.lt_or_ge n k with h | h
  · exact law_ext_lo k n a b hk hn ha hb h w
  · exact law_ext_hi k n a b hk hn ha hb h w
end Go.Proofs.Ytblodmjnhmfjeaa
