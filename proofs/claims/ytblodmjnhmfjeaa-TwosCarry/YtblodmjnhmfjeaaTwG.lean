/- twos.Sar, Extend: moved down with the sign. -/
import Derived.Test.YtblodmjnhmfjeaaTwF
import Derived.Test.YtblodmjnhmfjeaaRW
namespace Go.Proofs.Ytblodmjnhmfjeaa
open Go.RowKit Go.Shelf
/-- a, with its sign, through 2^m, rounded down. -/
def sar (m a : Nat) : Nat := if sg a = true then nt (nt a / 2 ^ m) else a / 2 ^ m
theorem sar_lt (m a : Nat) (ha : a < 2 ^ 256) : sar m a < 2 ^ 256 := by
  unfold sar; split
  · exact nt_lt _
  · exact Nat.lt_of_le_of_lt (Nat.div_le_self _ _) ha
set_option maxHeartbeats 4000000 in
set_option maxRecDepth 100000 in
theorem sar_up (n a : Nat) (hn : n < 2 ^ 256) (ha : a < 2 ^ 256) (hs : sg a = false) (w : World) :
    Calls Try.prog 23 #[Wd n, Wd a] w fun e w' => e = .returned (Wd (a / 2 ^ min n 256)) ∧ Below w.heap.size w w' := by
  have KB : Hid (∀ w : World, Calls Try.prog 44 #[Wd a] w fun e w' => e = .returned (.bool false) ∧ Below w.heap.size w w') := fun w => by rw [← hs]; exact below_any a ha w
  have KS : Hid (∀ w : World, Calls Try.prog 21 #[Wd n, Wd a] w fun e w' => e = .returned (Wd (a / 2 ^ min n 256)) ∧ Below w.heap.size w w') := fun w => shr_any n a hn ha w
  clear hs hn ha
  generalize a / 2 ^ min n 256 = N at *
  have m0 := Hm.new0 (g := w.heap.size + 1 + 1) (T := 24) (Hm.new4 (g := w.heap.size + 1) (n := a) (T := 24) (Hm.new4 (g := w.heap.size) (n := n) (T := 24) (Hm.start w) rfl) (by simp)) (by simp)
  have hne : ∀ b, b ∈ [Hm.W4 (w.heap.size + 1) a, Hm.W4 w.heap.size n] → w.heap.size + 1 + 1 ≠ b.g := by
    intro b hb
    simp only [List.mem_cons, List.not_mem_nil, or_false] at hb
    rcases hb with rfl | rfl <;> simp only [Hm.W4] <;> omega
  conv => arg 3; unfold Wd
  go_enter Try.func23, Try.ntmps23
  go_wp2_with fail
  generalize ((w.alloc (.cells #[.int .u64 (dg n 0), .int .u64 (dg n 1), .int .u64 (dg n 2), .int .u64 (dg n 3)] 24)).alloc (.cells #[.int .u64 (dg a 0), .int .u64 (dg a 1), .int .u64 (dg a 2), .int .u64 (dg a 3)] 24)).alloc (.cells #[.int .u64 0, .int .u64 0, .int .u64 0, .int .u64 0] 24) = W0 at m0 ⊢
  refine (KB.out _).mono ?_
  rintro e w1 ⟨rfl, hb⟩
  have m1 := Hm.below m0 hb
  clear hb m0
  have c0 : ∀ o, o < 4 → w1.cell? ⟨w.heap.size, o, none⟩ = some (.int .u64 (dg n o)) := (m1.ok (Hm.W4 w.heap.size n) (by simp)).c
  have c1 : ∀ o, o < 4 → w1.cell? ⟨w.heap.size + 1, o, none⟩ = some (.int .u64 (dg a o)) := (m1.ok (Hm.W4 (w.heap.size + 1) a) (by simp)).c
  go_wp2_with fail
  refine (KS.out _).mono ?_
  rintro e w2 ⟨rfl, hb⟩
  have m2 := Hm.below m1 hb
  clear hb m1 c0 c1
  have c2 : ∀ o, o < 4 → w2.cell? ⟨w.heap.size + 1 + 1, o, none⟩ = some (.int .u64 (dg 0 o)) := (m2.ok _ (List.mem_cons_self ..)).c
  have f2 : ∀ o, w2.frozen? ⟨w.heap.size + 1 + 1, o, none⟩ = false := (m2.ok _ (List.mem_cons_self ..)).f
  have HV : Hid (Hm.Hd w [Hm.W4 (w.heap.size + 1 + 1) N, Hm.W4 (w.heap.size + 1) a, Hm.W4 w.heap.size n] _) := Hm.set4 m2 hne
  clear m2 hne
  unfold Wd
  go_wp2_with fail
  exact bodyPost_ret (v := Wd N) (resultTw _ _ _ (w.heap.size + 1 + 1) N 4 rfl rfl (HV.out.ok _ (List.mem_cons_self ..)).c) rfl ⟨rfl, HV.out.bel⟩
set_option maxHeartbeats 4000000 in
set_option maxRecDepth 100000 in
theorem sar_down (n a : Nat) (hn : n < 2 ^ 256) (ha : a < 2 ^ 256) (hs : sg a = true) (w : World) :
    Calls Try.prog 23 #[Wd n, Wd a] w fun e w' => e = .returned (Wd (nt (nt a / 2 ^ min n 256))) ∧ Below w.heap.size w w' := by
  have KB : Hid (∀ w : World, Calls Try.prog 44 #[Wd a] w fun e w' => e = .returned (.bool true) ∧ Below w.heap.size w w') := fun w => by rw [← hs]; exact below_any a ha w
  have KN1 : Hid (∀ w : World, Calls Try.prog 10 #[Wd a] w fun e w' => e = .returned (Wd (nt a)) ∧ Below w.heap.size w w') := fun w => not_any a w
  have KS : Hid (∀ w : World, Calls Try.prog 21 #[Wd n, Wd (nt a)] w fun e w' => e = .returned (Wd (nt a / 2 ^ min n 256)) ∧ Below w.heap.size w w') := fun w => shr_any n (nt a) hn (nt_lt a) w
  have KN2 : Hid (∀ w : World, Calls Try.prog 10 #[Wd (nt a / 2 ^ min n 256)] w fun e w' => e = .returned (Wd (nt (nt a / 2 ^ min n 256))) ∧ Below w.heap.size w w') := fun w => not_any _ w
  clear hs hn ha
  generalize nt (nt a / 2 ^ min n 256) = N at *
  generalize nt a / 2 ^ min n 256 = M at *
  have m0 := Hm.new0 (g := w.heap.size + 1 + 1) (T := 24) (Hm.new4 (g := w.heap.size + 1) (n := a) (T := 24) (Hm.new4 (g := w.heap.size) (n := n) (T := 24) (Hm.start w) rfl) (by simp)) (by simp)
  have hne : ∀ b, b ∈ [Hm.W4 (w.heap.size + 1) a, Hm.W4 w.heap.size n] → w.heap.size + 1 + 1 ≠ b.g := by
    intro b hb
    simp only [List.mem_cons, List.not_mem_nil, or_false] at hb
    rcases hb with rfl | rfl <;> simp only [Hm.W4] <;> omega
  conv => arg 3; unfold Wd
  go_enter Try.func23, Try.ntmps23
  go_wp2_with fail
  generalize ((w.alloc (.cells #[.int .u64 (dg n 0), .int .u64 (dg n 1), .int .u64 (dg n 2), .int .u64 (dg n 3)] 24)).alloc (.cells #[.int .u64 (dg a 0), .int .u64 (dg a 1), .int .u64 (dg a 2), .int .u64 (dg a 3)] 24)).alloc (.cells #[.int .u64 0, .int .u64 0, .int .u64 0, .int .u64 0] 24) = W0 at m0 ⊢
  refine (KB.out _).mono ?_
  rintro e w1 ⟨rfl, hb⟩
  have m1 := Hm.below m0 hb
  clear hb m0
  go_upto_region 3 with fail
  refine RS.wp_region_two (Hm.Hd w [⟨w.heap.size + 1 + 1, 4, fun o => .int .u64 (dg 0 o)⟩, Hm.W4 (w.heap.size + 1) a, Hm.W4 w.heap.size n]) (Hm.Hd w [Hm.W4 (w.heap.size + 1 + 1) N, Hm.W4 (w.heap.size + 1) a, Hm.W4 w.heap.size n]) 5 (by kernel_rfl) (by kernel_rfl) (by decide) (Hm.drew m1) ?_
  dsimp only [List.toList_toArray]
  refine RS.go2 (v := ?_) (a' := ?_) (by decide) rfl ?_ ?_ ?_
  rotate_left 2
  · intro K wx hS hK
    refine RW.ld rfl rfl (hS.ok (Hm.W4 (w.heap.size) (n)) (by simp)).c ?_
    exact hK _ hS
  · simp only [Act.put, List.setIfInBounds_toArray, List.set_cons_succ, List.set_cons_zero]
    rfl
  refine RS.go2 (v := ?_) (a' := ?_) (by decide) rfl ?_ ?_ ?_
  rotate_left 2
  · intro K wx hS hK
    refine RW.ld rfl rfl (hS.ok (Hm.W4 (w.heap.size + 1) (a)) (by simp)).c ?_
    exact hK _ hS
  · simp only [Act.put, List.setIfInBounds_toArray, List.set_cons_succ, List.set_cons_zero]
    rfl
  refine RS.go2 (v := ?_) (a' := ?_) (by decide) rfl ?_ ?_ ?_
  rotate_left 2
  · intro K wx hS hK
    go_simp
    refine (KN1.out _).mono (fun e w2 he => ?_)
    refine ⟨_, he.1, ?_⟩
    exact hK _ (Hm.below hS he.2)
  · simp only [Act.put, List.setIfInBounds_toArray, List.set_cons_succ, List.set_cons_zero]
    rfl
  refine RS.go2 (v := ?_) (a' := ?_) (by decide) rfl ?_ ?_ ?_
  rotate_left 2
  · intro K wx hS hK
    go_simp
    refine (KS.out _).mono (fun e w2 he => ?_)
    refine ⟨_, he.1, ?_⟩
    exact hK _ (Hm.below hS he.2)
  · simp only [Act.put, List.setIfInBounds_toArray, List.set_cons_succ, List.set_cons_zero]
    rfl
  refine RS.go2 (v := ?_) (a' := ?_) (by decide) rfl ?_ ?_ ?_
  rotate_left 2
  · intro K wx hS hK
    go_simp
    refine (KN2.out _).mono (fun e w2 he => ?_)
    refine ⟨_, he.1, ?_⟩
    exact hK _ (Hm.below hS he.2)
  · simp only [Act.put, List.setIfInBounds_toArray, List.set_cons_succ, List.set_cons_zero]
    rfl
  refine RS.go2_last (v := ?_) (a' := ?_) rfl (by kernel_rfl) rfl ?_ ?_ ?_
  rotate_left 2
  · intro K wx hS hK
    refine RW.st rfl rfl rfl (hS.ok _ (List.mem_cons_self ..)).c (hS.ok _ (List.mem_cons_self ..)).f ?_
    refine hK _ ?_
    exact Hm.set4 hS hne
  · exact rfl
  intro w2 m2
  have HV : Hid (Hm.Hd w [Hm.W4 (w.heap.size + 1 + 1) N, Hm.W4 (w.heap.size + 1) a, Hm.W4 w.heap.size n] _) := m2
  clear m2 hne m1
  go_wp2_with fail
  exact bodyPost_ret (v := Wd N) (resultTw _ _ _ (w.heap.size + 1 + 1) N 4 rfl rfl (HV.out.ok _ (List.mem_cons_self ..)).c) rfl ⟨rfl, HV.out.bel⟩
theorem sar_any (n a : Nat) (hn : n < 2 ^ 256) (ha : a < 2 ^ 256) (w : World) :
    Calls Try.prog 23 #[Wd n, Wd a] w fun e w' => e = .returned (Wd (sar (min n 256) a)) ∧ Below w.heap.size w w' := by
  unfold sar
  cases hs : sg a
  · rw [if_neg (by decide)]; exact sar_up n a hn ha hs w
  · rw [if_pos rfl]; exact sar_down n a hn ha hs w
/-- How many bits a is moved up, that its last k + 1 bytes come first. -/
def ahd (k : Nat) : Nat := 8 * (31 - min k 31)
/-- The last k + 1 bytes of a, with their sign. -/
def ext (k a : Nat) : Nat := sar (ahd k) (a * 2 ^ ahd k % 2 ^ 256)
theorem ahd_le (k : Nat) : ahd k ≤ 248 := by unfold ahd; omega
set_option maxHeartbeats 4000000 in
set_option maxRecDepth 100000 in
theorem extend_any (n a : Nat) (hn : n < 2 ^ 256) (ha : a < 2 ^ 256) (w : World) :
    Calls Try.prog 28 #[Wd n, Wd a] w fun e w' => e = .returned (Wd (ext n a)) ∧ Below w.heap.size w w' := by
  have h8 : ahd n < 18446744073709551616 := by have := ahd_le n; omega
  have h256 : ahd n < 2 ^ 256 := by omega
  have emin : min (ahd n) 256 = ahd n := by have := ahd_le n; omega
  have KA : Hid (∀ w : World, Calls Try.prog 47 #[Wd n, .int .u64 31] w fun e w' => e = .returned (.int .u64 ((min n 31 : Nat) : Int)) ∧ Below w.heap.size w w') := fun w => atmost_any n 31 hn (by decide) w
  have KI : Hid (∀ w : World, Calls Try.prog 16 #[.int .u64 (ahd n : Int)] w fun e w' => e = .returned (Wd (ahd n)) ∧ Below w.heap.size w w') := fun w => int_any _ h8 w
  have KL : Hid (∀ w : World, Calls Try.prog 20 #[Wd (ahd n), Wd a] w fun e w' => e = .returned (Wd (a * 2 ^ ahd n % 2 ^ 256)) ∧ Below w.heap.size w w') := fun w => by have := shl_any (ahd n) a h256 ha w; rwa [emin] at this
  have KR : Hid (∀ w : World, Calls Try.prog 23 #[Wd (ahd n), Wd (a * 2 ^ ahd n % 2 ^ 256)] w fun e w' => e = .returned (Wd (ext n a)) ∧ Below w.heap.size w w') := fun w => by have := sar_any (ahd n) (a * 2 ^ ahd n % 2 ^ 256) h256 (Nat.mod_lt _ (by decide)) w; rw [emin] at this; exact this
  have e1 : Hid (IntKind.u64.wrap (8 * IntKind.u64.wrap (31 - ((min n 31 : Nat) : Int))) = (ahd n : Int)) := by
    show IntKind.u64.wrap (8 * IntKind.u64.wrap (31 - ((min n 31 : Nat) : Int))) = (ahd n : Int)
    unfold ahd; rw [IntKind.wrap_u64, IntKind.wrap_u64]; omega
  clear hn ha h8 h256 emin
  generalize ext n a = N at *
  generalize a * 2 ^ ahd n % 2 ^ 256 = M at *
  generalize ahd n = H at *
  generalize min n 31 = z at *
  have m0 := Hm.new0 (g := w.heap.size + 1 + 1) (T := 24) (Hm.new4 (g := w.heap.size + 1) (n := a) (T := 24) (Hm.new4 (g := w.heap.size) (n := n) (T := 24) (Hm.start w) rfl) (by simp)) (by simp)
  have hne : ∀ b, b ∈ [Hm.W4 (w.heap.size + 1) a, Hm.W4 w.heap.size n] → w.heap.size + 1 + 1 ≠ b.g := by
    intro b hb
    simp only [List.mem_cons, List.not_mem_nil, or_false] at hb
    rcases hb with rfl | rfl <;> simp only [Hm.W4] <;> omega
  conv => arg 3; unfold Wd
  go_enter Try.func28, Try.ntmps28
  go_wp2_with fail
  generalize ((w.alloc (.cells #[.int .u64 (dg n 0), .int .u64 (dg n 1), .int .u64 (dg n 2), .int .u64 (dg n 3)] 24)).alloc (.cells #[.int .u64 (dg a 0), .int .u64 (dg a 1), .int .u64 (dg a 2), .int .u64 (dg a 3)] 24)).alloc (.cells #[.int .u64 0, .int .u64 0, .int .u64 0, .int .u64 0] 24) = W0 at m0 ⊢
  refine (KA.out _).mono ?_
  rintro e w1 ⟨rfl, hb⟩
  have m1 := Hm.below m0 hb
  clear hb m0
  go_wp2_with fail
  simp only [e1.out]
  refine (KI.out _).mono ?_
  rintro e w2 ⟨rfl, hb⟩
  have m2 := Hm.new4 (g := w2.heap.size) (n := H) (T := 24) (Hm.below m1 hb) rfl
  have z2 : w.heap.size + 1 + 1 < w2.heap.size := ((Hm.below m1 hb).ok _ (List.mem_cons_self ..)).hi
  clear hb m1
  unfold Wd
  go_upto_region 3 with fail
  generalize w2.alloc (.cells #[.int .u64 (dg H 0), .int .u64 (dg H 1), .int .u64 (dg H 2), .int .u64 (dg H 3)] 24) = W2 at m2 ⊢
  generalize hh : w2.heap.size = h at *
  clear hh
  replace m2 : Hm.Hd w [⟨w.heap.size + 1 + 1, 4, fun o => .int .u64 (dg 0 o)⟩, Hm.W4 h H, Hm.W4 (w.heap.size + 1) a, Hm.W4 w.heap.size n] W2 := Hm.sub m2 (by intro k hk; simp only [List.mem_cons, List.not_mem_nil, or_false] at hk ⊢; rcases hk with rfl | rfl | rfl | rfl <;> simp [Hm.W4])
  clear hne
  have hne : ∀ b, b ∈ [Hm.W4 h H, Hm.W4 (w.heap.size + 1) a, Hm.W4 w.heap.size n] → w.heap.size + 1 + 1 ≠ b.g := by
    intro b hb
    simp only [List.mem_cons, List.not_mem_nil, or_false] at hb
    rcases hb with rfl | rfl | rfl <;> simp only [Hm.W4] <;> omega
  refine RS.wp_region_two (Hm.Hd w [⟨w.heap.size + 1 + 1, 4, fun o => .int .u64 (dg 0 o)⟩, Hm.W4 h H, Hm.W4 (w.heap.size + 1) a, Hm.W4 w.heap.size n]) (Hm.Hd w [Hm.W4 (w.heap.size + 1 + 1) N, Hm.W4 h H, Hm.W4 (w.heap.size + 1) a, Hm.W4 w.heap.size n]) 5 (by kernel_rfl) (by kernel_rfl) (by decide) (Hm.drew m2) ?_
  dsimp only [List.toList_toArray]
  refine RS.go2 (v := ?_) (a' := ?_) (by decide) rfl ?_ ?_ ?_
  rotate_left 2
  · intro K wx hS hK
    refine RW.ld rfl rfl (hS.ok (Hm.W4 (h) (H)) (by simp)).c ?_
    exact hK _ hS
  · simp only [Act.put, List.setIfInBounds_toArray, List.set_cons_succ, List.set_cons_zero]
    rfl
  refine RS.go2 (v := ?_) (a' := ?_) (by decide) rfl ?_ ?_ ?_
  rotate_left 2
  · intro K wx hS hK
    refine RW.ld rfl rfl (hS.ok (Hm.W4 (h) (H)) (by simp)).c ?_
    exact hK _ hS
  · simp only [Act.put, List.setIfInBounds_toArray, List.set_cons_succ, List.set_cons_zero]
    rfl
  refine RS.go2 (v := ?_) (a' := ?_) (by decide) rfl ?_ ?_ ?_
  rotate_left 2
  · intro K wx hS hK
    refine RW.ld rfl rfl (hS.ok (Hm.W4 (w.heap.size + 1) (a)) (by simp)).c ?_
    exact hK _ hS
  · simp only [Act.put, List.setIfInBounds_toArray, List.set_cons_succ, List.set_cons_zero]
    rfl
  refine RS.go2 (v := ?_) (a' := ?_) (by decide) rfl ?_ ?_ ?_
  rotate_left 2
  · intro K wx hS hK
    go_simp
    refine (KL.out _).mono (fun e w2 he => ?_)
    refine ⟨_, he.1, ?_⟩
    exact hK _ (Hm.below hS he.2)
  · simp only [Act.put, List.setIfInBounds_toArray, List.set_cons_succ, List.set_cons_zero]
    rfl
  refine RS.go2 (v := ?_) (a' := ?_) (by decide) rfl ?_ ?_ ?_
  rotate_left 2
  · intro K wx hS hK
    go_simp
    refine (KR.out _).mono (fun e w2 he => ?_)
    refine ⟨_, he.1, ?_⟩
    exact hK _ (Hm.below hS he.2)
  · simp only [Act.put, List.setIfInBounds_toArray, List.set_cons_succ, List.set_cons_zero]
    rfl
  refine RS.go2_last (v := ?_) (a' := ?_) rfl (by kernel_rfl) rfl ?_ ?_ ?_
  rotate_left 2
  · intro K wx hS hK
    refine RW.st rfl rfl rfl (hS.ok _ (List.mem_cons_self ..)).c (hS.ok _ (List.mem_cons_self ..)).f ?_
    refine hK _ ?_
    exact Hm.set4 hS hne
  · exact rfl
  intro w3 m3
  have HV : Hid (Hm.Hd w [Hm.W4 (w.heap.size + 1 + 1) N, Hm.W4 h H, Hm.W4 (w.heap.size + 1) a, Hm.W4 w.heap.size n] _) := m3
  clear m2 hne m3
  go_wp2_with fail
  exact bodyPost_ret (v := Wd N) (resultTw _ _ _ (w.heap.size + 1 + 1) N 4 rfl rfl (HV.out.ok _ (List.mem_cons_self ..)).c) rfl ⟨rfl, HV.out.bel⟩
end Go.Proofs.Ytblodmjnhmfjeaa
