/- lampbearerkeep.WordPower: the product of powers is the power of the sum. -/
import Derived.Test.YtdimohnapjfllabAlive1
namespace Go.Proofs.Ytdimohnapjfllab
open Go.RowKit Go.Shelf
attribute [local go_sem ↓] Go.wp_at_zero Go.wp_at_succ
theorem dg_eq (x y : Nat) (h0 : dg x 0 = dg y 0) (h1 : dg x 1 = dg y 1) (h2 : dg x 2 = dg y 2) (h3 : dg x 3 = dg y 3) : x % 2 ^ 256 = y % 2 ^ 256 := by
  rw [dg0, dg0] at h0
  rw [dg1, dg1] at h1
  rw [dg2, dg2] at h2
  rw [dg3, dg3] at h3
  omega
theorem eq_word (x y : Nat) (w : World) : (binOp .eql 24 (Wd x) (Wd y)).run Try.prog w = .ok (.bool (decide (x % 2 ^ 256 = y % 2 ^ 256))) w := by
  by_cases hh : x % 2 ^ 256 = y % 2 ^ 256
  · rw [decide_eq_true hh, Wd_congr hh]
    exact eq_self y w
  · rw [decide_eq_false hh]
    obtain ⟨i, hi⟩ := Try.infoU64
    unfold Wd
    rw [run_eql_struct, run_equalIn_array w 9999 _ _ Try.underlying24 hi, Try.cellsU64]
    by_cases h1 : dg x 0 = dg y 0
    · by_cases h2 : dg x 1 = dg y 1
      · by_cases h3 : dg x 2 = dg y 2
        · by_cases h4 : dg x 3 = dg y 3
          · exact absurd (dg_eq x y h1 h2 h3 h4) hh
          · simp [Op.eqItems, go_sem, List.range, List.range.loop, h1, h2, h3, h4]
        · simp [Op.eqItems, go_sem, List.range, List.range.loop, h1, h2, h3]
      · simp [Op.eqItems, go_sem, List.range, List.range.loop, h1, h2]
    · simp [Op.eqItems, go_sem, List.range, List.range.loop, h1]
theorem dg_max (b : Nat) (h : b + 1 = 2 ^ 256) : dg b 0 = 18446744073709551615 ∧ dg b 1 = 18446744073709551615 ∧ dg b 2 = 18446744073709551615 ∧ dg b 3 = 18446744073709551615 := by
  rw [dg0, dg1, dg2, dg3]; omega
theorem eq_max (b : Nat) (h : b + 1 = 2 ^ 256) (w : World) : (binOp .eql 24 (.agg #[.int .u64 (dg b 0), .int .u64 (dg b 1), .int .u64 (dg b 2), .int .u64 (dg b 3)]) (.agg #[.int .u64 18446744073709551615, .int .u64 18446744073709551615, .int .u64 18446744073709551615, .int .u64 18446744073709551615])).run Try.prog w = .ok (.bool true) w := by
  obtain ⟨h0, h1, h2, h3⟩ := dg_max b h
  have k := eq_self b w
  unfold Wd at k
  rw [h0, h1, h2, h3] at k ⊢
  exact k
set_option linter.unusedSimpArgs false in
set_option maxHeartbeats 4000000 in
set_option maxRecDepth 100000 in
theorem law_powerA (a b c : Nat) (hb : b < 2 ^ 256) (hc : c < 2 ^ 256) (hs : b + c < 2 ^ 256) (w : World) :
    Calls Try.prog 5 #[Wd a, Wd b, Wd c] w fun e w' => e = .returned (.bool true) ∧ Below w.heap.size w w' := by
  obtain ⟨s, es⟩ : ∃ r, r = b + c := ⟨_, rfl⟩
  obtain ⟨X, hX⟩ : ∃ r, r = a ^ b := ⟨_, rfl⟩
  obtain ⟨Y, hY⟩ : ∃ r, r = a ^ c := ⟨_, rfl⟩
  obtain ⟨Z, hZ⟩ : ∃ r, r = a ^ s := ⟨_, rfl⟩
  have hXY : X * Y = Z := by rw [hX, hY, hZ, es, Nat.pow_add]
  obtain ⟨t, ht⟩ : ∃ t : Int, t = cm (s : Int) (b : Int) := ⟨_, rfl⟩
  have ht0 : 0 ≤ t := by
    rw [ht]
    unfold cm
    rw [if_neg (by omega)]
    by_cases h : (b : Int) < (s : Int)
    · rw [if_pos h]; decide
    · rw [if_neg h]; decide
  have KA : Hid (∀ w : World, Calls Try.prog 11 #[Wd b, Wd c] w fun e w' => e = .returned (.agg #[.int .u64 (dg s 0), .int .u64 (dg s 1), .int .u64 (dg s 2), .int .u64 (dg s 3)]) ∧ Below w.heap.size w w') := fun w => by rw [es]; exact add_mod b c w
  have KC : Hid (∀ w : World, Calls Try.prog 13 #[.agg #[.int .u64 (dg s 0), .int .u64 (dg s 1), .int .u64 (dg s 2), .int .u64 (dg s 3)], .agg #[.int .u64 (dg b 0), .int .u64 (dg b 1), .int .u64 (dg b 2), .int .u64 (dg b 3)]] w fun e w' => e = .returned (.int .i64 t) ∧ Below w.heap.size w w') := fun w => by rw [ht]; exact cmp_any s b (by omega) hb w
  have KX : Hid (∀ w : World, Calls Try.prog 16 #[.agg #[.int .u64 (dg a 0), .int .u64 (dg a 1), .int .u64 (dg a 2), .int .u64 (dg a 3)], .agg #[.int .u64 (dg b 0), .int .u64 (dg b 1), .int .u64 (dg b 2), .int .u64 (dg b 3)]] w fun e w' => e = .returned (Wd X) ∧ Below w.heap.size w w') := fun w => by rw [hX]; exact exp_any a b hb w
  have KY : Hid (∀ w : World, Calls Try.prog 16 #[.agg #[.int .u64 (dg a 0), .int .u64 (dg a 1), .int .u64 (dg a 2), .int .u64 (dg a 3)], .agg #[.int .u64 (dg c 0), .int .u64 (dg c 1), .int .u64 (dg c 2), .int .u64 (dg c 3)]] w fun e w' => e = .returned (Wd Y) ∧ Below w.heap.size w w') := fun w => by rw [hY]; exact exp_any a c hc w
  have KZ : Hid (∀ w : World, Calls Try.prog 16 #[.agg #[.int .u64 (dg a 0), .int .u64 (dg a 1), .int .u64 (dg a 2), .int .u64 (dg a 3)], .agg #[.int .u64 (dg s 0), .int .u64 (dg s 1), .int .u64 (dg s 2), .int .u64 (dg s 3)]] w fun e w' => e = .returned (Wd Z) ∧ Below w.heap.size w w') := fun w => by rw [hZ]; exact exp_any a s (by omega) w
  have KM : Hid (∀ w : World, Calls Try.prog 12 #[Wd X, Wd Y] w fun e w' => e = .returned (Wd Z) ∧ Below w.heap.size w w') := fun w => by rw [← hXY]; exact mul_mod X Y w
  have eZ := eq_self Z
  have gZ := fun op x y => eq_guard op x y Z Z
  clear hb hc hs es hX hY hZ hXY ht
  have m := S3_start w a b c
  conv => arg 3; unfold Wd
  go_enter Try.func5, Try.ntmps5
  go_wp2_with fail
  refine (alive1_any _).mono ?_
  rintro e1 w1 ⟨rfl, hb⟩
  replace m := S3_below m hb
  clear hb
  have c0 := m.c0
  have c1 := m.c1
  have c2 := m.c2
  go_wp2_with fail
  refine (KA.out _).mono ?_
  rintro e2 w2 ⟨rfl, hb⟩
  replace m := S3_below m hb
  clear hb c0 c1 c2
  have z1 := m.hi
  have n0 := S1_start w2 s
  have k0 := S3_below m ((Below.refl w2.heap.size w2).alloc (Nat.le_refl _) (.cells #[.int .u64 (dg s 0), .int .u64 (dg s 1), .int .u64 (dg s 2), .int .u64 (dg s 3)] 24))
  have d0 := k0.c0
  have d1 := k0.c1
  have d2 := k0.c2
  have d3 := n0.c0
  go_wp2_with fail
  refine (KC.out _).mono ?_
  rintro e3 w3 ⟨rfl, hb⟩
  have k := S3_drew (S3_below k0 hb)
  have n := S1_drew (S1_below n0 hb)
  clear hb k0 n0 d0 d1 d2 d3
  go_wp2_with fail
  go_region_held3 (fun w' => (∀ o, o < 4 → w'.cell? ⟨w.heap.size, o, none⟩ = some (.int .u64 (dg a o))) ∧ (∀ o, o < 4 → w'.cell? ⟨w.heap.size + 1, o, none⟩ = some (.int .u64 (dg b o))) ∧ (∀ o, o < 4 → w'.cell? ⟨w.heap.size + 1 + 1, o, none⟩ = some (.int .u64 (dg c o))) ∧ (∀ o, o < 4 → w'.cell? ⟨w2.heap.size, o, none⟩ = some (.int .u64 (dg s o)))) (exact ⟨k.c0, k.c1, k.c2, n.c0⟩)
    (first | (go_at_call_of 16 (dg b 0); refine (KX.out _).mono ?_; rintro e w' ⟨rfl, hb⟩; replace k := S3_below k hb; replace n := S1_below n hb; clear hb) | (go_at_call_of 16 (dg c 0); refine (KY.out _).mono ?_; rintro e w' ⟨rfl, hb⟩; replace k := S3_below k hb; replace n := S1_below n hb; clear hb) | (go_at_call_of 16 (dg s 0); refine (KZ.out _).mono ?_; rintro e w' ⟨rfl, hb⟩; replace k := S3_below k hb; replace n := S1_below n hb; clear hb) | (go_at_call 12; refine (KM.out _).mono ?_; rintro e w' ⟨rfl, hb⟩; replace k := S3_below k hb; replace n := S1_below n hb; clear hb))
  all_goals
    go_wp2_with fail
    go_ret
    exact ⟨rfl, k.bel⟩
set_option linter.unusedSimpArgs false in
set_option maxHeartbeats 4000000 in
set_option maxRecDepth 100000 in
theorem law_powerB (a b c : Nat) (hb : b < 2 ^ 256) (hc : c < 2 ^ 256) (hs : 2 ^ 256 ≤ b + c) (h1 : b + 1 < 2 ^ 256) (w : World) :
    Calls Try.prog 5 #[Wd a, Wd b, Wd c] w fun e w' => e = .returned (.bool true) ∧ Below w.heap.size w w' := by
  obtain ⟨s, es⟩ : ∃ r, r = b + c - 2 ^ 256 := ⟨_, rfl⟩
  obtain ⟨X, hX⟩ : ∃ r, r = a ^ b := ⟨_, rfl⟩
  obtain ⟨Y, hY⟩ : ∃ r, r = X * a := ⟨_, rfl⟩
  obtain ⟨T, hT⟩ : ∃ r, r = b + 1 := ⟨_, rfl⟩
  have KA : Hid (∀ w : World, Calls Try.prog 11 #[Wd b, Wd c] w fun e w' => e = .returned (.agg #[.int .u64 (dg s 0), .int .u64 (dg s 1), .int .u64 (dg s 2), .int .u64 (dg s 3)]) ∧ Below w.heap.size w w') := fun w => by rw [show (.agg #[.int .u64 (dg s 0), .int .u64 (dg s 1), .int .u64 (dg s 2), .int .u64 (dg s 3)] : Value) = Wd (b + c) from Wd_congr (by omega)]; exact add_mod b c w
  have KC : Hid (∀ w : World, Calls Try.prog 13 #[.agg #[.int .u64 (dg s 0), .int .u64 (dg s 1), .int .u64 (dg s 2), .int .u64 (dg s 3)], .agg #[.int .u64 (dg b 0), .int .u64 (dg b 1), .int .u64 (dg b 2), .int .u64 (dg b 3)]] w fun e w' => e = .returned (.int .i64 (-1)) ∧ Below w.heap.size w w') := fun w => by have k := cmp_any s b (by omega) hb w; unfold cm at k; rw [if_pos (by omega)] at k; exact k
  have KX : Hid (∀ w : World, Calls Try.prog 16 #[.agg #[.int .u64 (dg a 0), .int .u64 (dg a 1), .int .u64 (dg a 2), .int .u64 (dg a 3)], .agg #[.int .u64 (dg b 0), .int .u64 (dg b 1), .int .u64 (dg b 2), .int .u64 (dg b 3)]] w fun e w' => e = .returned (Wd X) ∧ Below w.heap.size w w') := fun w => by rw [hX]; exact exp_any a b hb w
  have KM : Hid (∀ w : World, Calls Try.prog 12 #[Wd X, .agg #[.int .u64 (dg a 0), .int .u64 (dg a 1), .int .u64 (dg a 2), .int .u64 (dg a 3)]] w fun e w' => e = .returned (Wd Y) ∧ Below w.heap.size w w') := fun w => by rw [hY]; exact mul_mod X a w
  have KI : Hid (∀ w : World, Calls Try.prog 17 #[.int .u64 1] w fun e w' => e = .returned (Wd 1) ∧ Below w.heap.size w w') := fun w => int_any 1 (by decide) w
  have KT : Hid (∀ w : World, Calls Try.prog 11 #[.agg #[.int .u64 (dg b 0), .int .u64 (dg b 1), .int .u64 (dg b 2), .int .u64 (dg b 3)], Wd 1] w fun e w' => e = .returned (Wd T) ∧ Below w.heap.size w w') := fun w => by rw [hT]; exact add_mod b 1 w
  have KZ : Hid (∀ w : World, Calls Try.prog 16 #[.agg #[.int .u64 (dg a 0), .int .u64 (dg a 1), .int .u64 (dg a 2), .int .u64 (dg a 3)], Wd T] w fun e w' => e = .returned (Wd Y) ∧ Below w.heap.size w w') := fun w => by rw [show Y = a ^ T by rw [hY, hX, hT, Nat.pow_succ]]; exact exp_any a T (by omega) w
  have eY := eq_self Y
  have gY := fun op x y => eq_guard op x y Y Y
  clear hb hc hs h1 es hX hY hT
  generalize Wd 1 = I1 at KI KT
  have m := S3_start w a b c
  conv => arg 3; unfold Wd
  go_enter Try.func5, Try.ntmps5
  go_wp2_with fail
  refine (alive1_any _).mono ?_
  rintro e1 w1 ⟨rfl, hb⟩
  replace m := S3_below m hb
  clear hb
  have c0 := m.c0
  have c1 := m.c1
  have c2 := m.c2
  go_wp2_with fail
  refine (KA.out _).mono ?_
  rintro e2 w2 ⟨rfl, hb⟩
  replace m := S3_below m hb
  clear hb c0 c1 c2
  have z1 := m.hi
  have n0 := S1_start w2 s
  have k0 := S3_below m ((Below.refl w2.heap.size w2).alloc (Nat.le_refl _) (.cells #[.int .u64 (dg s 0), .int .u64 (dg s 1), .int .u64 (dg s 2), .int .u64 (dg s 3)] 24))
  have d0 := k0.c0
  have d1 := k0.c1
  have d2 := k0.c2
  have d3 := n0.c0
  go_wp2_with fail
  refine (KC.out _).mono ?_
  rintro e3 w3 ⟨rfl, hb⟩
  have k := S3_drew (S3_below k0 hb)
  have n := S1_drew (S1_below n0 hb)
  clear hb k0 n0 d0 d1 d2 d3
  go_wp2_with fail
  refine wp_region_held_drew (S := (fun w' => (∀ o, o < 4 → w'.cell? ⟨w.heap.size, o, none⟩ = some (.int .u64 (dg a o))) ∧ (∀ o, o < 4 → w'.cell? ⟨w.heap.size + 1, o, none⟩ = some (.int .u64 (dg b o))) ∧ (∀ o, o < 4 → w'.cell? ⟨w.heap.size + 1 + 1, o, none⟩ = some (.int .u64 (dg c o))) ∧ (∀ o, o < 4 → w'.cell? ⟨w2.heap.size, o, none⟩ = some (.int .u64 (dg s o))))) (by kernel_rfl) ⟨k.c0, k.c1, k.c2, n.c0⟩ (fun hHeld => ?_)
  refine wpAnyH_take (i := 0) (oi := { dst := some 28, op := Op.load 24 (Operand.tmp 3), type := 24, pos := "word.go:59", after := #[], guard := none }) (v := ?_) rfl (by kernel_rfl) (by kernel_rfl) (by kernel_rfl) (fun _ _ _ h => h) (Or.inl ⟨by rfl, ?_⟩) (by assumption) ?_
  rotate_left
  · (intro w hSw; (try dsimp only at hSw); first | (go_simp; done) | (go_simp; with_reducible rfl))
  try simp only [Act.put, List.setIfInBounds_toArray, List.set_cons_zero, List.set_cons_succ]
  refine wpAnyH_take (i := 1) (oi := { dst := some 29, op := Op.load 24 (Operand.tmp 4), type := 24, pos := "word.go:59", after := #[], guard := none }) (v := ?_) rfl (by kernel_rfl) (by kernel_rfl) (by kernel_rfl) (fun _ _ _ h => h) (Or.inl ⟨by rfl, ?_⟩) (by assumption) ?_
  rotate_left
  · (intro w hSw; (try dsimp only at hSw); first | (go_simp; done) | (go_simp; with_reducible rfl))
  try simp only [Act.put, List.setIfInBounds_toArray, List.set_cons_zero, List.set_cons_succ]
  refine wpAnyH_take (i := 3) (oi := { dst := some 31, op := Op.load 24 (Operand.tmp 3), type := 24, pos := "word.go:59", after := #[], guard := none }) (v := ?_) rfl (by kernel_rfl) (by kernel_rfl) (by kernel_rfl) (fun _ _ _ h => h) (Or.inl ⟨by rfl, ?_⟩) (by assumption) ?_
  rotate_left
  · (intro w hSw; (try dsimp only at hSw); first | (go_simp; done) | (go_simp; with_reducible rfl))
  try simp only [Act.put, List.setIfInBounds_toArray, List.set_cons_zero, List.set_cons_succ]
  refine wpAnyH_take (i := 5) (oi := { dst := some 33, op := Op.load 24 (Operand.tmp 3), type := 24, pos := "word.go:59", after := #[], guard := none }) (v := ?_) rfl (by kernel_rfl) (by kernel_rfl) (by kernel_rfl) (fun _ _ _ h => h) (Or.inl ⟨by rfl, ?_⟩) (by assumption) ?_
  rotate_left
  · (intro w hSw; (try dsimp only at hSw); first | (go_simp; done) | (go_simp; with_reducible rfl))
  try simp only [Act.put, List.setIfInBounds_toArray, List.set_cons_zero, List.set_cons_succ]
  refine wpAnyH_take (i := 6) (oi := { dst := some 34, op := Op.load 24 (Operand.tmp 4), type := 24, pos := "word.go:59", after := #[], guard := none }) (v := ?_) rfl (by kernel_rfl) (by kernel_rfl) (by kernel_rfl) (fun _ _ _ h => h) (Or.inl ⟨by rfl, ?_⟩) (by assumption) ?_
  rotate_left
  · (intro w hSw; (try dsimp only at hSw); first | (go_simp; done) | (go_simp; with_reducible rfl))
  try simp only [Act.put, List.setIfInBounds_toArray, List.set_cons_zero, List.set_cons_succ]
  refine wpAnyH_ready (rs := [2]) (by kernel_rfl) (by simp) ?_
  refine AllReadyH.cons (o := { dst := some 30, op := Op.call { callee := Callee.value (Operand.func 16), args := #[Operand.tmp 28, Operand.tmp 29], argTypes := #[24, 24] }, type := 24, pos := "word.go:59", after := #[{ on := 0, ground := Ground.data }, { on := 1, ground := Ground.data }], guard := none }) rfl (fun K hK => ?_) AllReadyH.nil
  go_simp
  refine (KX.out _).mono ?_
  rintro e w' ⟨rfl, hb⟩
  replace k := S3_below k hb
  replace n := S1_below n hb
  clear hb
  refine hK.out _ _ ⟨k.c0, k.c1, k.c2, n.c0⟩ (fun hHeld => ?_)
  clear hK K
  try simp only [Act.put, List.setIfInBounds_toArray, List.set_cons_zero, List.set_cons_succ]
  refine wpAnyH_ready (rs := [4]) (by kernel_rfl) (by simp) ?_
  refine AllReadyH.cons (o := { dst := some 32, op := Op.call { callee := Callee.value (Operand.func 12), args := #[Operand.tmp 30, Operand.tmp 31], argTypes := #[24, 24] }, type := 24, pos := "word.go:59", after := #[{ on := 2, ground := Ground.data }, { on := 3, ground := Ground.data }, { on := 2, ground := Ground.chain }], guard := none }) rfl (fun K hK => ?_) AllReadyH.nil
  go_simp
  refine (KM.out _).mono ?_
  rintro e w' ⟨rfl, hb⟩
  replace k := S3_below k hb
  replace n := S1_below n hb
  clear hb
  refine hK.out _ _ ⟨k.c0, k.c1, k.c2, n.c0⟩ (fun hHeld => ?_)
  clear hK K
  try simp only [Act.put, List.setIfInBounds_toArray, List.set_cons_zero, List.set_cons_succ]
  refine wpAnyH_ready (rs := [7]) (by kernel_rfl) (by simp) ?_
  refine AllReadyH.cons (o := { dst := some 35, op := Op.call { callee := Callee.value (Operand.func 17), args := #[Operand.const (Value.int IntKind.u64 1)], argTypes := #[22] }, type := 24, pos := "word.go:59", after := #[{ on := 4, ground := Ground.chain }], guard := none }) rfl (fun K hK => ?_) AllReadyH.nil
  go_simp
  refine (KI.out _).mono ?_
  rintro e w' ⟨rfl, hb⟩
  replace k := S3_below k hb
  replace n := S1_below n hb
  clear hb
  refine hK.out _ _ ⟨k.c0, k.c1, k.c2, n.c0⟩ (fun hHeld => ?_)
  clear hK K
  try simp only [Act.put, List.setIfInBounds_toArray, List.set_cons_zero, List.set_cons_succ]
  refine wpAnyH_ready (rs := [8]) (by kernel_rfl) (by simp) ?_
  refine AllReadyH.cons (o := { dst := some 36, op := Op.call { callee := Callee.value (Operand.func 11), args := #[Operand.tmp 34, Operand.tmp 35], argTypes := #[24, 24] }, type := 24, pos := "word.go:59", after := #[{ on := 6, ground := Ground.data }, { on := 7, ground := Ground.data }, { on := 7, ground := Ground.chain }], guard := none }) rfl (fun K hK => ?_) AllReadyH.nil
  go_simp
  refine (KT.out _).mono ?_
  rintro e w' ⟨rfl, hb⟩
  replace k := S3_below k hb
  replace n := S1_below n hb
  clear hb
  refine hK.out _ _ ⟨k.c0, k.c1, k.c2, n.c0⟩ (fun hHeld => ?_)
  clear hK K
  try simp only [Act.put, List.setIfInBounds_toArray, List.set_cons_zero, List.set_cons_succ]
  refine wpAnyH_ready (rs := [9]) (by kernel_rfl) (by simp) ?_
  refine AllReadyH.cons (o := { dst := some 37, op := Op.call { callee := Callee.value (Operand.func 16), args := #[Operand.tmp 33, Operand.tmp 36], argTypes := #[24, 24] }, type := 24, pos := "word.go:59", after := #[{ on := 5, ground := Ground.data }, { on := 8, ground := Ground.data }, { on := 8, ground := Ground.chain }], guard := none }) rfl (fun K hK => ?_) AllReadyH.nil
  go_simp
  refine (KZ.out _).mono ?_
  rintro e w' ⟨rfl, hb⟩
  replace k := S3_below k hb
  replace n := S1_below n hb
  clear hb
  refine hK.out _ _ ⟨k.c0, k.c1, k.c2, n.c0⟩ (fun hHeld => ?_)
  clear hK K
  try simp only [Act.put, List.setIfInBounds_toArray, List.set_cons_zero, List.set_cons_succ]
  refine wpAnyH_take (i := 10) (oi := { dst := some 38, op := Op.binOp BinOp.eql 24 (Operand.tmp 32) (Operand.tmp 37) 24, type := 4, pos := "word.go:59", after := #[{ on := 4, ground := Ground.data }, { on := 9, ground := Ground.data }], guard := none }) (v := ?_) rfl (by kernel_rfl) (by kernel_rfl) (by kernel_rfl) (fun _ _ _ h => h) (Or.inl ⟨by rfl, ?_⟩) (by assumption) ?_
  rotate_left
  · (intro w hSw; (try dsimp only at hSw); first | (go_simp; done) | (go_simp; with_reducible rfl))
  try simp only [Act.put, List.setIfInBounds_toArray, List.set_cons_zero, List.set_cons_succ]
  refine wpAnyH_take (i := 11) (oi := { dst := some 39, op := Op.move (Operand.tmp 38), type := 4, pos := "word.go:59", after := #[{ on := 10, ground := Ground.data }, { on := 9, ground := Ground.chain }], guard := none }) (v := ?_) rfl (by kernel_rfl) (by kernel_rfl) (by kernel_rfl) (fun _ _ _ h => h) (Or.inl ⟨by rfl, ?_⟩) (by assumption) ?_
  rotate_left
  · (intro w hSw; (try dsimp only at hSw); first | (go_simp; done) | (go_simp; with_reducible rfl))
  try simp only [Act.put, List.setIfInBounds_toArray, List.set_cons_zero, List.set_cons_succ]
  refine wpAnyH_ready (rs := [12, 13]) (by kernel_rfl) (by simp) ?_
  refine AllReadyH.cons (o := { dst := some 40, op := Op.load 24 (Operand.tmp 4), type := 24, pos := "word.go:59", after := #[{ on := 11, ground := Ground.guard }], guard := some (11, false) }) rfl (fun K hK => ?_) ?_
  · go_simp
    refine hK.out _ _ ⟨k.c0, k.c1, k.c2, n.c0⟩ (fun hHeld => ?_)
    clear hK K
    try simp only [Act.put, List.setIfInBounds_toArray, List.set_cons_zero, List.set_cons_succ]
    refine wpAnyH_ready (rs := [13]) (by kernel_rfl) (by simp) ?_
    refine AllReadyH.cons (o := { dst := some 41, op := Op.build 24 #[(0, Operand.const (Value.int IntKind.u64 18446744073709551615)), (1, Operand.const (Value.int IntKind.u64 18446744073709551615)), (2, Operand.const (Value.int IntKind.u64 18446744073709551615)), (3, Operand.const (Value.int IntKind.u64 18446744073709551615))], type := 24, pos := "word.go:59", after := #[{ on := 11, ground := Ground.guard }], guard := some (11, false) }) rfl (fun K hK => ?_) AllReadyH.nil
    go_simp
    refine hK.out _ _ ⟨k.c0, k.c1, k.c2, n.c0⟩ (fun hHeld => ?_)
    clear hK K
    try simp only [Act.put, List.setIfInBounds_toArray, List.set_cons_zero, List.set_cons_succ]
    refine wpAnyH_ready (rs := [14]) (by kernel_rfl) (by simp) ?_
    refine AllReadyH.cons (o := { dst := some 42, op := Op.binOp BinOp.eql 24 (Operand.tmp 40) (Operand.tmp 41) 24, type := 4, pos := "word.go:59", after := #[{ on := 12, ground := Ground.data }, { on := 13, ground := Ground.data }, { on := 11, ground := Ground.guard }], guard := some (11, false) }) rfl (fun K hK => ?_) AllReadyH.nil
    go_simp
    refine hK.out _ _ ⟨k.c0, k.c1, k.c2, n.c0⟩ (fun hHeld => ?_)
    clear hK K
    try simp only [Act.put, List.setIfInBounds_toArray, List.set_cons_zero, List.set_cons_succ]
    refine wpAnyH_take (i := 15) (oi := { dst := some 43, op := Op.pick (Operand.tmp 39) (Operand.const (Value.bool true)) (Operand.tmp 42), type := 4, pos := "word.go:59", after := #[{ on := 11, ground := Ground.data }, { on := 14, ground := Ground.data }], guard := none }) (v := ?_) rfl (by kernel_rfl) (by kernel_rfl) (by kernel_rfl) (fun _ _ _ h => h) (Or.inl ⟨by rfl, ?_⟩) (by assumption) ?_
    rotate_left
    · (intro w hSw; (try dsimp only at hSw); first | (go_simp; done) | (go_simp; with_reducible rfl))
    try simp only [Act.put, List.setIfInBounds_toArray, List.set_cons_zero, List.set_cons_succ]
    refine wpAnyH_ready (rs := [16]) (by kernel_rfl) (by simp) ?_
    refine AllReadyH.cons (o := { dst := some 6, op := Op.assign (Operand.tmp 43), type := 4, pos := "word.go:59", after := #[{ on := 15, ground := Ground.data }, { on := 11, ground := Ground.chain }, { on := 0, ground := Ground.phase }, { on := 1, ground := Ground.phase }, { on := 2, ground := Ground.phase }, { on := 3, ground := Ground.phase }, { on := 4, ground := Ground.phase }, { on := 5, ground := Ground.phase }, { on := 6, ground := Ground.phase }, { on := 7, ground := Ground.phase }, { on := 8, ground := Ground.phase }, { on := 9, ground := Ground.phase }, { on := 10, ground := Ground.phase }, { on := 11, ground := Ground.phase }, { on := 12, ground := Ground.phase }, { on := 13, ground := Ground.phase }, { on := 14, ground := Ground.phase }, { on := 15, ground := Ground.phase }], guard := none }) rfl (fun K hK => ?_) AllReadyH.nil
    go_simp
    refine hK.out _ _ ⟨k.c0, k.c1, k.c2, n.c0⟩ (fun hHeld => ?_)
    clear hK K
    try simp only [Act.put, List.setIfInBounds_toArray, List.set_cons_zero, List.set_cons_succ]
    refine wpAnyH_done (by kernel_rfl) ?_ _
    go_wp2_with fail
    go_ret
    exact ⟨rfl, k.bel⟩
  refine AllReadyH.cons (o := { dst := some 41, op := Op.build 24 #[(0, Operand.const (Value.int IntKind.u64 18446744073709551615)), (1, Operand.const (Value.int IntKind.u64 18446744073709551615)), (2, Operand.const (Value.int IntKind.u64 18446744073709551615)), (3, Operand.const (Value.int IntKind.u64 18446744073709551615))], type := 24, pos := "word.go:59", after := #[{ on := 11, ground := Ground.guard }], guard := some (11, false) }) rfl (fun K hK => ?_) AllReadyH.nil
  go_simp
  refine hK.out _ _ ⟨k.c0, k.c1, k.c2, n.c0⟩ (fun hHeld => ?_)
  clear hK K
  try simp only [Act.put, List.setIfInBounds_toArray, List.set_cons_zero, List.set_cons_succ]
  refine wpAnyH_ready (rs := [12]) (by kernel_rfl) (by simp) ?_
  refine AllReadyH.cons (o := { dst := some 40, op := Op.load 24 (Operand.tmp 4), type := 24, pos := "word.go:59", after := #[{ on := 11, ground := Ground.guard }], guard := some (11, false) }) rfl (fun K hK => ?_) AllReadyH.nil
  go_simp
  refine hK.out _ _ ⟨k.c0, k.c1, k.c2, n.c0⟩ (fun hHeld => ?_)
  clear hK K
  try simp only [Act.put, List.setIfInBounds_toArray, List.set_cons_zero, List.set_cons_succ]
  refine wpAnyH_ready (rs := [14]) (by kernel_rfl) (by simp) ?_
  refine AllReadyH.cons (o := { dst := some 42, op := Op.binOp BinOp.eql 24 (Operand.tmp 40) (Operand.tmp 41) 24, type := 4, pos := "word.go:59", after := #[{ on := 12, ground := Ground.data }, { on := 13, ground := Ground.data }, { on := 11, ground := Ground.guard }], guard := some (11, false) }) rfl (fun K hK => ?_) AllReadyH.nil
  go_simp
  refine hK.out _ _ ⟨k.c0, k.c1, k.c2, n.c0⟩ (fun hHeld => ?_)
  clear hK K
  try simp only [Act.put, List.setIfInBounds_toArray, List.set_cons_zero, List.set_cons_succ]
  refine wpAnyH_take (i := 15) (oi := { dst := some 43, op := Op.pick (Operand.tmp 39) (Operand.const (Value.bool true)) (Operand.tmp 42), type := 4, pos := "word.go:59", after := #[{ on := 11, ground := Ground.data }, { on := 14, ground := Ground.data }], guard := none }) (v := ?_) rfl (by kernel_rfl) (by kernel_rfl) (by kernel_rfl) (fun _ _ _ h => h) (Or.inl ⟨by rfl, ?_⟩) (by assumption) ?_
  rotate_left
  · (intro w hSw; (try dsimp only at hSw); first | (go_simp; done) | (go_simp; with_reducible rfl))
  try simp only [Act.put, List.setIfInBounds_toArray, List.set_cons_zero, List.set_cons_succ]
  refine wpAnyH_ready (rs := [16]) (by kernel_rfl) (by simp) ?_
  refine AllReadyH.cons (o := { dst := some 6, op := Op.assign (Operand.tmp 43), type := 4, pos := "word.go:59", after := #[{ on := 15, ground := Ground.data }, { on := 11, ground := Ground.chain }, { on := 0, ground := Ground.phase }, { on := 1, ground := Ground.phase }, { on := 2, ground := Ground.phase }, { on := 3, ground := Ground.phase }, { on := 4, ground := Ground.phase }, { on := 5, ground := Ground.phase }, { on := 6, ground := Ground.phase }, { on := 7, ground := Ground.phase }, { on := 8, ground := Ground.phase }, { on := 9, ground := Ground.phase }, { on := 10, ground := Ground.phase }, { on := 11, ground := Ground.phase }, { on := 12, ground := Ground.phase }, { on := 13, ground := Ground.phase }, { on := 14, ground := Ground.phase }, { on := 15, ground := Ground.phase }], guard := none }) rfl (fun K hK => ?_) AllReadyH.nil
  go_simp
  refine hK.out _ _ ⟨k.c0, k.c1, k.c2, n.c0⟩ (fun hHeld => ?_)
  clear hK K
  try simp only [Act.put, List.setIfInBounds_toArray, List.set_cons_zero, List.set_cons_succ]
  refine wpAnyH_done (by kernel_rfl) ?_ _
  go_wp2_with fail
  go_ret
  exact ⟨rfl, k.bel⟩
set_option linter.unusedSimpArgs false in
set_option maxHeartbeats 4000000 in
set_option maxRecDepth 100000 in
theorem law_powerC (a b c : Nat) (hb : b < 2 ^ 256) (hc : c < 2 ^ 256) (hs : 2 ^ 256 ≤ b + c) (h1 : b + 1 = 2 ^ 256) (w : World) :
    Calls Try.prog 5 #[Wd a, Wd b, Wd c] w fun e w' => e = .returned (.bool true) ∧ Below w.heap.size w w' := by
  obtain ⟨s, es⟩ : ∃ r, r = b + c - 2 ^ 256 := ⟨_, rfl⟩
  obtain ⟨X, hX⟩ : ∃ r, r = a ^ b := ⟨_, rfl⟩
  obtain ⟨Y, hY⟩ : ∃ r, r = X * a := ⟨_, rfl⟩
  obtain ⟨T, hT⟩ : ∃ r, r = b + 1 := ⟨_, rfl⟩
  obtain ⟨O, hO⟩ : ∃ r, r = a ^ 0 := ⟨_, rfl⟩
  have KA : Hid (∀ w : World, Calls Try.prog 11 #[Wd b, Wd c] w fun e w' => e = .returned (.agg #[.int .u64 (dg s 0), .int .u64 (dg s 1), .int .u64 (dg s 2), .int .u64 (dg s 3)]) ∧ Below w.heap.size w w') := fun w => by rw [show (.agg #[.int .u64 (dg s 0), .int .u64 (dg s 1), .int .u64 (dg s 2), .int .u64 (dg s 3)] : Value) = Wd (b + c) from Wd_congr (by omega)]; exact add_mod b c w
  have KC : Hid (∀ w : World, Calls Try.prog 13 #[.agg #[.int .u64 (dg s 0), .int .u64 (dg s 1), .int .u64 (dg s 2), .int .u64 (dg s 3)], .agg #[.int .u64 (dg b 0), .int .u64 (dg b 1), .int .u64 (dg b 2), .int .u64 (dg b 3)]] w fun e w' => e = .returned (.int .i64 (-1)) ∧ Below w.heap.size w w') := fun w => by have k := cmp_any s b (by omega) hb w; unfold cm at k; rw [if_pos (by omega)] at k; exact k
  have KX : Hid (∀ w : World, Calls Try.prog 16 #[.agg #[.int .u64 (dg a 0), .int .u64 (dg a 1), .int .u64 (dg a 2), .int .u64 (dg a 3)], .agg #[.int .u64 (dg b 0), .int .u64 (dg b 1), .int .u64 (dg b 2), .int .u64 (dg b 3)]] w fun e w' => e = .returned (Wd X) ∧ Below w.heap.size w w') := fun w => by rw [hX]; exact exp_any a b hb w
  have KM : Hid (∀ w : World, Calls Try.prog 12 #[Wd X, .agg #[.int .u64 (dg a 0), .int .u64 (dg a 1), .int .u64 (dg a 2), .int .u64 (dg a 3)]] w fun e w' => e = .returned (Wd Y) ∧ Below w.heap.size w w') := fun w => by rw [hY]; exact mul_mod X a w
  have KI : Hid (∀ w : World, Calls Try.prog 17 #[.int .u64 1] w fun e w' => e = .returned (Wd 1) ∧ Below w.heap.size w w') := fun w => int_any 1 (by decide) w
  have KT : Hid (∀ w : World, Calls Try.prog 11 #[.agg #[.int .u64 (dg b 0), .int .u64 (dg b 1), .int .u64 (dg b 2), .int .u64 (dg b 3)], Wd 1] w fun e w' => e = .returned (Wd T) ∧ Below w.heap.size w w') := fun w => by rw [hT]; exact add_mod b 1 w
  have KZ : Hid (∀ w : World, Calls Try.prog 16 #[.agg #[.int .u64 (dg a 0), .int .u64 (dg a 1), .int .u64 (dg a 2), .int .u64 (dg a 3)], Wd T] w fun e w' => e = .returned (Wd O) ∧ Below w.heap.size w w') := fun w => by rw [hO, show Wd T = Wd 0 from Wd_congr (by rw [hT, h1])]; exact exp_any a 0 (by decide) w
  obtain ⟨t, ht⟩ : ∃ t, t = decide (Y % 2 ^ 256 = O % 2 ^ 256) := ⟨_, rfl⟩
  have eY := eq_word Y O
  rw [← ht] at eY
  have gY := fun op x y => eq_guard op x y Y O
  have eb := eq_max b h1
  have gb := eq_guard2
  clear hb hc hs h1 es hX hY hT hO ht
  cases t
  · generalize Wd 1 = I1 at KI KT
    have m := S3_start w a b c
    conv => arg 3; unfold Wd
    go_enter Try.func5, Try.ntmps5
    go_wp2_with fail
    refine (alive1_any _).mono ?_
    rintro e1 w1 ⟨rfl, hb⟩
    replace m := S3_below m hb
    clear hb
    have c0 := m.c0
    have c1 := m.c1
    have c2 := m.c2
    go_wp2_with fail
    refine (KA.out _).mono ?_
    rintro e2 w2 ⟨rfl, hb⟩
    replace m := S3_below m hb
    clear hb c0 c1 c2
    have z1 := m.hi
    have n0 := S1_start w2 s
    have k0 := S3_below m ((Below.refl w2.heap.size w2).alloc (Nat.le_refl _) (.cells #[.int .u64 (dg s 0), .int .u64 (dg s 1), .int .u64 (dg s 2), .int .u64 (dg s 3)] 24))
    have d0 := k0.c0
    have d1 := k0.c1
    have d2 := k0.c2
    have d3 := n0.c0
    go_wp2_with fail
    refine (KC.out _).mono ?_
    rintro e3 w3 ⟨rfl, hb⟩
    have k := S3_drew (S3_below k0 hb)
    have n := S1_drew (S1_below n0 hb)
    clear hb k0 n0 d0 d1 d2 d3
    go_wp2_with fail
    refine wp_region_held_drew (S := (fun w' => (∀ o, o < 4 → w'.cell? ⟨w.heap.size, o, none⟩ = some (.int .u64 (dg a o))) ∧ (∀ o, o < 4 → w'.cell? ⟨w.heap.size + 1, o, none⟩ = some (.int .u64 (dg b o))) ∧ (∀ o, o < 4 → w'.cell? ⟨w.heap.size + 1 + 1, o, none⟩ = some (.int .u64 (dg c o))) ∧ (∀ o, o < 4 → w'.cell? ⟨w2.heap.size, o, none⟩ = some (.int .u64 (dg s o))))) (by kernel_rfl) ⟨k.c0, k.c1, k.c2, n.c0⟩ (fun hHeld => ?_)
    refine wpAnyH_take (i := 0) (oi := { dst := some 28, op := Op.load 24 (Operand.tmp 3), type := 24, pos := "word.go:59", after := #[], guard := none }) (v := ?_) rfl (by kernel_rfl) (by kernel_rfl) (by kernel_rfl) (fun _ _ _ h => h) (Or.inl ⟨by rfl, ?_⟩) (by assumption) ?_
    rotate_left
    · (intro w hSw; (try dsimp only at hSw); first | (go_simp; done) | (go_simp; with_reducible rfl))
    try simp only [Act.put, List.setIfInBounds_toArray, List.set_cons_zero, List.set_cons_succ]
    refine wpAnyH_take (i := 1) (oi := { dst := some 29, op := Op.load 24 (Operand.tmp 4), type := 24, pos := "word.go:59", after := #[], guard := none }) (v := ?_) rfl (by kernel_rfl) (by kernel_rfl) (by kernel_rfl) (fun _ _ _ h => h) (Or.inl ⟨by rfl, ?_⟩) (by assumption) ?_
    rotate_left
    · (intro w hSw; (try dsimp only at hSw); first | (go_simp; done) | (go_simp; with_reducible rfl))
    try simp only [Act.put, List.setIfInBounds_toArray, List.set_cons_zero, List.set_cons_succ]
    refine wpAnyH_take (i := 3) (oi := { dst := some 31, op := Op.load 24 (Operand.tmp 3), type := 24, pos := "word.go:59", after := #[], guard := none }) (v := ?_) rfl (by kernel_rfl) (by kernel_rfl) (by kernel_rfl) (fun _ _ _ h => h) (Or.inl ⟨by rfl, ?_⟩) (by assumption) ?_
    rotate_left
    · (intro w hSw; (try dsimp only at hSw); first | (go_simp; done) | (go_simp; with_reducible rfl))
    try simp only [Act.put, List.setIfInBounds_toArray, List.set_cons_zero, List.set_cons_succ]
    refine wpAnyH_take (i := 5) (oi := { dst := some 33, op := Op.load 24 (Operand.tmp 3), type := 24, pos := "word.go:59", after := #[], guard := none }) (v := ?_) rfl (by kernel_rfl) (by kernel_rfl) (by kernel_rfl) (fun _ _ _ h => h) (Or.inl ⟨by rfl, ?_⟩) (by assumption) ?_
    rotate_left
    · (intro w hSw; (try dsimp only at hSw); first | (go_simp; done) | (go_simp; with_reducible rfl))
    try simp only [Act.put, List.setIfInBounds_toArray, List.set_cons_zero, List.set_cons_succ]
    refine wpAnyH_take (i := 6) (oi := { dst := some 34, op := Op.load 24 (Operand.tmp 4), type := 24, pos := "word.go:59", after := #[], guard := none }) (v := ?_) rfl (by kernel_rfl) (by kernel_rfl) (by kernel_rfl) (fun _ _ _ h => h) (Or.inl ⟨by rfl, ?_⟩) (by assumption) ?_
    rotate_left
    · (intro w hSw; (try dsimp only at hSw); first | (go_simp; done) | (go_simp; with_reducible rfl))
    try simp only [Act.put, List.setIfInBounds_toArray, List.set_cons_zero, List.set_cons_succ]
    refine wpAnyH_ready (rs := [2]) (by kernel_rfl) (by simp) ?_
    refine AllReadyH.cons (o := { dst := some 30, op := Op.call { callee := Callee.value (Operand.func 16), args := #[Operand.tmp 28, Operand.tmp 29], argTypes := #[24, 24] }, type := 24, pos := "word.go:59", after := #[{ on := 0, ground := Ground.data }, { on := 1, ground := Ground.data }], guard := none }) rfl (fun K hK => ?_) AllReadyH.nil
    go_simp
    refine (KX.out _).mono ?_
    rintro e w' ⟨rfl, hb⟩
    replace k := S3_below k hb
    replace n := S1_below n hb
    clear hb
    refine hK.out _ _ ⟨k.c0, k.c1, k.c2, n.c0⟩ (fun hHeld => ?_)
    clear hK K
    try simp only [Act.put, List.setIfInBounds_toArray, List.set_cons_zero, List.set_cons_succ]
    refine wpAnyH_ready (rs := [4]) (by kernel_rfl) (by simp) ?_
    refine AllReadyH.cons (o := { dst := some 32, op := Op.call { callee := Callee.value (Operand.func 12), args := #[Operand.tmp 30, Operand.tmp 31], argTypes := #[24, 24] }, type := 24, pos := "word.go:59", after := #[{ on := 2, ground := Ground.data }, { on := 3, ground := Ground.data }, { on := 2, ground := Ground.chain }], guard := none }) rfl (fun K hK => ?_) AllReadyH.nil
    go_simp
    refine (KM.out _).mono ?_
    rintro e w' ⟨rfl, hb⟩
    replace k := S3_below k hb
    replace n := S1_below n hb
    clear hb
    refine hK.out _ _ ⟨k.c0, k.c1, k.c2, n.c0⟩ (fun hHeld => ?_)
    clear hK K
    try simp only [Act.put, List.setIfInBounds_toArray, List.set_cons_zero, List.set_cons_succ]
    refine wpAnyH_ready (rs := [7]) (by kernel_rfl) (by simp) ?_
    refine AllReadyH.cons (o := { dst := some 35, op := Op.call { callee := Callee.value (Operand.func 17), args := #[Operand.const (Value.int IntKind.u64 1)], argTypes := #[22] }, type := 24, pos := "word.go:59", after := #[{ on := 4, ground := Ground.chain }], guard := none }) rfl (fun K hK => ?_) AllReadyH.nil
    go_simp
    refine (KI.out _).mono ?_
    rintro e w' ⟨rfl, hb⟩
    replace k := S3_below k hb
    replace n := S1_below n hb
    clear hb
    refine hK.out _ _ ⟨k.c0, k.c1, k.c2, n.c0⟩ (fun hHeld => ?_)
    clear hK K
    try simp only [Act.put, List.setIfInBounds_toArray, List.set_cons_zero, List.set_cons_succ]
    refine wpAnyH_ready (rs := [8]) (by kernel_rfl) (by simp) ?_
    refine AllReadyH.cons (o := { dst := some 36, op := Op.call { callee := Callee.value (Operand.func 11), args := #[Operand.tmp 34, Operand.tmp 35], argTypes := #[24, 24] }, type := 24, pos := "word.go:59", after := #[{ on := 6, ground := Ground.data }, { on := 7, ground := Ground.data }, { on := 7, ground := Ground.chain }], guard := none }) rfl (fun K hK => ?_) AllReadyH.nil
    go_simp
    refine (KT.out _).mono ?_
    rintro e w' ⟨rfl, hb⟩
    replace k := S3_below k hb
    replace n := S1_below n hb
    clear hb
    refine hK.out _ _ ⟨k.c0, k.c1, k.c2, n.c0⟩ (fun hHeld => ?_)
    clear hK K
    try simp only [Act.put, List.setIfInBounds_toArray, List.set_cons_zero, List.set_cons_succ]
    refine wpAnyH_ready (rs := [9]) (by kernel_rfl) (by simp) ?_
    refine AllReadyH.cons (o := { dst := some 37, op := Op.call { callee := Callee.value (Operand.func 16), args := #[Operand.tmp 33, Operand.tmp 36], argTypes := #[24, 24] }, type := 24, pos := "word.go:59", after := #[{ on := 5, ground := Ground.data }, { on := 8, ground := Ground.data }, { on := 8, ground := Ground.chain }], guard := none }) rfl (fun K hK => ?_) AllReadyH.nil
    go_simp
    refine (KZ.out _).mono ?_
    rintro e w' ⟨rfl, hb⟩
    replace k := S3_below k hb
    replace n := S1_below n hb
    clear hb
    refine hK.out _ _ ⟨k.c0, k.c1, k.c2, n.c0⟩ (fun hHeld => ?_)
    clear hK K
    try simp only [Act.put, List.setIfInBounds_toArray, List.set_cons_zero, List.set_cons_succ]
    refine wpAnyH_take (i := 10) (oi := { dst := some 38, op := Op.binOp BinOp.eql 24 (Operand.tmp 32) (Operand.tmp 37) 24, type := 4, pos := "word.go:59", after := #[{ on := 4, ground := Ground.data }, { on := 9, ground := Ground.data }], guard := none }) (v := ?_) rfl (by kernel_rfl) (by kernel_rfl) (by kernel_rfl) (fun _ _ _ h => h) (Or.inl ⟨by rfl, ?_⟩) (by assumption) ?_
    rotate_left
    · (intro w hSw; (try dsimp only at hSw); first | (go_simp; done) | (go_simp; with_reducible rfl))
    try simp only [Act.put, List.setIfInBounds_toArray, List.set_cons_zero, List.set_cons_succ]
    refine wpAnyH_take (i := 11) (oi := { dst := some 39, op := Op.move (Operand.tmp 38), type := 4, pos := "word.go:59", after := #[{ on := 10, ground := Ground.data }, { on := 9, ground := Ground.chain }], guard := none }) (v := ?_) rfl (by kernel_rfl) (by kernel_rfl) (by kernel_rfl) (fun _ _ _ h => h) (Or.inl ⟨by rfl, ?_⟩) (by assumption) ?_
    rotate_left
    · (intro w hSw; (try dsimp only at hSw); first | (go_simp; done) | (go_simp; with_reducible rfl))
    try simp only [Act.put, List.setIfInBounds_toArray, List.set_cons_zero, List.set_cons_succ]
    refine wpAnyH_take (i := 12) (oi := { dst := some 40, op := Op.load 24 (Operand.tmp 4), type := 24, pos := "word.go:59", after := #[{ on := 11, ground := Ground.guard }], guard := some (11, false) }) (v := ?_) rfl (by kernel_rfl) (by kernel_rfl) (by kernel_rfl) (fun _ _ _ h => h) (Or.inl ⟨by rfl, ?_⟩) (by assumption) ?_
    rotate_left
    · (intro w hSw; (try dsimp only at hSw); first | (go_simp; done) | (go_simp; with_reducible rfl))
    try simp only [Act.put, List.setIfInBounds_toArray, List.set_cons_zero, List.set_cons_succ]
    refine wpAnyH_take (i := 13) (oi := { dst := some 41, op := Op.build 24 #[(0, Operand.const (Value.int IntKind.u64 18446744073709551615)), (1, Operand.const (Value.int IntKind.u64 18446744073709551615)), (2, Operand.const (Value.int IntKind.u64 18446744073709551615)), (3, Operand.const (Value.int IntKind.u64 18446744073709551615))], type := 24, pos := "word.go:59", after := #[{ on := 11, ground := Ground.guard }], guard := some (11, false) }) (v := ?_) rfl (by kernel_rfl) (by kernel_rfl) (by kernel_rfl) (fun _ _ _ h => h) (Or.inl ⟨by rfl, ?_⟩) (by assumption) ?_
    rotate_left
    · (intro w hSw; (try dsimp only at hSw); first | (go_simp; done) | (go_simp; with_reducible rfl))
    try simp only [Act.put, List.setIfInBounds_toArray, List.set_cons_zero, List.set_cons_succ]
    refine wpAnyH_take (i := 14) (oi := { dst := some 42, op := Op.binOp BinOp.eql 24 (Operand.tmp 40) (Operand.tmp 41) 24, type := 4, pos := "word.go:59", after := #[{ on := 12, ground := Ground.data }, { on := 13, ground := Ground.data }, { on := 11, ground := Ground.guard }], guard := some (11, false) }) (v := ?_) rfl (by kernel_rfl) (by kernel_rfl) (by kernel_rfl) (fun _ _ _ h => h) (Or.inl ⟨by rfl, ?_⟩) (by assumption) ?_
    rotate_left
    · (intro w hSw; (try dsimp only at hSw); first | (go_simp; done) | (go_simp; with_reducible rfl))
    try simp only [Act.put, List.setIfInBounds_toArray, List.set_cons_zero, List.set_cons_succ]
    refine wpAnyH_take (i := 15) (oi := { dst := some 43, op := Op.pick (Operand.tmp 39) (Operand.const (Value.bool true)) (Operand.tmp 42), type := 4, pos := "word.go:59", after := #[{ on := 11, ground := Ground.data }, { on := 14, ground := Ground.data }], guard := none }) (v := ?_) rfl (by kernel_rfl) (by kernel_rfl) (by kernel_rfl) (fun _ _ _ h => h) (Or.inl ⟨by rfl, ?_⟩) (by assumption) ?_
    rotate_left
    · (intro w hSw; (try dsimp only at hSw); first | (go_simp; done) | (go_simp; with_reducible rfl))
    try simp only [Act.put, List.setIfInBounds_toArray, List.set_cons_zero, List.set_cons_succ]
    refine wpAnyH_ready (rs := [16]) (by kernel_rfl) (by simp) ?_
    refine AllReadyH.cons (o := { dst := some 6, op := Op.assign (Operand.tmp 43), type := 4, pos := "word.go:59", after := #[{ on := 15, ground := Ground.data }, { on := 11, ground := Ground.chain }, { on := 0, ground := Ground.phase }, { on := 1, ground := Ground.phase }, { on := 2, ground := Ground.phase }, { on := 3, ground := Ground.phase }, { on := 4, ground := Ground.phase }, { on := 5, ground := Ground.phase }, { on := 6, ground := Ground.phase }, { on := 7, ground := Ground.phase }, { on := 8, ground := Ground.phase }, { on := 9, ground := Ground.phase }, { on := 10, ground := Ground.phase }, { on := 11, ground := Ground.phase }, { on := 12, ground := Ground.phase }, { on := 13, ground := Ground.phase }, { on := 14, ground := Ground.phase }, { on := 15, ground := Ground.phase }], guard := none }) rfl (fun K hK => ?_) AllReadyH.nil
    go_simp
    refine hK.out _ _ ⟨k.c0, k.c1, k.c2, n.c0⟩ (fun hHeld => ?_)
    clear hK K
    try simp only [Act.put, List.setIfInBounds_toArray, List.set_cons_zero, List.set_cons_succ]
    refine wpAnyH_done (by kernel_rfl) ?_ _
    go_wp2_with fail
    go_ret
    exact ⟨rfl, k.bel⟩
  · generalize Wd 1 = I1 at KI KT
    have m := S3_start w a b c
    conv => arg 3; unfold Wd
    go_enter Try.func5, Try.ntmps5
    go_wp2_with fail
    refine (alive1_any _).mono ?_
    rintro e1 w1 ⟨rfl, hb⟩
    replace m := S3_below m hb
    clear hb
    have c0 := m.c0
    have c1 := m.c1
    have c2 := m.c2
    go_wp2_with fail
    refine (KA.out _).mono ?_
    rintro e2 w2 ⟨rfl, hb⟩
    replace m := S3_below m hb
    clear hb c0 c1 c2
    have z1 := m.hi
    have n0 := S1_start w2 s
    have k0 := S3_below m ((Below.refl w2.heap.size w2).alloc (Nat.le_refl _) (.cells #[.int .u64 (dg s 0), .int .u64 (dg s 1), .int .u64 (dg s 2), .int .u64 (dg s 3)] 24))
    have d0 := k0.c0
    have d1 := k0.c1
    have d2 := k0.c2
    have d3 := n0.c0
    go_wp2_with fail
    refine (KC.out _).mono ?_
    rintro e3 w3 ⟨rfl, hb⟩
    have k := S3_drew (S3_below k0 hb)
    have n := S1_drew (S1_below n0 hb)
    clear hb k0 n0 d0 d1 d2 d3
    go_wp2_with fail
    refine wp_region_held_drew (S := (fun w' => (∀ o, o < 4 → w'.cell? ⟨w.heap.size, o, none⟩ = some (.int .u64 (dg a o))) ∧ (∀ o, o < 4 → w'.cell? ⟨w.heap.size + 1, o, none⟩ = some (.int .u64 (dg b o))) ∧ (∀ o, o < 4 → w'.cell? ⟨w.heap.size + 1 + 1, o, none⟩ = some (.int .u64 (dg c o))) ∧ (∀ o, o < 4 → w'.cell? ⟨w2.heap.size, o, none⟩ = some (.int .u64 (dg s o))))) (by kernel_rfl) ⟨k.c0, k.c1, k.c2, n.c0⟩ (fun hHeld => ?_)
    refine wpAnyH_take (i := 0) (oi := { dst := some 28, op := Op.load 24 (Operand.tmp 3), type := 24, pos := "word.go:59", after := #[], guard := none }) (v := ?_) rfl (by kernel_rfl) (by kernel_rfl) (by kernel_rfl) (fun _ _ _ h => h) (Or.inl ⟨by rfl, ?_⟩) (by assumption) ?_
    rotate_left
    · (intro w hSw; (try dsimp only at hSw); first | (go_simp; done) | (go_simp; with_reducible rfl))
    try simp only [Act.put, List.setIfInBounds_toArray, List.set_cons_zero, List.set_cons_succ]
    refine wpAnyH_take (i := 1) (oi := { dst := some 29, op := Op.load 24 (Operand.tmp 4), type := 24, pos := "word.go:59", after := #[], guard := none }) (v := ?_) rfl (by kernel_rfl) (by kernel_rfl) (by kernel_rfl) (fun _ _ _ h => h) (Or.inl ⟨by rfl, ?_⟩) (by assumption) ?_
    rotate_left
    · (intro w hSw; (try dsimp only at hSw); first | (go_simp; done) | (go_simp; with_reducible rfl))
    try simp only [Act.put, List.setIfInBounds_toArray, List.set_cons_zero, List.set_cons_succ]
    refine wpAnyH_take (i := 3) (oi := { dst := some 31, op := Op.load 24 (Operand.tmp 3), type := 24, pos := "word.go:59", after := #[], guard := none }) (v := ?_) rfl (by kernel_rfl) (by kernel_rfl) (by kernel_rfl) (fun _ _ _ h => h) (Or.inl ⟨by rfl, ?_⟩) (by assumption) ?_
    rotate_left
    · (intro w hSw; (try dsimp only at hSw); first | (go_simp; done) | (go_simp; with_reducible rfl))
    try simp only [Act.put, List.setIfInBounds_toArray, List.set_cons_zero, List.set_cons_succ]
    refine wpAnyH_take (i := 5) (oi := { dst := some 33, op := Op.load 24 (Operand.tmp 3), type := 24, pos := "word.go:59", after := #[], guard := none }) (v := ?_) rfl (by kernel_rfl) (by kernel_rfl) (by kernel_rfl) (fun _ _ _ h => h) (Or.inl ⟨by rfl, ?_⟩) (by assumption) ?_
    rotate_left
    · (intro w hSw; (try dsimp only at hSw); first | (go_simp; done) | (go_simp; with_reducible rfl))
    try simp only [Act.put, List.setIfInBounds_toArray, List.set_cons_zero, List.set_cons_succ]
    refine wpAnyH_take (i := 6) (oi := { dst := some 34, op := Op.load 24 (Operand.tmp 4), type := 24, pos := "word.go:59", after := #[], guard := none }) (v := ?_) rfl (by kernel_rfl) (by kernel_rfl) (by kernel_rfl) (fun _ _ _ h => h) (Or.inl ⟨by rfl, ?_⟩) (by assumption) ?_
    rotate_left
    · (intro w hSw; (try dsimp only at hSw); first | (go_simp; done) | (go_simp; with_reducible rfl))
    try simp only [Act.put, List.setIfInBounds_toArray, List.set_cons_zero, List.set_cons_succ]
    refine wpAnyH_ready (rs := [2]) (by kernel_rfl) (by simp) ?_
    refine AllReadyH.cons (o := { dst := some 30, op := Op.call { callee := Callee.value (Operand.func 16), args := #[Operand.tmp 28, Operand.tmp 29], argTypes := #[24, 24] }, type := 24, pos := "word.go:59", after := #[{ on := 0, ground := Ground.data }, { on := 1, ground := Ground.data }], guard := none }) rfl (fun K hK => ?_) AllReadyH.nil
    go_simp
    refine (KX.out _).mono ?_
    rintro e w' ⟨rfl, hb⟩
    replace k := S3_below k hb
    replace n := S1_below n hb
    clear hb
    refine hK.out _ _ ⟨k.c0, k.c1, k.c2, n.c0⟩ (fun hHeld => ?_)
    clear hK K
    try simp only [Act.put, List.setIfInBounds_toArray, List.set_cons_zero, List.set_cons_succ]
    refine wpAnyH_ready (rs := [4]) (by kernel_rfl) (by simp) ?_
    refine AllReadyH.cons (o := { dst := some 32, op := Op.call { callee := Callee.value (Operand.func 12), args := #[Operand.tmp 30, Operand.tmp 31], argTypes := #[24, 24] }, type := 24, pos := "word.go:59", after := #[{ on := 2, ground := Ground.data }, { on := 3, ground := Ground.data }, { on := 2, ground := Ground.chain }], guard := none }) rfl (fun K hK => ?_) AllReadyH.nil
    go_simp
    refine (KM.out _).mono ?_
    rintro e w' ⟨rfl, hb⟩
    replace k := S3_below k hb
    replace n := S1_below n hb
    clear hb
    refine hK.out _ _ ⟨k.c0, k.c1, k.c2, n.c0⟩ (fun hHeld => ?_)
    clear hK K
    try simp only [Act.put, List.setIfInBounds_toArray, List.set_cons_zero, List.set_cons_succ]
    refine wpAnyH_ready (rs := [7]) (by kernel_rfl) (by simp) ?_
    refine AllReadyH.cons (o := { dst := some 35, op := Op.call { callee := Callee.value (Operand.func 17), args := #[Operand.const (Value.int IntKind.u64 1)], argTypes := #[22] }, type := 24, pos := "word.go:59", after := #[{ on := 4, ground := Ground.chain }], guard := none }) rfl (fun K hK => ?_) AllReadyH.nil
    go_simp
    refine (KI.out _).mono ?_
    rintro e w' ⟨rfl, hb⟩
    replace k := S3_below k hb
    replace n := S1_below n hb
    clear hb
    refine hK.out _ _ ⟨k.c0, k.c1, k.c2, n.c0⟩ (fun hHeld => ?_)
    clear hK K
    try simp only [Act.put, List.setIfInBounds_toArray, List.set_cons_zero, List.set_cons_succ]
    refine wpAnyH_ready (rs := [8]) (by kernel_rfl) (by simp) ?_
    refine AllReadyH.cons (o := { dst := some 36, op := Op.call { callee := Callee.value (Operand.func 11), args := #[Operand.tmp 34, Operand.tmp 35], argTypes := #[24, 24] }, type := 24, pos := "word.go:59", after := #[{ on := 6, ground := Ground.data }, { on := 7, ground := Ground.data }, { on := 7, ground := Ground.chain }], guard := none }) rfl (fun K hK => ?_) AllReadyH.nil
    go_simp
    refine (KT.out _).mono ?_
    rintro e w' ⟨rfl, hb⟩
    replace k := S3_below k hb
    replace n := S1_below n hb
    clear hb
    refine hK.out _ _ ⟨k.c0, k.c1, k.c2, n.c0⟩ (fun hHeld => ?_)
    clear hK K
    try simp only [Act.put, List.setIfInBounds_toArray, List.set_cons_zero, List.set_cons_succ]
    refine wpAnyH_ready (rs := [9]) (by kernel_rfl) (by simp) ?_
    refine AllReadyH.cons (o := { dst := some 37, op := Op.call { callee := Callee.value (Operand.func 16), args := #[Operand.tmp 33, Operand.tmp 36], argTypes := #[24, 24] }, type := 24, pos := "word.go:59", after := #[{ on := 5, ground := Ground.data }, { on := 8, ground := Ground.data }, { on := 8, ground := Ground.chain }], guard := none }) rfl (fun K hK => ?_) AllReadyH.nil
    go_simp
    refine (KZ.out _).mono ?_
    rintro e w' ⟨rfl, hb⟩
    replace k := S3_below k hb
    replace n := S1_below n hb
    clear hb
    refine hK.out _ _ ⟨k.c0, k.c1, k.c2, n.c0⟩ (fun hHeld => ?_)
    clear hK K
    try simp only [Act.put, List.setIfInBounds_toArray, List.set_cons_zero, List.set_cons_succ]
    refine wpAnyH_take (i := 10) (oi := { dst := some 38, op := Op.binOp BinOp.eql 24 (Operand.tmp 32) (Operand.tmp 37) 24, type := 4, pos := "word.go:59", after := #[{ on := 4, ground := Ground.data }, { on := 9, ground := Ground.data }], guard := none }) (v := ?_) rfl (by kernel_rfl) (by kernel_rfl) (by kernel_rfl) (fun _ _ _ h => h) (Or.inl ⟨by rfl, ?_⟩) (by assumption) ?_
    rotate_left
    · (intro w hSw; (try dsimp only at hSw); first | (go_simp; done) | (go_simp; with_reducible rfl))
    try simp only [Act.put, List.setIfInBounds_toArray, List.set_cons_zero, List.set_cons_succ]
    refine wpAnyH_take (i := 11) (oi := { dst := some 39, op := Op.move (Operand.tmp 38), type := 4, pos := "word.go:59", after := #[{ on := 10, ground := Ground.data }, { on := 9, ground := Ground.chain }], guard := none }) (v := ?_) rfl (by kernel_rfl) (by kernel_rfl) (by kernel_rfl) (fun _ _ _ h => h) (Or.inl ⟨by rfl, ?_⟩) (by assumption) ?_
    rotate_left
    · (intro w hSw; (try dsimp only at hSw); first | (go_simp; done) | (go_simp; with_reducible rfl))
    try simp only [Act.put, List.setIfInBounds_toArray, List.set_cons_zero, List.set_cons_succ]
    refine wpAnyH_ready (rs := [12, 13]) (by kernel_rfl) (by simp) ?_
    refine AllReadyH.cons (o := { dst := some 40, op := Op.load 24 (Operand.tmp 4), type := 24, pos := "word.go:59", after := #[{ on := 11, ground := Ground.guard }], guard := some (11, false) }) rfl (fun K hK => ?_) ?_
    · go_simp
      refine hK.out _ _ ⟨k.c0, k.c1, k.c2, n.c0⟩ (fun hHeld => ?_)
      clear hK K
      try simp only [Act.put, List.setIfInBounds_toArray, List.set_cons_zero, List.set_cons_succ]
      refine wpAnyH_ready (rs := [13]) (by kernel_rfl) (by simp) ?_
      refine AllReadyH.cons (o := { dst := some 41, op := Op.build 24 #[(0, Operand.const (Value.int IntKind.u64 18446744073709551615)), (1, Operand.const (Value.int IntKind.u64 18446744073709551615)), (2, Operand.const (Value.int IntKind.u64 18446744073709551615)), (3, Operand.const (Value.int IntKind.u64 18446744073709551615))], type := 24, pos := "word.go:59", after := #[{ on := 11, ground := Ground.guard }], guard := some (11, false) }) rfl (fun K hK => ?_) AllReadyH.nil
      go_simp
      refine hK.out _ _ ⟨k.c0, k.c1, k.c2, n.c0⟩ (fun hHeld => ?_)
      clear hK K
      try simp only [Act.put, List.setIfInBounds_toArray, List.set_cons_zero, List.set_cons_succ]
      refine wpAnyH_ready (rs := [14]) (by kernel_rfl) (by simp) ?_
      refine AllReadyH.cons (o := { dst := some 42, op := Op.binOp BinOp.eql 24 (Operand.tmp 40) (Operand.tmp 41) 24, type := 4, pos := "word.go:59", after := #[{ on := 12, ground := Ground.data }, { on := 13, ground := Ground.data }, { on := 11, ground := Ground.guard }], guard := some (11, false) }) rfl (fun K hK => ?_) AllReadyH.nil
      go_simp
      refine hK.out _ _ ⟨k.c0, k.c1, k.c2, n.c0⟩ (fun hHeld => ?_)
      clear hK K
      try simp only [Act.put, List.setIfInBounds_toArray, List.set_cons_zero, List.set_cons_succ]
      refine wpAnyH_take (i := 15) (oi := { dst := some 43, op := Op.pick (Operand.tmp 39) (Operand.const (Value.bool true)) (Operand.tmp 42), type := 4, pos := "word.go:59", after := #[{ on := 11, ground := Ground.data }, { on := 14, ground := Ground.data }], guard := none }) (v := ?_) rfl (by kernel_rfl) (by kernel_rfl) (by kernel_rfl) (fun _ _ _ h => h) (Or.inl ⟨by rfl, ?_⟩) (by assumption) ?_
      rotate_left
      · (intro w hSw; (try dsimp only at hSw); first | (go_simp; done) | (go_simp; with_reducible rfl))
      try simp only [Act.put, List.setIfInBounds_toArray, List.set_cons_zero, List.set_cons_succ]
      refine wpAnyH_ready (rs := [16]) (by kernel_rfl) (by simp) ?_
      refine AllReadyH.cons (o := { dst := some 6, op := Op.assign (Operand.tmp 43), type := 4, pos := "word.go:59", after := #[{ on := 15, ground := Ground.data }, { on := 11, ground := Ground.chain }, { on := 0, ground := Ground.phase }, { on := 1, ground := Ground.phase }, { on := 2, ground := Ground.phase }, { on := 3, ground := Ground.phase }, { on := 4, ground := Ground.phase }, { on := 5, ground := Ground.phase }, { on := 6, ground := Ground.phase }, { on := 7, ground := Ground.phase }, { on := 8, ground := Ground.phase }, { on := 9, ground := Ground.phase }, { on := 10, ground := Ground.phase }, { on := 11, ground := Ground.phase }, { on := 12, ground := Ground.phase }, { on := 13, ground := Ground.phase }, { on := 14, ground := Ground.phase }, { on := 15, ground := Ground.phase }], guard := none }) rfl (fun K hK => ?_) AllReadyH.nil
      go_simp
      refine hK.out _ _ ⟨k.c0, k.c1, k.c2, n.c0⟩ (fun hHeld => ?_)
      clear hK K
      try simp only [Act.put, List.setIfInBounds_toArray, List.set_cons_zero, List.set_cons_succ]
      refine wpAnyH_done (by kernel_rfl) ?_ _
      go_wp2_with fail
      go_ret
      exact ⟨rfl, k.bel⟩
    refine AllReadyH.cons (o := { dst := some 41, op := Op.build 24 #[(0, Operand.const (Value.int IntKind.u64 18446744073709551615)), (1, Operand.const (Value.int IntKind.u64 18446744073709551615)), (2, Operand.const (Value.int IntKind.u64 18446744073709551615)), (3, Operand.const (Value.int IntKind.u64 18446744073709551615))], type := 24, pos := "word.go:59", after := #[{ on := 11, ground := Ground.guard }], guard := some (11, false) }) rfl (fun K hK => ?_) AllReadyH.nil
    go_simp
    refine hK.out _ _ ⟨k.c0, k.c1, k.c2, n.c0⟩ (fun hHeld => ?_)
    clear hK K
    try simp only [Act.put, List.setIfInBounds_toArray, List.set_cons_zero, List.set_cons_succ]
    refine wpAnyH_ready (rs := [12]) (by kernel_rfl) (by simp) ?_
    refine AllReadyH.cons (o := { dst := some 40, op := Op.load 24 (Operand.tmp 4), type := 24, pos := "word.go:59", after := #[{ on := 11, ground := Ground.guard }], guard := some (11, false) }) rfl (fun K hK => ?_) AllReadyH.nil
    go_simp
    refine hK.out _ _ ⟨k.c0, k.c1, k.c2, n.c0⟩ (fun hHeld => ?_)
    clear hK K
    try simp only [Act.put, List.setIfInBounds_toArray, List.set_cons_zero, List.set_cons_succ]
    refine wpAnyH_ready (rs := [14]) (by kernel_rfl) (by simp) ?_
    refine AllReadyH.cons (o := { dst := some 42, op := Op.binOp BinOp.eql 24 (Operand.tmp 40) (Operand.tmp 41) 24, type := 4, pos := "word.go:59", after := #[{ on := 12, ground := Ground.data }, { on := 13, ground := Ground.data }, { on := 11, ground := Ground.guard }], guard := some (11, false) }) rfl (fun K hK => ?_) AllReadyH.nil
    go_simp
    refine hK.out _ _ ⟨k.c0, k.c1, k.c2, n.c0⟩ (fun hHeld => ?_)
    clear hK K
    try simp only [Act.put, List.setIfInBounds_toArray, List.set_cons_zero, List.set_cons_succ]
    refine wpAnyH_take (i := 15) (oi := { dst := some 43, op := Op.pick (Operand.tmp 39) (Operand.const (Value.bool true)) (Operand.tmp 42), type := 4, pos := "word.go:59", after := #[{ on := 11, ground := Ground.data }, { on := 14, ground := Ground.data }], guard := none }) (v := ?_) rfl (by kernel_rfl) (by kernel_rfl) (by kernel_rfl) (fun _ _ _ h => h) (Or.inl ⟨by rfl, ?_⟩) (by assumption) ?_
    rotate_left
    · (intro w hSw; (try dsimp only at hSw); first | (go_simp; done) | (go_simp; with_reducible rfl))
    try simp only [Act.put, List.setIfInBounds_toArray, List.set_cons_zero, List.set_cons_succ]
    refine wpAnyH_ready (rs := [16]) (by kernel_rfl) (by simp) ?_
    refine AllReadyH.cons (o := { dst := some 6, op := Op.assign (Operand.tmp 43), type := 4, pos := "word.go:59", after := #[{ on := 15, ground := Ground.data }, { on := 11, ground := Ground.chain }, { on := 0, ground := Ground.phase }, { on := 1, ground := Ground.phase }, { on := 2, ground := Ground.phase }, { on := 3, ground := Ground.phase }, { on := 4, ground := Ground.phase }, { on := 5, ground := Ground.phase }, { on := 6, ground := Ground.phase }, { on := 7, ground := Ground.phase }, { on := 8, ground := Ground.phase }, { on := 9, ground := Ground.phase }, { on := 10, ground := Ground.phase }, { on := 11, ground := Ground.phase }, { on := 12, ground := Ground.phase }, { on := 13, ground := Ground.phase }, { on := 14, ground := Ground.phase }, { on := 15, ground := Ground.phase }], guard := none }) rfl (fun K hK => ?_) AllReadyH.nil
    go_simp
    refine hK.out _ _ ⟨k.c0, k.c1, k.c2, n.c0⟩ (fun hHeld => ?_)
    clear hK K
    try simp only [Act.put, List.setIfInBounds_toArray, List.set_cons_zero, List.set_cons_succ]
    refine wpAnyH_done (by kernel_rfl) ?_ _
    go_wp2_with fail
    go_ret
    exact ⟨rfl, k.bel⟩
theorem law_power (a b c : Nat) (_ : a < 2 ^ 256) (hb : b < 2 ^ 256) (hc : c < 2 ^ 256) (w : World) :
    Calls Try.prog 5 #[Wd a, Wd b, Wd c] w fun e w' => e = .returned (.bool true) ∧ Below w.heap.size w w' := by
  by_cases hs : b + c < 2 ^ 256
  · exact law_powerA a b c hb hc hs w
  · by_cases h1 : b + 1 < 2 ^ 256
    · exact law_powerB a b c hb hc (by omega) h1 w
    · exact law_powerC a b c hb hc (by omega) (by omega) w
end Go.Proofs.Ytdimohnapjfllab
