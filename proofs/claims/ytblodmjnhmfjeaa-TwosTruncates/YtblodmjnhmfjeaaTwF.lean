/- twos.Shl, Shr: bits moved up and down, part by part. -/
import Derived.Test.YtblodmjnhmfjeaaTwE
namespace Go.Proofs.Ytblodmjnhmfjeaa
open Go.RowKit Go.Shelf
/-- The first i parts of N, then noughts. -/
def FN (N i : Nat) : Nat → Value := fun o => if o < i then .int .u64 (dg N o) else .int .u64 (dg 0 o)
theorem FN_step (N i : Nat) (v : Int) (h : v = dg N i) (o : Nat) : Hm.updv (FN N i) i (.int .u64 v) o = FN N (i + 1) o := by
  unfold Hm.updv FN
  by_cases e : o = i
  · subst e; rw [if_pos rfl, if_pos (by omega), h]
  · rw [if_neg e]
    by_cases l : o < i
    · rw [if_pos l, if_pos (by omega)]
    · rw [if_neg l, if_neg (by omega)]
theorem shl_val (a P L i : Nat) (hP : P ≤ 4) (hL : L < 64) (hi : i < 4) (x y : Int) (s : Int) (hx : x = IntKind.i64.wrap ((i : Int) - P)) (hy : y = IntKind.i64.wrap (IntKind.i64.wrap ((i : Int) - P) - 1)) (hs : s = IntKind.u64.wrap (64 - (L : Int))) :
    bits .or .u64 (IntKind.u64.wrap ((ptn a x : Int) * 2 ^ min L 64)) ((ptn a y : Int) / 2 ^ min s.toNat 64) = dg (a * 2 ^ (64 * P + L) % 2 ^ 256) i := by
  have e1 : IntKind.i64.wrap ((i : Int) - P) = (i : Int) - P := by rw [IntKind.wrap_i64]; omega
  have e2 : IntKind.i64.wrap ((i : Int) - P - 1) = (i : Int) - P - 1 := by rw [IntKind.wrap_i64]; omega
  have e3 : s = ((64 - L : Nat) : Int) := by rw [hs, IntKind.wrap_u64]; omega
  rw [e1] at hx hy
  rw [e2] at hy
  subst hx hy e3
  have e4 : IntKind.u64.wrap ((ptn a ((i : Int) - P) : Int) * 2 ^ min L 64) = ((ptn a ((i : Int) - P) * 2 ^ L % 18446744073709551616 : Nat) : Int) := by rw [IntKind.wrap_u64, show min L 64 = L by omega]; simp
  have e5 : (ptn a ((i : Int) - P - 1) : Int) / 2 ^ min ((64 - L : Nat) : Int).toNat 64 = ((ptn a ((i : Int) - P - 1) / 2 ^ (64 - L) : Nat) : Int) := by
    rw [show min ((64 - L : Nat) : Int).toNat 64 = 64 - L by omega]; simp
  rw [e4, e5, u64_or_nat _ _ (Nat.mod_lt _ (by decide)) (Nat.lt_of_le_of_lt (Nat.div_le_self _ _) (ptn_lt _ _)), shl_dg a P L i hL hi]
  rfl
theorem shr_val (a P L i : Nat) (hP : P ≤ 4) (hL : L < 64) (hi : i < 4) (x y : Int) (s : Int) (hx : x = IntKind.i64.wrap ((i : Int) + P)) (hy : y = IntKind.i64.wrap (IntKind.i64.wrap ((i : Int) + P) + 1)) (hs : s = IntKind.u64.wrap (64 - (L : Int))) :
    bits .or .u64 ((ptn a x : Int) / 2 ^ min L 64) (IntKind.u64.wrap ((ptn a y : Int) * 2 ^ min s.toNat 64)) = dg (a / 2 ^ (64 * P + L)) i := by
  have e1 : IntKind.i64.wrap ((i : Int) + P) = (i : Int) + P := by rw [IntKind.wrap_i64]; omega
  have e2 : IntKind.i64.wrap ((i : Int) + P + 1) = (i : Int) + P + 1 := by rw [IntKind.wrap_i64]; omega
  have e3 : s = ((64 - L : Nat) : Int) := by rw [hs, IntKind.wrap_u64]; omega
  rw [e1] at hx hy
  rw [e2] at hy
  subst hx hy e3
  have e4 : IntKind.u64.wrap ((ptn a ((i : Int) + P + 1) : Int) * 2 ^ min ((64 - L : Nat) : Int).toNat 64) = ((ptn a ((i : Int) + P + 1) * 2 ^ (64 - L) % 18446744073709551616 : Nat) : Int) := by rw [IntKind.wrap_u64, show min ((64 - L : Nat) : Int).toNat 64 = 64 - L by omega]; simp
  have e5 : (ptn a ((i : Int) + P) : Int) / 2 ^ min L 64 = ((ptn a ((i : Int) + P) / 2 ^ L : Nat) : Int) := by
    rw [show min L 64 = L by omega]; simp
  rw [e4, e5, u64_or_nat _ _ (Nat.lt_of_le_of_lt (Nat.div_le_self _ _) (ptn_lt _ _)) (Nat.mod_lt _ (by decide)), shr_dg a P L i hL]
  rfl
set_option maxHeartbeats 4000000 in
set_option maxRecDepth 100000 in
theorem shl_any (n a : Nat) (hn : n < 2 ^ 256) (ha : a < 2 ^ 256) (w : World) :
    Calls Try.prog 20 #[Wd n, Wd a] w fun e w' => e = .returned (Wd (a * 2 ^ (min n 256) % 2 ^ 256)) ∧ Below w.heap.size w w' := by
  have KS : Hid (∀ w : World, Calls Try.prog 40 #[Wd n] w fun e w' => e = .returned (.tuple #[.int .i64 ((min n 256 / 64 : Nat) : Int), .int .u64 ((min n 256 % 64 : Nat) : Int)]) ∧ Below w.heap.size w w') := fun w => split_any n hn w
  have KP : Hid (∀ (k : Int) (w : World), Calls Try.prog 41 #[Wd a, .int .i64 k] w fun e w' => e = .returned (.int .u64 (ptn a k : Nat)) ∧ Below w.heap.size w w') := fun k w => part_any a ha k w
  have hz : min n 256 ≤ 256 := Nat.min_le_right _ _
  clear hn ha
  generalize min n 256 = z at *
  have hP : Hid (z / 64 ≤ 4) := show z / 64 ≤ 4 by omega
  have hL : Hid (z % 64 < 64) := show z % 64 < 64 by omega
  have eN : Hid (a * 2 ^ z % 2 ^ 256 = a * 2 ^ (64 * (z / 64) + z % 64) % 2 ^ 256) := by rw [Nat.div_add_mod]; exact rfl
  clear hz
  generalize a * 2 ^ z % 2 ^ 256 = N at *
  generalize z / 64 = P at *
  generalize z % 64 = L at *
  have m0 := Hm.new0 (g := w.heap.size + 1 + 1) (T := 24) (Hm.new4 (g := w.heap.size + 1) (n := a) (T := 24) (Hm.new4 (g := w.heap.size) (n := n) (T := 24) (Hm.start w) rfl) (by simp)) (by simp)
  conv => arg 3; unfold Wd
  go_enter Try.func20, Try.ntmps20
  go_wp2_with fail
  generalize ((w.alloc (.cells #[.int .u64 (dg n 0), .int .u64 (dg n 1), .int .u64 (dg n 2), .int .u64 (dg n 3)] 24)).alloc (.cells #[.int .u64 (dg a 0), .int .u64 (dg a 1), .int .u64 (dg a 2), .int .u64 (dg a 3)] 24)).alloc (.cells #[.int .u64 0, .int .u64 0, .int .u64 0, .int .u64 0] 24) = W0 at m0 ⊢
  refine (KS.out _).mono ?_
  rintro e w1 ⟨rfl, hb⟩
  have m1 := Hm.new0 (g := w1.heap.size) (T := 24) (Hm.below m0 hb) rfl
  have z1 : w.heap.size + 1 + 1 < w1.heap.size := ((Hm.below m0 hb).ok _ (List.mem_cons_self ..)).hi
  clear hb m0 KS
  go_wp2_with fail
  generalize w1.alloc (.cells #[.int .u64 0, .int .u64 0, .int .u64 0, .int .u64 0] 24) = W1 at m1 ⊢
  generalize hh : w1.heap.size = h at *
  replace m1 := Hm.ext (G := FN N 0) m1 (fun _ _ => rfl)
  clear hh w1
  have hne : ∀ b, b ∈ [Hm.W4 (w.heap.size + 1 + 1) 0, Hm.W4 (w.heap.size + 1) a, Hm.W4 w.heap.size n] → h ≠ b.g := by
    intro b hb
    simp only [List.mem_cons, List.not_mem_nil, or_false] at hb
    rcases hb with rfl | rfl | rfl <;> simp only [Hm.W4] <;> omega
  refine wp_loop_rounds 5 ?_
  rw [rounds_succ]
  go_upto_region 6 with fail
  refine RS.wp_region_two (Hm.Hd w [⟨h, 4, FN N 0⟩, Hm.W4 (w.heap.size + 1 + 1) 0, Hm.W4 (w.heap.size + 1) a, Hm.W4 w.heap.size n]) (Hm.Hd w [⟨h, 4, Hm.updv (FN N 0) 0 (.int .u64 ?_)⟩, Hm.W4 (w.heap.size + 1 + 1) 0, Hm.W4 (w.heap.size + 1) a, Hm.W4 w.heap.size n]) 19 (by kernel_rfl) (by kernel_rfl) (by decide) (Hm.drew m1) ?_
  rotate_left 1
  dsimp only [List.toList_toArray]
  iterate 19
    refine RS.go2 (v := ?_) (a' := ?_) (by decide) rfl ?_ ?_ ?_
    rotate_left 2
    · intro K wx hS hK
      have c1 : ∀ o, o < 4 → wx.cell? ⟨w.heap.size + 1, o, none⟩ = some (.int .u64 (dg a o)) := (hS.ok (Hm.W4 (w.heap.size + 1) a) (by simp)).c
      go_simp
      first | exact hK _ hS | (refine (KP.out _ _).mono (fun e w2 he => ?_); refine ⟨_, he.1, ?_⟩; exact hK _ (Hm.below hS he.2))
    · simp only [Act.put, List.setIfInBounds_toArray, List.set_cons_succ, List.set_cons_zero]
      rfl
  refine RS.go2_last (v := ?_) (a' := ?_) rfl (by kernel_rfl) rfl ?_ ?_ ?_
  rotate_left 2
  · intro K wx hS hK
    have c1 := (hS.ok _ (List.mem_cons_self ..)).c 0 (show 0 < 4 by decide)
    have f1 : ∀ o, wx.frozen? ⟨h, o, none⟩ = false := (hS.ok _ (List.mem_cons_self ..)).f
    go_simp
    refine hK _ ?_
    exact Hm.set hS (show 0 < 4 by decide) hne
  · exact rfl
  clear m1
  intro wx m1
  replace m1 := Hm.ext m1 (fun o _ => FN_step N 0 _ ((shl_val a P L 0 hP.out hL.out (by decide) _ _ _ (by simp) (by simp) rfl).trans (by rw [eN.out])) o)
  go_wp2_with fail
  rw [rounds_succ]
  go_upto_region 6 with fail
  refine RS.wp_region_two (Hm.Hd w [⟨h, 4, FN N 1⟩, Hm.W4 (w.heap.size + 1 + 1) 0, Hm.W4 (w.heap.size + 1) a, Hm.W4 w.heap.size n]) (Hm.Hd w [⟨h, 4, Hm.updv (FN N 1) 1 (.int .u64 ?_)⟩, Hm.W4 (w.heap.size + 1 + 1) 0, Hm.W4 (w.heap.size + 1) a, Hm.W4 w.heap.size n]) 19 (by kernel_rfl) (by kernel_rfl) (by decide) (Hm.drew m1) ?_
  rotate_left 1
  dsimp only [List.toList_toArray]
  iterate 19
    refine RS.go2 (v := ?_) (a' := ?_) (by decide) rfl ?_ ?_ ?_
    rotate_left 2
    · intro K wx hS hK
      have c1 : ∀ o, o < 4 → wx.cell? ⟨w.heap.size + 1, o, none⟩ = some (.int .u64 (dg a o)) := (hS.ok (Hm.W4 (w.heap.size + 1) a) (by simp)).c
      go_simp
      first | exact hK _ hS | (refine (KP.out _ _).mono (fun e w2 he => ?_); refine ⟨_, he.1, ?_⟩; exact hK _ (Hm.below hS he.2))
    · simp only [Act.put, List.setIfInBounds_toArray, List.set_cons_succ, List.set_cons_zero]
      rfl
  refine RS.go2_last (v := ?_) (a' := ?_) rfl (by kernel_rfl) rfl ?_ ?_ ?_
  rotate_left 2
  · intro K wx hS hK
    have c1 := (hS.ok _ (List.mem_cons_self ..)).c 1 (show 1 < 4 by decide)
    have f1 : ∀ o, wx.frozen? ⟨h, o, none⟩ = false := (hS.ok _ (List.mem_cons_self ..)).f
    go_simp
    refine hK _ ?_
    exact Hm.set hS (show 1 < 4 by decide) hne
  · exact rfl
  clear m1
  intro wx m1
  replace m1 := Hm.ext m1 (fun o _ => FN_step N 1 _ ((shl_val a P L 1 hP.out hL.out (by decide) _ _ _ (by simp) (by simp) rfl).trans (by rw [eN.out])) o)
  go_wp2_with fail
  rw [rounds_succ]
  go_upto_region 6 with fail
  refine RS.wp_region_two (Hm.Hd w [⟨h, 4, FN N 2⟩, Hm.W4 (w.heap.size + 1 + 1) 0, Hm.W4 (w.heap.size + 1) a, Hm.W4 w.heap.size n]) (Hm.Hd w [⟨h, 4, Hm.updv (FN N 2) 2 (.int .u64 ?_)⟩, Hm.W4 (w.heap.size + 1 + 1) 0, Hm.W4 (w.heap.size + 1) a, Hm.W4 w.heap.size n]) 19 (by kernel_rfl) (by kernel_rfl) (by decide) (Hm.drew m1) ?_
  rotate_left 1
  dsimp only [List.toList_toArray]
  iterate 19
    refine RS.go2 (v := ?_) (a' := ?_) (by decide) rfl ?_ ?_ ?_
    rotate_left 2
    · intro K wx hS hK
      have c1 : ∀ o, o < 4 → wx.cell? ⟨w.heap.size + 1, o, none⟩ = some (.int .u64 (dg a o)) := (hS.ok (Hm.W4 (w.heap.size + 1) a) (by simp)).c
      go_simp
      first | exact hK _ hS | (refine (KP.out _ _).mono (fun e w2 he => ?_); refine ⟨_, he.1, ?_⟩; exact hK _ (Hm.below hS he.2))
    · simp only [Act.put, List.setIfInBounds_toArray, List.set_cons_succ, List.set_cons_zero]
      rfl
  refine RS.go2_last (v := ?_) (a' := ?_) rfl (by kernel_rfl) rfl ?_ ?_ ?_
  rotate_left 2
  · intro K wx hS hK
    have c1 := (hS.ok _ (List.mem_cons_self ..)).c 2 (show 2 < 4 by decide)
    have f1 : ∀ o, wx.frozen? ⟨h, o, none⟩ = false := (hS.ok _ (List.mem_cons_self ..)).f
    go_simp
    refine hK _ ?_
    exact Hm.set hS (show 2 < 4 by decide) hne
  · exact rfl
  clear m1
  intro wx m1
  replace m1 := Hm.ext m1 (fun o _ => FN_step N 2 _ ((shl_val a P L 2 hP.out hL.out (by decide) _ _ _ (by simp) (by simp) rfl).trans (by rw [eN.out])) o)
  go_wp2_with fail
  rw [rounds_succ]
  go_upto_region 6 with fail
  refine RS.wp_region_two (Hm.Hd w [⟨h, 4, FN N 3⟩, Hm.W4 (w.heap.size + 1 + 1) 0, Hm.W4 (w.heap.size + 1) a, Hm.W4 w.heap.size n]) (Hm.Hd w [⟨h, 4, Hm.updv (FN N 3) 3 (.int .u64 ?_)⟩, Hm.W4 (w.heap.size + 1 + 1) 0, Hm.W4 (w.heap.size + 1) a, Hm.W4 w.heap.size n]) 19 (by kernel_rfl) (by kernel_rfl) (by decide) (Hm.drew m1) ?_
  rotate_left 1
  dsimp only [List.toList_toArray]
  iterate 19
    refine RS.go2 (v := ?_) (a' := ?_) (by decide) rfl ?_ ?_ ?_
    rotate_left 2
    · intro K wx hS hK
      have c1 : ∀ o, o < 4 → wx.cell? ⟨w.heap.size + 1, o, none⟩ = some (.int .u64 (dg a o)) := (hS.ok (Hm.W4 (w.heap.size + 1) a) (by simp)).c
      go_simp
      first | exact hK _ hS | (refine (KP.out _ _).mono (fun e w2 he => ?_); refine ⟨_, he.1, ?_⟩; exact hK _ (Hm.below hS he.2))
    · simp only [Act.put, List.setIfInBounds_toArray, List.set_cons_succ, List.set_cons_zero]
      rfl
  refine RS.go2_last (v := ?_) (a' := ?_) rfl (by kernel_rfl) rfl ?_ ?_ ?_
  rotate_left 2
  · intro K wx hS hK
    have c1 := (hS.ok _ (List.mem_cons_self ..)).c 3 (show 3 < 4 by decide)
    have f1 : ∀ o, wx.frozen? ⟨h, o, none⟩ = false := (hS.ok _ (List.mem_cons_self ..)).f
    go_simp
    refine hK _ ?_
    exact Hm.set hS (show 3 < 4 by decide) hne
  · exact rfl
  clear m1
  intro wx m1
  replace m1 := Hm.ext m1 (fun o _ => FN_step N 3 _ ((shl_val a P L 3 hP.out hL.out (by decide) _ _ _ (by simp) (by simp) rfl).trans (by rw [eN.out])) o)
  go_wp2_with fail
  rw [rounds_succ]
  have c3 : ∀ o, o < 4 → wx.cell? ⟨h, o, none⟩ = some (.int .u64 (dg N o)) := fun o ho => by
    have := (m1.ok _ (List.mem_cons_self ..)).c o ho
    rw [this]; exact congrArg some (if_pos ho)
  have m2 : Hm.Hd w [⟨w.heap.size + 1 + 1, 4, fun o => .int .u64 (dg 0 o)⟩] wx := Hm.sub m1 (by intro k hk; simp only [List.mem_cons, List.not_mem_nil, or_false] at hk; subst hk; simp [Hm.W4])
  clear m1
  have c2 : ∀ o, o < 4 → wx.cell? ⟨w.heap.size + 1 + 1, o, none⟩ = some (.int .u64 (dg 0 o)) := (m2.ok _ (List.mem_cons_self ..)).c
  have f2 : ∀ o, wx.frozen? ⟨w.heap.size + 1 + 1, o, none⟩ = false := (m2.ok _ (List.mem_cons_self ..)).f
  have HV : Hid (Hm.Hd w [Hm.W4 (w.heap.size + 1 + 1) N] _) := Hm.set4 m2 (by simp)
  clear m2
  go_wp2_with fail
  exact bodyPost_ret (v := Wd N) (resultTw _ _ _ (w.heap.size + 1 + 1) N 4 rfl rfl (HV.out.ok _ (List.mem_cons_self ..)).c) rfl ⟨rfl, HV.out.bel⟩
set_option maxHeartbeats 4000000 in
set_option maxRecDepth 100000 in
theorem shr_any (n a : Nat) (hn : n < 2 ^ 256) (ha : a < 2 ^ 256) (w : World) :
    Calls Try.prog 21 #[Wd n, Wd a] w fun e w' => e = .returned (Wd (a / 2 ^ (min n 256))) ∧ Below w.heap.size w w' := by
  have KS : Hid (∀ w : World, Calls Try.prog 40 #[Wd n] w fun e w' => e = .returned (.tuple #[.int .i64 ((min n 256 / 64 : Nat) : Int), .int .u64 ((min n 256 % 64 : Nat) : Int)]) ∧ Below w.heap.size w w') := fun w => split_any n hn w
  have KP : Hid (∀ (k : Int) (w : World), Calls Try.prog 41 #[Wd a, .int .i64 k] w fun e w' => e = .returned (.int .u64 (ptn a k : Nat)) ∧ Below w.heap.size w w') := fun k w => part_any a ha k w
  have hz : min n 256 ≤ 256 := Nat.min_le_right _ _
  clear hn ha
  generalize min n 256 = z at *
  have hP : Hid (z / 64 ≤ 4) := show z / 64 ≤ 4 by omega
  have hL : Hid (z % 64 < 64) := show z % 64 < 64 by omega
  have eN : Hid (a / 2 ^ z = a / 2 ^ (64 * (z / 64) + z % 64)) := by rw [Nat.div_add_mod]; exact rfl
  clear hz
  generalize a / 2 ^ z = N at *
  generalize z / 64 = P at *
  generalize z % 64 = L at *
  have m0 := Hm.new0 (g := w.heap.size + 1 + 1) (T := 24) (Hm.new4 (g := w.heap.size + 1) (n := a) (T := 24) (Hm.new4 (g := w.heap.size) (n := n) (T := 24) (Hm.start w) rfl) (by simp)) (by simp)
  conv => arg 3; unfold Wd
  go_enter Try.func21, Try.ntmps21
  go_wp2_with fail
  generalize ((w.alloc (.cells #[.int .u64 (dg n 0), .int .u64 (dg n 1), .int .u64 (dg n 2), .int .u64 (dg n 3)] 24)).alloc (.cells #[.int .u64 (dg a 0), .int .u64 (dg a 1), .int .u64 (dg a 2), .int .u64 (dg a 3)] 24)).alloc (.cells #[.int .u64 0, .int .u64 0, .int .u64 0, .int .u64 0] 24) = W0 at m0 ⊢
  refine (KS.out _).mono ?_
  rintro e w1 ⟨rfl, hb⟩
  have m1 := Hm.new0 (g := w1.heap.size) (T := 24) (Hm.below m0 hb) rfl
  have z1 : w.heap.size + 1 + 1 < w1.heap.size := ((Hm.below m0 hb).ok _ (List.mem_cons_self ..)).hi
  clear hb m0 KS
  go_wp2_with fail
  generalize w1.alloc (.cells #[.int .u64 0, .int .u64 0, .int .u64 0, .int .u64 0] 24) = W1 at m1 ⊢
  generalize hh : w1.heap.size = h at *
  replace m1 := Hm.ext (G := FN N 0) m1 (fun _ _ => rfl)
  clear hh w1
  have hne : ∀ b, b ∈ [Hm.W4 (w.heap.size + 1 + 1) 0, Hm.W4 (w.heap.size + 1) a, Hm.W4 w.heap.size n] → h ≠ b.g := by
    intro b hb
    simp only [List.mem_cons, List.not_mem_nil, or_false] at hb
    rcases hb with rfl | rfl | rfl <;> simp only [Hm.W4] <;> omega
  refine wp_loop_rounds 5 ?_
  rw [rounds_succ]
  go_upto_region 6 with fail
  refine RS.wp_region_two (Hm.Hd w [⟨h, 4, FN N 0⟩, Hm.W4 (w.heap.size + 1 + 1) 0, Hm.W4 (w.heap.size + 1) a, Hm.W4 w.heap.size n]) (Hm.Hd w [⟨h, 4, Hm.updv (FN N 0) 0 (.int .u64 ?_)⟩, Hm.W4 (w.heap.size + 1 + 1) 0, Hm.W4 (w.heap.size + 1) a, Hm.W4 w.heap.size n]) 19 (by kernel_rfl) (by kernel_rfl) (by decide) (Hm.drew m1) ?_
  rotate_left 1
  dsimp only [List.toList_toArray]
  iterate 19
    refine RS.go2 (v := ?_) (a' := ?_) (by decide) rfl ?_ ?_ ?_
    rotate_left 2
    · intro K wx hS hK
      have c1 : ∀ o, o < 4 → wx.cell? ⟨w.heap.size + 1, o, none⟩ = some (.int .u64 (dg a o)) := (hS.ok (Hm.W4 (w.heap.size + 1) a) (by simp)).c
      go_simp
      first | exact hK _ hS | (refine (KP.out _ _).mono (fun e w2 he => ?_); refine ⟨_, he.1, ?_⟩; exact hK _ (Hm.below hS he.2))
    · simp only [Act.put, List.setIfInBounds_toArray, List.set_cons_succ, List.set_cons_zero]
      rfl
  refine RS.go2_last (v := ?_) (a' := ?_) rfl (by kernel_rfl) rfl ?_ ?_ ?_
  rotate_left 2
  · intro K wx hS hK
    have c1 := (hS.ok _ (List.mem_cons_self ..)).c 0 (show 0 < 4 by decide)
    have f1 : ∀ o, wx.frozen? ⟨h, o, none⟩ = false := (hS.ok _ (List.mem_cons_self ..)).f
    go_simp
    refine hK _ ?_
    exact Hm.set hS (show 0 < 4 by decide) hne
  · exact rfl
  clear m1
  intro wx m1
  replace m1 := Hm.ext m1 (fun o _ => FN_step N 0 _ ((shr_val a P L 0 hP.out hL.out (by decide) _ _ _ (by simp) (by simp) rfl).trans (by rw [eN.out])) o)
  go_wp2_with fail
  rw [rounds_succ]
  go_upto_region 6 with fail
  refine RS.wp_region_two (Hm.Hd w [⟨h, 4, FN N 1⟩, Hm.W4 (w.heap.size + 1 + 1) 0, Hm.W4 (w.heap.size + 1) a, Hm.W4 w.heap.size n]) (Hm.Hd w [⟨h, 4, Hm.updv (FN N 1) 1 (.int .u64 ?_)⟩, Hm.W4 (w.heap.size + 1 + 1) 0, Hm.W4 (w.heap.size + 1) a, Hm.W4 w.heap.size n]) 19 (by kernel_rfl) (by kernel_rfl) (by decide) (Hm.drew m1) ?_
  rotate_left 1
  dsimp only [List.toList_toArray]
  iterate 19
    refine RS.go2 (v := ?_) (a' := ?_) (by decide) rfl ?_ ?_ ?_
    rotate_left 2
    · intro K wx hS hK
      have c1 : ∀ o, o < 4 → wx.cell? ⟨w.heap.size + 1, o, none⟩ = some (.int .u64 (dg a o)) := (hS.ok (Hm.W4 (w.heap.size + 1) a) (by simp)).c
      go_simp
      first | exact hK _ hS | (refine (KP.out _ _).mono (fun e w2 he => ?_); refine ⟨_, he.1, ?_⟩; exact hK _ (Hm.below hS he.2))
    · simp only [Act.put, List.setIfInBounds_toArray, List.set_cons_succ, List.set_cons_zero]
      rfl
  refine RS.go2_last (v := ?_) (a' := ?_) rfl (by kernel_rfl) rfl ?_ ?_ ?_
  rotate_left 2
  · intro K wx hS hK
    have c1 := (hS.ok _ (List.mem_cons_self ..)).c 1 (show 1 < 4 by decide)
    have f1 : ∀ o, wx.frozen? ⟨h, o, none⟩ = false := (hS.ok _ (List.mem_cons_self ..)).f
    go_simp
    refine hK _ ?_
    exact Hm.set hS (show 1 < 4 by decide) hne
  · exact rfl
  clear m1
  intro wx m1
  replace m1 := Hm.ext m1 (fun o _ => FN_step N 1 _ ((shr_val a P L 1 hP.out hL.out (by decide) _ _ _ (by simp) (by simp) rfl).trans (by rw [eN.out])) o)
  go_wp2_with fail
  rw [rounds_succ]
  go_upto_region 6 with fail
  refine RS.wp_region_two (Hm.Hd w [⟨h, 4, FN N 2⟩, Hm.W4 (w.heap.size + 1 + 1) 0, Hm.W4 (w.heap.size + 1) a, Hm.W4 w.heap.size n]) (Hm.Hd w [⟨h, 4, Hm.updv (FN N 2) 2 (.int .u64 ?_)⟩, Hm.W4 (w.heap.size + 1 + 1) 0, Hm.W4 (w.heap.size + 1) a, Hm.W4 w.heap.size n]) 19 (by kernel_rfl) (by kernel_rfl) (by decide) (Hm.drew m1) ?_
  rotate_left 1
  dsimp only [List.toList_toArray]
  iterate 19
    refine RS.go2 (v := ?_) (a' := ?_) (by decide) rfl ?_ ?_ ?_
    rotate_left 2
    · intro K wx hS hK
      have c1 : ∀ o, o < 4 → wx.cell? ⟨w.heap.size + 1, o, none⟩ = some (.int .u64 (dg a o)) := (hS.ok (Hm.W4 (w.heap.size + 1) a) (by simp)).c
      go_simp
      first | exact hK _ hS | (refine (KP.out _ _).mono (fun e w2 he => ?_); refine ⟨_, he.1, ?_⟩; exact hK _ (Hm.below hS he.2))
    · simp only [Act.put, List.setIfInBounds_toArray, List.set_cons_succ, List.set_cons_zero]
      rfl
  refine RS.go2_last (v := ?_) (a' := ?_) rfl (by kernel_rfl) rfl ?_ ?_ ?_
  rotate_left 2
  · intro K wx hS hK
    have c1 := (hS.ok _ (List.mem_cons_self ..)).c 2 (show 2 < 4 by decide)
    have f1 : ∀ o, wx.frozen? ⟨h, o, none⟩ = false := (hS.ok _ (List.mem_cons_self ..)).f
    go_simp
    refine hK _ ?_
    exact Hm.set hS (show 2 < 4 by decide) hne
  · exact rfl
  clear m1
  intro wx m1
  replace m1 := Hm.ext m1 (fun o _ => FN_step N 2 _ ((shr_val a P L 2 hP.out hL.out (by decide) _ _ _ (by simp) (by simp) rfl).trans (by rw [eN.out])) o)
  go_wp2_with fail
  rw [rounds_succ]
  go_upto_region 6 with fail
  refine RS.wp_region_two (Hm.Hd w [⟨h, 4, FN N 3⟩, Hm.W4 (w.heap.size + 1 + 1) 0, Hm.W4 (w.heap.size + 1) a, Hm.W4 w.heap.size n]) (Hm.Hd w [⟨h, 4, Hm.updv (FN N 3) 3 (.int .u64 ?_)⟩, Hm.W4 (w.heap.size + 1 + 1) 0, Hm.W4 (w.heap.size + 1) a, Hm.W4 w.heap.size n]) 19 (by kernel_rfl) (by kernel_rfl) (by decide) (Hm.drew m1) ?_
  rotate_left 1
  dsimp only [List.toList_toArray]
  iterate 19
    refine RS.go2 (v := ?_) (a' := ?_) (by decide) rfl ?_ ?_ ?_
    rotate_left 2
    · intro K wx hS hK
      have c1 : ∀ o, o < 4 → wx.cell? ⟨w.heap.size + 1, o, none⟩ = some (.int .u64 (dg a o)) := (hS.ok (Hm.W4 (w.heap.size + 1) a) (by simp)).c
      go_simp
      first | exact hK _ hS | (refine (KP.out _ _).mono (fun e w2 he => ?_); refine ⟨_, he.1, ?_⟩; exact hK _ (Hm.below hS he.2))
    · simp only [Act.put, List.setIfInBounds_toArray, List.set_cons_succ, List.set_cons_zero]
      rfl
  refine RS.go2_last (v := ?_) (a' := ?_) rfl (by kernel_rfl) rfl ?_ ?_ ?_
  rotate_left 2
  · intro K wx hS hK
    have c1 := (hS.ok _ (List.mem_cons_self ..)).c 3 (show 3 < 4 by decide)
    have f1 : ∀ o, wx.frozen? ⟨h, o, none⟩ = false := (hS.ok _ (List.mem_cons_self ..)).f
    go_simp
    refine hK _ ?_
    exact Hm.set hS (show 3 < 4 by decide) hne
  · exact rfl
  clear m1
  intro wx m1
  replace m1 := Hm.ext m1 (fun o _ => FN_step N 3 _ ((shr_val a P L 3 hP.out hL.out (by decide) _ _ _ (by simp) (by simp) rfl).trans (by rw [eN.out])) o)
  go_wp2_with fail
  rw [rounds_succ]
  have c3 : ∀ o, o < 4 → wx.cell? ⟨h, o, none⟩ = some (.int .u64 (dg N o)) := fun o ho => by
    have := (m1.ok _ (List.mem_cons_self ..)).c o ho
    rw [this]; exact congrArg some (if_pos ho)
  have m2 : Hm.Hd w [⟨w.heap.size + 1 + 1, 4, fun o => .int .u64 (dg 0 o)⟩] wx := Hm.sub m1 (by intro k hk; simp only [List.mem_cons, List.not_mem_nil, or_false] at hk; subst hk; simp [Hm.W4])
  clear m1
  have c2 : ∀ o, o < 4 → wx.cell? ⟨w.heap.size + 1 + 1, o, none⟩ = some (.int .u64 (dg 0 o)) := (m2.ok _ (List.mem_cons_self ..)).c
  have f2 : ∀ o, wx.frozen? ⟨w.heap.size + 1 + 1, o, none⟩ = false := (m2.ok _ (List.mem_cons_self ..)).f
  have HV : Hid (Hm.Hd w [Hm.W4 (w.heap.size + 1 + 1) N] _) := Hm.set4 m2 (by simp)
  clear m2
  go_wp2_with fail
  exact bodyPost_ret (v := Wd N) (resultTw _ _ _ (w.heap.size + 1 + 1) N 4 rfl rfl (HV.out.ok _ (List.mem_cons_self ..)).c) rfl ⟨rfl, HV.out.bel⟩
end Go.Proofs.Ytblodmjnhmfjeaa
