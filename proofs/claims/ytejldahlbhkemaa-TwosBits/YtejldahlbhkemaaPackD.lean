/- twos.Shl, Shr: bits moved up and down, part by part. -/
import Derived.Test.YtejldahlbhkemaaPackC
import Derived.Test.YtejldahlbhkemaaPackB
import Derived.Test.YtejldahlbhkemaaPackA
import Derived.Laws.BitsAllLaws
import Derived.Deep.MidRow
import Derived.Deep.Cut
import Derived.Laws.BytesArg
import Derived.Laws.MakeOwn
import Derived.Test.YtejldahlbhkemaaRows
import Derived.Deep.AppendLies
namespace Go.Proofs.Ytejldahlbhkemaa
open Go.RowKit Go.Shelf
/-- The first i parts of N, then noughts. -/
def FN (N i : Nat) : Nat → Value := fun o => if o < i then .int .u64 (dg N o) else .int .u64 (dg 0 o)
theorem FN_step (N i : Nat) (v : Int) (h : v = dg N i) (o : Nat) : Hm.updv (FN N i) i (.int .u64 v) o = FN N (i + 1) o := by
  unfold Hm.updv FN
  by_cases e : o = i
  · subst e; rw [if_pos rfl, if_pos (by omega), h]
  · rw [if_neg e]
    by_cases l : o < i
    · rw [if_pos l, if_pos (by omega)]
    · rw [if_neg l, if_neg (by omega)]
theorem shl_val (a P L i : Nat) (hP : P ≤ 4) (hL : L < 64) (hi : i < 4) (x y : Int) (s : Int) (hx : x = IntKind.i64.wrap ((i : Int) - P)) (hy : y = IntKind.i64.wrap (IntKind.i64.wrap ((i : Int) - P) - 1)) (hs : s = IntKind.u64.wrap (64 - (L : Int))) :
    bits .or .u64 (IntKind.u64.wrap ((ptn a x : Int) * 2 ^ min L 64)) ((ptn a y : Int) / 2 ^ min s.toNat 64) = dg (a * 2 ^ (64 * P + L) % 2 ^ 256) i := by
  have e1 : IntKind.i64.wrap ((i : Int) - P) = (i : Int) - P := by rw [IntKind.wrap_i64]; omega
  have e2 : IntKind.i64.wrap ((i : Int) - P - 1) = (i : Int) - P - 1 := by rw [IntKind.wrap_i64]; omega
  have e3 : s = ((64 - L : Nat) : Int) := by rw [hs, IntKind.wrap_u64]; omega
  rw [e1] at hx hy
  rw [e2] at hy
  subst hx hy e3
  have e4 : IntKind.u64.wrap ((ptn a ((i : Int) - P) : Int) * 2 ^ min L 64) = ((ptn a ((i : Int) - P) * 2 ^ L % 18446744073709551616 : Nat) : Int) := by rw [IntKind.wrap_u64, show min L 64 = L by omega]; simp
  have e5 : (ptn a ((i : Int) - P - 1) : Int) / 2 ^ min ((64 - L : Nat) : Int).toNat 64 = ((ptn a ((i : Int) - P - 1) / 2 ^ (64 - L) : Nat) : Int) := by
    rw [show min ((64 - L : Nat) : Int).toNat 64 = 64 - L by omega]; simp
  rw [e4, e5, u64_or_nat _ _ (Nat.mod_lt _ (by decide)) (Nat.lt_of_le_of_lt (Nat.div_le_self _ _) (ptn_lt _ _)), shl_dg a P L i hL hi]
  rfl
theorem shr_val (a P L i : Nat) (hP : P ≤ 4) (hL : L < 64) (hi : i < 4) (x y : Int) (s : Int) (hx : x = IntKind.i64.wrap ((i : Int) + P)) (hy : y = IntKind.i64.wrap (IntKind.i64.wrap ((i : Int) + P) + 1)) (hs : s = IntKind.u64.wrap (64 - (L : Int))) :
    bits .or .u64 ((ptn a x : Int) / 2 ^ min L 64) (IntKind.u64.wrap ((ptn a y : Int) * 2 ^ min s.toNat 64)) = dg (a / 2 ^ (64 * P + L)) i := by
  have e1 : IntKind.i64.wrap ((i : Int) + P) = (i : Int) + P := by rw [IntKind.wrap_i64]; omega
  have e2 : IntKind.i64.wrap ((i : Int) + P + 1) = (i : Int) + P + 1 := by rw [IntKind.wrap_i64]; omega
  have e3 : s = ((64 - L : Nat) : Int) := by rw [hs, IntKind.wrap_u64]; omega
  rw [e1] at hx hy
  rw [e2] at hy
  subst hx hy e3
  have e4 : IntKind.u64.wrap ((ptn a ((i : Int) + P + 1) : Int) * 2 ^ min ((64 - L : Nat) : Int).toNat 64) = ((ptn a ((i : Int) + P + 1) * 2 ^ (64 - L) % 18446744073709551616 : Nat) : Int) := by rw [IntKind.wrap_u64, show min ((64 - L : Nat) : Int).toNat 64 = 64 - L by omega]; simp
  have e5 : (ptn a ((i : Int) + P) : Int) / 2 ^ min L 64 = ((ptn a ((i : Int) + P) / 2 ^ L : Nat) : Int) := by
    rw [show min L 64 = L by omega]; simp
  rw [e4, e5, u64_or_nat _ _ (Nat.lt_of_le_of_lt (Nat.div_le_self _ _) (ptn_lt _ _)) (Nat.mod_lt _ (by decide)), shr_dg a P L i hL]
  rfl
set_option maxHeartbeats 4000000 in
set_option maxRecDepth 100000 in
theorem shl_any (n a : Nat) (hn : n < 2 ^ 256) (ha : a < 2 ^ 256) (w : World) :
    Calls Try.prog 13 #[Wd n, Wd a] w fun e w' => e = .returned (Wd (a * 2 ^ (min n 256) % 2 ^ 256)) ∧ Below w.heap.size w w' := by
  have KS : Hid (∀ w : World, Calls Try.prog 32 #[Wd n] w fun e w' => e = .returned (.tuple #[.int .i64 ((min n 256 / 64 : Nat) : Int), .int .u64 ((min n 256 % 64 : Nat) : Int)]) ∧ Below w.heap.size w w') := fun w => split_any n hn w
  have KP : Hid (∀ (k : Int) (w : World), Calls Try.prog 33 #[Wd a, .int .i64 k] w fun e w' => e = .returned (.int .u64 (ptn a k : Nat)) ∧ Below w.heap.size w w') := fun k w => part_any a ha k w
  have hz : min n 256 ≤ 256 := Nat.min_le_right _ _
  clear hn ha
  generalize min n 256 = z at *
  have hP : Hid (z / 64 ≤ 4) := show z / 64 ≤ 4 by omega
  have hL : Hid (z % 64 < 64) := show z % 64 < 64 by omega
  have eN : Hid (a * 2 ^ z % 2 ^ 256 = a * 2 ^ (64 * (z / 64) + z % 64) % 2 ^ 256) := by rw [Nat.div_add_mod]; exact rfl
  clear hz
  generalize a * 2 ^ z % 2 ^ 256 = N at *
  generalize z / 64 = P at *
  generalize z % 64 = L at *
  have m0 := Hm.new0 (g := w.heap.size + 1 + 1) (T := 24) (Hm.new4 (g := w.heap.size + 1) (n := a) (T := 24) (Hm.new4 (g := w.heap.size) (n := n) (T := 24) (Hm.start w) rfl) (by simp)) (by simp)
  conv => arg 3; unfold Wd
  go_enter Try.func13, Try.ntmps13
  go_wp2_with fail
  generalize ((w.alloc (.cells #[.int .u64 (dg n 0), .int .u64 (dg n 1), .int .u64 (dg n 2), .int .u64 (dg n 3)] 24)).alloc (.cells #[.int .u64 (dg a 0), .int .u64 (dg a 1), .int .u64 (dg a 2), .int .u64 (dg a 3)] 24)).alloc (.cells #[.int .u64 0, .int .u64 0, .int .u64 0, .int .u64 0] 24) = W0 at m0 ⊢
  refine (KS.out _).mono ?_
  rintro e w1 ⟨rfl, hb⟩
  have m1 := Hm.new0 (g := w1.heap.size) (T := 24) (Hm.below m0 hb) rfl
  have z1 : w.heap.size + 1 + 1 < w1.heap.size := ((Hm.below m0 hb).ok _ (List.mem_cons_self ..)).hi
  clear hb m0 KS
  go_wp2_with fail
  generalize w1.alloc (.cells #[.int .u64 0, .int .u64 0, .int .u64 0, .int .u64 0] 24) = W1 at m1 ⊢
  generalize hh : w1.heap.size = h at *
  replace m1 := Hm.ext (G := FN N 0) m1 (fun _ _ => rfl)
  clear hh w1
  have hne : ∀ b, b ∈ [Hm.W4 (w.heap.size + 1 + 1) 0, Hm.W4 (w.heap.size + 1) a, Hm.W4 w.heap.size n] → h ≠ b.g := by
    intro b hb
    simp only [List.mem_cons, List.not_mem_nil, or_false] at hb
    rcases hb with rfl | rfl | rfl <;> simp only [Hm.W4] <;> omega
  refine wp_loop_rounds 5 ?_
  rw [rounds_succ]
  go_upto_region 6 with fail
  refine RS.wp_region_two (Hm.Hd w [⟨h, 4, FN N 0⟩, Hm.W4 (w.heap.size + 1 + 1) 0, Hm.W4 (w.heap.size + 1) a, Hm.W4 w.heap.size n]) (Hm.Hd w [⟨h, 4, Hm.updv (FN N 0) 0 (.int .u64 ?_)⟩, Hm.W4 (w.heap.size + 1 + 1) 0, Hm.W4 (w.heap.size + 1) a, Hm.W4 w.heap.size n]) 19 (by kernel_rfl) (by kernel_rfl) (by decide) (Hm.drew m1) ?_
  rotate_left 1
  dsimp only [List.toList_toArray]
  iterate 19
    refine RS.go2 (v := ?_) (a' := ?_) (by decide) rfl ?_ ?_ ?_
    rotate_left 2
    · intro K wx hS hK
      have c1 : ∀ o, o < 4 → wx.cell? ⟨w.heap.size + 1, o, none⟩ = some (.int .u64 (dg a o)) := (hS.ok (Hm.W4 (w.heap.size + 1) a) (by simp)).c
      go_simp
      first | exact hK _ hS | (refine (KP.out _ _).mono (fun e w2 he => ?_); refine ⟨_, he.1, ?_⟩; exact hK _ (Hm.below hS he.2))
    · simp only [Act.put, List.setIfInBounds_toArray, List.set_cons_succ, List.set_cons_zero]
      rfl
  refine RS.go2_last (v := ?_) (a' := ?_) rfl (by kernel_rfl) rfl ?_ ?_ ?_
  rotate_left 2
  · intro K wx hS hK
    have c1 := (hS.ok _ (List.mem_cons_self ..)).c 0 (show 0 < 4 by decide)
    have f1 : ∀ o, wx.frozen? ⟨h, o, none⟩ = false := (hS.ok _ (List.mem_cons_self ..)).f
    go_simp
    refine hK _ ?_
    exact Hm.set hS (show 0 < 4 by decide) hne
  · exact rfl
  clear m1
  intro wx m1
  replace m1 := Hm.ext m1 (fun o _ => FN_step N 0 _ ((shl_val a P L 0 hP.out hL.out (by decide) _ _ _ (by simp) (by simp) rfl).trans (by rw [eN.out])) o)
  go_wp2_with fail
  rw [rounds_succ]
  go_upto_region 6 with fail
  refine RS.wp_region_two (Hm.Hd w [⟨h, 4, FN N 1⟩, Hm.W4 (w.heap.size + 1 + 1) 0, Hm.W4 (w.heap.size + 1) a, Hm.W4 w.heap.size n]) (Hm.Hd w [⟨h, 4, Hm.updv (FN N 1) 1 (.int .u64 ?_)⟩, Hm.W4 (w.heap.size + 1 + 1) 0, Hm.W4 (w.heap.size + 1) a, Hm.W4 w.heap.size n]) 19 (by kernel_rfl) (by kernel_rfl) (by decide) (Hm.drew m1) ?_
  rotate_left 1
  dsimp only [List.toList_toArray]
  iterate 19
    refine RS.go2 (v := ?_) (a' := ?_) (by decide) rfl ?_ ?_ ?_
    rotate_left 2
    · intro K wx hS hK
      have c1 : ∀ o, o < 4 → wx.cell? ⟨w.heap.size + 1, o, none⟩ = some (.int .u64 (dg a o)) := (hS.ok (Hm.W4 (w.heap.size + 1) a) (by simp)).c
      go_simp
      first | exact hK _ hS | (refine (KP.out _ _).mono (fun e w2 he => ?_); refine ⟨_, he.1, ?_⟩; exact hK _ (Hm.below hS he.2))
    · simp only [Act.put, List.setIfInBounds_toArray, List.set_cons_succ, List.set_cons_zero]
      rfl
  refine RS.go2_last (v := ?_) (a' := ?_) rfl (by kernel_rfl) rfl ?_ ?_ ?_
  rotate_left 2
  · intro K wx hS hK
    have c1 := (hS.ok _ (List.mem_cons_self ..)).c 1 (show 1 < 4 by decide)
    have f1 : ∀ o, wx.frozen? ⟨h, o, none⟩ = false := (hS.ok _ (List.mem_cons_self ..)).f
    go_simp
    refine hK _ ?_
    exact Hm.set hS (show 1 < 4 by decide) hne
  · exact rfl
  clear m1
  intro wx m1
  replace m1 := Hm.ext m1 (fun o _ => FN_step N 1 _ ((shl_val a P L 1 hP.out hL.out (by decide) _ _ _ (by simp) (by simp) rfl).trans (by rw [eN.out])) o)
  go_wp2_with fail
  rw [rounds_succ]
  go_upto_region 6 with fail
  refine RS.wp_region_two (Hm.Hd w [⟨h, 4, FN N 2⟩, Hm.W4 (w.heap.size + 1 + 1) 0, Hm.W4 (w.heap.size + 1) a, Hm.W4 w.heap.size n]) (Hm.Hd w [⟨h, 4, Hm.updv (FN N 2) 2 (.int .u64 ?_)⟩, Hm.W4 (w.heap.size + 1 + 1) 0, Hm.W4 (w.heap.size + 1) a, Hm.W4 w.heap.size n]) 19 (by kernel_rfl) (by kernel_rfl) (by decide) (Hm.drew m1) ?_
  rotate_left 1
  dsimp only [List.toList_toArray]
  iterate 19
    refine RS.go2 (v := ?_) (a' := ?_) (by decide) rfl ?_ ?_ ?_
    rotate_left 2
    · intro K wx hS hK
      have c1 : ∀ o, o < 4 → wx.cell? ⟨w.heap.size + 1, o, none⟩ = some (.int .u64 (dg a o)) := (hS.ok (Hm.W4 (w.heap.size + 1) a) (by simp)).c
      go_simp
      first | exact hK _ hS | (refine (KP.out _ _).mono (fun e w2 he => ?_); refine ⟨_, he.1, ?_⟩; exact hK _ (Hm.below hS he.2))
    · simp only [Act.put, List.setIfInBounds_toArray, List.set_cons_succ, List.set_cons_zero]
      rfl
  refine RS.go2_last (v := ?_) (a' := ?_) rfl (by kernel_rfl) rfl ?_ ?_ ?_
  rotate_left 2
  · intro K wx hS hK
    have c1 := (hS.ok _ (List.mem_cons_self ..)).c 2 (show 2 < 4 by decide)
    have f1 : ∀ o, wx.frozen? ⟨h, o, none⟩ = false := (hS.ok _ (List.mem_cons_self ..)).f
    go_simp
    refine hK _ ?_
    exact Hm.set hS (show 2 < 4 by decide) hne
  · exact rfl
  clear m1
  intro wx m1
  replace m1 := Hm.ext m1 (fun o _ => FN_step N 2 _ ((shl_val a P L 2 hP.out hL.out (by decide) _ _ _ (by simp) (by simp) rfl).trans (by rw [eN.out])) o)
  go_wp2_with fail
  rw [rounds_succ]
  go_upto_region 6 with fail
  refine RS.wp_region_two (Hm.Hd w [⟨h, 4, FN N 3⟩, Hm.W4 (w.heap.size + 1 + 1) 0, Hm.W4 (w.heap.size + 1) a, Hm.W4 w.heap.size n]) (Hm.Hd w [⟨h, 4, Hm.updv (FN N 3) 3 (.int .u64 ?_)⟩, Hm.W4 (w.heap.size + 1 + 1) 0, Hm.W4 (w.heap.size + 1) a, Hm.W4 w.heap.size n]) 19 (by kernel_rfl) (by kernel_rfl) (by decide) (Hm.drew m1) ?_
  rotate_left 1
  dsimp only [List.toList_toArray]
  iterate 19
    refine RS.go2 (v := ?_) (a' := ?_) (by decide) rfl ?_ ?_ ?_
    rotate_left 2
    · intro K wx hS hK
      have c1 : ∀ o, o < 4 → wx.cell? ⟨w.heap.size + 1, o, none⟩ = some (.int .u64 (dg a o)) := (hS.ok (Hm.W4 (w.heap.size + 1) a) (by simp)).c
      go_simp
      first | exact hK _ hS | (refine (KP.out _ _).mono (fun e w2 he => ?_); refine ⟨_, he.1, ?_⟩; exact hK _ (Hm.below hS he.2))
    · simp only [Act.put, List.setIfInBounds_toArray, List.set_cons_succ, List.set_cons_zero]
      rfl
  refine RS.go2_last (v := ?_) (a' := ?_) rfl (by kernel_rfl) rfl ?_ ?_ ?_
  rotate_left 2
  · intro K wx hS hK
    have c1 := (hS.ok _ (List.mem_cons_self ..)).c 3 (show 3 < 4 by decide)
    have f1 : ∀ o, wx.frozen? ⟨h, o, none⟩ = false := (hS.ok _ (List.mem_cons_self ..)).f
    go_simp
    refine hK _ ?_
    exact Hm.set hS (show 3 < 4 by decide) hne
  · exact rfl
  clear m1
  intro wx m1
  replace m1 := Hm.ext m1 (fun o _ => FN_step N 3 _ ((shl_val a P L 3 hP.out hL.out (by decide) _ _ _ (by simp) (by simp) rfl).trans (by rw [eN.out])) o)
  go_wp2_with fail
  rw [rounds_succ]
  have c3 : ∀ o, o < 4 → wx.cell? ⟨h, o, none⟩ = some (.int .u64 (dg N o)) := fun o ho => by
    have := (m1.ok _ (List.mem_cons_self ..)).c o ho
    rw [this]; exact congrArg some (if_pos ho)
  have m2 : Hm.Hd w [⟨w.heap.size + 1 + 1, 4, fun o => .int .u64 (dg 0 o)⟩] wx := Hm.sub m1 (by intro k hk; simp only [List.mem_cons, List.not_mem_nil, or_false] at hk; subst hk; simp [Hm.W4])
  clear m1
  have c2 : ∀ o, o < 4 → wx.cell? ⟨w.heap.size + 1 + 1, o, none⟩ = some (.int .u64 (dg 0 o)) := (m2.ok _ (List.mem_cons_self ..)).c
  have f2 : ∀ o, wx.frozen? ⟨w.heap.size + 1 + 1, o, none⟩ = false := (m2.ok _ (List.mem_cons_self ..)).f
  have HV : Hid (Hm.Hd w [Hm.W4 (w.heap.size + 1 + 1) N] _) := Hm.set4 m2 (by simp)
  clear m2
  go_wp2_with fail
  exact bodyPost_ret (v := Wd N) (resultTw _ _ _ (w.heap.size + 1 + 1) N 4 rfl rfl (HV.out.ok _ (List.mem_cons_self ..)).c) rfl ⟨rfl, HV.out.bel⟩
set_option maxHeartbeats 4000000 in
set_option maxRecDepth 100000 in
theorem shr_any (n a : Nat) (hn : n < 2 ^ 256) (ha : a < 2 ^ 256) (w : World) :
    Calls Try.prog 15 #[Wd n, Wd a] w fun e w' => e = .returned (Wd (a / 2 ^ (min n 256))) ∧ Below w.heap.size w w' := by
  have KS : Hid (∀ w : World, Calls Try.prog 32 #[Wd n] w fun e w' => e = .returned (.tuple #[.int .i64 ((min n 256 / 64 : Nat) : Int), .int .u64 ((min n 256 % 64 : Nat) : Int)]) ∧ Below w.heap.size w w') := fun w => split_any n hn w
  have KP : Hid (∀ (k : Int) (w : World), Calls Try.prog 33 #[Wd a, .int .i64 k] w fun e w' => e = .returned (.int .u64 (ptn a k : Nat)) ∧ Below w.heap.size w w') := fun k w => part_any a ha k w
  have hz : min n 256 ≤ 256 := Nat.min_le_right _ _
  clear hn ha
  generalize min n 256 = z at *
  have hP : Hid (z / 64 ≤ 4) := show z / 64 ≤ 4 by omega
  have hL : Hid (z % 64 < 64) := show z % 64 < 64 by omega
  have eN : Hid (a / 2 ^ z = a / 2 ^ (64 * (z / 64) + z % 64)) := by rw [Nat.div_add_mod]; exact rfl
  clear hz
  generalize a / 2 ^ z = N at *
  generalize z / 64 = P at *
  generalize z % 64 = L at *
  have m0 := Hm.new0 (g := w.heap.size + 1 + 1) (T := 24) (Hm.new4 (g := w.heap.size + 1) (n := a) (T := 24) (Hm.new4 (g := w.heap.size) (n := n) (T := 24) (Hm.start w) rfl) (by simp)) (by simp)
  conv => arg 3; unfold Wd
  go_enter Try.func15, Try.ntmps15
  go_wp2_with fail
  generalize ((w.alloc (.cells #[.int .u64 (dg n 0), .int .u64 (dg n 1), .int .u64 (dg n 2), .int .u64 (dg n 3)] 24)).alloc (.cells #[.int .u64 (dg a 0), .int .u64 (dg a 1), .int .u64 (dg a 2), .int .u64 (dg a 3)] 24)).alloc (.cells #[.int .u64 0, .int .u64 0, .int .u64 0, .int .u64 0] 24) = W0 at m0 ⊢
  refine (KS.out _).mono ?_
  rintro e w1 ⟨rfl, hb⟩
  have m1 := Hm.new0 (g := w1.heap.size) (T := 24) (Hm.below m0 hb) rfl
  have z1 : w.heap.size + 1 + 1 < w1.heap.size := ((Hm.below m0 hb).ok _ (List.mem_cons_self ..)).hi
  clear hb m0 KS
  go_wp2_with fail
  generalize w1.alloc (.cells #[.int .u64 0, .int .u64 0, .int .u64 0, .int .u64 0] 24) = W1 at m1 ⊢
  generalize hh : w1.heap.size = h at *
  replace m1 := Hm.ext (G := FN N 0) m1 (fun _ _ => rfl)
  clear hh w1
  have hne : ∀ b, b ∈ [Hm.W4 (w.heap.size + 1 + 1) 0, Hm.W4 (w.heap.size + 1) a, Hm.W4 w.heap.size n] → h ≠ b.g := by
    intro b hb
    simp only [List.mem_cons, List.not_mem_nil, or_false] at hb
    rcases hb with rfl | rfl | rfl <;> simp only [Hm.W4] <;> omega
  refine wp_loop_rounds 5 ?_
  rw [rounds_succ]
  go_upto_region 6 with fail
  refine RS.wp_region_two (Hm.Hd w [⟨h, 4, FN N 0⟩, Hm.W4 (w.heap.size + 1 + 1) 0, Hm.W4 (w.heap.size + 1) a, Hm.W4 w.heap.size n]) (Hm.Hd w [⟨h, 4, Hm.updv (FN N 0) 0 (.int .u64 ?_)⟩, Hm.W4 (w.heap.size + 1 + 1) 0, Hm.W4 (w.heap.size + 1) a, Hm.W4 w.heap.size n]) 19 (by kernel_rfl) (by kernel_rfl) (by decide) (Hm.drew m1) ?_
  rotate_left 1
  dsimp only [List.toList_toArray]
  iterate 19
    refine RS.go2 (v := ?_) (a' := ?_) (by decide) rfl ?_ ?_ ?_
    rotate_left 2
    · intro K wx hS hK
      have c1 : ∀ o, o < 4 → wx.cell? ⟨w.heap.size + 1, o, none⟩ = some (.int .u64 (dg a o)) := (hS.ok (Hm.W4 (w.heap.size + 1) a) (by simp)).c
      go_simp
      first | exact hK _ hS | (refine (KP.out _ _).mono (fun e w2 he => ?_); refine ⟨_, he.1, ?_⟩; exact hK _ (Hm.below hS he.2))
    · simp only [Act.put, List.setIfInBounds_toArray, List.set_cons_succ, List.set_cons_zero]
      rfl
  refine RS.go2_last (v := ?_) (a' := ?_) rfl (by kernel_rfl) rfl ?_ ?_ ?_
  rotate_left 2
  · intro K wx hS hK
    have c1 := (hS.ok _ (List.mem_cons_self ..)).c 0 (show 0 < 4 by decide)
    have f1 : ∀ o, wx.frozen? ⟨h, o, none⟩ = false := (hS.ok _ (List.mem_cons_self ..)).f
    go_simp
    refine hK _ ?_
    exact Hm.set hS (show 0 < 4 by decide) hne
  · exact rfl
  clear m1
  intro wx m1
  replace m1 := Hm.ext m1 (fun o _ => FN_step N 0 _ ((shr_val a P L 0 hP.out hL.out (by decide) _ _ _ (by simp) (by simp) rfl).trans (by rw [eN.out])) o)
  go_wp2_with fail
  rw [rounds_succ]
  go_upto_region 6 with fail
  refine RS.wp_region_two (Hm.Hd w [⟨h, 4, FN N 1⟩, Hm.W4 (w.heap.size + 1 + 1) 0, Hm.W4 (w.heap.size + 1) a, Hm.W4 w.heap.size n]) (Hm.Hd w [⟨h, 4, Hm.updv (FN N 1) 1 (.int .u64 ?_)⟩, Hm.W4 (w.heap.size + 1 + 1) 0, Hm.W4 (w.heap.size + 1) a, Hm.W4 w.heap.size n]) 19 (by kernel_rfl) (by kernel_rfl) (by decide) (Hm.drew m1) ?_
  rotate_left 1
  dsimp only [List.toList_toArray]
  iterate 19
    refine RS.go2 (v := ?_) (a' := ?_) (by decide) rfl ?_ ?_ ?_
    rotate_left 2
    · intro K wx hS hK
      have c1 : ∀ o, o < 4 → wx.cell? ⟨w.heap.size + 1, o, none⟩ = some (.int .u64 (dg a o)) := (hS.ok (Hm.W4 (w.heap.size + 1) a) (by simp)).c
      go_simp
      first | exact hK _ hS | (refine (KP.out _ _).mono (fun e w2 he => ?_); refine ⟨_, he.1, ?_⟩; exact hK _ (Hm.below hS he.2))
    · simp only [Act.put, List.setIfInBounds_toArray, List.set_cons_succ, List.set_cons_zero]
      rfl
  refine RS.go2_last (v := ?_) (a' := ?_) rfl (by kernel_rfl) rfl ?_ ?_ ?_
  rotate_left 2
  · intro K wx hS hK
    have c1 := (hS.ok _ (List.mem_cons_self ..)).c 1 (show 1 < 4 by decide)
    have f1 : ∀ o, wx.frozen? ⟨h, o, none⟩ = false := (hS.ok _ (List.mem_cons_self ..)).f
    go_simp
    refine hK _ ?_
    exact Hm.set hS (show 1 < 4 by decide) hne
  · exact rfl
  clear m1
  intro wx m1
  replace m1 := Hm.ext m1 (fun o _ => FN_step N 1 _ ((shr_val a P L 1 hP.out hL.out (by decide) _ _ _ (by simp) (by simp) rfl).trans (by rw [eN.out])) o)
  go_wp2_with fail
  rw [rounds_succ]
  go_upto_region 6 with fail
  refine RS.wp_region_two (Hm.Hd w [⟨h, 4, FN N 2⟩, Hm.W4 (w.heap.size + 1 + 1) 0, Hm.W4 (w.heap.size + 1) a, Hm.W4 w.heap.size n]) (Hm.Hd w [⟨h, 4, Hm.updv (FN N 2) 2 (.int .u64 ?_)⟩, Hm.W4 (w.heap.size + 1 + 1) 0, Hm.W4 (w.heap.size + 1) a, Hm.W4 w.heap.size n]) 19 (by kernel_rfl) (by kernel_rfl) (by decide) (Hm.drew m1) ?_
  rotate_left 1
  dsimp only [List.toList_toArray]
  iterate 19
    refine RS.go2 (v := ?_) (a' := ?_) (by decide) rfl ?_ ?_ ?_
    rotate_left 2
    · intro K wx hS hK
      have c1 : ∀ o, o < 4 → wx.cell? ⟨w.heap.size + 1, o, none⟩ = some (.int .u64 (dg a o)) := (hS.ok (Hm.W4 (w.heap.size + 1) a) (by simp)).c
      go_simp
      first | exact hK _ hS | (refine (KP.out _ _).mono (fun e w2 he => ?_); refine ⟨_, he.1, ?_⟩; exact hK _ (Hm.below hS he.2))
    · simp only [Act.put, List.setIfInBounds_toArray, List.set_cons_succ, List.set_cons_zero]
      rfl
  refine RS.go2_last (v := ?_) (a' := ?_) rfl (by kernel_rfl) rfl ?_ ?_ ?_
  rotate_left 2
  · intro K wx hS hK
    have c1 := (hS.ok _ (List.mem_cons_self ..)).c 2 (show 2 < 4 by decide)
    have f1 : ∀ o, wx.frozen? ⟨h, o, none⟩ = false := (hS.ok _ (List.mem_cons_self ..)).f
    go_simp
    refine hK _ ?_
    exact Hm.set hS (show 2 < 4 by decide) hne
  · exact rfl
  clear m1
  intro wx m1
  replace m1 := Hm.ext m1 (fun o _ => FN_step N 2 _ ((shr_val a P L 2 hP.out hL.out (by decide) _ _ _ (by simp) (by simp) rfl).trans (by rw [eN.out])) o)
  go_wp2_with fail
  rw [rounds_succ]
  go_upto_region 6 with fail
  refine RS.wp_region_two (Hm.Hd w [⟨h, 4, FN N 3⟩, Hm.W4 (w.heap.size + 1 + 1) 0, Hm.W4 (w.heap.size + 1) a, Hm.W4 w.heap.size n]) (Hm.Hd w [⟨h, 4, Hm.updv (FN N 3) 3 (.int .u64 ?_)⟩, Hm.W4 (w.heap.size + 1 + 1) 0, Hm.W4 (w.heap.size + 1) a, Hm.W4 w.heap.size n]) 19 (by kernel_rfl) (by kernel_rfl) (by decide) (Hm.drew m1) ?_
  rotate_left 1
  dsimp only [List.toList_toArray]
  iterate 19
    refine RS.go2 (v := ?_) (a' := ?_) (by decide) rfl ?_ ?_ ?_
    rotate_left 2
    · intro K wx hS hK
      have c1 : ∀ o, o < 4 → wx.cell? ⟨w.heap.size + 1, o, none⟩ = some (.int .u64 (dg a o)) := (hS.ok (Hm.W4 (w.heap.size + 1) a) (by simp)).c
      go_simp
      first | exact hK _ hS | (refine (KP.out _ _).mono (fun e w2 he => ?_); refine ⟨_, he.1, ?_⟩; exact hK _ (Hm.below hS he.2))
    · simp only [Act.put, List.setIfInBounds_toArray, List.set_cons_succ, List.set_cons_zero]
      rfl
  refine RS.go2_last (v := ?_) (a' := ?_) rfl (by kernel_rfl) rfl ?_ ?_ ?_
  rotate_left 2
  · intro K wx hS hK
    have c1 := (hS.ok _ (List.mem_cons_self ..)).c 3 (show 3 < 4 by decide)
    have f1 : ∀ o, wx.frozen? ⟨h, o, none⟩ = false := (hS.ok _ (List.mem_cons_self ..)).f
    go_simp
    refine hK _ ?_
    exact Hm.set hS (show 3 < 4 by decide) hne
  · exact rfl
  clear m1
  intro wx m1
  replace m1 := Hm.ext m1 (fun o _ => FN_step N 3 _ ((shr_val a P L 3 hP.out hL.out (by decide) _ _ _ (by simp) (by simp) rfl).trans (by rw [eN.out])) o)
  go_wp2_with fail
  rw [rounds_succ]
  have c3 : ∀ o, o < 4 → wx.cell? ⟨h, o, none⟩ = some (.int .u64 (dg N o)) := fun o ho => by
    have := (m1.ok _ (List.mem_cons_self ..)).c o ho
    rw [this]; exact congrArg some (if_pos ho)
  have m2 : Hm.Hd w [⟨w.heap.size + 1 + 1, 4, fun o => .int .u64 (dg 0 o)⟩] wx := Hm.sub m1 (by intro k hk; simp only [List.mem_cons, List.not_mem_nil, or_false] at hk; subst hk; simp [Hm.W4])
  clear m1
  have c2 : ∀ o, o < 4 → wx.cell? ⟨w.heap.size + 1 + 1, o, none⟩ = some (.int .u64 (dg 0 o)) := (m2.ok _ (List.mem_cons_self ..)).c
  have f2 : ∀ o, wx.frozen? ⟨w.heap.size + 1 + 1, o, none⟩ = false := (m2.ok _ (List.mem_cons_self ..)).f
  have HV : Hid (Hm.Hd w [Hm.W4 (w.heap.size + 1 + 1) N] _) := Hm.set4 m2 (by simp)
  clear m2
  go_wp2_with fail
  exact bodyPost_ret (v := Wd N) (resultTw _ _ _ (w.heap.size + 1 + 1) N 4 rfl rfl (HV.out.ok _ (List.mem_cons_self ..)).c) rfl ⟨rfl, HV.out.bel⟩
end Go.Proofs.Ytejldahlbhkemaa
/- twos.Sar, Extend: moved down with the sign. -/
namespace Go.Proofs.Ytejldahlbhkemaa
open Go.RowKit Go.Shelf
/-- a, with its sign, through 2^m, rounded down. -/
def sar (m a : Nat) : Nat := if sg a = true then nt (nt a / 2 ^ m) else a / 2 ^ m
theorem sar_lt (m a : Nat) (ha : a < 2 ^ 256) : sar m a < 2 ^ 256 := by
  unfold sar; split
  · exact nt_lt _
  · exact Nat.lt_of_le_of_lt (Nat.div_le_self _ _) ha
set_option maxHeartbeats 4000000 in
set_option maxRecDepth 100000 in
theorem sar_up (n a : Nat) (hn : n < 2 ^ 256) (ha : a < 2 ^ 256) (hs : sg a = false) (w : World) :
    Calls Try.prog 17 #[Wd n, Wd a] w fun e w' => e = .returned (Wd (a / 2 ^ min n 256)) ∧ Below w.heap.size w w' := by
  have KB : Hid (∀ w : World, Calls Try.prog 35 #[Wd a] w fun e w' => e = .returned (.bool false) ∧ Below w.heap.size w w') := fun w => by rw [← hs]; exact below_any a ha w
  have KS : Hid (∀ w : World, Calls Try.prog 15 #[Wd n, Wd a] w fun e w' => e = .returned (Wd (a / 2 ^ min n 256)) ∧ Below w.heap.size w w') := fun w => shr_any n a hn ha w
  clear hs hn ha
  generalize a / 2 ^ min n 256 = N at *
  have m0 := Hm.new0 (g := w.heap.size + 1 + 1) (T := 24) (Hm.new4 (g := w.heap.size + 1) (n := a) (T := 24) (Hm.new4 (g := w.heap.size) (n := n) (T := 24) (Hm.start w) rfl) (by simp)) (by simp)
  have hne : ∀ b, b ∈ [Hm.W4 (w.heap.size + 1) a, Hm.W4 w.heap.size n] → w.heap.size + 1 + 1 ≠ b.g := by
    intro b hb
    simp only [List.mem_cons, List.not_mem_nil, or_false] at hb
    rcases hb with rfl | rfl <;> simp only [Hm.W4] <;> omega
  conv => arg 3; unfold Wd
  go_enter Try.func17, Try.ntmps17
  go_wp2_with fail
  generalize ((w.alloc (.cells #[.int .u64 (dg n 0), .int .u64 (dg n 1), .int .u64 (dg n 2), .int .u64 (dg n 3)] 24)).alloc (.cells #[.int .u64 (dg a 0), .int .u64 (dg a 1), .int .u64 (dg a 2), .int .u64 (dg a 3)] 24)).alloc (.cells #[.int .u64 0, .int .u64 0, .int .u64 0, .int .u64 0] 24) = W0 at m0 ⊢
  refine (KB.out _).mono ?_
  rintro e w1 ⟨rfl, hb⟩
  have m1 := Hm.below m0 hb
  clear hb m0
  have c0 : ∀ o, o < 4 → w1.cell? ⟨w.heap.size, o, none⟩ = some (.int .u64 (dg n o)) := (m1.ok (Hm.W4 w.heap.size n) (by simp)).c
  have c1 : ∀ o, o < 4 → w1.cell? ⟨w.heap.size + 1, o, none⟩ = some (.int .u64 (dg a o)) := (m1.ok (Hm.W4 (w.heap.size + 1) a) (by simp)).c
  go_wp2_with fail
  refine (KS.out _).mono ?_
  rintro e w2 ⟨rfl, hb⟩
  have m2 := Hm.below m1 hb
  clear hb m1 c0 c1
  have c2 : ∀ o, o < 4 → w2.cell? ⟨w.heap.size + 1 + 1, o, none⟩ = some (.int .u64 (dg 0 o)) := (m2.ok _ (List.mem_cons_self ..)).c
  have f2 : ∀ o, w2.frozen? ⟨w.heap.size + 1 + 1, o, none⟩ = false := (m2.ok _ (List.mem_cons_self ..)).f
  have HV : Hid (Hm.Hd w [Hm.W4 (w.heap.size + 1 + 1) N, Hm.W4 (w.heap.size + 1) a, Hm.W4 w.heap.size n] _) := Hm.set4 m2 hne
  clear m2 hne
  unfold Wd
  go_wp2_with fail
  exact bodyPost_ret (v := Wd N) (resultTw _ _ _ (w.heap.size + 1 + 1) N 4 rfl rfl (HV.out.ok _ (List.mem_cons_self ..)).c) rfl ⟨rfl, HV.out.bel⟩
set_option maxHeartbeats 4000000 in
set_option maxRecDepth 100000 in
theorem sar_down (n a : Nat) (hn : n < 2 ^ 256) (ha : a < 2 ^ 256) (hs : sg a = true) (w : World) :
    Calls Try.prog 17 #[Wd n, Wd a] w fun e w' => e = .returned (Wd (nt (nt a / 2 ^ min n 256))) ∧ Below w.heap.size w w' := by
  have KB : Hid (∀ w : World, Calls Try.prog 35 #[Wd a] w fun e w' => e = .returned (.bool true) ∧ Below w.heap.size w w') := fun w => by rw [← hs]; exact below_any a ha w
  have KN1 : Hid (∀ w : World, Calls Try.prog 10 #[Wd a] w fun e w' => e = .returned (Wd (nt a)) ∧ Below w.heap.size w w') := fun w => not_any a w
  have KS : Hid (∀ w : World, Calls Try.prog 15 #[Wd n, Wd (nt a)] w fun e w' => e = .returned (Wd (nt a / 2 ^ min n 256)) ∧ Below w.heap.size w w') := fun w => shr_any n (nt a) hn (nt_lt a) w
  have KN2 : Hid (∀ w : World, Calls Try.prog 10 #[Wd (nt a / 2 ^ min n 256)] w fun e w' => e = .returned (Wd (nt (nt a / 2 ^ min n 256))) ∧ Below w.heap.size w w') := fun w => not_any _ w
  clear hs hn ha
  generalize nt (nt a / 2 ^ min n 256) = N at *
  generalize nt a / 2 ^ min n 256 = M at *
  have m0 := Hm.new0 (g := w.heap.size + 1 + 1) (T := 24) (Hm.new4 (g := w.heap.size + 1) (n := a) (T := 24) (Hm.new4 (g := w.heap.size) (n := n) (T := 24) (Hm.start w) rfl) (by simp)) (by simp)
  have hne : ∀ b, b ∈ [Hm.W4 (w.heap.size + 1) a, Hm.W4 w.heap.size n] → w.heap.size + 1 + 1 ≠ b.g := by
    intro b hb
    simp only [List.mem_cons, List.not_mem_nil, or_false] at hb
    rcases hb with rfl | rfl <;> simp only [Hm.W4] <;> omega
  conv => arg 3; unfold Wd
  go_enter Try.func17, Try.ntmps17
  go_wp2_with fail
  generalize ((w.alloc (.cells #[.int .u64 (dg n 0), .int .u64 (dg n 1), .int .u64 (dg n 2), .int .u64 (dg n 3)] 24)).alloc (.cells #[.int .u64 (dg a 0), .int .u64 (dg a 1), .int .u64 (dg a 2), .int .u64 (dg a 3)] 24)).alloc (.cells #[.int .u64 0, .int .u64 0, .int .u64 0, .int .u64 0] 24) = W0 at m0 ⊢
  refine (KB.out _).mono ?_
  rintro e w1 ⟨rfl, hb⟩
  have m1 := Hm.below m0 hb
  clear hb m0
  go_upto_region 3 with fail
  refine RS.wp_region_two (Hm.Hd w [⟨w.heap.size + 1 + 1, 4, fun o => .int .u64 (dg 0 o)⟩, Hm.W4 (w.heap.size + 1) a, Hm.W4 w.heap.size n]) (Hm.Hd w [Hm.W4 (w.heap.size + 1 + 1) N, Hm.W4 (w.heap.size + 1) a, Hm.W4 w.heap.size n]) 5 (by kernel_rfl) (by kernel_rfl) (by decide) (Hm.drew m1) ?_
  dsimp only [List.toList_toArray]
  refine RS.go2 (v := ?_) (a' := ?_) (by decide) rfl ?_ ?_ ?_
  rotate_left 2
  · intro K wx hS hK
    refine RW.ld rfl rfl (hS.ok (Hm.W4 (w.heap.size) (n)) (by simp)).c ?_
    exact hK _ hS
  · simp only [Act.put, List.setIfInBounds_toArray, List.set_cons_succ, List.set_cons_zero]
    rfl
  refine RS.go2 (v := ?_) (a' := ?_) (by decide) rfl ?_ ?_ ?_
  rotate_left 2
  · intro K wx hS hK
    refine RW.ld rfl rfl (hS.ok (Hm.W4 (w.heap.size + 1) (a)) (by simp)).c ?_
    exact hK _ hS
  · simp only [Act.put, List.setIfInBounds_toArray, List.set_cons_succ, List.set_cons_zero]
    rfl
  refine RS.go2 (v := ?_) (a' := ?_) (by decide) rfl ?_ ?_ ?_
  rotate_left 2
  · intro K wx hS hK
    go_simp
    refine (KN1.out _).mono (fun e w2 he => ?_)
    refine ⟨_, he.1, ?_⟩
    exact hK _ (Hm.below hS he.2)
  · simp only [Act.put, List.setIfInBounds_toArray, List.set_cons_succ, List.set_cons_zero]
    rfl
  refine RS.go2 (v := ?_) (a' := ?_) (by decide) rfl ?_ ?_ ?_
  rotate_left 2
  · intro K wx hS hK
    go_simp
    refine (KS.out _).mono (fun e w2 he => ?_)
    refine ⟨_, he.1, ?_⟩
    exact hK _ (Hm.below hS he.2)
  · simp only [Act.put, List.setIfInBounds_toArray, List.set_cons_succ, List.set_cons_zero]
    rfl
  refine RS.go2 (v := ?_) (a' := ?_) (by decide) rfl ?_ ?_ ?_
  rotate_left 2
  · intro K wx hS hK
    go_simp
    refine (KN2.out _).mono (fun e w2 he => ?_)
    refine ⟨_, he.1, ?_⟩
    exact hK _ (Hm.below hS he.2)
  · simp only [Act.put, List.setIfInBounds_toArray, List.set_cons_succ, List.set_cons_zero]
    rfl
  refine RS.go2_last (v := ?_) (a' := ?_) rfl (by kernel_rfl) rfl ?_ ?_ ?_
  rotate_left 2
  · intro K wx hS hK
    refine RW.st rfl rfl rfl (hS.ok _ (List.mem_cons_self ..)).c (hS.ok _ (List.mem_cons_self ..)).f ?_
    refine hK _ ?_
    exact Hm.set4 hS hne
  · exact rfl
  intro w2 m2
  have HV : Hid (Hm.Hd w [Hm.W4 (w.heap.size + 1 + 1) N, Hm.W4 (w.heap.size + 1) a, Hm.W4 w.heap.size n] _) := m2
  clear m2 hne m1
  go_wp2_with fail
  exact bodyPost_ret (v := Wd N) (resultTw _ _ _ (w.heap.size + 1 + 1) N 4 rfl rfl (HV.out.ok _ (List.mem_cons_self ..)).c) rfl ⟨rfl, HV.out.bel⟩
theorem sar_any (n a : Nat) (hn : n < 2 ^ 256) (ha : a < 2 ^ 256) (w : World) :
    Calls Try.prog 17 #[Wd n, Wd a] w fun e w' => e = .returned (Wd (sar (min n 256) a)) ∧ Below w.heap.size w w' := by
  unfold sar
  cases hs : sg a
  · rw [if_neg (by decide)]; exact sar_up n a hn ha hs w
  · rw [if_pos rfl]; exact sar_down n a hn ha hs w
/-- How many bits a is moved up, that its last k + 1 bytes come first. -/
def ahd (k : Nat) : Nat := 8 * (31 - min k 31)
/-- The last k + 1 bytes of a, with their sign. -/
def ext (k a : Nat) : Nat := sar (ahd k) (a * 2 ^ ahd k % 2 ^ 256)
theorem ahd_le (k : Nat) : ahd k ≤ 248 := by unfold ahd; omega
set_option maxHeartbeats 4000000 in
set_option maxRecDepth 100000 in
theorem extend_any (n a : Nat) (hn : n < 2 ^ 256) (ha : a < 2 ^ 256) (w : World) :
    Calls Try.prog 21 #[Wd n, Wd a] w fun e w' => e = .returned (Wd (ext n a)) ∧ Below w.heap.size w w' := by
  have h8 : ahd n < 18446744073709551616 := by have := ahd_le n; omega
  have h256 : ahd n < 2 ^ 256 := by omega
  have emin : min (ahd n) 256 = ahd n := by have := ahd_le n; omega
  have KA : Hid (∀ w : World, Calls Try.prog 36 #[Wd n, .int .u64 31] w fun e w' => e = .returned (.int .u64 ((min n 31 : Nat) : Int)) ∧ Below w.heap.size w w') := fun w => atmost_any n 31 hn (by decide) w
  have KI : Hid (∀ w : World, Calls Try.prog 37 #[.int .u64 (ahd n : Int)] w fun e w' => e = .returned (Wd (ahd n)) ∧ Below w.heap.size w w') := fun w => int_any _ h8 w
  have KL : Hid (∀ w : World, Calls Try.prog 13 #[Wd (ahd n), Wd a] w fun e w' => e = .returned (Wd (a * 2 ^ ahd n % 2 ^ 256)) ∧ Below w.heap.size w w') := fun w => by have := shl_any (ahd n) a h256 ha w; rwa [emin] at this
  have KR : Hid (∀ w : World, Calls Try.prog 17 #[Wd (ahd n), Wd (a * 2 ^ ahd n % 2 ^ 256)] w fun e w' => e = .returned (Wd (ext n a)) ∧ Below w.heap.size w w') := fun w => by have := sar_any (ahd n) (a * 2 ^ ahd n % 2 ^ 256) h256 (Nat.mod_lt _ (by decide)) w; rw [emin] at this; exact this
  have e1 : Hid (IntKind.u64.wrap (8 * IntKind.u64.wrap (31 - ((min n 31 : Nat) : Int))) = (ahd n : Int)) := by
    show IntKind.u64.wrap (8 * IntKind.u64.wrap (31 - ((min n 31 : Nat) : Int))) = (ahd n : Int)
    unfold ahd; rw [IntKind.wrap_u64, IntKind.wrap_u64]; omega
  clear hn ha h8 h256 emin
  generalize ext n a = N at *
  generalize a * 2 ^ ahd n % 2 ^ 256 = M at *
  generalize ahd n = H at *
  generalize min n 31 = z at *
  have m0 := Hm.new0 (g := w.heap.size + 1 + 1) (T := 24) (Hm.new4 (g := w.heap.size + 1) (n := a) (T := 24) (Hm.new4 (g := w.heap.size) (n := n) (T := 24) (Hm.start w) rfl) (by simp)) (by simp)
  have hne : ∀ b, b ∈ [Hm.W4 (w.heap.size + 1) a, Hm.W4 w.heap.size n] → w.heap.size + 1 + 1 ≠ b.g := by
    intro b hb
    simp only [List.mem_cons, List.not_mem_nil, or_false] at hb
    rcases hb with rfl | rfl <;> simp only [Hm.W4] <;> omega
  conv => arg 3; unfold Wd
  go_enter Try.func21, Try.ntmps21
  go_wp2_with fail
  generalize ((w.alloc (.cells #[.int .u64 (dg n 0), .int .u64 (dg n 1), .int .u64 (dg n 2), .int .u64 (dg n 3)] 24)).alloc (.cells #[.int .u64 (dg a 0), .int .u64 (dg a 1), .int .u64 (dg a 2), .int .u64 (dg a 3)] 24)).alloc (.cells #[.int .u64 0, .int .u64 0, .int .u64 0, .int .u64 0] 24) = W0 at m0 ⊢
  refine (KA.out _).mono ?_
  rintro e w1 ⟨rfl, hb⟩
  have m1 := Hm.below m0 hb
  clear hb m0
  go_wp2_with fail
  simp only [e1.out]
  refine (KI.out _).mono ?_
  rintro e w2 ⟨rfl, hb⟩
  have m2 := Hm.new4 (g := w2.heap.size) (n := H) (T := 24) (Hm.below m1 hb) rfl
  have z2 : w.heap.size + 1 + 1 < w2.heap.size := ((Hm.below m1 hb).ok _ (List.mem_cons_self ..)).hi
  clear hb m1
  unfold Wd
  go_upto_region 3 with fail
  generalize w2.alloc (.cells #[.int .u64 (dg H 0), .int .u64 (dg H 1), .int .u64 (dg H 2), .int .u64 (dg H 3)] 24) = W2 at m2 ⊢
  generalize hh : w2.heap.size = h at *
  clear hh
  replace m2 : Hm.Hd w [⟨w.heap.size + 1 + 1, 4, fun o => .int .u64 (dg 0 o)⟩, Hm.W4 h H, Hm.W4 (w.heap.size + 1) a, Hm.W4 w.heap.size n] W2 := Hm.sub m2 (by intro k hk; simp only [List.mem_cons, List.not_mem_nil, or_false] at hk ⊢; rcases hk with rfl | rfl | rfl | rfl <;> simp [Hm.W4])
  clear hne
  have hne : ∀ b, b ∈ [Hm.W4 h H, Hm.W4 (w.heap.size + 1) a, Hm.W4 w.heap.size n] → w.heap.size + 1 + 1 ≠ b.g := by
    intro b hb
    simp only [List.mem_cons, List.not_mem_nil, or_false] at hb
    rcases hb with rfl | rfl | rfl <;> simp only [Hm.W4] <;> omega
  refine RS.wp_region_two (Hm.Hd w [⟨w.heap.size + 1 + 1, 4, fun o => .int .u64 (dg 0 o)⟩, Hm.W4 h H, Hm.W4 (w.heap.size + 1) a, Hm.W4 w.heap.size n]) (Hm.Hd w [Hm.W4 (w.heap.size + 1 + 1) N, Hm.W4 h H, Hm.W4 (w.heap.size + 1) a, Hm.W4 w.heap.size n]) 5 (by kernel_rfl) (by kernel_rfl) (by decide) (Hm.drew m2) ?_
  dsimp only [List.toList_toArray]
  refine RS.go2 (v := ?_) (a' := ?_) (by decide) rfl ?_ ?_ ?_
  rotate_left 2
  · intro K wx hS hK
    refine RW.ld rfl rfl (hS.ok (Hm.W4 (h) (H)) (by simp)).c ?_
    exact hK _ hS
  · simp only [Act.put, List.setIfInBounds_toArray, List.set_cons_succ, List.set_cons_zero]
    rfl
  refine RS.go2 (v := ?_) (a' := ?_) (by decide) rfl ?_ ?_ ?_
  rotate_left 2
  · intro K wx hS hK
    refine RW.ld rfl rfl (hS.ok (Hm.W4 (h) (H)) (by simp)).c ?_
    exact hK _ hS
  · simp only [Act.put, List.setIfInBounds_toArray, List.set_cons_succ, List.set_cons_zero]
    rfl
  refine RS.go2 (v := ?_) (a' := ?_) (by decide) rfl ?_ ?_ ?_
  rotate_left 2
  · intro K wx hS hK
    refine RW.ld rfl rfl (hS.ok (Hm.W4 (w.heap.size + 1) (a)) (by simp)).c ?_
    exact hK _ hS
  · simp only [Act.put, List.setIfInBounds_toArray, List.set_cons_succ, List.set_cons_zero]
    rfl
  refine RS.go2 (v := ?_) (a' := ?_) (by decide) rfl ?_ ?_ ?_
  rotate_left 2
  · intro K wx hS hK
    go_simp
    refine (KL.out _).mono (fun e w2 he => ?_)
    refine ⟨_, he.1, ?_⟩
    exact hK _ (Hm.below hS he.2)
  · simp only [Act.put, List.setIfInBounds_toArray, List.set_cons_succ, List.set_cons_zero]
    rfl
  refine RS.go2 (v := ?_) (a' := ?_) (by decide) rfl ?_ ?_ ?_
  rotate_left 2
  · intro K wx hS hK
    go_simp
    refine (KR.out _).mono (fun e w2 he => ?_)
    refine ⟨_, he.1, ?_⟩
    exact hK _ (Hm.below hS he.2)
  · simp only [Act.put, List.setIfInBounds_toArray, List.set_cons_succ, List.set_cons_zero]
    rfl
  refine RS.go2_last (v := ?_) (a' := ?_) rfl (by kernel_rfl) rfl ?_ ?_ ?_
  rotate_left 2
  · intro K wx hS hK
    refine RW.st rfl rfl rfl (hS.ok _ (List.mem_cons_self ..)).c (hS.ok _ (List.mem_cons_self ..)).f ?_
    refine hK _ ?_
    exact Hm.set4 hS hne
  · exact rfl
  intro w3 m3
  have HV : Hid (Hm.Hd w [Hm.W4 (w.heap.size + 1 + 1) N, Hm.W4 h H, Hm.W4 (w.heap.size + 1) a, Hm.W4 w.heap.size n] _) := m3
  clear m2 hne m3
  go_wp2_with fail
  exact bodyPost_ret (v := Wd N) (resultTw _ _ _ (w.heap.size + 1 + 1) N 4 rfl rfl (HV.out.ok _ (List.mem_cons_self ..)).c) rfl ⟨rfl, HV.out.bel⟩
end Go.Proofs.Ytejldahlbhkemaa
/- Plain arithmetic on the bytes of words: one out of its part, and one more into its part. -/
namespace Go.Proofs.Ytejldahlbhkemaa
theorem pow_split (p : Nat) : 2 ^ (64 * (p / 8)) * 2 ^ (8 * (p % 8)) = 2 ^ (8 * p) := by
  rw [← Nat.pow_add]; congr 1; omega
theorem mod_div_mod (x s : Nat) (hs : s ≤ 56) : x % 18446744073709551616 / 2 ^ s % 256 = x / 2 ^ s % 256 := by
  obtain ⟨t, ht⟩ : ∃ t, s + 8 + t = 64 := ⟨56 - s, by omega⟩
  have e : (18446744073709551616 : Nat) = 2 ^ s * (256 * 2 ^ t) := by
    rw [show (256 : Nat) = 2 ^ 8 by decide, ← Nat.pow_add, ← Nat.pow_add, ← Nat.add_assoc, ht]
  rw [e, Nat.mod_mul_right_div_self, Nat.mod_mul_right_mod]
/-- Byte p, the least first, out of its part. -/
theorem byte_out (n p : Nat) : dg n (p / 8) / 2 ^ (8 * (p % 8)) % 256 = ((n / 2 ^ (8 * p) % 256 : Nat) : Int) := by
  have h := mod_div_mod (n / 2 ^ (64 * (p / 8))) (8 * (p % 8)) (by omega)
  rw [Nat.div_div_eq_div_mul, pow_split] at h
  rw [← h]
  unfold dg
  have e : (2 : Int) ^ (8 * (p % 8)) = ((2 ^ (8 * (p % 8)) : Nat) : Int) := by simp
  rw [e, ← Int.natCast_ediv]
  omega
theorem dg_nat (n i : Nat) : dg n i = ((n / 2 ^ (64 * i) % 18446744073709551616 : Nat) : Int) := rfl
theorem byte_in_below (N x k o : Nat) (ho : o < k / 8) : dg (N + x * 2 ^ (8 * k)) o = dg N o := by
  rw [dg_nat, dg_nat]
  obtain ⟨d, hd⟩ : ∃ d, 8 * k = 64 * o + (64 + d) := ⟨8 * k - 64 * o - 64, by omega⟩
  rw [hd, Nat.pow_add, Nat.pow_add, Nat.mul_left_comm, Nat.add_mul_div_left _ _ (Nat.two_pow_pos _), Nat.mul_left_comm, show (2 : Nat) ^ 64 = 18446744073709551616 by decide, Nat.add_mul_mod_self_left]
theorem byte_in_above (N x k o : Nat) (hN : N < 2 ^ (8 * k)) (hx : x < 256) (ho : k / 8 < o) : dg (N + x * 2 ^ (8 * k)) o = dg N o := by
  have h1 : N + x * 2 ^ (8 * k) < 2 ^ (8 * k + 8) := by
    rw [Nat.pow_add, show (2 : Nat) ^ 8 = 256 by decide]
    have := Nat.mul_le_mul_right (2 ^ (8 * k)) (show x + 1 ≤ 256 from hx)
    rw [Nat.add_mul] at this
    omega
  have h2 : 2 ^ (8 * k + 8) ≤ 2 ^ (64 * o) := Nat.pow_le_pow_right (by decide) (by omega)
  have h3 : 2 ^ (8 * k) ≤ 2 ^ (64 * o) := Nat.pow_le_pow_right (by decide) (by omega)
  rw [dg_nat, dg_nat, Nat.div_eq_of_lt (by omega), Nat.div_eq_of_lt (by omega)]
theorem byte_in_at (N x k : Nat) (hN : N < 2 ^ (8 * k)) (hx : x < 256) : bits .or .u64 (dg N (k / 8)) (IntKind.u64.wrap ((x : Int) * 2 ^ (8 * (k % 8)))) = dg (N + x * 2 ^ (8 * k)) (k / 8) := by
  have hs : 8 * (k % 8) ≤ 56 := by omega
  have e1 : N / 2 ^ (64 * (k / 8)) < 2 ^ (8 * (k % 8)) := by
    rw [Nat.div_lt_iff_lt_mul (Nat.two_pow_pos _), Nat.mul_comm, pow_split]; exact hN
  have e2 : (N + x * 2 ^ (8 * k)) / 2 ^ (64 * (k / 8)) = N / 2 ^ (64 * (k / 8)) + x * 2 ^ (8 * (k % 8)) := by
    rw [← pow_split, Nat.mul_left_comm, Nat.add_mul_div_left _ _ (Nat.two_pow_pos _)]
  generalize hq : N / 2 ^ (64 * (k / 8)) = q at *
  generalize 8 * (k % 8) = s at *
  have p56 : 2 ^ s ≤ 2 ^ 56 := Nat.pow_le_pow_right (by decide) hs
  have hb : q + x * 2 ^ s < 18446744073709551616 := by
    have := Nat.mul_le_mul (show x ≤ 255 by omega) p56
    have : (2 : Nat) ^ 56 = 72057594037927936 := by decide
    omega
  rw [dg_nat, dg_nat, e2, hq, IntKind.wrap_u64]
  have e3 : (x : Int) * 2 ^ s % 18446744073709551616 = ((x * 2 ^ s : Nat) : Int) := by
    have : (x : Int) * 2 ^ s = ((x * 2 ^ s : Nat) : Int) := by simp
    rw [this]; omega
  rw [e3, Nat.mod_eq_of_lt (show q < 18446744073709551616 by omega), u64_or_nat _ _ (by omega) (by omega), Nat.mod_eq_of_lt hb, Nat.or_comm, nat_join s _ _ (Nat.mul_mod_left _ _) e1, Nat.add_comm]
end Go.Proofs.Ytejldahlbhkemaa
/- (*sponge.soaker).squeeze: the bytes that come out. -/
namespace Go.Proofs.Ytejldahlbhkemaa
namespace Sp
open Go.RowKit
theorem infoHash : (Try.prog.info? 43).map (·.size) = some 32 := by kernel_rfl
theorem range32 {g : Nat} {G : Nat → Int} {w : World} (h : CK .u8 g 32 G w) : w.rangeAt g 0 (h32 G) := fun j v hv => by
  have hj : j < 32 := by
    have := (List.getElem?_eq_some_iff.1 hv).1
    rwa [h32_length] at this
  rw [h32_get G j hj] at hv
  rw [Nat.zero_add, h j hj]; exact hv
theorem there32 {g : Nat} {G : Nat → Int} {w : World} (h : CK .u8 g 32 G w) (f : Fz g w) : w.there g 0 32 := fun j hj => by
  rw [Nat.zero_add, h j hj]; exact ⟨rfl, f j⟩
theorem there32a {g : Nat} {F G : Nat → Int} {w : World} (h : CK .u8 g 32 F w) (f : Fz g w) : w.there g 0 (h32 G).toArray.size := by
  rw [List.size_toArray, h32_length]; exact there32 h f
theorem info32 {G : Nat → Int} : (Try.prog.info? 43).map (·.size) = some (h32 G).length := by rw [h32_length]; exact infoHash
theorem info32a {G : Nat → Int} : (Try.prog.info? 43).map (·.size) = some (h32 G).toArray.size := by rw [List.size_toArray]; exact info32
theorem load32 {g : Nat} {G : Nat → Int} {w : World} (h : CK .u8 g 32 G w) : (Instr.loadAt 43 (.pointer (some ⟨g, 0, none⟩))).run Try.prog w = .ok (Hv G) w :=
  run_loadAt_mid w g 0 43 (h32 G) _ (range32 h) Try.underlying43 rfl (by rw [h32_length]; exact infoHash)
theorem store32 {g : Nat} {F G : Nat → Int} {w : World} (h : CK .u8 g 32 F w) (f : Fz g w) : (Instr.storeAt 43 (.pointer (some ⟨g, 0, none⟩)) (Hv G)).run Try.prog w = .ok () (w.setCells g 0 (h32 G)) := by
  have k := run_storeAt_mid (P := Try.prog) w g 0 43 (h32 G).toArray (by
    rw [List.size_toArray, h32_length]; exact there32 h f) (by rw [List.size_toArray, h32_length]; exact infoHash) (all_oneCell_toArray (h32_one G))
  exact k
theorem CK_zero32 (w : World) (T : TypeId) : CK .u8 w.heap.size 32 (fun _ => 0) (w.alloc (.cells #[.int .u8 0, .int .u8 0, .int .u8 0, .int .u8 0, .int .u8 0, .int .u8 0, .int .u8 0, .int .u8 0, .int .u8 0, .int .u8 0, .int .u8 0, .int .u8 0, .int .u8 0, .int .u8 0, .int .u8 0, .int .u8 0, .int .u8 0, .int .u8 0, .int .u8 0, .int .u8 0, .int .u8 0, .int .u8 0, .int .u8 0, .int .u8 0, .int .u8 0, .int .u8 0, .int .u8 0, .int .u8 0, .int .u8 0, .int .u8 0, .int .u8 0, .int .u8 0] T)) := by
  have e : (#[.int .u8 0, .int .u8 0, .int .u8 0, .int .u8 0, .int .u8 0, .int .u8 0, .int .u8 0, .int .u8 0, .int .u8 0, .int .u8 0, .int .u8 0, .int .u8 0, .int .u8 0, .int .u8 0, .int .u8 0, .int .u8 0, .int .u8 0, .int .u8 0, .int .u8 0, .int .u8 0, .int .u8 0, .int .u8 0, .int .u8 0, .int .u8 0, .int .u8 0, .int .u8 0, .int .u8 0, .int .u8 0, .int .u8 0, .int .u8 0, .int .u8 0, .int .u8 0] : Array Value) = (List.replicate 32 (Value.int .u8 0)).toArray := rfl
  rw [e]
  exact CK_row (Deep.blk_alloc_new _ _) (fun o ho => by rw [List.getElem?_replicate, if_pos ho])
theorem result32 (f : Func) (tm : Array Value) (W : World) (g s : Nat) (G : Nat → Int) (hf : f.results = #[.cell s 43]) (htm : tm.getD s undef = .pointer (some ⟨g, 0, none⟩)) (h : CK .u8 g 32 G W) : (results f tm).run Try.prog W = .ok (Hv G) W := by
  have h' := run_loadVar_mid (P := Try.prog) W g 0 43 (h32 G) _ (range32 h) Try.underlying43 rfl (by rw [h32_length]; exact infoHash)
  simp at htm
  simp [results, hf, htm, asAddr, h', Hv]
theorem CK_set32 {g : Nat} {F G : Nat → Int} {w : World} (h : CK .u8 g 32 F w) (f : Fz g w) : CK .u8 g 32 G (w.setCells g 0 (h32 G)) := fun o ho => by
  have k := World.rangeAt_setCells_same w g 0 (h32 G) (by rw [h32_length]; exact there32 h f) o _ (h32_get G o ho)
  rwa [Nat.zero_add] at k
theorem size_setCells (g : Nat) : ∀ (vs : List Value) (o : Nat) (w : World), (w.setCells g o vs).heap.size = w.heap.size
  | [], _, _ => rfl
  | v :: r, o, w => by rw [World.setCells, size_setCells g r]; simp
theorem Bel_sets {B g : Nat} {w0 : World} (hB : B ≤ g) : ∀ (vs : List Value) (o : Nat) (w : World), Below B w0 w → Below B w0 (w.setCells g o vs)
  | [], _, _, h => h
  | v :: r, o, w, h => by rw [World.setCells]; exact Bel_sets hB r _ _ (h.setCell (p := ⟨g, o, none⟩) hB v)
theorem CK_sets {k : IntKind} {g h n : Nat} {F : Nat → Int} {w : World} (c : CK k h n F w) (hne : h ≠ g) (vs : List Value) (o : Nat) : CK k h n F (w.setCells g o vs) := fun j hj => by
  rw [World.cell?_setCells_out g vs o w ⟨h, j, none⟩ (fun e => absurd e hne)]; exact c j hj
theorem Fz_sets {g h : Nat} {w : World} (c : Fz h w) (vs : List Value) (o : Nat) : Fz h (w.setCells g o vs) := fun j => by
  rw [World.frozen?_setCells]; exact c j
theorem Vb_sets {k : IntKind} {B g h n : Nat} {F : Nat → Int} {w : World} (c : Vb k B h n F w) (hne : h ≠ g) (vs : List Value) (o : Nat) : Vb k B h n F (w.setCells g o vs) := ⟨c.lo, by rw [size_setCells]; exact c.hi, CK_sets c.c hne vs o, Fz_sets c.f vs o⟩
theorem Vb_zero32 (B : Nat) (w : World) (T : TypeId) (hB : B ≤ w.heap.size) : Vb .u8 B w.heap.size 32 (fun _ => 0) (w.alloc (.cells #[.int .u8 0, .int .u8 0, .int .u8 0, .int .u8 0, .int .u8 0, .int .u8 0, .int .u8 0, .int .u8 0, .int .u8 0, .int .u8 0, .int .u8 0, .int .u8 0, .int .u8 0, .int .u8 0, .int .u8 0, .int .u8 0, .int .u8 0, .int .u8 0, .int .u8 0, .int .u8 0, .int .u8 0, .int .u8 0, .int .u8 0, .int .u8 0, .int .u8 0, .int .u8 0, .int .u8 0, .int .u8 0, .int .u8 0, .int .u8 0, .int .u8 0, .int .u8 0] T)) := ⟨hB, by simp, CK_zero32 w T, Fz_new w _ T⟩
/-- The first k bytes of G, noughts behind them. -/
def upto (G : Nat → Int) (k j : Nat) : Int := if j < k then G j else 0
theorem upto_step (G : Nat → Int) (k : Nat) : upd (upto G k) k (G k) = upto G (k + 1) := by
  funext j
  unfold upd upto
  repeat' split
  all_goals first | rfl | omega | (rename_i h _; rw [h])
theorem CK_upto {g : Nat} {G : Nat → Int} {w : World} (h : CK .u8 g 32 (upto G 32) w) : CK .u8 g 32 G w := CK_ext h (fun o ho => by unfold upto; rw [if_pos ho])
theorem Vb_byte {B g k : Nat} {F : Nat → Int} {w1 : World} (h : Vb .u8 B g 32 (upto (hb F) k) w1) (hk : k < 32) : Vb .u8 B g 32 (upto (hb F) (k + 1)) (w1.setCell ⟨g, k, none⟩ (.int .u8 (IntKind.u8.wrap (F (k / 8) / 2 ^ (8 * (k % 8)))))) := by
  rw [IntKind.wrap_u8', ← upto_step]; exact Vb_set h hk
end Sp
end Go.Proofs.Ytejldahlbhkemaa
/- word.Bytes: the 32 bytes of a word, the greatest first. -/
namespace Go.Proofs.Ytejldahlbhkemaa
open Go.RowKit Go.Shelf
theorem bt_out (a k p : Nat) (h : k + p = 31) : dg a (p / 8) / 2 ^ (8 * (p % 8)) % 256 = bt a k := by
  rw [byte_out]; unfold bt; rw [show 31 - k = p by omega]
theorem Vb_bt {B g k p a : Nat} {w1 : World} (h : Sp.Vb .u8 B g 32 (Sp.upto (bt a) k) w1) (hk : k < 32) (hp : k + p = 31) : Sp.Vb .u8 B g 32 (Sp.upto (bt a) (k + 1)) (w1.setCell ⟨g, k, none⟩ (.int .u8 (IntKind.u8.wrap (dg a (p / 8) / 2 ^ (8 * (p % 8)))))) := by
  rw [IntKind.wrap_u8', bt_out a k p hp, ← Sp.upto_step]; exact Sp.Vb_set h hk
theorem Vb_bt' {B g k p a : Nat} {w1 : World} (h : Sp.Vb .u8 B g 32 (Sp.upto (bt a) k) w1) (hk : k < 32) (hp : k + p = 31) : Sp.Vb .u8 B g 32 (Sp.upto (bt a) (k + 1)) (w1.setCell ⟨g, k, none⟩ (.int .u8 (dg a (p / 8) / 2 ^ (8 * (p % 8)) % 256))) := by
  rw [bt_out a k p hp, ← Sp.upto_step]; exact Sp.Vb_set h hk
set_option maxHeartbeats 2000000 in
set_option maxRecDepth 100000 in
theorem bytes_any (a : Nat) (w : World) :
    Calls Try.prog 38 #[Wd a] w fun e w' => e = .returned (Sp.Hv (bt a)) ∧ Below w.heap.size w w' := by
  conv => arg 3; unfold Wd
  go_enter Try.func38, Try.ntmps38
  go_wp2_with fail
  go_loopw [6] (fun s wr => ∃ k : Nat, k ≤ 32 ∧ s = .int .i64 k ∧ C4 w.heap.size a wr ∧ Sp.Vb .u8 w.heap.size (w.heap.size + 1) 32 (fun _ => 0) wr ∧ Sp.Vb .u8 w.heap.size (w.heap.size + 1 + 1) 32 (Sp.upto (bt a) k) wr ∧ Below w.heap.size w wr) (fun s _ => (32 - intOf s).toNat)
  case atStart =>
    have v1 := Sp.Vb_zero32 w.heap.size (w.alloc (.cells #[.int .u64 (dg a 0), .int .u64 (dg a 1), .int .u64 (dg a 2), .int .u64 (dg a 3)] 24)) 43 (by simp)
    have v2 := Sp.Vb_zero32 w.heap.size ((w.alloc (.cells #[.int .u64 (dg a 0), .int .u64 (dg a 1), .int .u64 (dg a 2), .int .u64 (dg a 3)] 24)).alloc (.cells #[.int .u8 0, .int .u8 0, .int .u8 0, .int .u8 0, .int .u8 0, .int .u8 0, .int .u8 0, .int .u8 0, .int .u8 0, .int .u8 0, .int .u8 0, .int .u8 0, .int .u8 0, .int .u8 0, .int .u8 0, .int .u8 0, .int .u8 0, .int .u8 0, .int .u8 0, .int .u8 0, .int .u8 0, .int .u8 0, .int .u8 0, .int .u8 0, .int .u8 0, .int .u8 0, .int .u8 0, .int .u8 0, .int .u8 0, .int .u8 0, .int .u8 0, .int .u8 0] 43)) 43 (by simp; omega)
    have b1 : Below w.heap.size w (((w.alloc (.cells #[.int .u64 (dg a 0), .int .u64 (dg a 1), .int .u64 (dg a 2), .int .u64 (dg a 3)] 24)).alloc (.cells #[.int .u8 0, .int .u8 0, .int .u8 0, .int .u8 0, .int .u8 0, .int .u8 0, .int .u8 0, .int .u8 0, .int .u8 0, .int .u8 0, .int .u8 0, .int .u8 0, .int .u8 0, .int .u8 0, .int .u8 0, .int .u8 0, .int .u8 0, .int .u8 0, .int .u8 0, .int .u8 0, .int .u8 0, .int .u8 0, .int .u8 0, .int .u8 0, .int .u8 0, .int .u8 0, .int .u8 0, .int .u8 0, .int .u8 0, .int .u8 0, .int .u8 0, .int .u8 0] 43)).alloc (.cells #[.int .u8 0, .int .u8 0, .int .u8 0, .int .u8 0, .int .u8 0, .int .u8 0, .int .u8 0, .int .u8 0, .int .u8 0, .int .u8 0, .int .u8 0, .int .u8 0, .int .u8 0, .int .u8 0, .int .u8 0, .int .u8 0, .int .u8 0, .int .u8 0, .int .u8 0, .int .u8 0, .int .u8 0, .int .u8 0, .int .u8 0, .int .u8 0, .int .u8 0, .int .u8 0, .int .u8 0, .int .u8 0, .int .u8 0, .int .u8 0, .int .u8 0, .int .u8 0] 43)) := by
      repeat (first | exact Below.refl _ _ | refine Below.alloc ?_ (by simp <;> omega) _)
    have c1 : C4 w.heap.size a (((w.alloc (.cells #[.int .u64 (dg a 0), .int .u64 (dg a 1), .int .u64 (dg a 2), .int .u64 (dg a 3)] 24)).alloc (.cells #[.int .u8 0, .int .u8 0, .int .u8 0, .int .u8 0, .int .u8 0, .int .u8 0, .int .u8 0, .int .u8 0, .int .u8 0, .int .u8 0, .int .u8 0, .int .u8 0, .int .u8 0, .int .u8 0, .int .u8 0, .int .u8 0, .int .u8 0, .int .u8 0, .int .u8 0, .int .u8 0, .int .u8 0, .int .u8 0, .int .u8 0, .int .u8 0, .int .u8 0, .int .u8 0, .int .u8 0, .int .u8 0, .int .u8 0, .int .u8 0, .int .u8 0, .int .u8 0] 43)).alloc (.cells #[.int .u8 0, .int .u8 0, .int .u8 0, .int .u8 0, .int .u8 0, .int .u8 0, .int .u8 0, .int .u8 0, .int .u8 0, .int .u8 0, .int .u8 0, .int .u8 0, .int .u8 0, .int .u8 0, .int .u8 0, .int .u8 0, .int .u8 0, .int .u8 0, .int .u8 0, .int .u8 0, .int .u8 0, .int .u8 0, .int .u8 0, .int .u8 0, .int .u8 0, .int .u8 0, .int .u8 0, .int .u8 0, .int .u8 0, .int .u8 0, .int .u8 0, .int .u8 0] 43)) := C4_below (C4_below (C4_alloc a w 24) ((Below.refl _ _).alloc (Nat.le_refl _) _) (by simp)) ((Below.refl _ _).alloc (Nat.le_refl _) _) (by simp; omega)
    simp only [World.size_alloc] at v1 v2
    exact ⟨0, by omega, rfl, c1, Sp.Vb_al v1 _, v2, b1⟩
  case round =>
    obtain ⟨k, hk, rfl, ca, v0, v1, hb0⟩ := hrel
    by_cases hlt : k < 32
    · obtain ⟨p, hp⟩ : ∃ p, k + p = 31 := ⟨31 - k, by omega⟩
      have e1 : (31 : Int) - (k : Int) = (p : Int) := by omega
      have HP : Hid (k + p = 31) := hp
      have hp32 : p < 32 := by omega
      clear hp
      have c0 := ca (p / 8) (by omega)
      have c1 := v1.c k hlt
      have f1 := v1.f k
      have u1 := dg_nn a (p / 8)
      have d1 : (k : Int) < 32 := by omega
      have d2 : (0 : Int) ≤ (p : Int) / 8 := by omega
      have d3 : (p : Int) / 8 < 4 := by omega
      have t1 : ((p : Int) / 8).toNat = p / 8 := by omega
      have d4 : (0 : Int) ≤ 8 * ((p : Int) % 8) := by omega
      have d5 : 8 * ((p : Int) % 8) ≤ 64 := by omega
      have t2 : (8 * ((p : Int) % 8)).toNat = 8 * (p % 8) := by omega
      go_wp2_with fail
      go_roundw
      case rel => exact ⟨k + 1, by omega, by go_num, C4_other ca (by dsimp only; omega), Sp.Vb_other v0 (by dsimp only; omega), by first | exact Vb_bt v1 hlt HP.out | exact Vb_bt' v1 hlt HP.out, hb0.setCell (by dsimp only; omega) _⟩
      case measure => simp [intOf]; omega
    · have hk32 : k = 32 := by omega
      subst hk32
      have r1 := Sp.range32 (Sp.CK_upto v1.c)
      have t1 := Sp.there32a (G := bt a) v0.c v0.f
      have C0 : Hid (Sp.CK .u8 (w.heap.size + 1) 32 (bt a) (wr.setCells (w.heap.size + 1) 0 (Sp.h32 (bt a)).toArray.toList)) := Sp.CK_set32 v0.c v0.f
      have HB : Hid (Below w.heap.size w (wr.setCells (w.heap.size + 1) 0 (Sp.h32 (bt a)).toArray.toList)) := Sp.Bel_sets (by omega) _ _ _ hb0
      clear v0 v1 hb0 ca
      go_upto_region 8 with fail
      refine wp_region_lit ?_
      refine wpList_load_mid rfl 43 (.tmp 3) rfl (w.heap.size + 1 + 1) 0 rfl (Sp.h32 (bt a)) _ r1 Try.underlying43 rfl Sp.info32 ?_
      refine wpList_store_mid rfl 43 (.tmp 2) (.tmp 23) rfl (w.heap.size + 1) 0 (Sp.h32 (bt a)).toArray rfl rfl t1 Sp.info32a (all_oneCell_toArray (Sp.h32_one (bt a))) ?_
      refine wpList_nil ?_
      clear r1 t1
      generalize wr.setCells (w.heap.size + 1) 0 (Sp.h32 (bt a)).toArray.toList = W2 at C0 HB ⊢
      generalize (Sp.h32 (bt a)).toArray = cs
      go_wp2_with fail
      exact bodyPost_ret (v := Sp.Hv (bt a)) (Sp.result32 _ _ _ (w.heap.size + 1) 2 _ rfl rfl C0.out) rfl ⟨rfl, HB.out⟩
end Go.Proofs.Ytejldahlbhkemaa
/- twos.Byte. -/
namespace Go.Proofs.Ytejldahlbhkemaa
open Go.RowKit Go.Shelf
theorem RW.idx {K : Value → World → Prop} {a : Act} {o : Oper} {X I : Operand} {G : Nat → Int} {i : Nat} {w : World} (ho : o.op = .index 43 X I) (hx : a.eval X = Sp.Hv G) (hi : a.eval I = .int .u64 (i : Int)) (h : i < 32)
    (hK : K (.int .u8 (G i)) w) : RS.upv Try.prog K ((execOp a.eval o).run Try.prog w) := by
  obtain ⟨dst, op, ty, pos, after, guard⟩ := o
  simp only at ho
  subst ho
  generalize a.eval = ρ at *
  unfold Sp.Hv at hx
  have e1 : (Sp.h32 G).toArray[i]? = some (.int .u8 (G i)) := by simp [Sp.h32, h]
  generalize (Sp.h32 G).toArray = xs at *
  have hU : Try.prog.underlying 43 = some (.array 32 5) := by kernel_rfl
  have e3 : (Instr.index 43 (.agg xs) (.int .u64 (i : Int))).run Try.prog w = .ok (.int .u8 (G i)) w := by
    simp [Instr.index, run_underlying hU, asIntOf, h, go_sem, e1]
  go_simp
  exact hK
/-- Byte n of a word, as a number. -/
def byn (n a : Nat) : Nat := if n < 32 then a / 2 ^ (8 * (31 - n)) % 256 else 0
set_option maxHeartbeats 4000000 in
set_option maxRecDepth 100000 in
theorem byte_far (n a : Nat) (hn : n < 2 ^ 256) (h : 32 ≤ n) (w : World) :
    Calls Try.prog 19 #[Wd n, Wd a] w fun e w' => e = .returned (Wd 0) ∧ Below w.heap.size w w' := by
  have KA : Hid (∀ w : World, Calls Try.prog 36 #[Wd n, .int .u64 32] w fun e w' => e = .returned (.int .u64 32) ∧ Below w.heap.size w w') := fun w => by have := atmost_any n 32 hn (by decide) w; rwa [show min n 32 = 32 by omega] at this
  clear hn h
  obtain ⟨N, hN⟩ : ∃ N, N = 0 := ⟨_, rfl⟩
  rw [← hN]
  have m0 := Hm.new0 (g := w.heap.size + 1 + 1) (T := 24) (Hm.new4 (g := w.heap.size + 1) (n := a) (T := 24) (Hm.new4 (g := w.heap.size) (n := n) (T := 24) (Hm.start w) rfl) (by simp)) (by simp)
  have hne : ∀ b, b ∈ [Hm.W4 (w.heap.size + 1) a, Hm.W4 w.heap.size n] → w.heap.size + 1 + 1 ≠ b.g := by
    intro b hb
    simp only [List.mem_cons, List.not_mem_nil, or_false] at hb
    rcases hb with rfl | rfl <;> simp only [Hm.W4] <;> omega
  conv => arg 3; unfold Wd
  go_enter Try.func19, Try.ntmps19
  go_wp2_with fail
  generalize ((w.alloc (.cells #[.int .u64 (dg n 0), .int .u64 (dg n 1), .int .u64 (dg n 2), .int .u64 (dg n 3)] 24)).alloc (.cells #[.int .u64 (dg a 0), .int .u64 (dg a 1), .int .u64 (dg a 2), .int .u64 (dg a 3)] 24)).alloc (.cells #[.int .u64 0, .int .u64 0, .int .u64 0, .int .u64 0] 24) = W0 at m0 ⊢
  refine (KA.out _).mono ?_
  rintro e w1 ⟨rfl, hb⟩
  have m1 := Hm.below m0 hb
  clear hb m0
  have m2 := m1
  clear m1
  have c2 : ∀ o, o < 4 → w1.cell? ⟨w.heap.size + 1 + 1, o, none⟩ = some (.int .u64 (dg 0 o)) := (m2.ok _ (List.mem_cons_self ..)).c
  have f2 : ∀ o, w1.frozen? ⟨w.heap.size + 1 + 1, o, none⟩ = false := (m2.ok _ (List.mem_cons_self ..)).f
  have HV : Hid (Hm.Hd w [Hm.W4 (w.heap.size + 1 + 1) N, Hm.W4 (w.heap.size + 1) a, Hm.W4 w.heap.size n] _) := Hm.set4 m2 hne
  clear m2 hne
  subst hN
  go_wp2_with fail
  exact bodyPost_ret (v := Wd 0) (resultTw _ _ _ (w.heap.size + 1 + 1) 0 4 rfl rfl (HV.out.ok _ (List.mem_cons_self ..)).c) rfl ⟨rfl, HV.out.bel⟩
set_option maxHeartbeats 4000000 in
set_option maxRecDepth 100000 in
theorem byte_at (n a : Nat) (hn : n < 2 ^ 256) (h : n < 32) (w : World) :
    Calls Try.prog 19 #[Wd n, Wd a] w fun e w' => e = .returned (Wd (a / 2 ^ (8 * (31 - n)) % 256)) ∧ Below w.heap.size w w' := by
  obtain ⟨N, hN⟩ : ∃ N, N = a / 2 ^ (8 * (31 - n)) % 256 := ⟨_, rfl⟩
  have KA : Hid (∀ w : World, Calls Try.prog 36 #[Wd n, .int .u64 32] w fun e w' => e = .returned (.int .u64 (n : Int)) ∧ Below w.heap.size w w') := fun w => by have := atmost_any n 32 hn (by decide) w; rwa [show min n 32 = n by omega] at this
  have KB : Hid (∀ w : World, Calls Try.prog 38 #[Wd a] w fun e w' => e = .returned (Sp.Hv (bt a)) ∧ Below w.heap.size w w') := fun w => bytes_any a w
  have KI : Hid (∀ w : World, Calls Try.prog 37 #[.int .u64 (N : Int)] w fun e w' => e = .returned (Wd N) ∧ Below w.heap.size w w') := fun w => int_any N (by omega) w
  have eN : Hid (bt a n = (N : Int)) := (by rw [hN]; rfl : bt a n = (N : Int))
  have hn32 : Hid (n < 32) := h
  have eW : Hid (IntKind.u64.wrap (N : Int) = N) := (by rw [IntKind.wrap_u64]; omega : IntKind.u64.wrap (N : Int) = N)
  rw [← hN]
  clear hn hN
  have m0 := Hm.new0 (g := w.heap.size + 1 + 1) (T := 24) (Hm.new4 (g := w.heap.size + 1) (n := a) (T := 24) (Hm.new4 (g := w.heap.size) (n := n) (T := 24) (Hm.start w) rfl) (by simp)) (by simp)
  have hne : ∀ b, b ∈ [Hm.W4 (w.heap.size + 1) a, Hm.W4 w.heap.size n] → w.heap.size + 1 + 1 ≠ b.g := by
    intro b hb
    simp only [List.mem_cons, List.not_mem_nil, or_false] at hb
    rcases hb with rfl | rfl <;> simp only [Hm.W4] <;> omega
  conv => arg 3; unfold Wd
  go_enter Try.func19, Try.ntmps19
  go_wp2_with fail
  generalize ((w.alloc (.cells #[.int .u64 (dg n 0), .int .u64 (dg n 1), .int .u64 (dg n 2), .int .u64 (dg n 3)] 24)).alloc (.cells #[.int .u64 (dg a 0), .int .u64 (dg a 1), .int .u64 (dg a 2), .int .u64 (dg a 3)] 24)).alloc (.cells #[.int .u64 0, .int .u64 0, .int .u64 0, .int .u64 0] 24) = W0 at m0 ⊢
  refine (KA.out _).mono ?_
  rintro e w1 ⟨rfl, hb⟩
  have m1 := Hm.below m0 hb
  clear hb m0
  go_upto_region 4 with fail
  refine RS.wp_region_flat (Hm.Hd w [⟨w.heap.size + 1 + 1, 4, fun o => .int .u64 (dg 0 o)⟩, Hm.W4 (w.heap.size + 1) a, Hm.W4 w.heap.size n]) 6 (by kernel_rfl) (m1) ?_
  simp only [List.take_succ_cons, List.take_zero, List.drop_succ_cons, List.drop_zero]
  refine RS.go1 (v := ?_) (a' := ?_) rfl ?_ ?_ ?_
  rotate_left 2
  · intro K wx hS hK
    refine RW.ld rfl rfl (hS.ok (Hm.W4 (w.heap.size + 1) (a)) (by simp)).c ?_
    exact hK _ hS
  · simp only [Act.put, List.setIfInBounds_toArray, List.set_cons_succ, List.set_cons_zero]
    rfl
  refine RS.go1 (v := ?_) (a' := ?_) rfl ?_ ?_ ?_
  rotate_left 2
  · intro K wx hS hK
    go_simp
    refine (KB.out _).mono (fun e w2 he => ?_)
    refine ⟨_, he.1, ?_⟩
    exact hK _ (Hm.below hS he.2)
  · simp only [Act.put, List.setIfInBounds_toArray, List.set_cons_succ, List.set_cons_zero]
    rfl
  refine RS.go1 (v := ?_) (a' := ?_) rfl ?_ ?_ ?_
  rotate_left 2
  · intro K wx hS hK
    go_simp
    exact hK _ hS
  · simp only [Act.put, List.setIfInBounds_toArray, List.set_cons_succ, List.set_cons_zero]
    rfl
  refine RS.go1 (v := ?_) (a' := ?_) rfl ?_ ?_ ?_
  rotate_left 2
  · intro K wx hS hK
    refine RW.idx rfl rfl rfl hn32.out ?_
    rw [eN.out]
    exact hK _ hS
  · simp only [Act.put, List.setIfInBounds_toArray, List.set_cons_succ, List.set_cons_zero]
    rfl
  refine RS.go1 (v := ?_) (a' := ?_) rfl ?_ ?_ ?_
  rotate_left 2
  · intro K wx hS hK
    have e := eW.out
    go_simp
    exact hK _ hS
  · simp only [Act.put, List.setIfInBounds_toArray, List.set_cons_succ, List.set_cons_zero]
    rfl
  refine RS.go1 (v := ?_) (a' := ?_) rfl ?_ ?_ ?_
  rotate_left 2
  · intro K wx hS hK
    go_simp
    refine (KI.out _).mono (fun e w2 he => ?_)
    refine ⟨_, he.1, ?_⟩
    exact hK _ (Hm.below hS he.2)
  · simp only [Act.put, List.setIfInBounds_toArray, List.set_cons_succ, List.set_cons_zero]
    rfl
  refine RS.go_end ?_
  intro w2 m2
  clear m1
  have c2 : ∀ o, o < 4 → w2.cell? ⟨w.heap.size + 1 + 1, o, none⟩ = some (.int .u64 (dg 0 o)) := (m2.ok _ (List.mem_cons_self ..)).c
  have f2 : ∀ o, w2.frozen? ⟨w.heap.size + 1 + 1, o, none⟩ = false := (m2.ok _ (List.mem_cons_self ..)).f
  have HV : Hid (Hm.Hd w [Hm.W4 (w.heap.size + 1 + 1) N, Hm.W4 (w.heap.size + 1) a, Hm.W4 w.heap.size n] _) := Hm.set4 m2 hne
  clear m2 hne
  unfold Wd
  go_wp2_with fail
  exact bodyPost_ret (v := Wd N) (resultTw _ _ _ (w.heap.size + 1 + 1) N 4 rfl rfl (HV.out.ok _ (List.mem_cons_self ..)).c) rfl ⟨rfl, HV.out.bel⟩
theorem byte_any (n a : Nat) (hn : n < 2 ^ 256) (w : World) :
    Calls Try.prog 19 #[Wd n, Wd a] w fun e w' => e = .returned (Wd (byn n a)) ∧ Below w.heap.size w w' := by
  unfold byn
  by_cases h : n < 32
  · rw [if_pos h]; exact byte_at n a hn h w
  · rw [if_neg h]; exact byte_far n a hn (by omega) w
end Go.Proofs.Ytejldahlbhkemaa
/- The order of two lists of bytes, the greatest first, is that of the numbers. -/
namespace Go.Proofs.Ytejldahlbhkemaa
open Go.RowKit Go.Shelf
/-- The m least bytes of a, the greatest first. -/
def BB (a : Nat) : Nat → List UInt8
  | 0 => []
  | m + 1 => UInt8.ofNat (a / 2 ^ (8 * m) % 256) :: BB a m
theorem u8_lt (x y : Nat) (hx : x < 256) (hy : y < 256) : decide (UInt8.ofNat x < UInt8.ofNat y) = decide (x < y) := by
  rw [decide_eq_decide, UInt8.lt_iff_toNat_lt, UInt8.toNat_ofNat', UInt8.toNat_ofNat', Nat.mod_eq_of_lt hx, Nat.mod_eq_of_lt hy]
theorem u8_eq (x y : Nat) (hx : x < 256) (hy : y < 256) : (UInt8.ofNat x == UInt8.ofNat y) = decide (x = y) := by
  rw [Bool.eq_iff_iff, beq_iff_eq, decide_eq_true_iff]
  constructor
  · intro h
    have := congrArg UInt8.toNat h
    rw [UInt8.toNat_ofNat', UInt8.toNat_ofNat', Nat.mod_eq_of_lt hx, Nat.mod_eq_of_lt hy] at this
    exact this
  · intro h; rw [h]
theorem mod_split (n m : Nat) : n % 2 ^ (8 * (m + 1)) = n % 2 ^ (8 * m) + 2 ^ (8 * m) * (n / 2 ^ (8 * m) % 256) := by
  rw [Nat.mul_add, Nat.pow_add, Nat.mod_mul]
theorem lex_lt (p x y u v : Nat) (hu : u < p) (hv : v < p) : (u + p * x < v + p * y) ↔ (x < y ∨ (x = y ∧ u < v)) := by
  rcases Nat.lt_trichotomy x y with h | h | h
  · have : p * x + p ≤ p * y := by rw [← Nat.mul_succ]; exact Nat.mul_le_mul_left p h
    constructor
    · intro _; exact Or.inl h
    · intro _; omega
  · subst h
    constructor
    · intro k; exact Or.inr ⟨rfl, by omega⟩
    · rintro (k | ⟨_, k⟩) <;> omega
  · have : p * y + p ≤ p * x := by rw [← Nat.mul_succ]; exact Nat.mul_le_mul_left p h
    constructor
    · intro k; omega
    · rintro (k | ⟨k, _⟩) <;> omega
theorem bb_less (a b : Nat) : ∀ m, Op.bytesLess (BB a m) (BB b m) = decide (a % 2 ^ (8 * m) < b % 2 ^ (8 * m))
  | 0 => by simp [BB, Op.bytesLess, Nat.mod_one]
  | m + 1 => by
    have hp : 0 < 2 ^ (8 * m) := Nat.two_pow_pos _
    have ha := Nat.mod_lt (a / 2 ^ (8 * m)) (show 0 < 256 by decide)
    have hb := Nat.mod_lt (b / 2 ^ (8 * m)) (show 0 < 256 by decide)
    rw [BB, BB, Op.bytesLess, bb_less a b m, u8_lt _ _ ha hb, u8_eq _ _ ha hb, mod_split a m, mod_split b m]
    have := lex_lt (2 ^ (8 * m)) (a / 2 ^ (8 * m) % 256) (b / 2 ^ (8 * m) % 256) (a % 2 ^ (8 * m)) (b % 2 ^ (8 * m)) (Nat.mod_lt _ hp) (Nat.mod_lt _ hp)
    rw [Bool.eq_iff_iff]
    simp only [Bool.or_eq_true, Bool.and_eq_true, decide_eq_true_iff]
    exact this.symm
/-- The bytes of a word as a string. -/
def wstr (a : Nat) : ByteArray := strOfNums ((List.range 32).map (bt a))
theorem wstr_list (a : Nat) : (wstr a).toList = BB a 32 := by
  rw [ByteArray.toList_eq]
  unfold wstr
  rw [strOfNums_data]
  rfl
theorem wstr_less (a b : Nat) (ha : a < 2 ^ 256) (hb : b < 2 ^ 256) : Op.bytesLess (wstr a).toList (wstr b).toList = decide (a < b) := by
  rw [wstr_list, wstr_list, bb_less, Nat.mod_eq_of_lt (by simpa using ha), Nat.mod_eq_of_lt (by simpa using hb)]
theorem bb_inj (a b : Nat) : ∀ m, BB a m = BB b m → a % 2 ^ (8 * m) = b % 2 ^ (8 * m)
  | 0, _ => by simp [Nat.mod_one]
  | m + 1, h => by
    have ha := Nat.mod_lt (a / 2 ^ (8 * m)) (show 0 < 256 by decide)
    have hb := Nat.mod_lt (b / 2 ^ (8 * m)) (show 0 < 256 by decide)
    rw [BB, BB, List.cons.injEq] at h
    have h1 := u8_eq _ _ ha hb
    rw [h.1, beq_self_eq_true] at h1
    have h2 := of_decide_eq_true h1.symm
    rw [mod_split a m, mod_split b m, bb_inj a b m h.2, h2]
theorem bt_getD (a i : Nat) (hi : i < 32) : ((List.range 32).map (bt a)).getD i 0 = bt a i := by
  rw [List.getD_eq_getElem?_getD, List.getElem?_map, List.getElem?_range hi]
  rfl
end Go.Proofs.Ytejldahlbhkemaa
/- lampbearerref.WLess: the order of words, by their bytes. -/
namespace Go.Proofs.Ytejldahlbhkemaa
open Go.RowKit Go.Shelf
attribute [local go_sem ↓] Go.wp_at_zero Go.wp_at_succ
theorem conv_bytes {g cap : Nat} {a : Nat} {w : World} (h : R32 g (bt a) w) : (convert 45 9 (.slice (some ⟨g, 0, none⟩) 32 cap)).run Try.prog w = .ok (.string (wstr a)) w :=
  run_convert_bytes_arg w 45 5 Try.underlying45 Try.underlying5 g 0 32 cap ((List.range 32).map (bt a)) (by simp) (fun i hi => by rw [Nat.zero_add, bt_getD a i hi]; exact h i hi) 9 Try.underlying9
set_option maxHeartbeats 1000000 in
set_option maxRecDepth 100000 in
theorem wless_any (a b : Nat) (ha : a < 2 ^ 256) (hb : b < 2 ^ 256) (w : World) :
    Calls Try.prog 39 #[Wd a, Wd b] w fun e w' => e = .returned (.bool (decide (a < b))) ∧ Below w.heap.size w w' := by
  rw [← wstr_less a b ha hb]
  clear ha hb
  conv => arg 3; unfold Wd
  go_enter Try.func39, Try.ntmps39
  have s0 : C4 w.heap.size a ((w.alloc (.cells #[.int .u64 (dg a 0), .int .u64 (dg a 1), .int .u64 (dg a 2), .int .u64 (dg a 3)] 24)).alloc (.cells #[.int .u64 (dg b 0), .int .u64 (dg b 1), .int .u64 (dg b 2), .int .u64 (dg b 3)] 24)).drew ∧ C4 (w.heap.size + 1) b ((w.alloc (.cells #[.int .u64 (dg a 0), .int .u64 (dg a 1), .int .u64 (dg a 2), .int .u64 (dg a 3)] 24)).alloc (.cells #[.int .u64 (dg b 0), .int .u64 (dg b 1), .int .u64 (dg b 2), .int .u64 (dg b 3)] 24)).drew := by
    refine ⟨fun o ho => ?_, fun o ho => ?_⟩ <;> (have : o = 0 ∨ o = 1 ∨ o = 2 ∨ o = 3 := (by omega)) <;> rcases this with rfl | rfl | rfl | rfl <;> simp [go_sem]
  have z0 : w.heap.size + 1 < ((w.alloc (.cells #[.int .u64 (dg a 0), .int .u64 (dg a 1), .int .u64 (dg a 2), .int .u64 (dg a 3)] 24)).alloc (.cells #[.int .u64 (dg b 0), .int .u64 (dg b 1), .int .u64 (dg b 2), .int .u64 (dg b 3)] 24)).drew.heap.size := by simp
  have b0 : Below w.heap.size w ((w.alloc (.cells #[.int .u64 (dg a 0), .int .u64 (dg a 1), .int .u64 (dg a 2), .int .u64 (dg a 3)] 24)).alloc (.cells #[.int .u64 (dg b 0), .int .u64 (dg b 1), .int .u64 (dg b 2), .int .u64 (dg b 3)] 24)).drew := (((Below.refl _ _).alloc (Nat.le_refl _) _).alloc (by simp) _).drew
  go_wp2
  go_region_with
    (first
      | (go_at_call_of 41 (dg a 0); refine (wbytes_any a _).mono ?_; rintro e w1 ⟨g1, cap1, rfl, own1, hb1⟩; have z1 : w.heap.size + 1 < w1.heap.size := Nat.lt_of_lt_of_le z0 hb1.size; have s1 := And.intro (C4_below s0.1 hb1 (Nat.lt_of_succ_lt z0)) (C4_below s0.2 hb1 z0); have b1 := b0.trans (hb1.mono (Nat.le_of_lt (Nat.lt_of_succ_lt z0))); have c1 : ∀ o, o < 4 → w1.cell? ⟨w.heap.size + 1, o, none⟩ = some (.int .u64 (dg b o)) := s1.2; have q1 := R32_own own1; have l1 := (own1.lt g1 rfl).2; have v1 := conv_bytes (cap := cap1) q1; clear own1 hb1)
      | (go_at_call_of 41 (dg b 0); refine (wbytes_any b _).mono ?_; rintro e w2 ⟨g2, cap2, rfl, own2, hb2⟩; have s2 := And.intro (C4_below s1.1 hb2 (Nat.lt_of_succ_lt z1)) (C4_below s1.2 hb2 z1); have b2 := b1.trans (hb2.mono (Nat.le_of_lt (Nat.lt_of_succ_lt z1))); have q2 := R32_own own2; have v2 := conv_bytes (cap := cap2) q2; have v3 := conv_bytes (cap := cap1) (R32_below q1 hb2 l1); clear own2 hb2))
  all_goals
    go_wp2
    go_ret
    exact ⟨rfl, b2⟩
end Go.Proofs.Ytejldahlbhkemaa
/- A region that draws its order: some values stand fast whatever the order (class 0), some hang on when they come (class 1: new blocks), and the rest come behind all these, one behind the other (class 2). -/
namespace Go.Proofs.Ytejldahlbhkemaa
namespace RG
open RI RS RN Go.RowKit
variable {P : Program} {ops : Array Oper} {Q : Exit → Act → World → Prop}
def cls (ks : List Nat) (j : Nat) : Nat := ks.getD j 2
def updU (U : Nat → Value) (i : Nat) (v : Value) : Nat → Value := fun j => if j = i then v else U j
/-- A step of class 0. -/
def DStep (P : Program) (ops : Array Oper) (I : (Nat → Bool) → (Nat → Value) → World → Prop) (i : Nat) (o : Oper) (v : Value) (a : Act) : Prop :=
  (Region.wanted o (yielded ops a.tmps) = true ∧ ∀ (K : Value → World → Prop) d U w, I d U w → may ops d i → (∀ w', I (don d i) U w' → K v w') → upv P K ((execOp a.eval o).run P w)) ∨
  (Region.wanted o (yielded ops a.tmps) = false ∧ v = undef ∧ ∀ d U w, I d U w → may ops d i → I (don d i) U w)
/-- A step of class 1. -/
def NStep (P : Program) (ops : Array Oper) (I : (Nat → Bool) → (Nat → Value) → World → Prop) (j : Nat) (o : Oper) (a : Act) : Prop :=
  ∀ (K : Value → World → Prop) d U w, I d U w → may ops d j → (∀ v w', I (don d j) (updU U j v) w' → K v w') → upv P K ((execOp a.eval o).run P w)
/-- The walk in the text's order: class 0 by its value, class 1 by its fact. -/
def Walk (P : Program) (ops : Array Oper) (I : (Nat → Bool) → (Nat → Value) → World → Prop) (E : Act → Prop) : Nat → List Oper → List Nat → Act → Prop
  | j, o :: r, k :: ks, a =>
    if k = 0 then ∃ v, DStep P ops I j o v a ∧ Walk P ops I E (j + 1) r ks (a.put o.dst v)
    else if k = 1 then o.guard = none ∧ NStep P ops I j o a ∧ Walk P ops I E (j + 1) r ks a
    else Walk P ops I E (j + 1) r ks a
  | _, _, _, a => E a
def tl : List Oper → List Nat → List Oper
  | o :: r, k :: ks => if k = 2 then o :: tl r ks else tl r ks
  | _, _ => []
def putN (U : Nat → Value) : Nat → List Oper → List Nat → Act → Act
  | j, o :: r, k :: ks, a => if k = 1 then putN U (j + 1) r ks (a.put o.dst (U j)) else putN U (j + 1) r ks a
  | _, _, _, a => a
/-- What each operation is bound to, through others too, as bits. -/
def mask1 (ms : List Nat) (o : Oper) : Nat := o.after.toList.foldl (fun m e => if Region.binds .any e then m ||| (1 <<< e.on) ||| ms.getD e.on 0 else m) 0
def masks (ops : Array Oper) : Nat → List Nat
  | 0 => []
  | k + 1 => masks ops k ++ [((ops[k]?).map (mask1 (masks ops k))).getD 0]
def pairC (ops : Array Oper) (ks : List Nat) (i j : Nat) : Bool :=
  match ops[i]?, ops[j]? with
  | some x, some y =>
    match y.dst with
    | none => true
    | some t =>
      if cls ks i = 2 then true
      else if cls ks j = 2 then true
      else (x.dst != some t || i == j) && (if cls ks j = 1 then !(x.looksAt ops).contains t else (!(x.looksAt ops).contains t || (decide (j < i) && bindsOn x j) || (decide (i < j) && bindsOn y i)))
  | _, _ => true
def okC (ops : Array Oper) (ks : List Nat) : Bool :=
  RI.early ops && decide (ks.length = ops.size) && (List.range ops.size).all fun i =>
    (((ops[i]?).map fun o => !isSel o.op).getD true && decide (cls ks i ≤ 2)) && (List.range ops.size).all (fun j => pairC ops ks i j) &&
    (if cls ks i = 2 then (List.range ops.size).all fun j => (decide (cls ks j = 2) && decide (i ≤ j)) || ((masks ops ops.size).getD i 0).testBit j else true)
theorem masks_len (ops : Array Oper) : ∀ k, (masks ops k).length = k
  | 0 => rfl
  | k + 1 => by rw [masks, List.length_append, masks_len ops k]; rfl
theorem masks_get (ops : Array Oper) : ∀ n k, k < n → (masks ops n).getD k 0 = ((ops[k]?).map (mask1 (masks ops k))).getD 0
  | 0, k, h => absurd h (by omega)
  | n + 1, k, h => by
    rw [masks]
    by_cases e : k = n
    · subst e
      rw [List.getD_eq_getElem?_getD, List.getElem?_append_right (by rw [masks_len]; omega), masks_len]
      simp
    · rw [List.getD_eq_getElem?_getD, List.getElem?_append_left (by rw [masks_len]; omega), ← List.getD_eq_getElem?_getD]
      exact masks_get ops n k (by omega)
def Closed (ops : Array Oper) (d : Nat → Bool) : Prop := ∀ (j : Nat) (o : Oper), ops[j]? = some o → d j = true → ∀ e, e ∈ o.after → Region.binds .any e = true → d e.on = true
theorem mask1_bit (ms : List Nat) (o : Oper) (i : Nat) (h : (mask1 ms o).testBit i = true) : ∃ e, e ∈ o.after ∧ Region.binds .any e = true ∧ (e.on = i ∨ (ms.getD e.on 0).testBit i = true) := by
  unfold mask1 at h
  have key : ∀ (l : List Edge) (m : Nat), (l.foldl (fun m e => if Region.binds .any e then m ||| (1 <<< e.on) ||| ms.getD e.on 0 else m) m).testBit i = true → m.testBit i = true ∨ ∃ e, e ∈ l ∧ Region.binds .any e = true ∧ (e.on = i ∨ (ms.getD e.on 0).testBit i = true) := by
    intro l
    induction l with
    | nil => intro m h; exact .inl h
    | cons e r ih =>
      intro m h
      rw [List.foldl_cons] at h
      rcases ih _ h with h1 | ⟨e', h1, h2⟩
      · by_cases hb : Region.binds .any e = true
        · rw [if_pos hb, Nat.testBit_or, Nat.testBit_or, Bool.or_eq_true, Bool.or_eq_true] at h1
          rcases h1 with (h1 | h1) | h1
          · exact .inl h1
          · refine .inr ⟨e, List.mem_cons_self .., hb, .inl ?_⟩
            rw [Nat.one_shiftLeft, Nat.testBit_two_pow] at h1
            simpa using h1
          · exact .inr ⟨e, List.mem_cons_self .., hb, .inr h1⟩
        · rw [if_neg hb] at h1; exact .inl h1
      · exact .inr ⟨e', List.mem_cons_of_mem _ h1, h2⟩
  rcases key _ 0 h with h1 | ⟨e, h1, h2⟩
  · rw [Nat.zero_testBit] at h1; cases h1
  · exact ⟨e, by simpa using h1, h2⟩
theorem mask_done (he : RI.early ops = true) (d : Nat → Bool) (hcl : Closed ops d) : ∀ (n j : Nat), j < n → n ≤ ops.size → (∀ o, ops[j]? = some o → ∀ e, e ∈ o.after → Region.binds .any e = true → d e.on = true) → ∀ i, (((ops[j]?).map (mask1 (masks ops j))).getD 0).testBit i = true → d i = true
  | 0, j, h, _, _, _, _ => absurd h (by omega)
  | n + 1, j, hj, hn, hd, i, h => by
    have hjs : j < ops.size := by omega
    rw [Array.getElem?_eq_getElem hjs] at h
    simp only [Option.map_some, Option.getD_some] at h
    obtain ⟨e, h1, h2, h3⟩ := mask1_bit _ _ _ h
    have h4 := hd _ (Array.getElem?_eq_getElem hjs) e h1 h2
    rcases h3 with rfl | h3
    · exact h4
    · have hlt : e.on < j := by
        have h5 := List.all_eq_true.1 he j (List.mem_range.2 hjs)
        rw [Array.getElem?_eq_getElem hjs] at h5
        simp only [Option.map_some, Option.getD_some, Array.all_eq_true_iff_forall_mem] at h5
        have := h5 e h1
        rw [h2] at this
        simpa using this
      rw [masks_get ops j e.on hlt] at h3
      exact mask_done he d hcl n e.on (by omega) (by omega) (fun o ho => hcl e.on o ho h4) i h3
theorem fr_get2 (V : Nat → Value) (a : Act) (d c : Nat → Bool) (i t : Nat) : ∀ k, (∀ j, j < k → (ops[j]?).bind (·.dst) = some t → (j < i ∧ d j = true ∧ c j = true) ∨ (d j = false ∧ (c j = false ∨ i ≤ j))) → (fr ops V d a k).tmps[t]? = (fr ops V c a (min k i)).tmps[t]?
  | 0, _ => by simp [fr]
  | k + 1, h => by
    have ih := fr_get2 V a d c i t k (fun j hj => h j (by omega))
    have hk := h k (by omega)
    by_cases hi : k < i
    · rw [show min (k + 1) i = k + 1 by omega, fr, fr]
      rw [show min k i = k by omega] at ih
      by_cases e : (ops[k]?).bind (·.dst) = some t
      · rcases hk e with ⟨_, h2, h3⟩ | ⟨h1, h2 | h2⟩
        · rw [h2, h3]; simp only [if_true]; rw [put_get, put_get]; simp only [get_size ih, ih]
        · rw [h1, h2]; exact ih
        · omega
      · have q : ∀ (x : Act) (b : Bool), (if b then x.put ((ops[k]?).bind (·.dst)) (V k) else x).tmps[t]? = x.tmps[t]? := by
          intro x b; cases b
          · rfl
          · simp only [if_true]; rw [put_get, if_neg e]
        rw [q, q, ih]
    · rw [show min (k + 1) i = i by omega, fr]
      rw [show min k i = i by omega] at ih
      by_cases e : (ops[k]?).bind (·.dst) = some t
      · rcases hk e with ⟨h1, _⟩ | ⟨h2, _⟩
        · omega
        · rw [h2]; exact ih
      · cases d k
        · exact ih
        · simp only [if_true]; rw [put_get, if_neg e]; exact ih
theorem fr_put2 (V : Nat → Value) (a : Act) (d : Nat → Bool) (i : Nat) (hd : d i = false) : ∀ k, (∀ j, j < k → d j = true → ∀ t, (ops[i]?).bind (·.dst) = some t → (ops[j]?).bind (·.dst) ≠ some t) →
    fr ops V (don d i) a k = if i < k then (fr ops V d a k).put ((ops[i]?).bind (·.dst)) (V i) else fr ops V d a k
  | 0, _ => by simp [fr]
  | k + 1, h => by
    have ih := fr_put2 V a d i hd k (fun j hj => h j (by omega))
    rw [fr, fr]
    by_cases e : k = i
    · subst e
      rw [don_same, hd, ih, if_neg (show ¬ k < k by omega), if_pos (show k < k + 1 by omega)]
      simp
    · rw [don_other _ _ _ e, ih]
      by_cases h1 : i < k
      · rw [if_pos h1, if_pos (show i < k + 1 by omega)]
        cases hk : d k with
        | false => simp
        | true =>
          simp only [if_true]
          exact Act.put_comm _ _ _ (fun t ht => h k (by omega) hk t ht)
      · rw [if_neg h1, if_neg (show ¬ i < k + 1 by omega)]
def isD (ks : List Nat) (j : Nat) : Bool := cls ks j == 0
/-- What the walk gives. -/
theorem walk_vals {I : (Nat → Bool) → (Nat → Value) → World → Prop} {E : Act → Prop} (ks : List Nat) (a : Act) : ∀ (l : List Oper) (k : List Nat) (m : Nat) (V : Nat → Value), l.length = k.length → (∀ j o, l[j]? = some o → ops[m + j]? = some o) → (∀ j c, k[j]? = some c → cls ks (m + j) = c) → Walk P ops I E m l k (fr ops V (isD ks) a m) →
    ∃ V', (∀ j, j < m → V' j = V j) ∧ (∀ j o, l[j]? = some o → cls ks (m + j) = 0 → DStep P ops I (m + j) o (V' (m + j)) (fr ops V' (isD ks) a (m + j))) ∧ (∀ j o, l[j]? = some o → cls ks (m + j) = 1 → o.guard = none ∧ NStep P ops I (m + j) o (fr ops V' (isD ks) a (m + j))) ∧ E (fr ops V' (isD ks) a (m + l.length))
  | [], k, m, V, _, _, _, h => ⟨V, fun _ _ => rfl, fun j o hj => by simp at hj, fun j o hj => by simp at hj, by cases k <;> simpa [Walk] using h⟩
  | o :: r, [], m, V, hl, _, _, h => absurd hl (by simp)
  | o :: r, c :: k, m, V, hlen, hl, hc, h => by
    have hkm : ops[m]? = some o := by simpa using hl 0 o rfl
    have hcm : cls ks m = c := by simpa using hc 0 c rfl
    have frV : ∀ V1 V2 : Nat → Value, ∀ n, (∀ j, j < n → V1 j = V2 j) → fr ops V1 (isD ks) a n = fr ops V2 (isD ks) a n := fun V1 V2 n hv => fr_V a (isD ks) V1 V2 n (fun j hj _ => hv j hj)
    have hl' : ∀ j o', r[j]? = some o' → ops[m + 1 + j]? = some o' := fun j o' hj => by have := hl (j + 1) o' (by simpa using hj); rwa [show m + (j + 1) = m + 1 + j by omega] at this
    have hc' : ∀ j c', k[j]? = some c' → cls ks (m + 1 + j) = c' := fun j c' hj => by have := hc (j + 1) c' (by simpa using hj); rwa [show m + (j + 1) = m + 1 + j by omega] at this
    unfold Walk at h
    by_cases h0 : c = 0
    · rw [if_pos h0] at h
      obtain ⟨v, h1, h2⟩ := h
      let W : Nat → Value := fun j => if j = m then v else V j
      have hW : fr ops W (isD ks) a (m + 1) = (fr ops V (isD ks) a m).put o.dst v := by
        rw [fr, frV W V m (fun j hj => by simp only [W]; rw [if_neg (by omega)])]
        simp [isD, hcm, h0, hkm, W]
      rw [← hW] at h2
      obtain ⟨V', e1, e2, e3, e4⟩ := walk_vals ks a r k (m + 1) W (by simpa using hlen) hl' hc' h2
      have eV : fr ops V' (isD ks) a m = fr ops V (isD ks) a m := frV V' V m (fun j hj => by rw [e1 j (by omega)]; simp only [W]; rw [if_neg (by omega)])
      refine ⟨V', fun j hj => ?_, fun j o' hj hcj => ?_, fun j o' hj hcj => ?_, ?_⟩
      · rw [e1 j (by omega)]; simp only [W]; rw [if_neg (by omega)]
      · cases j with
        | zero =>
          have : o' = o := by simpa using hj.symm
          subst this
          rw [Nat.add_zero, e1 m (by omega), eV]
          simpa [W] using h1
        | succ j => rw [show m + (j + 1) = m + 1 + j by omega] at hcj ⊢; exact e2 j o' (by simpa using hj) hcj
      · cases j with
        | zero => rw [Nat.add_zero, hcm, h0] at hcj; exact absurd hcj (by decide)
        | succ j => rw [show m + (j + 1) = m + 1 + j by omega] at hcj ⊢; exact e3 j o' (by simpa using hj) hcj
      · rw [show m + (o :: r).length = m + 1 + r.length by simp; omega]; exact e4
    · rw [if_neg h0] at h
      have hskip : fr ops V (isD ks) a (m + 1) = fr ops V (isD ks) a m := by
        rw [fr]; simp [isD, hcm, h0]
      by_cases h1 : c = 1
      · rw [if_pos h1] at h
        obtain ⟨hg, hn, h2⟩ := h
        rw [← hskip] at h2
        obtain ⟨V', e1, e2, e3, e4⟩ := walk_vals ks a r k (m + 1) V (by simpa using hlen) hl' hc' h2
        have eV : fr ops V' (isD ks) a m = fr ops V (isD ks) a m := frV V' V m (fun j hj => e1 j (by omega))
        refine ⟨V', fun j hj => e1 j (by omega), fun j o' hj hcj => ?_, fun j o' hj hcj => ?_, ?_⟩
        · cases j with
          | zero => rw [Nat.add_zero, hcm] at hcj; exact absurd hcj h0
          | succ j => rw [show m + (j + 1) = m + 1 + j by omega] at hcj ⊢; exact e2 j o' (by simpa using hj) hcj
        · cases j with
          | zero =>
            have : o' = o := by simpa using hj.symm
            subst this
            rw [Nat.add_zero, eV]
            exact ⟨hg, hn⟩
          | succ j => rw [show m + (j + 1) = m + 1 + j by omega] at hcj ⊢; exact e3 j o' (by simpa using hj) hcj
        · rw [show m + (o :: r).length = m + 1 + r.length by simp; omega]; exact e4
      · rw [if_neg h1] at h
        rw [← hskip] at h
        obtain ⟨V', e1, e2, e3, e4⟩ := walk_vals ks a r k (m + 1) V (by simpa using hlen) hl' hc' h
        refine ⟨V', fun j hj => e1 j (by omega), fun j o' hj hcj => ?_, fun j o' hj hcj => ?_, ?_⟩
        · cases j with
          | zero => rw [Nat.add_zero, hcm] at hcj; exact absurd hcj h0
          | succ j => rw [show m + (j + 1) = m + 1 + j by omega] at hcj ⊢; exact e2 j o' (by simpa using hj) hcj
        · cases j with
          | zero => rw [Nat.add_zero, hcm] at hcj; exact absurd hcj h1
          | succ j => rw [show m + (j + 1) = m + 1 + j by omega] at hcj ⊢; exact e3 j o' (by simpa using hj) hcj
        · rw [show m + (o :: r).length = m + 1 + r.length by simp; omega]; exact e4
/-- The value of each that is not of class 2. -/
def VU (ks : List Nat) (V U : Nat → Value) (j : Nat) : Value := if cls ks j = 1 then U j else V j
def isDN (ks : List Nat) (j : Nat) : Bool := cls ks j == 0 || cls ks j == 1
theorem tl_skip : ∀ (l : List Oper) (ks : List Nat) (m n : Nat), m ≤ n → (∀ j, m ≤ j → j < n → ks.getD j 2 ≠ 2) → n ≤ ks.length → l.length = ks.length → tl (l.drop m) (ks.drop m) = tl (l.drop n) (ks.drop n) := by
  intro l ks m n hmn h hn hl
  induction n with
  | zero => have : m = 0 := by omega
            subst this; rfl
  | succ n ih =>
    by_cases e : m = n + 1
    · subst e; rfl
    · rw [ih (by omega) (fun j h1 h2 => h j h1 (by omega)) (by omega)]
      have hk : n < ks.length := by omega
      have hl' : n < l.length := by omega
      rw [List.drop_eq_getElem_cons hl', List.drop_eq_getElem_cons hk, tl, if_neg]
      have := h n (by omega) (by omega)
      rwa [List.getD_eq_getElem?_getD, List.getElem?_eq_getElem hk] at this
theorem tl_here (l : List Oper) (ks : List Nat) (n : Nat) (hl : n < l.length) (hk : n < ks.length) (h : ks.getD n 2 = 2) : tl (l.drop n) (ks.drop n) = l[n] :: tl (l.drop (n + 1)) (ks.drop (n + 1)) := by
  rw [List.drop_eq_getElem_cons hl, List.drop_eq_getElem_cons hk, tl, if_pos]
  rwa [List.getD_eq_getElem?_getD, List.getElem?_eq_getElem hk] at h
theorem wp_region_genI {id : Nat} {a : Act} {w : World} (I : (Nat → Bool) → (Nat → Value) → World → Prop) (ks : List Nat)
    (hm : P.follows .mixedOrders = true) (hok : okC ops ks = true) (h0 : I (fun _ => false) (fun _ => undef) w.drew)
    (hs : Walk P ops I (fun a' => ∀ d (U : Nat → Value) w', I d U w' → (∀ j, j < ops.size → d j = decide (cls ks j ≠ 2)) → wpList P ops Q (tl ops.toList ks) (putN U 0 ops.toList ks a') w') 0 ops.toList ks a) : (Code.region id ops true).wp P Q a w := by
  have hok' := hok
  unfold okC at hok'
  rw [Bool.and_eq_true, Bool.and_eq_true] at hok'
  obtain ⟨⟨he, hlen0⟩, hp⟩ := hok'
  have hlen : ks.length = ops.size := by simpa using hlen0
  have hcget : ∀ j c, ks[j]? = some c → cls ks j = c := fun j c h => by unfold cls; rw [List.getD_eq_getElem?_getD, h]; rfl
  have hgetc : ∀ j c, j < ops.size → cls ks j = c → ks[j]? = some c := fun j c hj h => by
    unfold cls at h
    rw [List.getD_eq_getElem?_getD, List.getElem?_eq_getElem (by omega)] at h
    rw [List.getElem?_eq_getElem (by omega)]
    simpa using h
  obtain ⟨V, _, hstD, hstN, hE⟩ := walk_vals (P := P) (ops := ops) ks a ops.toList ks 0 (fun _ => undef) (by simp [hlen]) (fun j o hj => by simpa using hj) (fun j c hj => by rw [Nat.zero_add]; exact hcget j c hj) hs
  simp only [Nat.zero_add] at hstD hstN hE
  rw [show ops.toList.length = ops.size by simp] at hE
  have hrow : ∀ i, i < ops.size → ((ops[i]?).map fun o => !isSel o.op).getD true = true ∧ (∀ j, j < ops.size → pairC ops ks i j = true) ∧ (cls ks i = 2 → ∀ j, j < ops.size → (cls ks j = 2 ∧ i ≤ j) ∨ ((masks ops ops.size).getD i 0).testBit j = true) := by
    intro i hi
    have h1 := List.all_eq_true.1 hp i (List.mem_range.2 hi)
    rw [Bool.and_eq_true, Bool.and_eq_true, Bool.and_eq_true] at h1
    refine ⟨h1.1.1.1, fun j hj => List.all_eq_true.1 h1.1.2 j (List.mem_range.2 hj), fun hc j hj => ?_⟩
    have h2 := h1.2
    rw [if_pos hc] at h2
    have h3 := List.all_eq_true.1 h2 j (List.mem_range.2 hj)
    rw [Bool.or_eq_true, Bool.and_eq_true, decide_eq_true_eq, decide_eq_true_eq] at h3
    exact h3
  have hthree : ∀ i, i < ops.size → cls ks i ≤ 2 := by
    intro i hi
    have h1 := List.all_eq_true.1 hp i (List.mem_range.2 hi)
    rw [Bool.and_eq_true, Bool.and_eq_true, Bool.and_eq_true] at h1
    simpa using h1.1.1.2
  have pair : ∀ (i j : Nat) (x y : Oper) (t : Nat), ops[i]? = some x → ops[j]? = some y → cls ks i ≠ 2 → cls ks j ≠ 2 → y.dst = some t → (x.dst = some t → i = j) ∧ (t ∈ x.looksAt ops → cls ks j ≠ 1 ∧ ((j < i ∧ bindsOn x j = true) ∨ (i < j ∧ bindsOn y i = true))) := by
    intro i j x y t hx hy hci hcj ht
    have hi : i < ops.size := (Array.getElem?_eq_some_iff.1 hx).1
    have hj : j < ops.size := (Array.getElem?_eq_some_iff.1 hy).1
    have h2 := (hrow i hi).2.1 j hj
    unfold pairC at h2
    simp only [hx, hy, ht, if_neg hci, if_neg hcj] at h2
    rw [Bool.and_eq_true] at h2
    refine ⟨fun e => ?_, fun hm => ?_⟩
    · have := h2.1
      rw [e] at this
      simpa using this
    · have h3 := h2.2
      by_cases hc1 : cls ks j = 1
      · rw [if_pos hc1] at h3
        simp at h3
        exact absurd hm h3
      · rw [if_neg hc1] at h3
        simp at h3
        refine ⟨hc1, ?_⟩
        rcases h3 with (h | h) | h
        · exact absurd hm h
        · exact .inl h
        · exact .inr h
  have nosel : ∀ (i : Nat) (x : Oper) cs b, ops[i]? = some x → x.op ≠ .select cs b := by
    intro i x cs b hx hc
    have hi : i < ops.size := (Array.getElem?_eq_some_iff.1 hx).1
    have h1 := (hrow i hi).1
    rw [hx] at h1
    simp [hc, isSel] at h1
  have deps : ∀ (d : Nat → Bool) (i : Nat) (o : Oper), may ops d i → ops[i]? = some o → ∀ e, e ∈ o.after → Region.binds .any e = true → d e.on = true := by
    intro d i o hmay ho e h1 h2
    have := hmay.2 o ho
    rw [Array.all_eq_true_iff_forall_mem] at this
    have := this e h1
    rw [h2] at this
    simpa using this
  have tailb : ∀ (d : Nat → Bool) (i : Nat), Closed ops d → cls ks i = 2 → i < ops.size → may ops d i → ∀ j, j < ops.size → (cls ks j ≠ 2 ∨ j < i) → d j = true := by
    intro d i hcl hc hi hmay j hj hor
    rcases (hrow i hi).2.2 hc j hj with ⟨h1, h2⟩ | h
    · rcases hor with h3 | h3
      · exact absurd h1 h3
      · omega
    · rw [masks_get ops ops.size i hi] at h
      exact mask_done he d hcl ops.size i hi (Nat.le_refl _) (fun o ho => deps d i o hmay ho) j h
  let J1 : (Nat → Bool) → Act → World → Prop := fun d x wx => ∃ U : Nat → Value, x = fr ops (VU ks V U) d a ops.size ∧ I d U wx ∧ Closed ops d ∧ (∀ j, cls ks j = 2 → d j = false) ∧ ∃ j, j < ops.size ∧ cls ks j ≠ 2 ∧ d j = false
  let J2 : (Nat → Bool) → Act → World → Prop := fun d x wx => ∃ m, m ≤ ops.size ∧ Closed ops d ∧ (∀ j, j < ops.size → d j = (decide (cls ks j ≠ 2) || decide (j < m))) ∧ wpList P ops Q (tl (ops.toList.drop m) (ks.drop m)) x wx
  have putfr : ∀ (U : Nat → Value) (m : Nat), m ≤ ops.size → putN U m (ops.toList.drop m) (ks.drop m) (fr ops (VU ks V U) (fun j => isD ks j || (cls ks j == 1 && decide (j < m))) a ops.size) = fr ops (VU ks V U) (isDN ks) a ops.size := by
    intro U m hm
    obtain ⟨k, hk⟩ : ∃ k, m + k = ops.size := ⟨ops.size - m, by omega⟩
    induction k generalizing m with
    | zero =>
      have : m = ops.size := by omega
      subst this
      rw [List.drop_eq_nil_of_le (by simp), putN.eq_def]
      simp only
      exact fr_congr _ a _ _ ops.size (fun j hj => by unfold isD isDN; rw [decide_eq_true hj, Bool.and_true])
    | succ k ih =>
      have hml : m < ops.size := by omega
      have hl' : m < ops.toList.length := by simpa using hml
      have hk' : m < ks.length := by omega
      rw [List.drop_eq_getElem_cons hl', List.drop_eq_getElem_cons hk', putN]
      have hcm : cls ks m = ks[m] := by unfold cls; rw [List.getD_eq_getElem?_getD, List.getElem?_eq_getElem hk']; rfl
      have hom : ops[m]? = some ops.toList[m] := by rw [Array.getElem?_eq_getElem hml]; simp
      by_cases h1 : ks[m] = 1
      · rw [if_pos h1]
        have hd0 : (isD ks m || (cls ks m == 1 && decide (m < m))) = false := by
          simp [isD, hcm, h1]
        have e1 : (fun j => isD ks j || (cls ks j == 1 && decide (j < m + 1))) = don (fun j => isD ks j || (cls ks j == 1 && decide (j < m))) m := by
          funext j
          by_cases hj : j = m
          · subst hj; rw [don_same]; simp [hcm, h1]
          · rw [don_other _ _ _ hj]
            rw [show decide (j < m + 1) = decide (j < m) by rw [decide_eq_decide]; omega]
        have e2 := fr_put2 (ops := ops) (VU ks V U) a (fun j => isD ks j || (cls ks j == 1 && decide (j < m))) m hd0 ops.size (fun j hj hdj t ht hjt => by
          obtain ⟨y, hy⟩ : ∃ y, ops[j]? = some y := ⟨ops[j], Array.getElem?_eq_getElem hj⟩
          rw [hy] at hjt
          rw [hom] at ht
          have hcj : cls ks j ≠ 2 := by
            intro h2
            rw [show ((isD ks j || (cls ks j == 1 && decide (j < m))) = false) by simp [isD, h2]] at hdj
            cases hdj
          have := (pair m j _ y t hom hy (by rw [hcm, h1]; decide) hcj hjt).1 ht
          subst this
          rw [hd0] at hdj; cases hdj)
        rw [if_pos hml] at e2
        have hV : VU ks V U m = U m := by unfold VU; rw [if_pos (by rw [hcm, h1])]
        rw [← ih (m + 1) (by omega) (by omega), e1, e2, hV, hom]
        rfl
      · rw [if_neg h1, ← ih (m + 1) (by omega) (by omega)]
        congr 1
        refine fr_congr _ a _ _ ops.size (fun j _ => ?_)
        by_cases hj : j = m
        · subst hj
          have : (cls ks j == 1) = false := by rw [hcm]; simpa using h1
          rw [this, Bool.false_and, Bool.false_and]
        · rw [show decide (j < m + 1) = decide (j < m) by rw [decide_eq_decide]; omega]
  have enter : ∀ d x wx (U : Nat → Value), x = fr ops (VU ks V U) d a ops.size → I d U wx → Closed ops d → (∀ j, cls ks j = 2 → d j = false) → (∀ j, j < ops.size → cls ks j ≠ 2 → d j = true) → J2 d x wx := by
    intro d x wx U hx hIw hcl hf htr
    have hdd : ∀ j, j < ops.size → d j = decide (cls ks j ≠ 2) := fun j hj => by
      by_cases hc : cls ks j = 2
      · rw [hf j hc, hc]; simp
      · rw [htr j hj hc]; simp [hc]
    refine ⟨0, Nat.zero_le _, hcl, fun j hj => ?_, ?_⟩
    · by_cases hc : cls ks j = 2
      · rw [hf j hc, hc]; simp
      · rw [htr j hj hc]; simp [hc]
    · have h1 := hE d U wx hIw hdd
      have h2 := putfr U 0 (Nat.zero_le _)
      rw [List.drop_zero, List.drop_zero] at h2 ⊢
      have h3 : fr ops V (isD ks) a ops.size = fr ops (VU ks V U) (fun j => isD ks j || (cls ks j == 1 && decide (j < 0))) a ops.size := by
        rw [fr_congr (VU ks V U) a _ (isD ks) ops.size (fun j _ => by simp)]
        refine fr_V a (isD ks) V (VU ks V U) ops.size (fun j _ hd => ?_)
        unfold VU
        rw [if_neg]
        intro h
        unfold isD at hd
        rw [h] at hd
        cases hd
      rw [h3, h2] at h1
      rw [hx, fr_congr (VU ks V U) a d (isDN ks) ops.size (fun j hj => ?_)]
      · exact h1
      · by_cases hc : cls ks j = 2
        · rw [hf j hc]; simp [isDN, hc]
        · rw [htr j hj hc]
          unfold isDN
          have h3c := hthree j hj
          by_cases h0c : cls ks j = 0
          · simp [h0c]
          · by_cases h1c : cls ks j = 1
            · simp [h1c]
            · omega
  refine wp_region_inv (fun d x wx => J1 d x wx ∨ J2 d x wx) hm he ?_ ?_ ?_
  · have hz : ∀ V', fr ops V' (fun _ => false) a ops.size = a := by
      intro V'
      have : ∀ k, fr ops V' (fun _ => false) a k = a := by
        intro k
        induction k with
        | zero => rfl
        | succ k ih => rw [fr, ih]; simp
      exact this _
    have hcl0 : Closed ops (fun _ => false) := fun _ _ _ h => by cases h
    by_cases hall : ∀ j, j < ops.size → cls ks j = 2
    · exact .inr (enter _ _ _ (fun _ => undef) (hz _).symm h0 hcl0 (fun _ _ => rfl) (fun j hj h => absurd (hall j hj) h))
    · rw [Classical.not_forall] at hall
      obtain ⟨j, hj⟩ := hall
      rw [Classical.not_imp] at hj
      exact .inl ⟨fun _ => undef, (hz _).symm, h0, hcl0, (fun _ _ => rfl), j, hj.1, hj.2, rfl⟩
  · rintro d x wx i (⟨U, rfl, hI, hcl, hfz, j0, hj0, hcj0, hdj0⟩ | ⟨m, hm', hcl, hd, hw⟩) hi hmay
    · have hci : cls ks i ≠ 2 := by
        intro h
        have := tailb d i hcl h hi hmay j0 hj0 (.inl hcj0)
        rw [hdj0] at this; cases this
      obtain ⟨o, ho⟩ : ∃ o, ops[i]? = some o := ⟨ops[i], Array.getElem?_eq_getElem hi⟩
      have hdeps := deps d i o hmay ho
      have hput : ∀ (V' : Nat → Value) v, v = V' i → (fr ops V' d a ops.size).put o.dst v = fr ops V' (don d i) a ops.size := by
        rintro V' v rfl
        rw [fr_put2 V' a d i hmay.1 ops.size (fun j hj hdj t ht => fun hjt => ?_), if_pos hi, ho]
        · rfl
        · obtain ⟨y, hy⟩ : ∃ y, ops[j]? = some y := ⟨ops[j], Array.getElem?_eq_getElem hj⟩
          rw [hy] at hjt
          rw [ho] at ht
          have hcj : cls ks j ≠ 2 := by intro h; rw [hfz j h] at hdj; cases hdj
          have := (pair i j o y t ho hy hci hcj hjt).1 ht
          subst this
          rw [hmay.1] at hdj; cases hdj
      have hclo : Closed ops (don d i) := by
        intro j o' hj hdj e e1 e2
        have : d e.on = true := by
          by_cases hji : j = i
          · subst hji
            rw [ho] at hj
            cases hj
            exact hdeps e e1 e2
          · rw [don_other _ _ _ hji] at hdj
            exact hcl j o' hj hdj e e1 e2
        unfold don; split
        · rfl
        · exact this
      have hnext : ∀ (U' : Nat → Value) x w', x = fr ops (VU ks V U') (don d i) a ops.size → I (don d i) U' w' → J1 (don d i) x w' ∨ J2 (don d i) x w' := by
        intro U' x w' hx hI'
        have hf' : ∀ j, cls ks j = 2 → don d i j = false := fun j hj => by
          have hji : j ≠ i := by intro e; subst e; exact hci hj
          rw [don_other _ _ _ hji]; exact hfz j hj
        by_cases hall : ∀ j, j < ops.size → cls ks j ≠ 2 → don d i j = true
        · exact .inr (enter _ _ _ U' hx hI' hclo hf' hall)
        · refine .inl ⟨U', hx, hI', hclo, hf', ?_⟩
          rw [Classical.not_forall] at hall
          obtain ⟨j, hj⟩ := hall
          rw [Classical.not_imp, Classical.not_imp] at hj
          exact ⟨j, hj.1, hj.2.1, by simpa using hj.2.2⟩
      have hsame : ∀ t, t ∈ o.looksAt ops → (fr ops (VU ks V U) d a ops.size).tmps[t]? = (fr ops V (isD ks) a i).tmps[t]? := by
        intro t ht
        have := fr_get2 (ops := ops) (VU ks V U) a d (isD ks) i t ops.size (fun j hj hjt => by
          obtain ⟨y, hy⟩ : ∃ y, ops[j]? = some y := ⟨ops[j], Array.getElem?_eq_getElem hj⟩
          rw [hy] at hjt
          by_cases hc2 : cls ks j = 2
          · exact .inr ⟨hfz j hc2, .inl (by simp [isD, hc2])⟩
          · obtain ⟨hc1, hb⟩ := (pair i j o y t ho hy hci hc2 hjt).2 ht
            have hc0 : cls ks j = 0 := by have := hthree j hj; omega
            rcases hb with ⟨h1, h2⟩ | ⟨h1, h2⟩
            · obtain ⟨e, e1, e2, e3⟩ := bindsOn_spec h2
              exact .inl ⟨h1, e3 ▸ hdeps e e1 e2, by simp [isD, hc0]⟩
            · refine .inr ⟨?_, .inr (by omega)⟩
              cases hdj : d j with
              | false => rfl
              | true =>
                obtain ⟨e, e1, e2, e3⟩ := bindsOn_spec h2
                have := hcl j y hy hdj e e1 e2
                rw [e3, hmay.1] at this; cases this)
        rw [this, show min ops.size i = i by omega, fr_V a (isD ks) (VU ks V U) V i (fun j hj hdj => by
          unfold VU
          rw [if_neg]
          intro h
          unfold isD at hdj
          rw [h] at hdj
          cases hdj)]
      have hex : execOp (fr ops (VU ks V U) d a ops.size).eval o = execOp (fr ops V (isD ks) a i).eval o := by
        refine execOp_congr o (fun cs b => nosel i o cs b ho) (fun x hx => ?_)
        cases x with
        | tmp t => exact eval_get (hsame t (mem_looks hx))
        | _ => rfl
      have hwa := wanted_get hsame
      by_cases hc0 : cls ks i = 0
      · have hVi : V i = VU ks V U i := by unfold VU; rw [if_neg (by omega)]
        unfold wpOp
        rw [ho]
        simp only
        rcases hstD i o (by simpa using ho) hc0 with ⟨h1, h2⟩ | ⟨h1, h2, h3⟩
        · rw [hwa, h1, if_pos rfl]
          refine .inl ?_
          unfold Oper.wp
          rw [hex]
          exact upv_upon (h2 _ d U wx hI hmay (fun w' hI' => hnext U _ _ (hput _ _ hVi) hI'))
        · rw [hwa, h1]
          simp only [Bool.false_eq_true, if_false]
          exact hnext U _ _ (hput _ _ (h2.symm.trans hVi)) (h3 d U wx hI hmay)
      · have hc1 : cls ks i = 1 := by have := hthree i hi; omega
        obtain ⟨hg, hrun⟩ := hstN i o (by simpa using ho) hc1
        unfold wpOp
        rw [ho]
        simp only
        rw [if_pos (show Region.wanted o (yielded ops (fr ops (VU ks V U) d a ops.size).tmps) = true by simp [Region.wanted, hg])]
        refine .inl ?_
        unfold Oper.wp
        rw [hex]
        refine upv_upon (hrun _ d U wx hI hmay (fun v w' hI' => ?_))
        have hU : ∀ j, j ≠ i → updU U i v j = U j := fun j hj => by unfold updU; rw [if_neg hj]
        have hUi : updU U i v i = v := by simp [updU]
        have hfr : fr ops (VU ks V U) d a ops.size = fr ops (VU ks V (updU U i v)) d a ops.size := fr_V a d _ _ _ (fun j _ hdj => by
          have hji : j ≠ i := by intro e; subst e; rw [hmay.1] at hdj; cases hdj
          unfold VU; rw [hU j hji])
        have hval : v = VU ks V (updU U i v) i := by unfold VU; rw [if_pos hc1, hUi]
        exact hnext (updU U i v) _ _ (by rw [hfr]; exact hput _ _ hval) hI'
    · have hci : cls ks i = 2 := by
        have h1 := hd i hi
        rw [hmay.1] at h1
        by_cases hc : cls ks i = 2
        · exact hc
        · simp [hc] at h1
      have him : ¬ i < m := by
        intro h
        have h1 := hd i hi
        rw [hmay.1, decide_eq_true h] at h1
        simp at h1
      have hbefore := tailb d i hcl hci hi hmay
      have hnone : ∀ j, m ≤ j → j < i → ks.getD j 2 ≠ 2 := by
        intro j h1 h2 h3
        have h4 := hbefore j (by omega) (.inr h2)
        rw [hd j (by omega)] at h4
        have : cls ks j = 2 := h3
        rw [this, decide_eq_false (show ¬ j < m by omega)] at h4
        simp at h4
      have hlo : ops.toList.length = ks.length := by simp [hlen]
      rw [tl_skip ops.toList ks m i (by omega) hnone (by omega) hlo, tl_here ops.toList ks i (by simpa using hi) (by omega) hci] at hw
      have hcloD : Closed ops (don d i) := by
        obtain ⟨o, ho⟩ : ∃ o, ops[i]? = some o := ⟨ops[i], Array.getElem?_eq_getElem hi⟩
        intro j o' hj hdj e e1 e2
        have : d e.on = true := by
          by_cases hji : j = i
          · subst hji; exact deps d j o' hmay hj e e1 e2
          · rw [don_other _ _ _ hji] at hdj
            exact hcl j o' hj hdj e e1 e2
        unfold don; split
        · rfl
        · exact this
      have key : ∀ x' w', wpList P ops Q (tl (ops.toList.drop (i + 1)) (ks.drop (i + 1))) x' w' → J1 (don d i) x' w' ∨ J2 (don d i) x' w' := fun x' w' h => .inr ⟨i + 1, by omega, hcloD, fun j hj => by
        by_cases hji : j = i
        · subst hji; rw [don_same]; simp
        · rw [don_other _ _ _ hji, hd j hj]
          by_cases hc : cls ks j = 2
          · have e : decide (j < m) = decide (j < i + 1) := by
              rw [decide_eq_decide]
              constructor
              · intro _; omega
              · intro h1
                rcases Nat.lt_or_ge j m with h2 | h2
                · exact h2
                · exact absurd hc (hnone j h2 (by omega))
            rw [e]
          · simp [hc], h⟩
      refine wpOp_mono key ?_
      unfold wpOp
      rw [Array.getElem?_eq_getElem hi]
      rw [show ops.toList[i] = ops[i] by simp] at hw
      exact hw
  · rintro d x wx (⟨_, _, _, _, _, j, hj, _, hdj⟩ | ⟨m, hm', hcl, hd, hw⟩) hall
    · have := hall j hj
      rw [hdj] at this; cases this
    · have hlo : ops.toList.length = ks.length := by simp [hlen]
      rw [tl_skip ops.toList ks m ops.size hm' (fun j h1 h2 h3 => by
        have h4 := hall j h2
        rw [hd j h2] at h4
        have : cls ks j = 2 := h3
        rw [this, decide_eq_false (show ¬ j < m by omega)] at h4
        simp at h4) (by omega) hlo, List.drop_eq_nil_of_le (by simp)] at hw
      unfold tl at hw
      exact hw
/-- S throughout; of each of class 1 that is done, Y; of each two, X. -/
def SYX (S : World → Prop) (Y : Nat → Value → World → Prop) (X : Value → Value → Prop) (ks : List Nat) (d : Nat → Bool) (U : Nat → Value) (w : World) : Prop :=
  S w ∧ (∀ j, ks[j]? = some 1 → d j = true → Y j (U j) w) ∧ (∀ i j, ks[i]? = some 1 → ks[j]? = some 1 → i ≠ j → d i = true → d j = true → X (U i) (U j))
structure Lasts (S : World → Prop) (Y : Nat → Value → World → Prop) : Prop where
  s : ∀ w1 w2, S w1 → Below w1.heap.size w1 w2 → S w2
  y : ∀ j v w1 w2, Y j v w1 → Below w1.heap.size w1 w2 → Y j v w2
theorem syx_on {S : World → Prop} {Y : Nat → Value → World → Prop} {X : Value → Value → Prop} {ks : List Nat} {d : Nat → Bool} {U : Nat → Value} {i : Nat} {w w' : World} (hL : Lasts S Y) (hi : ks[i]? ≠ some 1) (h : SYX S Y X ks d U w) (hb : Below w.heap.size w w') : SYX S Y X ks (don d i) U w' := by
  have hd : ∀ j, ks[j]? = some 1 → don d i j = true → d j = true := fun j hj h => by
    have hji : j ≠ i := by intro e; subst e; exact hi hj
    rwa [don_other _ _ _ hji] at h
  exact ⟨hL.s _ _ h.1 hb, fun j h1 h2 => hL.y _ _ _ _ (h.2.1 j h1 (hd j h1 h2)) hb, fun k j h1 h2 h3 h4 h5 => h.2.2 k j h1 h2 h3 (hd k h1 h4) (hd j h2 h5)⟩
section
variable {S : World → Prop} {Y : Nat → Value → World → Prop} {X : Value → Value → Prop} {E : Act → Prop} {j : Nat} {o : Oper} {r : List Oper} {k ks : List Nat} {a a' : Act} {v : Value}
theorem go1 (hL : Lasts S Y) (hj : ks[j]? ≠ some 1) (hg : o.guard = none)
    (h : ∀ (K : Value → World → Prop) w, S w → (∀ w', Below w.heap.size w w' → K v w') → upv P K ((execOp a.eval o).run P w)) (he : a.put o.dst v = a')
    (hr : Walk P ops (SYX S Y X ks) E (j + 1) r k a') : Walk P ops (SYX S Y X ks) E j (o :: r) (0 :: k) a := by
  unfold Walk
  rw [if_pos rfl]
  exact ⟨v, .inl ⟨by simp [Region.wanted, hg], fun K d U w hI _ hK => h K w hI.1 (fun w' hb => hK w' (syx_on hL hj hI hb))⟩, he ▸ hr⟩
theorem go1g (hL : Lasts S Y) (hj : ks[j]? ≠ some 1) (hg : Region.wanted o (yielded ops a.tmps) = true)
    (h : ∀ (K : Value → World → Prop) w, S w → (∀ w', Below w.heap.size w w' → K v w') → upv P K ((execOp a.eval o).run P w)) (he : a.put o.dst v = a')
    (hr : Walk P ops (SYX S Y X ks) E (j + 1) r k a') : Walk P ops (SYX S Y X ks) E j (o :: r) (0 :: k) a := by
  unfold Walk
  rw [if_pos rfl]
  exact ⟨v, .inl ⟨hg, fun K d U w hI _ hK => h K w hI.1 (fun w' hb => hK w' (syx_on hL hj hI hb))⟩, he ▸ hr⟩
theorem go0 (hL : Lasts S Y) (hj : ks[j]? ≠ some 1) (hg : Region.wanted o (yielded ops a.tmps) = false) (he : a.put o.dst undef = a')
    (hr : Walk P ops (SYX S Y X ks) E (j + 1) r k a') : Walk P ops (SYX S Y X ks) E j (o :: r) (0 :: k) a := by
  unfold Walk
  rw [if_pos rfl]
  exact ⟨undef, .inr ⟨hg, rfl, fun d U w hI _ => syx_on hL hj hI (Below.refl _ _)⟩, he ▸ hr⟩
theorem goN (hL : Lasts S Y) (hg : o.guard = none)
    (h : ∀ (K : Value → World → Prop) w, S w → (∀ v w', Below w.heap.size w w' → Y j v w' → (∀ i u, Y i u w → X u v ∧ X v u) → K v w') → upv P K ((execOp a.eval o).run P w))
    (hr : Walk P ops (SYX S Y X ks) E (j + 1) r k a) : Walk P ops (SYX S Y X ks) E j (o :: r) (1 :: k) a := by
  unfold Walk
  rw [if_neg (by decide), if_pos rfl]
  refine ⟨hg, fun K d U w hI hmay hK => h K w hI.1 (fun v w' hb hYn hXn => hK v w' ?_), hr⟩
  have hU : ∀ i, i ≠ j → updU U j v i = U i := fun i hi => by unfold updU; rw [if_neg hi]
  have hUj : updU U j v j = v := by simp [updU]
  have hdon : ∀ i, i ≠ j → don d j i = true → d i = true := fun i hi h => by rwa [don_other _ _ _ hi] at h
  refine ⟨hL.s _ _ hI.1 hb, fun i h1 h2 => ?_, fun i l h1 h2 h3 h4 h5 => ?_⟩
  · by_cases hi : i = j
    · subst hi; rw [hUj]; exact hYn
    · rw [hU i hi]; exact hL.y _ _ _ _ (hI.2.1 i h1 (hdon i hi h2)) hb
  · by_cases hl : l = j
    · subst hl
      rw [hUj, hU i h3]
      exact (hXn i _ (hI.2.1 i h1 (hdon i h3 h4))).1
    · by_cases hi : i = j
      · subst hi
        rw [hUj, hU l hl]
        exact (hXn l _ (hI.2.1 l h2 (hdon l hl h5))).2
      · rw [hU i hi, hU l hl]; exact hI.2.2 i l h1 h2 h3 (hdon i hi h4) (hdon l hl h5)
end
theorem goT {I : (Nat → Bool) → (Nat → Value) → World → Prop} {E : Act → Prop} {j : Nat} {o : Oper} {r : List Oper} {k : List Nat} {a : Act}
    (hr : Walk P ops I E (j + 1) r k a) : Walk P ops I E j (o :: r) (2 :: k) a := by
  unfold Walk
  rw [if_neg (by decide), if_neg (by decide)]
  exact hr
theorem go_end {I : (Nat → Bool) → (Nat → Value) → World → Prop} {E : Act → Prop} {j : Nat} {a : Act} (h : E a) : Walk P ops I E j [] [] a := by
  unfold Walk; exact h
theorem walk_mono {I : (Nat → Bool) → (Nat → Value) → World → Prop} {E E' : Act → Prop} (h : ∀ a, E a → E' a) : ∀ (l : List Oper) (k : List Nat) (j : Nat) (a : Act), Walk P ops I E j l k a → Walk P ops I E' j l k a
  | [], [], _, _, hs => by unfold Walk at *; exact h _ hs
  | [], _ :: _, _, _, hs => by unfold Walk at *; exact h _ hs
  | _ :: _, [], _, _, hs => by unfold Walk at *; exact h _ hs
  | o :: r, c :: k, j, a, hs => by
    unfold Walk at *
    by_cases h0 : c = 0
    · rw [if_pos h0] at *
      obtain ⟨v, h1, h2⟩ := hs
      exact ⟨v, h1, walk_mono h r k _ _ h2⟩
    · rw [if_neg h0] at *
      by_cases h1 : c = 1
      · rw [if_pos h1] at *
        exact ⟨hs.1, hs.2.1, walk_mono h r k _ _ hs.2.2⟩
      · rw [if_neg h1] at *
        exact walk_mono h r k _ _ hs
theorem wp_region_gen {id : Nat} {a : Act} {w : World} (S : World → Prop) (Y : Nat → Value → World → Prop) (X : Value → Value → Prop) (ks : List Nat)
    (hm : P.follows .mixedOrders = true) (hok : okC ops ks = true) (h0 : S w.drew)
    (hs : Walk P ops (SYX S Y X ks) (fun a' => ∀ (U : Nat → Value) w', S w' → (∀ j, ks[j]? = some 1 → Y j (U j) w') → (∀ i j, ks[i]? = some 1 → ks[j]? = some 1 → i ≠ j → X (U i) (U j)) → wpList P ops Q (tl ops.toList ks) (putN U 0 ops.toList ks a') w') 0 ops.toList ks a) : (Code.region id ops true).wp P Q a w := by
  have hlen : ks.length = ops.size := by
    have h := hok
    unfold okC at h
    rw [Bool.and_eq_true, Bool.and_eq_true] at h
    simpa using h.1.2
  refine wp_region_genI (SYX S Y X ks) ks hm hok ⟨h0, (fun _ _ h => by cases h), (fun _ _ _ _ _ h => by cases h)⟩ (walk_mono (fun a' h d U w' hI hd => ?_) _ _ _ _ hs)
  have hdone : ∀ j, ks[j]? = some 1 → d j = true := fun j hj => by
    have hjl : j < ops.size := by have := (List.getElem?_eq_some_iff.1 hj).1; omega
    rw [hd j hjl]
    have : cls ks j = 1 := by unfold cls; rw [List.getD_eq_getElem?_getD, hj]; rfl
    rw [this]; rfl
  exact h U w' hI.1 (fun j hj => hI.2.1 j hj (hdone j hj)) (fun i j hi hj hne => hI.2.2 i j hi hj hne (hdone i hi) (hdone j hj))
end RG
end Go.Proofs.Ytejldahlbhkemaa
/- Rows of bits; lampbearerref.places, TByte. -/
namespace Go.Proofs.Ytejldahlbhkemaa
open Go.RowKit Go.Shelf
/-- A slice of n cells that reads as F. -/
def Row (n : Nat) (F : Nat → Value) (v : Value) (wx : World) : Prop := ∃ g off cap, v = .slice (some ⟨g, off, none⟩) n cap ∧ n ≤ cap ∧ g < wx.heap.size ∧ ∀ j, j < n → wx.cell? ⟨g, off + j, none⟩ = some (F j)
theorem Row_below {n : Nat} {F : Nat → Value} {v : Value} {w1 w2 : World} (h : Row n F v w1) (hb : Below w1.heap.size w1 w2) : Row n F v w2 := by
  obtain ⟨g, off, cap, rfl, hcap, hg, hc⟩ := h
  exact ⟨g, off, cap, rfl, hcap, Nat.lt_of_lt_of_le hg hb.size, fun j hj => (hb.cell (p := ⟨g, off + j, none⟩) hg).trans (hc j hj)⟩
theorem Row_own {base e n : Nat} {F : Nat → Value} {g cap : Nat} {wx : World} (h : wx.ownsRow base e 1 (.slice (some ⟨g, 0, none⟩) n cap) n ((List.range n).map F)) : Row n F (.slice (some ⟨g, 0, none⟩) n cap) wx := by
  refine ⟨g, 0, cap, rfl, ?_, (h.lt g rfl).2, fun j hj => ?_⟩
  · rcases h.2 with ⟨h1, _⟩ | ⟨_, _, _, h1, _, _, h2, _⟩
    · cases h1
    · cases h1; exact h2
  · rw [Nat.zero_add, h.cellAt j (by omega)]
    simp [hj]
set_option maxHeartbeats 4000000 in
set_option maxRecDepth 100000 in
theorem places_any (n : Nat) (hn : n < 2 ^ 256) (w : World) :
    Calls Try.prog 34 #[Wd n] w fun e w' => e = .returned (.int .i64 ((min n 256 : Nat) : Int)) ∧ Below w.heap.size w w' := by
  have K1 : Hid (∀ w : World, Calls Try.prog 40 #[.int .u64 256] w fun e w' => e = .returned (Wd 256) ∧ Below w.heap.size w w') := fun w => wint_any 256 (by decide) w
  have K2 : Hid (∀ w : World, Calls Try.prog 39 #[Wd n, Wd 256] w fun e w' => e = .returned (.bool (decide (n < 256))) ∧ Below w.heap.size w w') := fun w => wless_any n 256 hn (by decide) w
  have m0 := Hm.new4 (g := w.heap.size) (n := n) (T := 24) (Hm.start w) rfl
  have e0 : n < 256 → dg n 0 = (n : Int) := fun h => by unfold dg; rw [Nat.mul_zero, Nat.pow_zero, Nat.div_one, Nat.mod_eq_of_lt (by omega)]
  clear hn
  generalize Wd 256 = W256 at *
  conv => arg 3; unfold Wd
  go_enter Try.func34, Try.ntmps34
  go_upto_region 1 with fail
  generalize w.alloc (.cells #[.int .u64 (dg n 0), .int .u64 (dg n 1), .int .u64 (dg n 2), .int .u64 (dg n 3)] 24) = W0 at m0 ⊢
  refine RS.wp_region_one (Hm.Hd w [Hm.W4 w.heap.size n]) (by kernel_rfl) (by kernel_rfl) (Hm.drew m0) ?_
  dsimp only [List.toList_toArray]
  refine RS.go1 (v := ?_) (a' := ?_) rfl ?_ ?_ ?_
  rotate_left 2
  · intro K wx hS hK
    refine RW.ld rfl rfl (hS.ok (Hm.W4 (w.heap.size) (n)) (by simp)).c ?_
    exact hK _ hS
  · simp only [Act.put, List.setIfInBounds_toArray, List.set_cons_succ, List.set_cons_zero]
    rfl
  refine RS.go1 (v := ?_) (a' := ?_) rfl ?_ ?_ ?_
  rotate_left 2
  · intro K wx hS hK
    go_simp
    refine (K1.out _).mono (fun e w2 he => ?_)
    refine ⟨_, he.1, ?_⟩
    exact hK _ (Hm.below hS he.2)
  · simp only [Act.put, List.setIfInBounds_toArray, List.set_cons_succ, List.set_cons_zero]
    rfl
  refine RS.go1 (v := ?_) (a' := ?_) rfl ?_ ?_ ?_
  rotate_left 2
  · intro K wx hS hK
    go_simp
    refine (K2.out _).mono (fun e w2 he => ?_)
    refine ⟨_, he.1, ?_⟩
    exact hK _ (Hm.below hS he.2)
  · simp only [Act.put, List.setIfInBounds_toArray, List.set_cons_succ, List.set_cons_zero]
    rfl
  refine RS.go_end ?_
  intro w1 m1
  have HB : Hid (Below w.heap.size w w1) := m1.bel
  have c1 : ∀ o, o < 4 → w1.cell? ⟨w.heap.size, o, none⟩ = some (.int .u64 (dg n o)) := (m1.ok _ (List.mem_cons_self ..)).c
  clear m0 m1
  by_cases h : n < 256
  · have e1 := e0 h
    have e2 : IntKind.i64.wrap (n : Int) = n := by rw [IntKind.wrap_i64]; omega
    have e3 : decide (n < 256) = true := decide_eq_true h
    have e4 : min n 256 = n := by omega
    clear e0
    go_wp2_with fail
    go_ret
    exact ⟨by rw [e4]; rfl, HB.out⟩
  · have e3 : decide (n < 256) = false := decide_eq_false h
    have e4 : min n 256 = 256 := by omega
    clear e0 c1
    go_wp2_with fail
    go_ret
    exact ⟨by rw [e4]; rfl, HB.out⟩
set_option maxHeartbeats 4000000 in
set_option maxRecDepth 100000 in
theorem tbyte_far (n a : Nat) (hn : n < 2 ^ 256) (h : 32 ≤ n) (w : World) :
    Calls Try.prog 20 #[Wd n, Wd a] w fun e w' => e = .returned (Wd 0) ∧ Below w.heap.size w w' := by
  have K1 : Hid (∀ w : World, Calls Try.prog 40 #[.int .u64 32] w fun e w' => e = .returned (Wd 32) ∧ Below w.heap.size w w') := fun w => wint_any 32 (by decide) w
  have K2 : Hid (∀ w : World, Calls Try.prog 39 #[Wd n, Wd 32] w fun e w' => e = .returned (.bool false) ∧ Below w.heap.size w w') := fun w => by have := wless_any n 32 hn (by decide) w; rwa [decide_eq_false (show ¬ n < 32 by omega)] at this
  clear hn h
  obtain ⟨N, hN⟩ : ∃ N, N = 0 := ⟨_, rfl⟩
  rw [← hN]
  generalize Wd 32 = W32 at *
  have m0 := Hm.new0 (g := w.heap.size + 1 + 1) (T := 24) (Hm.new4 (g := w.heap.size + 1) (n := a) (T := 24) (Hm.new4 (g := w.heap.size) (n := n) (T := 24) (Hm.start w) rfl) (by simp)) (by simp)
  have hne : ∀ b, b ∈ [Hm.W4 (w.heap.size + 1) a, Hm.W4 w.heap.size n] → w.heap.size + 1 + 1 ≠ b.g := by
    intro b hb
    simp only [List.mem_cons, List.not_mem_nil, or_false] at hb
    rcases hb with rfl | rfl <;> simp only [Hm.W4] <;> omega
  conv => arg 3; unfold Wd
  go_enter Try.func20, Try.ntmps20
  go_upto_region 1 with fail
  generalize ((w.alloc (.cells #[.int .u64 (dg n 0), .int .u64 (dg n 1), .int .u64 (dg n 2), .int .u64 (dg n 3)] 24)).alloc (.cells #[.int .u64 (dg a 0), .int .u64 (dg a 1), .int .u64 (dg a 2), .int .u64 (dg a 3)] 24)).alloc (.cells #[.int .u64 0, .int .u64 0, .int .u64 0, .int .u64 0] 24) = W0 at m0 ⊢
  refine RS.wp_region_one (Hm.Hd w [⟨w.heap.size + 1 + 1, 4, fun o => .int .u64 (dg 0 o)⟩, Hm.W4 (w.heap.size + 1) a, Hm.W4 w.heap.size n]) (by kernel_rfl) (by kernel_rfl) (Hm.drew m0) ?_
  dsimp only [List.toList_toArray]
  refine RS.go1 (v := ?_) (a' := ?_) rfl ?_ ?_ ?_
  rotate_left 2
  · intro K wx hS hK
    refine RW.ld rfl rfl (hS.ok (Hm.W4 (w.heap.size) (n)) (by simp)).c ?_
    exact hK _ hS
  · simp only [Act.put, List.setIfInBounds_toArray, List.set_cons_succ, List.set_cons_zero]
    rfl
  refine RS.go1 (v := ?_) (a' := ?_) rfl ?_ ?_ ?_
  rotate_left 2
  · intro K wx hS hK
    go_simp
    refine (K1.out _).mono (fun e w2 he => ?_)
    refine ⟨_, he.1, ?_⟩
    exact hK _ (Hm.below hS he.2)
  · simp only [Act.put, List.setIfInBounds_toArray, List.set_cons_succ, List.set_cons_zero]
    rfl
  refine RS.go1 (v := ?_) (a' := ?_) rfl ?_ ?_ ?_
  rotate_left 2
  · intro K wx hS hK
    go_simp
    refine (K2.out _).mono (fun e w2 he => ?_)
    refine ⟨_, he.1, ?_⟩
    exact hK _ (Hm.below hS he.2)
  · simp only [Act.put, List.setIfInBounds_toArray, List.set_cons_succ, List.set_cons_zero]
    rfl
  refine RS.go1 (v := ?_) (a' := ?_) rfl ?_ ?_ ?_
  rotate_left 2
  · intro K wx hS hK
    go_simp
    exact hK _ hS
  · simp only [Act.put, List.setIfInBounds_toArray, List.set_cons_succ, List.set_cons_zero]
    rfl
  refine RS.go_end ?_
  intro w2 m2
  clear m0
  have c2 : ∀ o, o < 4 → w2.cell? ⟨w.heap.size + 1 + 1, o, none⟩ = some (.int .u64 (dg 0 o)) := (m2.ok _ (List.mem_cons_self ..)).c
  have f2 : ∀ o, w2.frozen? ⟨w.heap.size + 1 + 1, o, none⟩ = false := (m2.ok _ (List.mem_cons_self ..)).f
  have HV : Hid (Hm.Hd w [Hm.W4 (w.heap.size + 1 + 1) N, Hm.W4 (w.heap.size + 1) a, Hm.W4 w.heap.size n] _) := Hm.set4 m2 hne
  clear m2 hne
  subst hN
  go_wp2_with fail
  exact bodyPost_ret (v := Wd 0) (resultTw _ _ _ (w.heap.size + 1 + 1) 0 4 rfl rfl (HV.out.ok _ (List.mem_cons_self ..)).c) rfl ⟨rfl, HV.out.bel⟩
set_option maxHeartbeats 4000000 in
set_option maxRecDepth 100000 in
theorem tbyte_at (n a : Nat) (hn : n < 2 ^ 256) (h : n < 32) (w : World) :
    Calls Try.prog 20 #[Wd n, Wd a] w fun e w' => e = .returned (Wd (a / 2 ^ (8 * (31 - n)) % 256)) ∧ Below w.heap.size w w' := by
  obtain ⟨N, hN⟩ : ∃ N, N = a / 2 ^ (8 * (31 - n)) % 256 := ⟨_, rfl⟩
  have K1 : Hid (∀ w : World, Calls Try.prog 40 #[.int .u64 32] w fun e w' => e = .returned (Wd 32) ∧ Below w.heap.size w w') := fun w => wint_any 32 (by decide) w
  have K2 : Hid (∀ w : World, Calls Try.prog 39 #[Wd n, Wd 32] w fun e w' => e = .returned (.bool true) ∧ Below w.heap.size w w') := fun w => by have := wless_any n 32 hn (by decide) w; rwa [decide_eq_true h] at this
  have K4 : Hid (∀ w : World, Calls Try.prog 40 #[.int .u64 (N : Int)] w fun e w' => e = .returned (Wd N) ∧ Below w.heap.size w w') := fun w => wint_any N (by omega) w
  have K3 : Hid (∀ w : World, Calls Try.prog 41 #[Wd a] w fun e w' => ∃ v, e = .returned v ∧ Row 32 (fun j => .int .u8 (bt a j)) v w' ∧ Below w.heap.size w w') := fun w => (wbytes_any a w).mono fun e w' he => by
    obtain ⟨g, cap, rfl, hown, hb⟩ := he
    exact ⟨_, rfl, Row_own hown, hb⟩
  have hL : RG.Lasts (Hm.Hd w [⟨w.heap.size + 1 + 1, 4, fun o => .int .u64 (dg 0 o)⟩, Hm.W4 (w.heap.size + 1) a, Hm.W4 w.heap.size n]) (fun _ v wx => Row 32 (fun j => .int .u8 (bt a j)) v wx) := ⟨fun _ _ h hb => Hm.below h hb, fun _ _ _ _ h hb => Row_below h hb⟩
  have e0 : Hid (dg n 0 = (n : Int)) := (by unfold dg; rw [Nat.mul_zero, Nat.pow_zero, Nat.div_one, Nat.mod_eq_of_lt (by omega)] : dg n 0 = (n : Int))
  have eN : Hid (bt a n = (N : Int)) := (by rw [hN]; rfl : bt a n = (N : Int))
  have eW : Hid (IntKind.u64.wrap (N : Int) = N) := (by rw [IntKind.wrap_u64]; omega : IntKind.u64.wrap (N : Int) = N)
  rw [← hN]
  clear hn hN
  generalize Wd 32 = W32 at *
  have m0 := Hm.new0 (g := w.heap.size + 1 + 1) (T := 24) (Hm.new4 (g := w.heap.size + 1) (n := a) (T := 24) (Hm.new4 (g := w.heap.size) (n := n) (T := 24) (Hm.start w) rfl) (by simp)) (by simp)
  have hne : ∀ b, b ∈ [Hm.W4 (w.heap.size + 1) a, Hm.W4 w.heap.size n] → w.heap.size + 1 + 1 ≠ b.g := by
    intro b hb
    simp only [List.mem_cons, List.not_mem_nil, or_false] at hb
    rcases hb with rfl | rfl <;> simp only [Hm.W4] <;> omega
  conv => arg 3; unfold Wd
  go_enter Try.func20, Try.ntmps20
  go_upto_region 1 with fail
  generalize ((w.alloc (.cells #[.int .u64 (dg n 0), .int .u64 (dg n 1), .int .u64 (dg n 2), .int .u64 (dg n 3)] 24)).alloc (.cells #[.int .u64 (dg a 0), .int .u64 (dg a 1), .int .u64 (dg a 2), .int .u64 (dg a 3)] 24)).alloc (.cells #[.int .u64 0, .int .u64 0, .int .u64 0, .int .u64 0] 24) = W0 at m0 ⊢
  refine RS.wp_region_one (Hm.Hd w [⟨w.heap.size + 1 + 1, 4, fun o => .int .u64 (dg 0 o)⟩, Hm.W4 (w.heap.size + 1) a, Hm.W4 w.heap.size n]) (by kernel_rfl) (by kernel_rfl) (Hm.drew m0) ?_
  dsimp only [List.toList_toArray]
  refine RS.go1 (v := ?_) (a' := ?_) rfl ?_ ?_ ?_
  rotate_left 2
  · intro K wx hS hK
    refine RW.ld rfl rfl (hS.ok (Hm.W4 (w.heap.size) (n)) (by simp)).c ?_
    exact hK _ hS
  · simp only [Act.put, List.setIfInBounds_toArray, List.set_cons_succ, List.set_cons_zero]
    rfl
  refine RS.go1 (v := ?_) (a' := ?_) rfl ?_ ?_ ?_
  rotate_left 2
  · intro K wx hS hK
    go_simp
    refine (K1.out _).mono (fun e w2 he => ?_)
    refine ⟨_, he.1, ?_⟩
    exact hK _ (Hm.below hS he.2)
  · simp only [Act.put, List.setIfInBounds_toArray, List.set_cons_succ, List.set_cons_zero]
    rfl
  refine RS.go1 (v := ?_) (a' := ?_) rfl ?_ ?_ ?_
  rotate_left 2
  · intro K wx hS hK
    go_simp
    refine (K2.out _).mono (fun e w2 he => ?_)
    refine ⟨_, he.1, ?_⟩
    exact hK _ (Hm.below hS he.2)
  · simp only [Act.put, List.setIfInBounds_toArray, List.set_cons_succ, List.set_cons_zero]
    rfl
  refine RS.go1 (v := ?_) (a' := ?_) rfl ?_ ?_ ?_
  rotate_left 2
  · intro K wx hS hK
    go_simp
    exact hK _ hS
  · simp only [Act.put, List.setIfInBounds_toArray, List.set_cons_succ, List.set_cons_zero]
    rfl
  refine RS.go_end ?_
  intro w1 m1
  clear m0
  go_upto_region 3 with fail
  refine RG.wp_region_gen (Hm.Hd w [⟨w.heap.size + 1 + 1, 4, fun o => .int .u64 (dg 0 o)⟩, Hm.W4 (w.heap.size + 1) a, Hm.W4 w.heap.size n]) (fun _ v wx => Row 32 (fun j => .int .u8 (bt a j)) v wx) (fun _ _ => True) [0, 1, 0, 0, 2, 2, 2, 2, 2] (by kernel_rfl) (by kernel_rfl) (Hm.drew m1) ?_
  dsimp only [List.toList_toArray]
  refine RG.go1 (v := ?_) (a' := ?_) hL (by decide) rfl ?_ ?_ ?_
  rotate_left 2
  · intro K wx hS hK
    refine RW.ld rfl rfl (hS.ok (Hm.W4 (w.heap.size + 1) (a)) (by simp)).c ?_
    exact hK _ (Below.refl _ _)
  · simp only [Act.put, List.setIfInBounds_toArray, List.set_cons_succ, List.set_cons_zero]
    rfl
  refine RG.goN hL rfl ?_ ?_
  · intro K wx hS hK
    go_simp
    refine (K3.out _).mono (fun e w2 he => ?_)
    obtain ⟨v, rfl, hr, hb⟩ := he
    exact ⟨_, rfl, hK _ _ hb hr (fun _ _ _ => ⟨trivial, trivial⟩)⟩
  refine RG.go1 (v := ?_) (a' := ?_) hL (by decide) rfl ?_ ?_ ?_
  rotate_left 2
  · intro K wx hS hK
    go_simp
    exact hK _ (Below.refl _ _)
  · simp only [Act.put, List.setIfInBounds_toArray, List.set_cons_succ, List.set_cons_zero]
    rfl
  refine RG.go1 (v := ?_) (a' := ?_) hL (by decide) rfl ?_ ?_ ?_
  rotate_left 2
  · intro K wx hS hK
    have c0 : wx.cell? ⟨w.heap.size, 0, none⟩ = some (.int .u64 (dg n 0)) := (hS.ok (Hm.W4 w.heap.size n) (by simp)).c 0 (show 0 < 4 by decide)
    have e := e0.out
    go_simp
    exact hK _ (Below.refl _ _)
  · simp only [Act.put, List.setIfInBounds_toArray, List.set_cons_succ, List.set_cons_zero]
    rfl
  refine RG.goT ?_
  refine RG.goT ?_
  refine RG.goT ?_
  refine RG.goT ?_
  refine RG.goT ?_
  refine RG.go_end ?_
  intro U w9 m9 y9 x9
  simp +decide only [RG.tl, RG.putN, if_true, if_false, Act.put, List.setIfInBounds_toArray, List.set_cons_succ, List.set_cons_zero, Nat.reduceAdd]
  obtain ⟨g, off, cap, hU, hcap, hg, hc⟩ := y9 1 rfl
  have hcell : w9.cell? ⟨g, off + n, none⟩ = some (.int .u8 (N : Int)) := by rw [← eN.out]; exact hc n h
  have ew := eW.out
  simp only [hU]
  clear y9 x9 hU hc m1 hL K1 K2 K3
  go_wp2_with fail
  refine (K4.out _).mono ?_
  rintro e w2 ⟨rfl, hb⟩
  have m2 := Hm.below m9 hb
  clear hb m9 hcell ew
  have c2 : ∀ o, o < 4 → w2.cell? ⟨w.heap.size + 1 + 1, o, none⟩ = some (.int .u64 (dg 0 o)) := (m2.ok _ (List.mem_cons_self ..)).c
  have f2 : ∀ o, w2.frozen? ⟨w.heap.size + 1 + 1, o, none⟩ = false := (m2.ok _ (List.mem_cons_self ..)).f
  have HV : Hid (Hm.Hd w [Hm.W4 (w.heap.size + 1 + 1) N, Hm.W4 (w.heap.size + 1) a, Hm.W4 w.heap.size n] _) := Hm.set4 m2 hne
  clear m2 hne
  unfold Wd
  go_wp2_with fail
  exact bodyPost_ret (v := Wd N) (resultTw _ _ _ (w.heap.size + 1 + 1) N 4 rfl rfl (HV.out.ok _ (List.mem_cons_self ..)).c) rfl ⟨rfl, HV.out.bel⟩
theorem tbyte_any (n a : Nat) (hn : n < 2 ^ 256) (w : World) :
    Calls Try.prog 20 #[Wd n, Wd a] w fun e w' => e = .returned (Wd (byn n a)) ∧ Below w.heap.size w w' := by
  unfold byn
  by_cases h : n < 32
  · rw [if_pos h]; exact tbyte_at n a hn h w
  · rw [if_neg h]; exact tbyte_far n a hn (by omega) w
end Go.Proofs.Ytejldahlbhkemaa
/- lampbearerref.TShl: bits moved up, as a list. -/
namespace Go.Proofs.Ytejldahlbhkemaa
open Go.RowKit Go.Shelf
theorem own_below {base e size n : Nat} {v : Value} {xs : List Value} {w1 w2 : World} (h : w1.ownsRow base e size v n xs) (hb : Below w1.heap.size w1 w2) : w2.ownsRow base e size v n xs := by
  refine ⟨h.1, ?_⟩
  rcases h.2 with h2 | ⟨g, cap, cur, h2, h3, h4, h5⟩
  · exact .inl h2
  · refine .inr ⟨g, cap, cur, h2, h3, ?_, h5⟩
    rw [hb.block g (Array.getElem?_eq_some_iff.1 h4).1]; exact h4
theorem TL_get (a n j : Nat) (h : j < n) : (TL a n)[j]? = some (.bool (a.testBit j)) := by simp [TL, h]
theorem made_row (m : Nat) (hm : m ≤ 256) (base : Nat) (w : World) (hbase : base ≤ w.heap.size) : ∃ w', (Instr.makeSlice 30 (.int .i64 (m : Int)) (.int .i64 (m : Int))).run Try.prog w = .ok (.slice (some ⟨w.heap.size, 0, none⟩) m m) w' ∧ w'.ownsRow base 4 1 (.slice (some ⟨w.heap.size, 0, none⟩) m m) m (List.replicate m (.bool false)) ∧ Below w.heap.size w w' := by
  obtain ⟨i0, hi, hz0, hz1, hz2⟩ := info_parts Try.infoB
  have hr := run_make (P := Try.prog) w 30 4 i0 (.bool false) Try.underlying30 hi hz0 .i64 .i64 (m : Int) (m : Int) (by omega) (Int.le_refl _) (by rw [hz2]; omega) (by omega)
  rw [Int.toNat_natCast, hz1, Nat.mul_one] at hr
  refine ⟨_, hr, ⟨by simp, .inr ⟨w.heap.size, m, madeCells (Value.bool false).cells m, rfl, hbase, heap_alloc_new w _, Nat.le_refl _, by unfold maxLen; omega, by rw [size_madeCells, Nat.mul_one], ?_⟩⟩, (Below.refl _ _).alloc (Nat.le_refl _) _⟩
  rw [Nat.mul_one]
  apply List.ext_getElem?
  intro j
  rw [List.getElem?_take]
  by_cases hj : j < m
  · rw [if_pos hj]
    have hz : (Value.bool false).cells = #[.bool false] := rfl
    simp [madeCells, hz, hj, Nat.mod_one]
  · rw [if_neg hj, List.getElem?_eq_none (by simp; omega)]
theorem Hm.belowB {w : World} {L : List Hm.Bk} {w1 w2 : World} {B : Nat} (h : Hm.Hd w L w1) (hw : w.heap.size ≤ B) (hL : ∀ k, k ∈ L → k.g < B) (hb : Below B w1 w2) : Hm.Hd w L w2 :=
  ⟨h.bel.trans (hb.mono hw), fun k hk => ⟨(h.ok k hk).lo, Nat.lt_of_lt_of_le (h.ok k hk).hi hb.size, fun o ho => (hb.cell (p := ⟨k.g, o, none⟩) (hL k hk)).trans ((h.ok k hk).c o ho), fun o => (hb.frozen (p := ⟨k.g, o, none⟩) (hL k hk)).trans ((h.ok k hk).f o)⟩⟩
theorem shl_ob (a m : Nat) : ob (fun i => if i < m then false else a.testBit (i - m)) (m + 256) = a * 2 ^ m % 2 ^ 256 := by
  apply Nat.eq_of_testBit_eq
  intro i
  rw [ob_bit, Nat.testBit_mod_two_pow, Nat.testBit_mul_two_pow]
  by_cases h : i < 256
  · rw [decide_eq_true h, decide_eq_true (show i < m + 256 by omega)]
    by_cases hm : i < m
    · rw [decide_eq_false (show ¬ m ≤ i by omega)]; simp [hm]
    · rw [decide_eq_true (show m ≤ i by omega)]; simp [hm]
  · rw [decide_eq_false h]; simp
set_option maxHeartbeats 4000000 in
set_option maxRecDepth 100000 in
theorem tshl_any (n a : Nat) (hn : n < 2 ^ 256) (w : World) :
    Calls Try.prog 14 #[Wd n, Wd a] w fun e w' => e = .returned (Wd (a * 2 ^ min n 256 % 2 ^ 256)) ∧ Below w.heap.size w w' := by
  obtain ⟨i0, hi, hz0, hz1, hz2⟩ := info_parts Try.infoB
  obtain ⟨m, hm⟩ : ∃ m, m = min n 256 := ⟨_, rfl⟩
  obtain ⟨N, hN⟩ : ∃ N, N = a * 2 ^ m % 2 ^ 256 := ⟨_, rfl⟩
  have hm256 : m ≤ 256 := by omega
  rw [← hm, ← hN]
  have K1 : Hid (∀ w : World, Calls Try.prog 34 #[Wd n] w fun e w' => e = .returned (.int .i64 (m : Int)) ∧ Below w.heap.size w w') := fun w => by rw [hm]; exact places_any n hn w
  have KB : Hid (∀ w : World, Calls Try.prog 23 #[Wd a] w fun e w' => ∃ v, e = .returned v ∧ Row 256 (fun j => .bool (a.testBit j)) v w' ∧ Below w.heap.size w w') := fun w => (bitsof_any a w).mono fun e w' he => by
    obtain ⟨g, cap, rfl, hown, hb⟩ := he
    exact ⟨_, rfl, Row_own hown, hb⟩
  have KO : Hid (∀ (g cap : Nat) (w : World) (xs : List Value) (base : Nat), w.ownsRow base 4 1 (.slice (some ⟨g, 0, none⟩) (m + 256) cap) (m + 256) (List.replicate m (.bool false) ++ TL a 256) → Calls Try.prog 24 #[.slice (some ⟨g, 0, none⟩) (m + 256) cap] w fun e w' => e = .returned (Wd N) ∧ Below w.heap.size w w') := fun g cap w _ base ho => by
    have := ofbits_any (fun i => if i < m then false else a.testBit (i - m)) (m + 256) g 0 cap (by omega) w (ho.lt g rfl).2 (fun j hj => by
      rw [Nat.zero_add, ho.cellAt j (by omega)]
      by_cases h : j < m
      · rw [List.getElem?_append_left (by simpa using h)]
        simp [h]
      · rw [List.getElem?_append_right (by simp; omega)]
        rw [List.length_replicate, TL_get a 256 (j - m) (by omega)]
        simp [h])
    rw [shl_ob a m, ← hN] at this
    exact this
  have hL : RG.Lasts (Hm.Hd w [⟨w.heap.size + 1 + 1, 4, fun o => .int .u64 (dg 0 o)⟩, Hm.W4 (w.heap.size + 1) a, Hm.W4 w.heap.size n]) (fun j v wx => if j = 2 then wx.ownsRow (w.heap.size + 1 + 1 + 1) 4 1 v m (List.replicate m (.bool false)) else Row 256 (fun j => .bool (a.testBit j)) v wx) := ⟨fun _ _ h hb => Hm.below h hb, fun j _ _ _ h hb => by
    by_cases e : j = 2
    · rw [if_pos e] at h ⊢; exact own_below h hb
    · rw [if_neg e] at h ⊢; exact Row_below h hb⟩
  clear hn hm hN
  have m0 := Hm.new0 (g := w.heap.size + 1 + 1) (T := 24) (Hm.new4 (g := w.heap.size + 1) (n := a) (T := 24) (Hm.new4 (g := w.heap.size) (n := n) (T := 24) (Hm.start w) rfl) (by simp)) (by simp)
  have hne : ∀ b, b ∈ [Hm.W4 (w.heap.size + 1) a, Hm.W4 w.heap.size n] → w.heap.size + 1 + 1 ≠ b.g := by
    intro b hb
    simp only [List.mem_cons, List.not_mem_nil, or_false] at hb
    rcases hb with rfl | rfl <;> simp only [Hm.W4] <;> omega
  conv => arg 3; unfold Wd
  go_enter Try.func14, Try.ntmps14
  go_upto_region 1 with fail
  generalize ((w.alloc (.cells #[.int .u64 (dg n 0), .int .u64 (dg n 1), .int .u64 (dg n 2), .int .u64 (dg n 3)] 24)).alloc (.cells #[.int .u64 (dg a 0), .int .u64 (dg a 1), .int .u64 (dg a 2), .int .u64 (dg a 3)] 24)).alloc (.cells #[.int .u64 0, .int .u64 0, .int .u64 0, .int .u64 0] 24) = W0 at m0 ⊢
  refine RG.wp_region_gen (Hm.Hd w [⟨w.heap.size + 1 + 1, 4, fun o => .int .u64 (dg 0 o)⟩, Hm.W4 (w.heap.size + 1) a, Hm.W4 w.heap.size n]) (fun j v wx => if j = 2 then wx.ownsRow (w.heap.size + 1 + 1 + 1) 4 1 v m (List.replicate m (.bool false)) else Row 256 (fun j => .bool (a.testBit j)) v wx) (fun _ _ => True) [0, 0, 1, 0, 1, 2, 2, 2] (by kernel_rfl) (by kernel_rfl) (Hm.drew m0) ?_
  dsimp only [List.toList_toArray]
  refine RG.go1 (v := ?_) (a' := ?_) hL (by decide) rfl ?_ ?_ ?_
  rotate_left 2
  · intro K wx hS hK
    refine RW.ld rfl rfl (hS.ok (Hm.W4 (w.heap.size) (n)) (by simp)).c ?_
    exact hK _ (Below.refl _ _)
  · simp only [Act.put, List.setIfInBounds_toArray, List.set_cons_succ, List.set_cons_zero]
    rfl
  refine RG.go1 (v := ?_) (a' := ?_) hL (by decide) rfl ?_ ?_ ?_
  rotate_left 2
  · intro K wx hS hK
    go_simp
    refine (K1.out _).mono (fun e w2 he => ?_)
    refine ⟨_, he.1, ?_⟩
    exact hK _ he.2
  · simp only [Act.put, List.setIfInBounds_toArray, List.set_cons_succ, List.set_cons_zero]
    rfl
  refine RG.goN hL rfl ?_ ?_
  · intro K wx hS hK
    obtain ⟨w2, hr, ho, hb⟩ := made_row m hm256 (w.heap.size + 1 + 1 + 1) wx (hS.ok _ (List.mem_cons_self ..)).hi
    go_simp
    exact hK _ _ hb ((if_pos rfl).mpr ho) (fun _ _ _ => ⟨trivial, trivial⟩)
  refine RG.go1 (v := ?_) (a' := ?_) hL (by decide) rfl ?_ ?_ ?_
  rotate_left 2
  · intro K wx hS hK
    refine RW.ld rfl rfl (hS.ok (Hm.W4 (w.heap.size + 1) (a)) (by simp)).c ?_
    exact hK _ (Below.refl _ _)
  · simp only [Act.put, List.setIfInBounds_toArray, List.set_cons_succ, List.set_cons_zero]
    rfl
  refine RG.goN hL rfl ?_ ?_
  · intro K wx hS hK
    go_simp
    refine (KB.out _).mono (fun e w2 he => ?_)
    obtain ⟨v, rfl, hr, hb⟩ := he
    exact ⟨_, rfl, hK _ _ hb ((if_neg (by decide)).mpr hr) (fun _ _ _ => ⟨trivial, trivial⟩)⟩
  refine RG.goT ?_
  refine RG.goT ?_
  refine RG.goT ?_
  refine RG.go_end ?_
  intro U w9 m9 y9 x9
  simp +decide only [RG.tl, RG.putN, if_true, if_false, Act.put, List.setIfInBounds_toArray, List.set_cons_succ, List.set_cons_zero, Nat.reduceAdd]
  have o2 : w9.ownsRow (w.heap.size + 1 + 1 + 1) 4 1 (U 2) m (List.replicate m (.bool false)) := y9 2 rfl
  obtain ⟨g, off, cap, hU, hcap, hg, hc⟩ : Row 256 (fun j => .bool (a.testBit j)) (U 4) w9 := y9 4 rfl
  simp only [hU]
  generalize U 2 = v2 at *
  clear y9 x9 hU m0 hL K1 KB
  have hsz : w.heap.size + 1 + 1 + 1 ≤ w9.heap.size := (m9.ok _ (List.mem_cons_self ..)).hi
  refine wpList_append_own _ rfl _ _ 30 rfl (w.heap.size + 1 + 1 + 1) 4 i0 (.bool false) 1 1 Try.underlying30 hi hz0 hz1 hz2 rfl (by decide) v2 m _ rfl o2 ⟨g, off, none⟩ 256 cap (TL a 256) rfl (by simp [TL]) ?c1 ?c2 ?c3 ?c4 hsz ?_
  case c1 =>
    intro j u hj
    have hj2 : j < 256 := by
      have := (List.getElem?_eq_some_iff.1 hj).1
      simpa [TL] using this
    have : (TL a 256)[j]? = some (.bool (a.testBit j)) := by simp [TL, hj2]
    rw [this] at hj
    cases hj
    have h2 := hc j hj2
    unfold Addr.add
    by_cases e : j = 0
    · subst e; simpa using h2
    · simpa [e] using h2
  case c2 =>
    intro u hu
    simp [TL] at hu
    obtain ⟨j, _, rfl⟩ := hu
    rfl
  case c3 => unfold maxLen; omega
  case c4 => omega
  intro v' w2 hown' hgrow _
  have hb2 : Below (w.heap.size + 1 + 1 + 1) w9 w2 := (Below.refl _ _).grown hgrow hsz (fun k hk => (o2.lt k hk).1)
  have m2 := Hm.belowB m9 (by omega) (by
    intro b hb
    simp only [List.mem_cons, List.not_mem_nil, or_false] at hb
    rcases hb with rfl | rfl | rfl <;> simp only [Hm.W4] <;> omega) hb2
  obtain ⟨g', cap', rfl⟩ : ∃ g' cap', v' = .slice (some ⟨g', 0, none⟩) (m + 256) cap' := by
    rcases hown'.2 with ⟨_, h⟩ | ⟨g', cap', cur, h, _⟩
    · omega
    · exact ⟨g', cap', h⟩
  simp only [Act.put, List.setIfInBounds_toArray, List.set_cons_succ, List.set_cons_zero]
  have HO : Hid (w2.ownsRow (w.heap.size + 1 + 1 + 1) 4 1 (.slice (some ⟨g', 0, none⟩) (m + 256) cap') (m + 256) (List.replicate m (.bool false) ++ TL a 256)) := hown'
  clear hown' hgrow hb2 o2 hc m9 hcap hg hsz
  go_wp2_with fail
  refine (KO.out _ _ _ [] _ HO.out).mono ?_
  rintro e w3 ⟨rfl, hb⟩
  have m3 := Hm.below m2 hb
  clear hb m2 HO
  have c2 : ∀ o, o < 4 → w3.cell? ⟨w.heap.size + 1 + 1, o, none⟩ = some (.int .u64 (dg 0 o)) := (m3.ok _ (List.mem_cons_self ..)).c
  have f2 : ∀ o, w3.frozen? ⟨w.heap.size + 1 + 1, o, none⟩ = false := (m3.ok _ (List.mem_cons_self ..)).f
  have HV : Hid (Hm.Hd w [Hm.W4 (w.heap.size + 1 + 1) N, Hm.W4 (w.heap.size + 1) a, Hm.W4 w.heap.size n] _) := Hm.set4 m3 hne
  clear m3 hne
  unfold Wd
  go_wp2_with fail
  exact bodyPost_ret (v := Wd N) (resultTw _ _ _ (w.heap.size + 1 + 1) N 4 rfl rfl (HV.out.ok _ (List.mem_cons_self ..)).c) rfl ⟨rfl, HV.out.bel⟩
end Go.Proofs.Ytejldahlbhkemaa
/- lampbearerref.TSar: bits moved down with the sign, as a list. -/
namespace Go.Proofs.Ytejldahlbhkemaa
open Go.RowKit Go.Shelf
theorem nt_tb (a i : Nat) : (nt a).testBit i = (decide (i < 256) && !a.testBit i) := by
  unfold nt
  have h : a % 2 ^ 256 < 2 ^ 256 := Nat.mod_lt _ (by decide)
  rw [show 2 ^ 256 - 1 - a % 2 ^ 256 = 2 ^ 256 - (a % 2 ^ 256 + 1) by omega, Nat.testBit_two_pow_sub_succ h, Nat.testBit_mod_two_pow]
  cases decide (i < 256) <;> simp
theorem sg_tb (a : Nat) (ha : a < 2 ^ 256) : sg a = a.testBit 255 := by
  unfold sg
  rw [Nat.testBit_eq_decide_div_mod_eq, decide_eq_decide]
  omega
theorem sar_tb (m a i : Nat) (ha : a < 2 ^ 256) (hi : i < 256) : (sar m a).testBit i = if i < 256 - m then a.testBit (m + i) else a.testBit 255 := by
  unfold sar
  rw [sg_tb a ha]
  cases h : a.testBit 255
  · rw [if_neg (by decide), Nat.testBit_div_two_pow, Nat.add_comm i m]
    by_cases c : i < 256 - m
    · rw [if_pos c]
    · rw [if_neg c, Nat.testBit_lt_two_pow]
      exact Nat.lt_of_lt_of_le ha (Nat.pow_le_pow_right (by decide) (by omega))
  · rw [if_pos rfl, nt_tb, decide_eq_true hi, Bool.true_and, Nat.testBit_div_two_pow, Nat.add_comm i m, nt_tb]
    by_cases c : i < 256 - m
    · rw [if_pos c, decide_eq_true (show m + i < 256 by omega)]; simp
    · rw [if_neg c, decide_eq_false (show ¬ m + i < 256 by omega)]; rfl
theorem sar_ob (m a : Nat) (ha : a < 2 ^ 256) : ob (fun i => if i < 256 - m then a.testBit (m + i) else a.testBit 255) 256 = sar m a := by
  apply Nat.eq_of_testBit_eq
  intro i
  rw [ob_bit]
  by_cases h : i < 256
  · rw [sar_tb m a i ha h, decide_eq_true h]; rfl
  · have e : (sar m a).testBit i = false := Nat.testBit_lt_two_pow (Nat.lt_of_lt_of_le (sar_lt m a ha) (Nat.pow_le_pow_right (by decide) (by omega)))
    rw [e, decide_eq_false h]; rfl
theorem LST_first (a m : Nat) : ((List.range (256 - m)).map fun i => Value.bool (if i < 256 - m then a.testBit (m + i) else a.testBit 255)) = [] ++ (List.range (256 - m)).map fun i => Value.bool (a.testBit (m + i)) := by
  rw [List.nil_append]
  apply List.map_congr_left
  intro i hi
  rw [if_pos (List.mem_range.1 hi)]
def slen : Value → Nat
  | .slice _ n _ => n
  | _ => 0
theorem own_slen {base e n : Nat} {v : Value} {xs : List Value} {wx : World} (h : wx.ownsRow base e 1 v n xs) : slen v = n := by
  rcases h.2 with ⟨rfl, rfl⟩ | ⟨g, cap, cur, rfl, _⟩ <;> rfl
set_option maxHeartbeats 4000000 in
set_option maxRecDepth 100000 in
theorem tsar_any (n a : Nat) (hn : n < 2 ^ 256) (ha : a < 2 ^ 256) (w : World) :
    Calls Try.prog 18 #[Wd n, Wd a] w fun e w' => e = .returned (Wd (sar (min n 256) a)) ∧ Below w.heap.size w w' := by
  obtain ⟨i0, hi, hz0, hz1, hz2⟩ := info_parts Try.infoB
  obtain ⟨m, hm⟩ : ∃ m, m = min n 256 := ⟨_, rfl⟩
  obtain ⟨N, hN⟩ : ∃ N, N = sar m a := ⟨_, rfl⟩
  have hm256 : m ≤ 256 := by omega
  rw [← hm, ← hN]
  have K1 : Hid (∀ w : World, Calls Try.prog 34 #[Wd n] w fun e w' => e = .returned (.int .i64 (m : Int)) ∧ Below w.heap.size w w') := fun w => by rw [hm]; exact places_any n hn w
  have KB : Hid (∀ w : World, Calls Try.prog 23 #[Wd a] w fun e w' => ∃ v, e = .returned v ∧ Row 256 (fun j => .bool (a.testBit j)) v w' ∧ Below w.heap.size w w') := fun w => (bitsof_any a w).mono fun e w' he => by
    obtain ⟨g, cap, rfl, hown, hb⟩ := he
    exact ⟨_, rfl, Row_own hown, hb⟩
  have KO : Hid (∀ (g cap : Nat) (w : World) (base : Nat), w.ownsRow base 4 1 (.slice (some ⟨g, 0, none⟩) 256 cap) 256 ((List.range 256).map fun i => .bool (if i < 256 - m then a.testBit (m + i) else a.testBit 255)) → Calls Try.prog 24 #[.slice (some ⟨g, 0, none⟩) 256 cap] w fun e w' => e = .returned (Wd N) ∧ Below w.heap.size w w') := fun g cap w base ho => by
    have := ofbits_any (fun i => if i < 256 - m then a.testBit (m + i) else a.testBit 255) 256 g 0 cap (by omega) w (ho.lt g rfl).2 (fun j hj => by
      rw [Nat.zero_add, ho.cellAt j (by omega)]
      simp [hj])
    rw [sar_ob m a ha, ← hN] at this
    exact this
  clear hn ha hm hN
  have m0 := Hm.new0 (g := w.heap.size + 1 + 1) (T := 24) (Hm.new4 (g := w.heap.size + 1) (n := a) (T := 24) (Hm.new4 (g := w.heap.size) (n := n) (T := 24) (Hm.start w) rfl) (by simp)) (by simp)
  have hne : ∀ b, b ∈ [Hm.W4 (w.heap.size + 1) a, Hm.W4 w.heap.size n] → w.heap.size + 1 + 1 ≠ b.g := by
    intro b hb
    simp only [List.mem_cons, List.not_mem_nil, or_false] at hb
    rcases hb with rfl | rfl <;> simp only [Hm.W4] <;> omega
  conv => arg 3; unfold Wd
  go_enter Try.func18, Try.ntmps18
  go_wp2_with fail
  generalize ((w.alloc (.cells #[.int .u64 (dg n 0), .int .u64 (dg n 1), .int .u64 (dg n 2), .int .u64 (dg n 3)] 24)).alloc (.cells #[.int .u64 (dg a 0), .int .u64 (dg a 1), .int .u64 (dg a 2), .int .u64 (dg a 3)] 24)).alloc (.cells #[.int .u64 0, .int .u64 0, .int .u64 0, .int .u64 0] 24) = W0 at m0 ⊢
  refine (KB.out _).mono ?_
  rintro e w1 ⟨v, rfl, ⟨g, off, cap, rfl, hcap, hg, hc⟩, hb⟩
  have m1 := Hm.below m0 hb
  clear hb m0 KB
  have c0 : ∀ (ob : Obj) o, o < 4 → (w1.alloc ob).cell? ⟨w.heap.size, o, none⟩ = some (.int .u64 (dg n o)) := fun ob => ((Hm.al m1 ob).ok (Hm.W4 w.heap.size n) (by simp)).c
  go_wp2_with fail
  have o1 : (w1.alloc (.cells #[] 4)).ownsRow w1.heap.size 4 1 (.slice (some ⟨w1.heap.size, 0, none⟩) 0 0) 0 [] := World.ownsRow_made w1 #[] 0 (Nat.le_refl _) (by unfold maxLen; omega) rfl
  have b1 : Below w1.heap.size w1 (w1.alloc (.cells #[] 4)) := (Below.refl _ _).alloc (Nat.le_refl _) _
  clear c0
  generalize w1.alloc (.cells #[] 4) = W1 at o1 b1 ⊢
  refine (K1.out _).mono ?_
  rintro e w2 ⟨rfl, hb⟩
  have o2 := own_below o1 hb
  have b2 := b1.trans (hb.mono b1.size)
  clear o1 b1 hb K1
  by_cases hcm : cap = m
  · have hm2 : Hid (m = 256) := (by omega : m = 256)
    go_wp2_with (at_builtin; refine wpList_append_own _ rfl _ _ 30 rfl w1.heap.size 4 i0 (.bool false) 1 1 Try.underlying30 hi hz0 hz1 hz2 rfl (by decide) _ 0 _ rfl o2 ⟨g, off, none⟩ (256 - m) 0 ((List.range (256 - m)).map fun i => .bool (a.testBit (m + i))) rfl (by simp) ?c1 ?c2 ?c3 ?c4 b2.size ?_)
    case c1 =>
      intro j u hj
      have hj2 : j < 256 - m := by
        have := (List.getElem?_eq_some_iff.1 hj).1
        simpa using this
      have := hm2.out
      exfalso; omega
    case c2 =>
      intro u hu
      simp at hu
      obtain ⟨j, _, rfl⟩ := hu
      rfl
    case c3 => unfold maxLen; omega
    case c4 => omega
    intro v' w3 hown' hgrow hnone
    have hv : ∃ g2 cap2, v' = .slice (some ⟨g2, 0, none⟩) (256 - m) cap2 ∧ w3.ownsRow w1.heap.size 4 1 v' (256 - m) ((List.range (256 - m)).map fun i => .bool (if i < 256 - m then a.testBit (m + i) else a.testBit 255)) := by
      have hv' : v' ≠ .slice none 0 0 := hnone
      have hown2 : w3.ownsRow w1.heap.size 4 1 v' (256 - m) ((List.range (256 - m)).map fun i => .bool (if i < 256 - m then a.testBit (m + i) else a.testBit 255)) := by
        rw [LST_first a m, List.nil_append]
        exact hown'
      rcases hown2.2 with ⟨h, _⟩ | ⟨g2, cap2, cur, h, _⟩
      · exact absurd h hv'
      · exact ⟨g2, cap2, h, hown2⟩
    have b3 : Below w1.heap.size w1 w3 := b2.grown hgrow b2.size (fun k hk => (o2.lt k hk).1)
    clear hown' hgrow hnone o2 b2
    obtain ⟨g2, cap2, rfl, o3⟩ := hv
    go_wp2_with fail
    go_loopw [6] (fun v wr => ∃ k g2 cap2, 256 - m ≤ k ∧ k ≤ 256 ∧ v = .slice (some ⟨g2, 0, none⟩) k cap2 ∧ wr.ownsRow w1.heap.size 4 1 v k ((List.range k).map fun i => .bool (if i < 256 - m then a.testBit (m + i) else a.testBit 255)) ∧ Below w1.heap.size w1 wr) (fun v _ => 256 - slen v)
    case atStart => exact ⟨256 - m, g2, cap2, Nat.le_refl _, by omega, rfl, o3, b3⟩
    case round =>
      clear o3 b3
      obtain ⟨k, g3, cap3, hk1, hk2, rfl, o3, b3⟩ := hrel
      have hcell : wr.cell? ⟨g, off + 255, none⟩ = some (.bool (a.testBit 255)) := by
        rw [b3.cell (p := ⟨g, off + 255, none⟩) hg]; exact hc 255 (by decide)
      by_cases hlt : k < 256
      · go_wp2_with (at_builtin; refine wpList_append_own _ rfl _ _ 30 rfl w1.heap.size 4 i0 (.bool false) 1 1 Try.underlying30 hi hz0 hz1 hz2 rfl (by decide) _ _ _ rfl (o3.alloc _) ⟨wr.heap.size, 0, none⟩ 1 1 [.bool (a.testBit 255)] rfl rfl ?c1 ?c2 ?c3 ?c4 ?c5 ?_)
        case c1 =>
          intro j u hj
          match j, hj with
          | 0, hj => simp at hj; subst hj; simp [Addr.add]
        case c2 => intro u hu; simp at hu; subst hu; rfl
        case c3 => unfold maxLen; omega
        case c4 => omega
        case c5 => have := b3.size; simp; omega
        intro v' w4 hown' hgrow _
        have b4 : Below w1.heap.size w1 w4 := (b3.alloc b3.size _).grown hgrow (by have := b3.size; simp; omega) (fun k hk => (o3.lt k hk).1)
        have hv : ∃ g4 cap4, v' = .slice (some ⟨g4, 0, none⟩) (k + 1) cap4 := by
          rcases hown'.2 with ⟨_, h⟩ | ⟨g4, cap4, cur, h, _⟩
          · cases h
          · exact ⟨g4, cap4, h⟩
        have R : Hid (w4.ownsRow w1.heap.size 4 1 v' (k + 1) ((List.range (k + 1)).map fun i => .bool (if i < 256 - m then a.testBit (m + i) else a.testBit 255))) := by
          have e := hown'
          rw [List.range_succ, List.map_append, List.map_cons, List.map_nil, if_neg (show ¬ k < 256 - m by omega)]
          exact e
        obtain ⟨g4, cap4, rfl⟩ := hv
        clear hown' hgrow o3 b3 hcell
        go_wp2
        go_roundw
        case rel => first | exact ⟨k + 1, g4, cap4, by omega, by omega, rfl, R.out, b4⟩ | ((repeat apply Exists.intro); exact ⟨⟨k + 1, g4, cap4, by omega, by omega, rfl, R.out, b4⟩, rfl⟩)
        case measure => simp [slen]; omega
      · have e : k = 256 := by omega
        subst e
        have m3 := Hm.below m1 b3
        clear hcell hc
        go_wp2_with fail
        refine (KO.out _ _ _ _ o3).mono ?_
        rintro e w5 ⟨rfl, hb⟩
        have m5 := Hm.below m3 hb
        clear hb m3 o3 b3 m1
        have c2 : ∀ o, o < 4 → w5.cell? ⟨w.heap.size + 1 + 1, o, none⟩ = some (.int .u64 (dg 0 o)) := (m5.ok _ (List.mem_cons_self ..)).c
        have f2 : ∀ o, w5.frozen? ⟨w.heap.size + 1 + 1, o, none⟩ = false := (m5.ok _ (List.mem_cons_self ..)).f
        have HV : Hid (Hm.Hd w [Hm.W4 (w.heap.size + 1 + 1) N, Hm.W4 (w.heap.size + 1) a, Hm.W4 w.heap.size n] _) := Hm.set4 m5 hne
        clear m5 hne
        unfold Wd
        go_wp2_with fail
        exact bodyPost_ret (v := Wd N) (resultTw _ _ _ (w.heap.size + 1 + 1) N 4 rfl rfl (HV.out.ok _ (List.mem_cons_self ..)).c) rfl ⟨rfl, HV.out.bel⟩
  · have hml : (m : Int) ≤ 256 := by omega
    go_wp2_with (at_builtin; refine wpList_append_own _ rfl _ _ 30 rfl w1.heap.size 4 i0 (.bool false) 1 1 Try.underlying30 hi hz0 hz1 hz2 rfl (by decide) _ 0 _ rfl o2 ⟨g, off + m, none⟩ (256 - m) (cap - m) ((List.range (256 - m)).map fun i => .bool (a.testBit (m + i))) rfl (by simp) ?c1 ?c2 ?c3 ?c4 b2.size ?_)
    case c1 =>
      intro j u hj
      have hj2 : j < 256 - m := by
        have := (List.getElem?_eq_some_iff.1 hj).1
        simpa using this
      have e : ((List.range (256 - m)).map fun i => Value.bool (a.testBit (m + i)))[j]? = some (.bool (a.testBit (m + j))) := by simp [hj2]
      rw [e] at hj
      cases hj
      have h2 : w2.cell? ⟨g, off + (m + j), none⟩ = some (.bool (a.testBit (m + j))) := (b2.cell (p := ⟨g, off + (m + j), none⟩) hg).trans (hc (m + j) (by omega))
      unfold Addr.add
      by_cases e : j = 0
      · subst e; simpa using h2
      · simpa [e, Nat.add_assoc] using h2
    case c2 =>
      intro u hu
      simp at hu
      obtain ⟨j, _, rfl⟩ := hu
      rfl
    case c3 => unfold maxLen; omega
    case c4 => omega
    intro v' w3 hown' hgrow hnone
    have hv : ∃ g2 cap2, v' = .slice (some ⟨g2, 0, none⟩) (256 - m) cap2 ∧ w3.ownsRow w1.heap.size 4 1 v' (256 - m) ((List.range (256 - m)).map fun i => .bool (if i < 256 - m then a.testBit (m + i) else a.testBit 255)) := by
      have hv' : v' ≠ .slice none 0 0 := hnone
      have hown2 : w3.ownsRow w1.heap.size 4 1 v' (256 - m) ((List.range (256 - m)).map fun i => .bool (if i < 256 - m then a.testBit (m + i) else a.testBit 255)) := by
        rw [LST_first a m, List.nil_append]
        exact hown'
      rcases hown2.2 with ⟨h, _⟩ | ⟨g2, cap2, cur, h, _⟩
      · exact absurd h hv'
      · exact ⟨g2, cap2, h, hown2⟩
    have b3 : Below w1.heap.size w1 w3 := b2.grown hgrow b2.size (fun k hk => (o2.lt k hk).1)
    clear hown' hgrow hnone o2 b2
    obtain ⟨g2, cap2, rfl, o3⟩ := hv
    go_wp2_with fail
    go_loopw [6] (fun v wr => ∃ k g2 cap2, 256 - m ≤ k ∧ k ≤ 256 ∧ v = .slice (some ⟨g2, 0, none⟩) k cap2 ∧ wr.ownsRow w1.heap.size 4 1 v k ((List.range k).map fun i => .bool (if i < 256 - m then a.testBit (m + i) else a.testBit 255)) ∧ Below w1.heap.size w1 wr) (fun v _ => 256 - slen v)
    case atStart => exact ⟨256 - m, g2, cap2, Nat.le_refl _, by omega, rfl, o3, b3⟩
    case round =>
      clear o3 b3
      obtain ⟨k, g3, cap3, hk1, hk2, rfl, o3, b3⟩ := hrel
      have hcell : wr.cell? ⟨g, off + 255, none⟩ = some (.bool (a.testBit 255)) := by
        rw [b3.cell (p := ⟨g, off + 255, none⟩) hg]; exact hc 255 (by decide)
      by_cases hlt : k < 256
      · go_wp2_with (at_builtin; refine wpList_append_own _ rfl _ _ 30 rfl w1.heap.size 4 i0 (.bool false) 1 1 Try.underlying30 hi hz0 hz1 hz2 rfl (by decide) _ _ _ rfl (o3.alloc _) ⟨wr.heap.size, 0, none⟩ 1 1 [.bool (a.testBit 255)] rfl rfl ?c1 ?c2 ?c3 ?c4 ?c5 ?_)
        case c1 =>
          intro j u hj
          match j, hj with
          | 0, hj => simp at hj; subst hj; simp [Addr.add]
        case c2 => intro u hu; simp at hu; subst hu; rfl
        case c3 => unfold maxLen; omega
        case c4 => omega
        case c5 => have := b3.size; simp; omega
        intro v' w4 hown' hgrow _
        have b4 : Below w1.heap.size w1 w4 := (b3.alloc b3.size _).grown hgrow (by have := b3.size; simp; omega) (fun k hk => (o3.lt k hk).1)
        have hv : ∃ g4 cap4, v' = .slice (some ⟨g4, 0, none⟩) (k + 1) cap4 := by
          rcases hown'.2 with ⟨_, h⟩ | ⟨g4, cap4, cur, h, _⟩
          · cases h
          · exact ⟨g4, cap4, h⟩
        have R : Hid (w4.ownsRow w1.heap.size 4 1 v' (k + 1) ((List.range (k + 1)).map fun i => .bool (if i < 256 - m then a.testBit (m + i) else a.testBit 255))) := by
          have e := hown'
          rw [List.range_succ, List.map_append, List.map_cons, List.map_nil, if_neg (show ¬ k < 256 - m by omega)]
          exact e
        obtain ⟨g4, cap4, rfl⟩ := hv
        clear hown' hgrow o3 b3 hcell
        go_wp2
        go_roundw
        case rel => first | exact ⟨k + 1, g4, cap4, by omega, by omega, rfl, R.out, b4⟩ | ((repeat apply Exists.intro); exact ⟨⟨k + 1, g4, cap4, by omega, by omega, rfl, R.out, b4⟩, rfl⟩)
        case measure => simp [slen]; omega
      · have e : k = 256 := by omega
        subst e
        have m3 := Hm.below m1 b3
        clear hcell hc
        go_wp2_with fail
        refine (KO.out _ _ _ _ o3).mono ?_
        rintro e w5 ⟨rfl, hb⟩
        have m5 := Hm.below m3 hb
        clear hb m3 o3 b3 m1
        have c2 : ∀ o, o < 4 → w5.cell? ⟨w.heap.size + 1 + 1, o, none⟩ = some (.int .u64 (dg 0 o)) := (m5.ok _ (List.mem_cons_self ..)).c
        have f2 : ∀ o, w5.frozen? ⟨w.heap.size + 1 + 1, o, none⟩ = false := (m5.ok _ (List.mem_cons_self ..)).f
        have HV : Hid (Hm.Hd w [Hm.W4 (w.heap.size + 1 + 1) N, Hm.W4 (w.heap.size + 1) a, Hm.W4 w.heap.size n] _) := Hm.set4 m5 hne
        clear m5 hne
        unfold Wd
        go_wp2_with fail
        exact bodyPost_ret (v := Wd N) (resultTw _ _ _ (w.heap.size + 1 + 1) N 4 rfl rfl (HV.out.ok _ (List.mem_cons_self ..)).c) rfl ⟨rfl, HV.out.bel⟩
end Go.Proofs.Ytejldahlbhkemaa
/- The same, where those of class 1 may look at others of class 1 that they are bound to. A region that draws its order: some values stand fast whatever the order (class 0), some hang on when they come (class 1: new blocks), and the rest come behind all these, one behind the other (class 2). -/
namespace Go.Proofs.Ytejldahlbhkemaa
namespace RH
open RI RS RN Go.RowKit
variable {P : Program} {ops : Array Oper} {Q : Exit → Act → World → Prop}
def cls (ks : List Nat) (j : Nat) : Nat := ks.getD j 2
def updU (U : Nat → Value) (i : Nat) (v : Value) : Nat → Value := fun j => if j = i then v else U j
/-- A step of class 0. -/
def DStep (P : Program) (ops : Array Oper) (I : (Nat → Bool) → (Nat → Value) → World → Prop) (i : Nat) (o : Oper) (v : Value) (U : Nat → Value) (a : Act) : Prop :=
  (Region.wanted o (yielded ops a.tmps) = true ∧ ∀ (K : Value → World → Prop) d w, I d U w → may ops d i → (∀ w', I (don d i) U w' → K v w') → upv P K ((execOp a.eval o).run P w)) ∨
  (Region.wanted o (yielded ops a.tmps) = false ∧ v = undef ∧ ∀ d w, I d U w → may ops d i → I (don d i) U w)
/-- A step of class 1. -/
def NStep (P : Program) (ops : Array Oper) (I : (Nat → Bool) → (Nat → Value) → World → Prop) (j : Nat) (o : Oper) (U : Nat → Value) (a : Act) : Prop :=
  ∀ (K : Value → World → Prop) d w, I d U w → may ops d j → (∀ v w', I (don d j) (updU U j v) w' → K v w') → upv P K ((execOp a.eval o).run P w)
/-- The walk in the text's order: class 0 by its value, class 1 by its fact. -/
def Walk (P : Program) (ops : Array Oper) (I : (Nat → Bool) → (Nat → Value) → World → Prop) (E : ((Nat → Value) → Act) → Prop) : Nat → List Oper → List Nat → ((Nat → Value) → Act) → Prop
  | j, o :: r, k :: ks, f =>
    if k = 0 then ∃ v, (∀ U, DStep P ops I j o v U (f U)) ∧ Walk P ops I E (j + 1) r ks (fun U => (f U).put o.dst v)
    else if k = 1 then o.guard = none ∧ (∀ U, NStep P ops I j o U (f U)) ∧ Walk P ops I E (j + 1) r ks (fun U => (f U).put o.dst (U j))
    else Walk P ops I E (j + 1) r ks f
  | _, _, _, f => E f
def tl : List Oper → List Nat → List Oper
  | o :: r, k :: ks => if k = 2 then o :: tl r ks else tl r ks
  | _, _ => []
/-- What each operation is bound to, through others too, as bits. -/
def mask1 (ms : List Nat) (o : Oper) : Nat := o.after.toList.foldl (fun m e => if Region.binds .any e then m ||| (1 <<< e.on) ||| ms.getD e.on 0 else m) 0
def masks (ops : Array Oper) : Nat → List Nat
  | 0 => []
  | k + 1 => masks ops k ++ [((ops[k]?).map (mask1 (masks ops k))).getD 0]
def pairC (ops : Array Oper) (ks : List Nat) (i j : Nat) : Bool :=
  match ops[i]?, ops[j]? with
  | some x, some y =>
    match y.dst with
    | none => true
    | some t =>
      if cls ks i = 2 then true
      else if cls ks j = 2 then true
      else (x.dst != some t || i == j) && (if cls ks j = 1 ∧ cls ks i = 0 then !(x.looksAt ops).contains t else (!(x.looksAt ops).contains t || (decide (j < i) && bindsOn x j) || (decide (i < j) && bindsOn y i)))
  | _, _ => true
def okC (ops : Array Oper) (ks : List Nat) : Bool :=
  RI.early ops && decide (ks.length = ops.size) && (List.range ops.size).all fun i =>
    (((ops[i]?).map fun o => !isSel o.op).getD true && decide (cls ks i ≤ 2)) && (List.range ops.size).all (fun j => pairC ops ks i j) &&
    (if cls ks i = 2 then (List.range ops.size).all fun j => (decide (cls ks j = 2) && decide (i ≤ j)) || ((masks ops ops.size).getD i 0).testBit j else true)
theorem masks_len (ops : Array Oper) : ∀ k, (masks ops k).length = k
  | 0 => rfl
  | k + 1 => by rw [masks, List.length_append, masks_len ops k]; rfl
theorem masks_get (ops : Array Oper) : ∀ n k, k < n → (masks ops n).getD k 0 = ((ops[k]?).map (mask1 (masks ops k))).getD 0
  | 0, k, h => absurd h (by omega)
  | n + 1, k, h => by
    rw [masks]
    by_cases e : k = n
    · subst e
      rw [List.getD_eq_getElem?_getD, List.getElem?_append_right (by rw [masks_len]; omega), masks_len]
      simp
    · rw [List.getD_eq_getElem?_getD, List.getElem?_append_left (by rw [masks_len]; omega), ← List.getD_eq_getElem?_getD]
      exact masks_get ops n k (by omega)
def Closed (ops : Array Oper) (d : Nat → Bool) : Prop := ∀ (j : Nat) (o : Oper), ops[j]? = some o → d j = true → ∀ e, e ∈ o.after → Region.binds .any e = true → d e.on = true
theorem mask1_bit (ms : List Nat) (o : Oper) (i : Nat) (h : (mask1 ms o).testBit i = true) : ∃ e, e ∈ o.after ∧ Region.binds .any e = true ∧ (e.on = i ∨ (ms.getD e.on 0).testBit i = true) := by
  unfold mask1 at h
  have key : ∀ (l : List Edge) (m : Nat), (l.foldl (fun m e => if Region.binds .any e then m ||| (1 <<< e.on) ||| ms.getD e.on 0 else m) m).testBit i = true → m.testBit i = true ∨ ∃ e, e ∈ l ∧ Region.binds .any e = true ∧ (e.on = i ∨ (ms.getD e.on 0).testBit i = true) := by
    intro l
    induction l with
    | nil => intro m h; exact .inl h
    | cons e r ih =>
      intro m h
      rw [List.foldl_cons] at h
      rcases ih _ h with h1 | ⟨e', h1, h2⟩
      · by_cases hb : Region.binds .any e = true
        · rw [if_pos hb, Nat.testBit_or, Nat.testBit_or, Bool.or_eq_true, Bool.or_eq_true] at h1
          rcases h1 with (h1 | h1) | h1
          · exact .inl h1
          · refine .inr ⟨e, List.mem_cons_self .., hb, .inl ?_⟩
            rw [Nat.one_shiftLeft, Nat.testBit_two_pow] at h1
            simpa using h1
          · exact .inr ⟨e, List.mem_cons_self .., hb, .inr h1⟩
        · rw [if_neg hb] at h1; exact .inl h1
      · exact .inr ⟨e', List.mem_cons_of_mem _ h1, h2⟩
  rcases key _ 0 h with h1 | ⟨e, h1, h2⟩
  · rw [Nat.zero_testBit] at h1; cases h1
  · exact ⟨e, by simpa using h1, h2⟩
theorem mask_done (he : RI.early ops = true) (d : Nat → Bool) (hcl : Closed ops d) : ∀ (n j : Nat), j < n → n ≤ ops.size → (∀ o, ops[j]? = some o → ∀ e, e ∈ o.after → Region.binds .any e = true → d e.on = true) → ∀ i, (((ops[j]?).map (mask1 (masks ops j))).getD 0).testBit i = true → d i = true
  | 0, j, h, _, _, _, _ => absurd h (by omega)
  | n + 1, j, hj, hn, hd, i, h => by
    have hjs : j < ops.size := by omega
    rw [Array.getElem?_eq_getElem hjs] at h
    simp only [Option.map_some, Option.getD_some] at h
    obtain ⟨e, h1, h2, h3⟩ := mask1_bit _ _ _ h
    have h4 := hd _ (Array.getElem?_eq_getElem hjs) e h1 h2
    rcases h3 with rfl | h3
    · exact h4
    · have hlt : e.on < j := by
        have h5 := List.all_eq_true.1 he j (List.mem_range.2 hjs)
        rw [Array.getElem?_eq_getElem hjs] at h5
        simp only [Option.map_some, Option.getD_some, Array.all_eq_true_iff_forall_mem] at h5
        have := h5 e h1
        rw [h2] at this
        simpa using this
      rw [masks_get ops j e.on hlt] at h3
      exact mask_done he d hcl n e.on (by omega) (by omega) (fun o ho => hcl e.on o ho h4) i h3
theorem fr_get2 (V : Nat → Value) (a : Act) (d c : Nat → Bool) (i t : Nat) : ∀ k, (∀ j, j < k → (ops[j]?).bind (·.dst) = some t → (j < i ∧ d j = true ∧ c j = true) ∨ (d j = false ∧ (c j = false ∨ i ≤ j))) → (fr ops V d a k).tmps[t]? = (fr ops V c a (min k i)).tmps[t]?
  | 0, _ => by simp [fr]
  | k + 1, h => by
    have ih := fr_get2 V a d c i t k (fun j hj => h j (by omega))
    have hk := h k (by omega)
    by_cases hi : k < i
    · rw [show min (k + 1) i = k + 1 by omega, fr, fr]
      rw [show min k i = k by omega] at ih
      by_cases e : (ops[k]?).bind (·.dst) = some t
      · rcases hk e with ⟨_, h2, h3⟩ | ⟨h1, h2 | h2⟩
        · rw [h2, h3]; simp only [if_true]; rw [put_get, put_get]; simp only [get_size ih, ih]
        · rw [h1, h2]; exact ih
        · omega
      · have q : ∀ (x : Act) (b : Bool), (if b then x.put ((ops[k]?).bind (·.dst)) (V k) else x).tmps[t]? = x.tmps[t]? := by
          intro x b; cases b
          · rfl
          · simp only [if_true]; rw [put_get, if_neg e]
        rw [q, q, ih]
    · rw [show min (k + 1) i = i by omega, fr]
      rw [show min k i = i by omega] at ih
      by_cases e : (ops[k]?).bind (·.dst) = some t
      · rcases hk e with ⟨h1, _⟩ | ⟨h2, _⟩
        · omega
        · rw [h2]; exact ih
      · cases d k
        · exact ih
        · simp only [if_true]; rw [put_get, if_neg e]; exact ih
theorem fr_put2 (V : Nat → Value) (a : Act) (d : Nat → Bool) (i : Nat) (hd : d i = false) : ∀ k, (∀ j, j < k → d j = true → ∀ t, (ops[i]?).bind (·.dst) = some t → (ops[j]?).bind (·.dst) ≠ some t) →
    fr ops V (don d i) a k = if i < k then (fr ops V d a k).put ((ops[i]?).bind (·.dst)) (V i) else fr ops V d a k
  | 0, _ => by simp [fr]
  | k + 1, h => by
    have ih := fr_put2 V a d i hd k (fun j hj => h j (by omega))
    rw [fr, fr]
    by_cases e : k = i
    · subst e
      rw [don_same, hd, ih, if_neg (show ¬ k < k by omega), if_pos (show k < k + 1 by omega)]
      simp
    · rw [don_other _ _ _ e, ih]
      by_cases h1 : i < k
      · rw [if_pos h1, if_pos (show i < k + 1 by omega)]
        cases hk : d k with
        | false => simp
        | true =>
          simp only [if_true]
          exact Act.put_comm _ _ _ (fun t ht => h k (by omega) hk t ht)
      · rw [if_neg h1, if_neg (show ¬ i < k + 1 by omega)]
def isDN (ks : List Nat) (j : Nat) : Bool := cls ks j == 0 || cls ks j == 1
/-- The value of each that is not of class 2. -/
def VU (ks : List Nat) (V U : Nat → Value) (j : Nat) : Value := if cls ks j = 1 then U j else V j
theorem walk_vals {I : (Nat → Bool) → (Nat → Value) → World → Prop} {E : ((Nat → Value) → Act) → Prop} (ks : List Nat) (a : Act) : ∀ (l : List Oper) (k : List Nat) (m : Nat) (V : Nat → Value), l.length = k.length → (∀ j o, l[j]? = some o → ops[m + j]? = some o) → (∀ j c, k[j]? = some c → cls ks (m + j) = c) → (∀ j, j < k.length → cls ks (m + j) ≤ 2) → Walk P ops I E m l k (fun U => fr ops (VU ks V U) (isDN ks) a m) →
    ∃ V', (∀ j, j < m → V' j = V j) ∧ (∀ j o U, l[j]? = some o → cls ks (m + j) = 0 → DStep P ops I (m + j) o (V' (m + j)) U (fr ops (VU ks V' U) (isDN ks) a (m + j))) ∧ (∀ j o U, l[j]? = some o → cls ks (m + j) = 1 → o.guard = none ∧ NStep P ops I (m + j) o U (fr ops (VU ks V' U) (isDN ks) a (m + j))) ∧ E (fun U => fr ops (VU ks V' U) (isDN ks) a (m + l.length))
  | [], k, m, V, _, _, _, _, h => ⟨V, fun _ _ => rfl, fun j o _ hj => by simp at hj, fun j o _ hj => by simp at hj, by cases k <;> simpa [Walk] using h⟩
  | o :: r, [], m, V, hl, _, _, _, h => absurd hl (by simp)
  | o :: r, c :: k, m, V, hlen, hl, hc, h3, h => by
    have hkm : ops[m]? = some o := by simpa using hl 0 o rfl
    have hcm : cls ks m = c := by simpa using hc 0 c rfl
    have frV : ∀ (V1 V2 U : Nat → Value) (n : Nat), (∀ j, j < n → V1 j = V2 j) → fr ops (VU ks V1 U) (isDN ks) a n = fr ops (VU ks V2 U) (isDN ks) a n := fun V1 V2 U n hv => fr_V a (isDN ks) _ _ n (fun j hj _ => by unfold VU; rw [hv j hj])
    have hl' : ∀ j o', r[j]? = some o' → ops[m + 1 + j]? = some o' := fun j o' hj => by have := hl (j + 1) o' (by simpa using hj); rwa [show m + (j + 1) = m + 1 + j by omega] at this
    have hc' : ∀ j c', k[j]? = some c' → cls ks (m + 1 + j) = c' := fun j c' hj => by have := hc (j + 1) c' (by simpa using hj); rwa [show m + (j + 1) = m + 1 + j by omega] at this
    have h3' : ∀ j, j < k.length → cls ks (m + 1 + j) ≤ 2 := fun j hj => by have := h3 (j + 1) (by simpa using hj); rwa [show m + (j + 1) = m + 1 + j by omega] at this
    unfold Walk at h
    by_cases h0 : c = 0
    · rw [if_pos h0] at h
      obtain ⟨v, h1, h2⟩ := h
      let W : Nat → Value := fun j => if j = m then v else V j
      have hW : (fun U => fr ops (VU ks W U) (isDN ks) a (m + 1)) = fun U => (fr ops (VU ks V U) (isDN ks) a m).put o.dst v := by
        funext U
        rw [fr, frV W V U m (fun j hj => by simp only [W]; rw [if_neg (by omega)])]
        simp [isDN, hcm, h0, hkm, W, VU]
      rw [← hW] at h2
      obtain ⟨V', e1, e2, e3, e4⟩ := walk_vals ks a r k (m + 1) W (by simpa using hlen) hl' hc' h3' h2
      have eV : ∀ U, fr ops (VU ks V' U) (isDN ks) a m = fr ops (VU ks V U) (isDN ks) a m := fun U => frV V' V U m (fun j hj => by rw [e1 j (by omega)]; simp only [W]; rw [if_neg (by omega)])
      refine ⟨V', fun j hj => ?_, fun j o' U hj hcj => ?_, fun j o' U hj hcj => ?_, ?_⟩
      · rw [e1 j (by omega)]; simp only [W]; rw [if_neg (by omega)]
      · cases j with
        | zero =>
          have : o' = o := by simpa using hj.symm
          subst this
          rw [Nat.add_zero, e1 m (by omega), eV]
          simpa [W] using h1 U
        | succ j => rw [show m + (j + 1) = m + 1 + j by omega] at hcj ⊢; exact e2 j o' U (by simpa using hj) hcj
      · cases j with
        | zero => rw [Nat.add_zero, hcm, h0] at hcj; exact absurd hcj (by decide)
        | succ j => rw [show m + (j + 1) = m + 1 + j by omega] at hcj ⊢; exact e3 j o' U (by simpa using hj) hcj
      · rw [show m + (o :: r).length = m + 1 + r.length by simp; omega]; exact e4
    · rw [if_neg h0] at h
      by_cases h1 : c = 1
      · rw [if_pos h1] at h
        obtain ⟨hg, hn, h2⟩ := h
        have hW : (fun U => fr ops (VU ks V U) (isDN ks) a (m + 1)) = fun U => (fr ops (VU ks V U) (isDN ks) a m).put o.dst (U m) := by
          funext U
          rw [fr]
          simp [isDN, hcm, h1, hkm, VU]
        rw [← hW] at h2
        obtain ⟨V', e1, e2, e3, e4⟩ := walk_vals ks a r k (m + 1) V (by simpa using hlen) hl' hc' h3' h2
        have eV : ∀ U, fr ops (VU ks V' U) (isDN ks) a m = fr ops (VU ks V U) (isDN ks) a m := fun U => frV V' V U m (fun j hj => e1 j (by omega))
        refine ⟨V', fun j hj => e1 j (by omega), fun j o' U hj hcj => ?_, fun j o' U hj hcj => ?_, ?_⟩
        · cases j with
          | zero => rw [Nat.add_zero, hcm] at hcj; exact absurd hcj h0
          | succ j => rw [show m + (j + 1) = m + 1 + j by omega] at hcj ⊢; exact e2 j o' U (by simpa using hj) hcj
        · cases j with
          | zero =>
            have : o' = o := by simpa using hj.symm
            subst this
            rw [Nat.add_zero, eV]
            exact ⟨hg, hn U⟩
          | succ j => rw [show m + (j + 1) = m + 1 + j by omega] at hcj ⊢; exact e3 j o' U (by simpa using hj) hcj
        · rw [show m + (o :: r).length = m + 1 + r.length by simp; omega]; exact e4
      · rw [if_neg h1] at h
        have hskip : (fun U => fr ops (VU ks V U) (isDN ks) a (m + 1)) = fun U => fr ops (VU ks V U) (isDN ks) a m := by
          funext U
          rw [fr]; simp [isDN, hcm, h0, h1]
        rw [← hskip] at h
        obtain ⟨V', e1, e2, e3, e4⟩ := walk_vals ks a r k (m + 1) V (by simpa using hlen) hl' hc' h3' h
        refine ⟨V', fun j hj => e1 j (by omega), fun j o' U hj hcj => ?_, fun j o' U hj hcj => ?_, ?_⟩
        · cases j with
          | zero => rw [Nat.add_zero, hcm] at hcj; exact absurd hcj h0
          | succ j => rw [show m + (j + 1) = m + 1 + j by omega] at hcj ⊢; exact e2 j o' U (by simpa using hj) hcj
        · cases j with
          | zero => rw [Nat.add_zero, hcm] at hcj; exact absurd hcj h1
          | succ j => rw [show m + (j + 1) = m + 1 + j by omega] at hcj ⊢; exact e3 j o' U (by simpa using hj) hcj
        · rw [show m + (o :: r).length = m + 1 + r.length by simp; omega]; exact e4
theorem tl_skip : ∀ (l : List Oper) (ks : List Nat) (m n : Nat), m ≤ n → (∀ j, m ≤ j → j < n → ks.getD j 2 ≠ 2) → n ≤ ks.length → l.length = ks.length → tl (l.drop m) (ks.drop m) = tl (l.drop n) (ks.drop n) := by
  intro l ks m n hmn h hn hl
  induction n with
  | zero => have : m = 0 := by omega
            subst this; rfl
  | succ n ih =>
    by_cases e : m = n + 1
    · subst e; rfl
    · rw [ih (by omega) (fun j h1 h2 => h j h1 (by omega)) (by omega)]
      have hk : n < ks.length := by omega
      have hl' : n < l.length := by omega
      rw [List.drop_eq_getElem_cons hl', List.drop_eq_getElem_cons hk, tl, if_neg]
      have := h n (by omega) (by omega)
      rwa [List.getD_eq_getElem?_getD, List.getElem?_eq_getElem hk] at this
theorem tl_here (l : List Oper) (ks : List Nat) (n : Nat) (hl : n < l.length) (hk : n < ks.length) (h : ks.getD n 2 = 2) : tl (l.drop n) (ks.drop n) = l[n] :: tl (l.drop (n + 1)) (ks.drop (n + 1)) := by
  rw [List.drop_eq_getElem_cons hl, List.drop_eq_getElem_cons hk, tl, if_pos]
  rwa [List.getD_eq_getElem?_getD, List.getElem?_eq_getElem hk] at h
theorem wp_region_genI {id : Nat} {a : Act} {w : World} (I : (Nat → Bool) → (Nat → Value) → World → Prop) (ks : List Nat)
    (hm : P.follows .mixedOrders = true) (hok : okC ops ks = true) (h0 : I (fun _ => false) (fun _ => undef) w.drew)
    (hs : Walk P ops I (fun f => ∀ d (U : Nat → Value) w', I d U w' → (∀ j, j < ops.size → d j = decide (cls ks j ≠ 2)) → wpList P ops Q (tl ops.toList ks) (f U) w') 0 ops.toList ks (fun _ => a)) : (Code.region id ops true).wp P Q a w := by
  have hok' := hok
  unfold okC at hok'
  rw [Bool.and_eq_true, Bool.and_eq_true] at hok'
  obtain ⟨⟨he, hlen0⟩, hp⟩ := hok'
  have hlen : ks.length = ops.size := by simpa using hlen0
  have hcget : ∀ j c, ks[j]? = some c → cls ks j = c := fun j c h => by unfold cls; rw [List.getD_eq_getElem?_getD, h]; rfl
  have hgetc : ∀ j c, j < ops.size → cls ks j = c → ks[j]? = some c := fun j c hj h => by
    unfold cls at h
    rw [List.getD_eq_getElem?_getD, List.getElem?_eq_getElem (by omega)] at h
    rw [List.getElem?_eq_getElem (by omega)]
    simpa using h
  have hrow : ∀ i, i < ops.size → ((ops[i]?).map fun o => !isSel o.op).getD true = true ∧ (∀ j, j < ops.size → pairC ops ks i j = true) ∧ (cls ks i = 2 → ∀ j, j < ops.size → (cls ks j = 2 ∧ i ≤ j) ∨ ((masks ops ops.size).getD i 0).testBit j = true) := by
    intro i hi
    have h1 := List.all_eq_true.1 hp i (List.mem_range.2 hi)
    rw [Bool.and_eq_true, Bool.and_eq_true, Bool.and_eq_true] at h1
    refine ⟨h1.1.1.1, fun j hj => List.all_eq_true.1 h1.1.2 j (List.mem_range.2 hj), fun hc j hj => ?_⟩
    have h2 := h1.2
    rw [if_pos hc] at h2
    have h3 := List.all_eq_true.1 h2 j (List.mem_range.2 hj)
    rw [Bool.or_eq_true, Bool.and_eq_true, decide_eq_true_eq, decide_eq_true_eq] at h3
    exact h3
  have hthree : ∀ i, i < ops.size → cls ks i ≤ 2 := by
    intro i hi
    have h1 := List.all_eq_true.1 hp i (List.mem_range.2 hi)
    rw [Bool.and_eq_true, Bool.and_eq_true, Bool.and_eq_true] at h1
    simpa using h1.1.1.2
  obtain ⟨V, _, hstD, hstN, hE⟩ := walk_vals (P := P) (ops := ops) ks a ops.toList ks 0 (fun _ => undef) (by simp [hlen]) (fun j o hj => by simpa using hj) (fun j c hj => by rw [Nat.zero_add]; exact hcget j c hj) (fun j hj => by rw [Nat.zero_add]; exact hthree j (by omega)) hs
  simp only [Nat.zero_add] at hstD hstN hE
  rw [show ops.toList.length = ops.size by simp] at hE
  have pair : ∀ (i j : Nat) (x y : Oper) (t : Nat), ops[i]? = some x → ops[j]? = some y → cls ks i ≠ 2 → cls ks j ≠ 2 → y.dst = some t → (x.dst = some t → i = j) ∧ (t ∈ x.looksAt ops → (j < i ∧ bindsOn x j = true) ∨ (i < j ∧ bindsOn y i = true)) := by
    intro i j x y t hx hy hci hcj ht
    have hi : i < ops.size := (Array.getElem?_eq_some_iff.1 hx).1
    have hj : j < ops.size := (Array.getElem?_eq_some_iff.1 hy).1
    have h2 := (hrow i hi).2.1 j hj
    unfold pairC at h2
    simp only [hx, hy, ht, if_neg hci, if_neg hcj] at h2
    rw [Bool.and_eq_true] at h2
    refine ⟨fun e => ?_, fun hm => ?_⟩
    · have := h2.1
      rw [e] at this
      simpa using this
    · have h3 := h2.2
      by_cases hc1 : cls ks j = 1 ∧ cls ks i = 0
      · rw [if_pos hc1] at h3
        simp at h3
        exact absurd hm h3
      · rw [if_neg hc1] at h3
        simp at h3
        rcases h3 with (h | h) | h
        · exact absurd hm h
        · exact .inl h
        · exact .inr h
  have nosel : ∀ (i : Nat) (x : Oper) cs b, ops[i]? = some x → x.op ≠ .select cs b := by
    intro i x cs b hx hc
    have hi : i < ops.size := (Array.getElem?_eq_some_iff.1 hx).1
    have h1 := (hrow i hi).1
    rw [hx] at h1
    simp [hc, isSel] at h1
  have deps : ∀ (d : Nat → Bool) (i : Nat) (o : Oper), may ops d i → ops[i]? = some o → ∀ e, e ∈ o.after → Region.binds .any e = true → d e.on = true := by
    intro d i o hmay ho e h1 h2
    have := hmay.2 o ho
    rw [Array.all_eq_true_iff_forall_mem] at this
    have := this e h1
    rw [h2] at this
    simpa using this
  have tailb : ∀ (d : Nat → Bool) (i : Nat), Closed ops d → cls ks i = 2 → i < ops.size → may ops d i → ∀ j, j < ops.size → (cls ks j ≠ 2 ∨ j < i) → d j = true := by
    intro d i hcl hc hi hmay j hj hor
    rcases (hrow i hi).2.2 hc j hj with ⟨h1, h2⟩ | h
    · rcases hor with h3 | h3
      · exact absurd h1 h3
      · omega
    · rw [masks_get ops ops.size i hi] at h
      exact mask_done he d hcl ops.size i hi (Nat.le_refl _) (fun o ho => deps d i o hmay ho) j h
  let J1 : (Nat → Bool) → Act → World → Prop := fun d x wx => ∃ U : Nat → Value, x = fr ops (VU ks V U) d a ops.size ∧ I d U wx ∧ Closed ops d ∧ (∀ j, cls ks j = 2 → d j = false) ∧ ∃ j, j < ops.size ∧ cls ks j ≠ 2 ∧ d j = false
  let J2 : (Nat → Bool) → Act → World → Prop := fun d x wx => ∃ m, m ≤ ops.size ∧ Closed ops d ∧ (∀ j, j < ops.size → d j = (decide (cls ks j ≠ 2) || decide (j < m))) ∧ wpList P ops Q (tl (ops.toList.drop m) (ks.drop m)) x wx
  have enter : ∀ d x wx (U : Nat → Value), x = fr ops (VU ks V U) d a ops.size → I d U wx → Closed ops d → (∀ j, cls ks j = 2 → d j = false) → (∀ j, j < ops.size → cls ks j ≠ 2 → d j = true) → J2 d x wx := by
    intro d x wx U hx hIw hcl hf htr
    have hdd : ∀ j, j < ops.size → d j = decide (cls ks j ≠ 2) := fun j hj => by
      by_cases hc : cls ks j = 2
      · rw [hf j hc, hc]; simp
      · rw [htr j hj hc]; simp [hc]
    refine ⟨0, Nat.zero_le _, hcl, fun j hj => ?_, ?_⟩
    · by_cases hc : cls ks j = 2
      · rw [hf j hc, hc]; simp
      · rw [htr j hj hc]; simp [hc]
    · have h1 := hE d U wx hIw hdd
      rw [List.drop_zero, List.drop_zero, hx, fr_congr (VU ks V U) a d (isDN ks) ops.size (fun j hj => ?_)]
      · exact h1
      · by_cases hc : cls ks j = 2
        · rw [hf j hc]; simp [isDN, hc]
        · rw [htr j hj hc]
          unfold isDN
          have h3c := hthree j hj
          by_cases h0c : cls ks j = 0
          · simp [h0c]
          · by_cases h1c : cls ks j = 1
            · simp [h1c]
            · omega
  refine wp_region_inv (fun d x wx => J1 d x wx ∨ J2 d x wx) hm he ?_ ?_ ?_
  · have hz : ∀ V', fr ops V' (fun _ => false) a ops.size = a := by
      intro V'
      have : ∀ k, fr ops V' (fun _ => false) a k = a := by
        intro k
        induction k with
        | zero => rfl
        | succ k ih => rw [fr, ih]; simp
      exact this _
    have hcl0 : Closed ops (fun _ => false) := fun _ _ _ h => by cases h
    by_cases hall : ∀ j, j < ops.size → cls ks j = 2
    · exact .inr (enter _ _ _ (fun _ => undef) (hz _).symm h0 hcl0 (fun _ _ => rfl) (fun j hj h => absurd (hall j hj) h))
    · rw [Classical.not_forall] at hall
      obtain ⟨j, hj⟩ := hall
      rw [Classical.not_imp] at hj
      exact .inl ⟨fun _ => undef, (hz _).symm, h0, hcl0, (fun _ _ => rfl), j, hj.1, hj.2, rfl⟩
  · rintro d x wx i (⟨U, rfl, hI, hcl, hfz, j0, hj0, hcj0, hdj0⟩ | ⟨m, hm', hcl, hd, hw⟩) hi hmay
    · have hci : cls ks i ≠ 2 := by
        intro h
        have := tailb d i hcl h hi hmay j0 hj0 (.inl hcj0)
        rw [hdj0] at this; cases this
      obtain ⟨o, ho⟩ : ∃ o, ops[i]? = some o := ⟨ops[i], Array.getElem?_eq_getElem hi⟩
      have hdeps := deps d i o hmay ho
      have hput : ∀ (V' : Nat → Value) v, v = V' i → (fr ops V' d a ops.size).put o.dst v = fr ops V' (don d i) a ops.size := by
        rintro V' v rfl
        rw [fr_put2 V' a d i hmay.1 ops.size (fun j hj hdj t ht => fun hjt => ?_), if_pos hi, ho]
        · rfl
        · obtain ⟨y, hy⟩ : ∃ y, ops[j]? = some y := ⟨ops[j], Array.getElem?_eq_getElem hj⟩
          rw [hy] at hjt
          rw [ho] at ht
          have hcj : cls ks j ≠ 2 := by intro h; rw [hfz j h] at hdj; cases hdj
          have := (pair i j o y t ho hy hci hcj hjt).1 ht
          subst this
          rw [hmay.1] at hdj; cases hdj
      have hclo : Closed ops (don d i) := by
        intro j o' hj hdj e e1 e2
        have : d e.on = true := by
          by_cases hji : j = i
          · subst hji
            rw [ho] at hj
            cases hj
            exact hdeps e e1 e2
          · rw [don_other _ _ _ hji] at hdj
            exact hcl j o' hj hdj e e1 e2
        unfold don; split
        · rfl
        · exact this
      have hnext : ∀ (U' : Nat → Value) x w', x = fr ops (VU ks V U') (don d i) a ops.size → I (don d i) U' w' → J1 (don d i) x w' ∨ J2 (don d i) x w' := by
        intro U' x w' hx hI'
        have hf' : ∀ j, cls ks j = 2 → don d i j = false := fun j hj => by
          have hji : j ≠ i := by intro e; subst e; exact hci hj
          rw [don_other _ _ _ hji]; exact hfz j hj
        by_cases hall : ∀ j, j < ops.size → cls ks j ≠ 2 → don d i j = true
        · exact .inr (enter _ _ _ U' hx hI' hclo hf' hall)
        · refine .inl ⟨U', hx, hI', hclo, hf', ?_⟩
          rw [Classical.not_forall] at hall
          obtain ⟨j, hj⟩ := hall
          rw [Classical.not_imp, Classical.not_imp] at hj
          exact ⟨j, hj.1, hj.2.1, by simpa using hj.2.2⟩
      have hsame : ∀ t, t ∈ o.looksAt ops → (fr ops (VU ks V U) d a ops.size).tmps[t]? = (fr ops (VU ks V U) (isDN ks) a i).tmps[t]? := by
        intro t ht
        have := fr_get2 (ops := ops) (VU ks V U) a d (isDN ks) i t ops.size (fun j hj hjt => by
          obtain ⟨y, hy⟩ : ∃ y, ops[j]? = some y := ⟨ops[j], Array.getElem?_eq_getElem hj⟩
          rw [hy] at hjt
          by_cases hc2 : cls ks j = 2
          · exact .inr ⟨hfz j hc2, .inl (by simp [isDN, hc2])⟩
          · have hdn : isDN ks j = true := by
              have := hthree j hj
              unfold isDN
              by_cases h0c : cls ks j = 0
              · simp [h0c]
              · have : cls ks j = 1 := by omega
                simp [this]
            rcases (pair i j o y t ho hy hci hc2 hjt).2 ht with ⟨h1, h2⟩ | ⟨h1, h2⟩
            · obtain ⟨e, e1, e2, e3⟩ := bindsOn_spec h2
              exact .inl ⟨h1, e3 ▸ hdeps e e1 e2, hdn⟩
            · refine .inr ⟨?_, .inr (by omega)⟩
              cases hdj : d j with
              | false => rfl
              | true =>
                obtain ⟨e, e1, e2, e3⟩ := bindsOn_spec h2
                have := hcl j y hy hdj e e1 e2
                rw [e3, hmay.1] at this; cases this)
        rw [this, show min ops.size i = i by omega]
      have hex : execOp (fr ops (VU ks V U) d a ops.size).eval o = execOp (fr ops (VU ks V U) (isDN ks) a i).eval o := by
        refine execOp_congr o (fun cs b => nosel i o cs b ho) (fun x hx => ?_)
        cases x with
        | tmp t => exact eval_get (hsame t (mem_looks hx))
        | _ => rfl
      have hwa := wanted_get hsame
      by_cases hc0 : cls ks i = 0
      · have hVi : V i = VU ks V U i := by unfold VU; rw [if_neg (by omega)]
        unfold wpOp
        rw [ho]
        simp only
        rcases hstD i o U (by simpa using ho) hc0 with ⟨h1, h2⟩ | ⟨h1, h2, h3⟩
        · rw [hwa, h1, if_pos rfl]
          refine .inl ?_
          unfold Oper.wp
          rw [hex]
          exact upv_upon (h2 _ d wx hI hmay (fun w' hI' => hnext U _ _ (hput _ _ hVi) hI'))
        · rw [hwa, h1]
          simp only [Bool.false_eq_true, if_false]
          exact hnext U _ _ (hput _ _ (h2.symm.trans hVi)) (h3 d wx hI hmay)
      · have hc1 : cls ks i = 1 := by have := hthree i hi; omega
        obtain ⟨hg, hrun⟩ := hstN i o U (by simpa using ho) hc1
        unfold wpOp
        rw [ho]
        simp only
        rw [if_pos (show Region.wanted o (yielded ops (fr ops (VU ks V U) d a ops.size).tmps) = true by simp [Region.wanted, hg])]
        refine .inl ?_
        unfold Oper.wp
        rw [hex]
        refine upv_upon (hrun _ d wx hI hmay (fun v w' hI' => ?_))
        have hU : ∀ j, j ≠ i → updU U i v j = U j := fun j hj => by unfold updU; rw [if_neg hj]
        have hUi : updU U i v i = v := by simp [updU]
        have hfr : fr ops (VU ks V U) d a ops.size = fr ops (VU ks V (updU U i v)) d a ops.size := fr_V a d _ _ _ (fun j _ hdj => by
          have hji : j ≠ i := by intro e; subst e; rw [hmay.1] at hdj; cases hdj
          unfold VU; rw [hU j hji])
        have hval : v = VU ks V (updU U i v) i := by unfold VU; rw [if_pos hc1, hUi]
        exact hnext (updU U i v) _ _ (by rw [hfr]; exact hput _ _ hval) hI'
    · have hci : cls ks i = 2 := by
        have h1 := hd i hi
        rw [hmay.1] at h1
        by_cases hc : cls ks i = 2
        · exact hc
        · simp [hc] at h1
      have him : ¬ i < m := by
        intro h
        have h1 := hd i hi
        rw [hmay.1, decide_eq_true h] at h1
        simp at h1
      have hbefore := tailb d i hcl hci hi hmay
      have hnone : ∀ j, m ≤ j → j < i → ks.getD j 2 ≠ 2 := by
        intro j h1 h2 h3
        have h4 := hbefore j (by omega) (.inr h2)
        rw [hd j (by omega)] at h4
        have : cls ks j = 2 := h3
        rw [this, decide_eq_false (show ¬ j < m by omega)] at h4
        simp at h4
      have hlo : ops.toList.length = ks.length := by simp [hlen]
      rw [tl_skip ops.toList ks m i (by omega) hnone (by omega) hlo, tl_here ops.toList ks i (by simpa using hi) (by omega) hci] at hw
      have hcloD : Closed ops (don d i) := by
        obtain ⟨o, ho⟩ : ∃ o, ops[i]? = some o := ⟨ops[i], Array.getElem?_eq_getElem hi⟩
        intro j o' hj hdj e e1 e2
        have : d e.on = true := by
          by_cases hji : j = i
          · subst hji; exact deps d j o' hmay hj e e1 e2
          · rw [don_other _ _ _ hji] at hdj
            exact hcl j o' hj hdj e e1 e2
        unfold don; split
        · rfl
        · exact this
      have key : ∀ x' w', wpList P ops Q (tl (ops.toList.drop (i + 1)) (ks.drop (i + 1))) x' w' → J1 (don d i) x' w' ∨ J2 (don d i) x' w' := fun x' w' h => .inr ⟨i + 1, by omega, hcloD, fun j hj => by
        by_cases hji : j = i
        · subst hji; rw [don_same]; simp
        · rw [don_other _ _ _ hji, hd j hj]
          by_cases hc : cls ks j = 2
          · have e : decide (j < m) = decide (j < i + 1) := by
              rw [decide_eq_decide]
              constructor
              · intro _; omega
              · intro h1
                rcases Nat.lt_or_ge j m with h2 | h2
                · exact h2
                · exact absurd hc (hnone j h2 (by omega))
            rw [e]
          · simp [hc], h⟩
      refine wpOp_mono key ?_
      unfold wpOp
      rw [Array.getElem?_eq_getElem hi]
      rw [show ops.toList[i] = ops[i] by simp] at hw
      exact hw
  · rintro d x wx (⟨_, _, _, _, _, j, hj, _, hdj⟩ | ⟨m, hm', hcl, hd, hw⟩) hall
    · have := hall j hj
      rw [hdj] at this; cases this
    · have hlo : ops.toList.length = ks.length := by simp [hlen]
      rw [tl_skip ops.toList ks m ops.size hm' (fun j h1 h2 h3 => by
        have h4 := hall j h2
        rw [hd j h2] at h4
        have : cls ks j = 2 := h3
        rw [this, decide_eq_false (show ¬ j < m by omega)] at h4
        simp at h4) (by omega) hlo, List.drop_eq_nil_of_le (by simp)] at hw
      unfold tl at hw
      exact hw
section
variable {I : (Nat → Bool) → (Nat → Value) → World → Prop} {E : ((Nat → Value) → Act) → Prop} {j : Nat} {o : Oper} {r : List Oper} {k : List Nat} {f f' : (Nat → Value) → Act} {v : Value}
theorem goD (hg : o.guard = none) (h : ∀ U (K : Value → World → Prop) d w, I d U w → may ops d j → (∀ w', I (don d j) U w' → K v w') → upv P K ((execOp (f U).eval o).run P w)) (he : ∀ U, (f U).put o.dst v = f' U)
    (hr : Walk P ops I E (j + 1) r k f') : Walk P ops I E j (o :: r) (0 :: k) f := by
  unfold Walk
  rw [if_pos rfl]
  have e : (fun U => (f U).put o.dst v) = f' := funext he
  exact ⟨v, fun U => .inl ⟨by simp [Region.wanted, hg], h U⟩, e ▸ hr⟩
theorem goDg (hg : ∀ U, Region.wanted o (yielded ops (f U).tmps) = true) (h : ∀ U (K : Value → World → Prop) d w, I d U w → may ops d j → (∀ w', I (don d j) U w' → K v w') → upv P K ((execOp (f U).eval o).run P w)) (he : ∀ U, (f U).put o.dst v = f' U)
    (hr : Walk P ops I E (j + 1) r k f') : Walk P ops I E j (o :: r) (0 :: k) f := by
  unfold Walk
  rw [if_pos rfl]
  have e : (fun U => (f U).put o.dst v) = f' := funext he
  exact ⟨v, fun U => .inl ⟨hg U, h U⟩, e ▸ hr⟩
theorem goD0 (hg : ∀ U, Region.wanted o (yielded ops (f U).tmps) = false) (h : ∀ U d w, I d U w → may ops d j → I (don d j) U w) (he : ∀ U, (f U).put o.dst undef = f' U)
    (hr : Walk P ops I E (j + 1) r k f') : Walk P ops I E j (o :: r) (0 :: k) f := by
  unfold Walk
  rw [if_pos rfl]
  have e : (fun U => (f U).put o.dst undef) = f' := funext he
  exact ⟨undef, fun U => .inr ⟨hg U, rfl, h U⟩, e ▸ hr⟩
theorem goN (hg : o.guard = none) (h : ∀ U (K : Value → World → Prop) d w, I d U w → may ops d j → (∀ v w', I (don d j) (updU U j v) w' → K v w') → upv P K ((execOp (f U).eval o).run P w)) (he : ∀ U, (f U).put o.dst (U j) = f' U)
    (hr : Walk P ops I E (j + 1) r k f') : Walk P ops I E j (o :: r) (1 :: k) f := by
  unfold Walk
  rw [if_neg (by decide), if_pos rfl]
  have e : (fun U => (f U).put o.dst (U j)) = f' := funext he
  exact ⟨hg, h, e ▸ hr⟩
theorem goT (hr : Walk P ops I E (j + 1) r k f) : Walk P ops I E j (o :: r) (2 :: k) f := by
  unfold Walk
  rw [if_neg (by decide), if_neg (by decide)]
  exact hr
theorem go_end (h : E f) : Walk P ops I E j [] [] f := by
  unfold Walk; exact h
end
end RH
end Go.Proofs.Ytejldahlbhkemaa
/- Four rows of bits that grow side by side, within a region that draws its order. -/
namespace Go.Proofs.Ytejldahlbhkemaa
theorem upv_append {P : Program} {K : Value → World → Prop} {a : Act} {o : Oper} {s x : Operand} {t : TypeId} {v v2 v' : Value} {w w' : World} (ho : o.op = .call { callee := .builtin .append, args := #[s, x], argTypes := #[t, t] }) (hs : a.eval s = v) (hx : a.eval x = v2)
    (hr : (Builtin.append_ #[t, t] o.type #[v, v2]).run P w = .ok v' w') (hK : K v' w') : RS.upv P K ((execOp a.eval o).run P w) := by
  unfold execOp
  simp only [ho, resolve, invoke, builtin, Sem.run_bind, Sem.run_pure, Result.andThen_ok, List.map_toArray, List.map_cons, List.map_nil, hs, hx, hr]
  exact hK
namespace TB
open Go.RowKit RI RH
/-- Which operation appends to row r, and which makes what is appended. -/
def A (r : Nat) : Nat := [12, 25, 37, 45].getD r 0
def Bq (r : Nat) : Nat := [11, 24, 36, 44].getD r 0
def cur (v : Nat → Value) (d : Nat → Bool) (U : Nat → Value) (r : Nat) : Value := if d (A r) = true then U (A r) else v r
def kc (k : Nat) (d : Nat → Bool) (r : Nat) : Nat := if d (A r) = true then k + 1 else k
/-- What holds while the four rows grow from k bits to k + 1; row r grows by bit b r. -/
structure Inv (B : Nat) (w0 : World) (k : Nat) (L : Nat → List Value) (b : Nat → Bool) (v : Nat → Value) (d : Nat → Bool) (U : Nat → Value) (w : World) : Prop where
  bel : Below B w0 w
  hB : B ≤ w.heap.size
  own : ∀ r, r < 4 → w.ownsRow B 4 1 (cur v d U r) (kc k d r) (if d (A r) = true then L r ++ [.bool (b r)] else L r)
  dis : ∀ r s, r < 4 → s < 4 → r ≠ s → ∀ g, (cur v d U r).ownBlock = some g → (cur v d U s).ownBlock ≠ some g
  new : ∀ r, r < 4 → d (Bq r) = true → d (A r) = false → ∃ h, U (Bq r) = .slice (some ⟨h, 0, none⟩) 1 1 ∧ w.cell? ⟨h, 0, none⟩ = some (.bool (b r)) ∧ h < w.heap.size ∧ ∀ s, s < 4 → (cur v d U s).ownBlock ≠ some h
variable {B : Nat} {w0 : World} {k : Nat} {L : Nat → List Value} {b : Nat → Bool} {v : Nat → Value} {d : Nat → Bool} {U : Nat → Value} {w : World}
theorem keep {i : Nat} (hi : ∀ r, r < 4 → i ≠ A r ∧ i ≠ Bq r) (h : Inv B w0 k L b v d U w) : Inv B w0 k L b v (don d i) U w := by
  have e1 : ∀ r, r < 4 → don d i (A r) = d (A r) := fun r hr => don_other _ _ _ (fun e => (hi r hr).1 e.symm)
  have e2 : ∀ r, r < 4 → don d i (Bq r) = d (Bq r) := fun r hr => don_other _ _ _ (fun e => (hi r hr).2 e.symm)
  have ec : ∀ r, r < 4 → cur v (don d i) U r = cur v d U r := fun r hr => by unfold cur; rw [e1 r hr]
  have ek : ∀ r, r < 4 → kc k (don d i) r = kc k d r := fun r hr => by unfold kc; rw [e1 r hr]
  refine ⟨h.bel, h.hB, fun r hr => ?_, fun r s hr hs hne g => ?_, fun r hr h1 h2 => ?_⟩
  · rw [ec r hr, ek r hr, e1 r hr]; exact h.own r hr
  · rw [ec r hr, ec s hs]; exact h.dis r s hr hs hne g
  · rw [e2 r hr] at h1
    rw [e1 r hr] at h2
    obtain ⟨g, a1, a2, a3, a4⟩ := h.new r hr h1 h2
    exact ⟨g, a1, a2, a3, fun s hs => by rw [ec s hs]; exact a4 s hs⟩
theorem Binj {r s : Nat} (hr : r < 4) (hs : s < 4) (h : Bq r = Bq s) : r = s := by
  have c1 : r = 0 ∨ r = 1 ∨ r = 2 ∨ r = 3 := by omega
  have c2 : s = 0 ∨ s = 1 ∨ s = 2 ∨ s = 3 := by omega
  rcases c1 with rfl | rfl | rfl | rfl <;> rcases c2 with rfl | rfl | rfl | rfl <;> revert h <;> decide
theorem Ainj {r s : Nat} (hr : r < 4) (hs : s < 4) (h : A r = A s) : r = s := by
  have c1 : r = 0 ∨ r = 1 ∨ r = 2 ∨ r = 3 := by omega
  have c2 : s = 0 ∨ s = 1 ∨ s = 2 ∨ s = 3 := by omega
  rcases c1 with rfl | rfl | rfl | rfl <;> rcases c2 with rfl | rfl | rfl | rfl <;> revert h <;> decide
theorem AB {r s : Nat} (hr : r < 4) (hs : s < 4) : A r ≠ Bq s := by
  have c1 : r = 0 ∨ r = 1 ∨ r = 2 ∨ r = 3 := by omega
  have c2 : s = 0 ∨ s = 1 ∨ s = 2 ∨ s = 3 := by omega
  rcases c1 with rfl | rfl | rfl | rfl <;> rcases c2 with rfl | rfl | rfl | rfl <;> decide
theorem updU_o (U : Nat → Value) {i j : Nat} (x : Value) (h : j ≠ i) : updU U i x j = U j := by unfold updU; rw [if_neg h]
theorem updU_s (U : Nat → Value) (i : Nat) (x : Value) : updU U i x i = x := by simp [updU]
/-- A new bit is laid. -/
theorem build {r : Nat} (hr : r < 4) (h : Inv B w0 k L b v d U w) : Inv B w0 k L b v (don d (Bq r)) (updU U (Bq r) (.slice (some ⟨w.heap.size, 0, none⟩) 1 1)) (w.alloc (.cells #[.bool (b r)] 4)) := by
  have e1 : ∀ s, s < 4 → don d (Bq r) (A s) = d (A s) := fun s hs => don_other _ _ _ (AB hs hr)
  have eU : ∀ s, s < 4 → updU U (Bq r) (.slice (some ⟨w.heap.size, 0, none⟩) 1 1) (A s) = U (A s) := fun s hs => updU_o _ _ (AB hs hr)
  have ec : ∀ s, s < 4 → cur v (don d (Bq r)) (updU U (Bq r) (.slice (some ⟨w.heap.size, 0, none⟩) 1 1)) s = cur v d U s := fun s hs => by unfold cur; rw [e1 s hs, eU s hs]
  have ek : ∀ s, s < 4 → kc k (don d (Bq r)) s = kc k d s := fun s hs => by unfold kc; rw [e1 s hs]
  refine ⟨h.bel.alloc h.hB _, by simp; have := h.hB; omega, fun s hs => ?_, fun s t hs ht hne g => ?_, fun s hs h1 h2 => ?_⟩
  · rw [ec s hs, ek s hs, e1 s hs]; exact (h.own s hs).alloc _
  · rw [ec s hs, ec t ht]; exact h.dis s t hs ht hne g
  · rw [e1 s hs] at h2
    by_cases e : s = r
    · subst e
      refine ⟨w.heap.size, updU_s _ _ _, by simp, by simp, fun t ht => ?_⟩
      rw [ec t ht]
      intro hg
      have := ((h.own t ht).lt _ hg).2
      omega
    · have hne : Bq s ≠ Bq r := fun hh => e (Binj hs hr hh)
      rw [don_other _ _ _ hne] at h1
      obtain ⟨g, a1, a2, a3, a4⟩ := h.new s hs h1 h2
      refine ⟨g, by rw [updU_o _ _ hne]; exact a1, ?_, by simp; omega, fun t ht => by rw [ec t ht]; exact a4 t ht⟩
      rw [World.cell?_alloc_past _ _ _ a3]; exact a2
/-- A bit is appended. -/
theorem app {r : Nat} (hr : r < 4) {g cap : Nat} {w' : World} (h : Inv B w0 k L b v d U w) (hd : d (A r) = false)
    (ho : w'.ownsRow B 4 1 (.slice (some ⟨g, 0, none⟩) (k + 1) cap) (k + 1) (L r ++ [.bool (b r)])) (hg : w.grownBy w' (v r).ownBlock) (ha : (v r).ownBlock = some g ∨ g = w.heap.size) :
    Inv B w0 k L b v (don d (A r)) (updU U (A r) (.slice (some ⟨g, 0, none⟩) (k + 1) cap)) w' := by
  have e1 : ∀ s, s < 4 → s ≠ r → don d (A r) (A s) = d (A s) := fun s hs hne => don_other _ _ _ (fun e => hne (Ainj hs hr e))
  have e2 : ∀ s, s < 4 → don d (A r) (Bq s) = d (Bq s) := fun s hs => don_other _ _ _ (fun e => AB hr hs e.symm)
  have eU : ∀ s, s < 4 → s ≠ r → updU U (A r) (.slice (some ⟨g, 0, none⟩) (k + 1) cap) (A s) = U (A s) := fun s hs hne => updU_o _ _ (fun e => hne (Ainj hs hr e))
  have eB : ∀ s, s < 4 → updU U (A r) (.slice (some ⟨g, 0, none⟩) (k + 1) cap) (Bq s) = U (Bq s) := fun s hs => updU_o _ _ (fun e => AB hr hs e.symm)
  have ec : ∀ s, s < 4 → s ≠ r → cur v (don d (A r)) (updU U (A r) (.slice (some ⟨g, 0, none⟩) (k + 1) cap)) s = cur v d U s := fun s hs hne => by unfold cur; rw [e1 s hs hne, eU s hs hne]
  have ecr : cur v (don d (A r)) (updU U (A r) (.slice (some ⟨g, 0, none⟩) (k + 1) cap)) r = .slice (some ⟨g, 0, none⟩) (k + 1) cap := by unfold cur; rw [don_same, if_pos rfl, updU_s]
  have ek : ∀ s, s < 4 → s ≠ r → kc k (don d (A r)) s = kc k d s := fun s hs hne => by unfold kc; rw [e1 s hs hne]
  have hcr : cur v d U r = v r := by unfold cur; rw [hd]; rfl
  have hfar : ∀ s, s < 4 → s ≠ r → ∀ t, (cur v d U s).ownBlock = some t → (v r).ownBlock ≠ some t := fun s hs hne t ht => by
    have := h.dis s r hs hr hne t ht
    rwa [hcr] at this
  have hgs : ∀ s, s < 4 → s ≠ r → (cur v d U s).ownBlock ≠ some g := fun s hs hne hgo => by
    rcases ha with ha | ha
    · exact hfar s hs hne g hgo ha
    · have := ((h.own s hs).lt g hgo).2
      omega
  refine ⟨h.bel.grown hg h.hB (fun t ht => ((h.own r hr).lt t (by rw [hcr]; exact ht)).1), Nat.le_trans h.hB hg.size, fun s hs => ?_, fun s t hs ht hne x => ?_, fun s hs h1 h2 => ?_⟩
  · by_cases e : s = r
    · subst e
      rw [ecr, don_same, if_pos rfl]
      unfold kc
      rw [don_same, if_pos rfl]
      exact ho
    · rw [ec s hs e, ek s hs e, e1 s hs e]
      refine (h.own s hs).kept hg ?_
      cases hv : (cur v d U s).ownBlock with
      | none => exact .inl rfl
      | some t => exact .inr (fun hh => hfar s hs e t hv hh.symm)
  · by_cases e : s = r
    · subst e
      rw [ecr, ec t ht (fun h => hne h.symm)]
      intro hx
      simp [Value.ownBlock] at hx
      subst hx
      exact hgs t ht (fun h => hne h.symm)
    · rw [ec s hs e]
      by_cases e' : t = r
      · subst e'
        rw [ecr]
        intro hx hy
        simp [Value.ownBlock] at hy
        subst hy
        exact hgs s hs e hx
      · rw [ec t ht e']; exact h.dis s t hs ht hne x
  · by_cases e : s = r
    · subst e; rw [don_same] at h2; cases h2
    · rw [e2 s hs] at h1
      rw [e1 s hs e] at h2
      obtain ⟨x, a1, a2, a3, a4⟩ := h.new s hs h1 h2
      have hxr : (v r).ownBlock ≠ some x := by have := a4 r hr; rwa [hcr] at this
      refine ⟨x, by rw [eB s hs]; exact a1, ?_, Nat.lt_of_lt_of_le a3 hg.size, fun t ht => ?_⟩
      · rw [← a2]; exact World.cell?_of_block (a := ⟨x, 0, none⟩) (hg.block x a3 (fun hh => hxr hh.symm))
      · by_cases e' : t = r
        · subst e'
          rw [ecr]
          intro hh
          simp [Value.ownBlock] at hh
          subst hh
          rcases ha with ha | ha
          · exact hxr ha
          · omega
        · rw [ec t ht e']; exact a4 t ht
/-- All four have grown: the next round begins. -/
theorem done (h : Inv B w0 k L b v d U w) (hd : ∀ r, r < 4 → d (A r) = true) (b' : Nat → Bool) (U' : Nat → Value) : Inv B w0 (k + 1) (fun r => L r ++ [.bool (b r)]) b' (fun r => U (A r)) (fun _ => false) U' w := by
  have ec : ∀ r, r < 4 → cur v d U r = U (A r) := fun r hr => by unfold cur; rw [if_pos (hd r hr)]
  have ek : ∀ r, r < 4 → kc k d r = k + 1 := fun r hr => by unfold kc; rw [if_pos (hd r hr)]
  have e0 : ∀ r, cur (fun r => U (A r)) (fun _ => false) U' r = U (A r) := fun r => rfl
  refine ⟨h.bel, h.hB, fun r hr => ?_, fun r s hr hs hne g => ?_, fun r _ h1 _ => by cases h1⟩
  · have := h.own r hr
    rw [ec r hr, ek r hr, if_pos (hd r hr)] at this
    exact this
  · rw [e0, e0]
    have := h.dis r s hr hs hne g
    rwa [ec r hr, ec s hs] at this
/-- The same with other names for the same values. -/
theorem ren {v' : Nat → Value} {L' : Nat → List Value} {b' : Nat → Bool} {U' : Nat → Value} (h : Inv B w0 k L b v (fun _ => false) U w) (hv : ∀ r, r < 4 → v r = v' r) (hL : ∀ r, r < 4 → L r = L' r) : Inv B w0 k L' b' v' (fun _ => false) U' w := by
  have e0 : ∀ (x : Nat → Value) (y : Nat → Value) r, cur x (fun _ => false) y r = x r := fun _ _ _ => rfl
  refine ⟨h.bel, h.hB, fun r hr => ?_, fun r s hr hs hne g => ?_, fun r _ h1 _ => by cases h1⟩
  · have := h.own r hr
    rw [e0, hv r hr] at this
    rw [e0]
    have e : (if (false : Bool) = true then L' r ++ [.bool (b' r)] else L' r) = (if (false : Bool) = true then L r ++ [.bool (b r)] else L r) := by simp [hL r hr]
    rw [e]
    exact this
  · rw [e0, e0, ← hv r hr, ← hv s hs]
    have := h.dis r s hr hs hne g
    rwa [e0, e0] at this
theorem drew (h : Inv B w0 k L b v d U w) : Inv B w0 k L b v d U w.drew := ⟨h.bel.drew, h.hB, h.own, h.dis, h.new⟩
end TB
end Go.Proofs.Ytejldahlbhkemaa
