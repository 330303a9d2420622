/- twos.SDivMod: the quotient and the rest with signs. -/
import Derived.Test.YtblodmjnhmfjeaaTwA
import Derived.Test.YtblodmjnhmfjeaaRegInv
namespace Go.Proofs.Ytblodmjnhmfjeaa
open Go.RowKit Go.Shelf
/-- The quotient with signs. -/
def sq (a b : Nat) : Nat := if (sg a != sg b) = true then ng (sz a / sz b) else sz a / sz b
/-- The rest with signs. -/
def sr (a b : Nat) : Nat := if sg a = true then ng (md (sz a) (sz b)) else md (sz a) (sz b)
theorem md_lt (a b : Nat) (ha : a < 2 ^ 256) : md a b < 2 ^ 256 := by
  unfold md
  split
  · decide
  · exact Nat.lt_of_le_of_lt (Nat.mod_le _ _) ha
theorem resultQ (f : Func) (tm : Array Value) (w W : World) (a b x y : Nat) (hf : f.results = #[.cell 4 24, .cell 5 24]) (h4 : tm.getD 4 undef = .pointer (some ⟨w.heap.size + 1 + 1, 0, none⟩)) (h5 : tm.getD 5 undef = .pointer (some ⟨w.heap.size + 1 + 1 + 1, 0, none⟩)) (m : M4 w a b x y W) : (results f tm).run Try.prog W = .ok (.tuple #[Wd x, Wd y]) W := by
  have c1 : ∀ o, o < 4 → W.cell? ⟨w.heap.size + 1 + 1, o, none⟩ = some (.int .u64 (dg x o)) := m.v2.c
  have c2 : ∀ o, o < 4 → W.cell? ⟨w.heap.size + 1 + 1 + 1, o, none⟩ = some (.int .u64 (dg y o)) := m.v3.c
  simp at h4 h5
  simp [Wd, results, hf, go_sem, h4, h5, c1, c2]
/-- What holds while the quotient is taken. -/
def SQ1 (w : World) (a b A B N R : Nat) (d : Nat → Bool) (x : Act) (wx : World) : Prop :=
  ∃ (u6 u7 u8 u9 u10 u11 u12 u13 : Value) (x2 : Nat) (x3 : Nat),
    x = { tmps := #[.agg #[.int .u64 (dg a 0), .int .u64 (dg a 1), .int .u64 (dg a 2), .int .u64 (dg a 3)], .agg #[.int .u64 (dg b 0), .int .u64 (dg b 1), .int .u64 (dg b 2), .int .u64 (dg b 3)], .pointer (some ⟨w.heap.size, 0, none⟩), .pointer (some ⟨w.heap.size + 1, 0, none⟩), .pointer (some ⟨w.heap.size + 1 + 1, 0, none⟩), .pointer (some ⟨w.heap.size + 1 + 1 + 1, 0, none⟩), u6, u7, u8, u9, u10, u11, u12, u13, undef, undef, undef, undef, undef, undef, undef, undef, undef, undef, undef, undef, undef], defers := [] } ∧
    (M4 w a b x2 x3 wx) ∧
    (d 0 = true → u7 = Wd a) ∧ (d 1 = true → u8 = Wd A) ∧ (d 2 = true → u9 = Wd b) ∧ (d 3 = true → u10 = Wd B) ∧ (d 4 = true → u11 = .tuple #[Wd N, Wd R]) ∧ (d 5 = true → u6 = .tuple #[Wd N, Wd R]) ∧ (d 6 = true → u12 = Wd N) ∧ (d 7 = true → u13 = Wd R) ∧ (d 8 = true → x2 = N) ∧ (d 9 = true → x3 = R)
/-- What holds while the signs are looked at. -/
def SQ2 (w : World) (a b A B N R : Nat) (s t : Bool) (d : Nat → Bool) (x : Act) (wx : World) : Prop :=
  ∃ (u14 u15 u16 u17 u18 : Value),
    x = { tmps := #[.agg #[.int .u64 (dg a 0), .int .u64 (dg a 1), .int .u64 (dg a 2), .int .u64 (dg a 3)], .agg #[.int .u64 (dg b 0), .int .u64 (dg b 1), .int .u64 (dg b 2), .int .u64 (dg b 3)], .pointer (some ⟨w.heap.size, 0, none⟩), .pointer (some ⟨w.heap.size + 1, 0, none⟩), .pointer (some ⟨w.heap.size + 1 + 1, 0, none⟩), .pointer (some ⟨w.heap.size + 1 + 1 + 1, 0, none⟩), .tuple #[Wd N, Wd R], Wd a, Wd A, Wd b, Wd B, .tuple #[Wd N, Wd R], Wd N, Wd R, u14, u15, u16, u17, u18, undef, undef, undef, undef, undef, undef, undef, undef], defers := [] } ∧
    (M4 w a b N R wx) ∧
    (d 0 = true → u14 = Wd a) ∧ (d 1 = true → u15 = .bool s) ∧ (d 2 = true → u16 = Wd b) ∧ (d 3 = true → u17 = .bool t) ∧ (d 4 = true → u18 = .bool (s != t))
/-- What holds while the answer is laid down. -/
def SQ6 (w : World) (a b Q S : Nat) (d : Nat → Bool) (x : Act) (wx : World) : Prop :=
  ∃ (u25 u26 : Value) (v6 : Value) (v7 : Value) (v8 : Value) (v9 : Value) (v10 : Value) (v11 : Value) (v12 : Value) (v13 : Value) (v14 : Value) (v15 : Value) (v16 : Value) (v17 : Value) (v18 : Value) (v19 : Value) (v20 : Value) (v21 : Value) (v22 : Value) (v23 : Value) (v24 : Value),
    x = { tmps := #[.agg #[.int .u64 (dg a 0), .int .u64 (dg a 1), .int .u64 (dg a 2), .int .u64 (dg a 3)], .agg #[.int .u64 (dg b 0), .int .u64 (dg b 1), .int .u64 (dg b 2), .int .u64 (dg b 3)], .pointer (some ⟨w.heap.size, 0, none⟩), .pointer (some ⟨w.heap.size + 1, 0, none⟩), .pointer (some ⟨w.heap.size + 1 + 1, 0, none⟩), .pointer (some ⟨w.heap.size + 1 + 1 + 1, 0, none⟩), v6, v7, v8, v9, v10, v11, v12, v13, v14, v15, v16, v17, v18, v19, v20, v21, v22, v23, v24, u25, u26], defers := [] } ∧
    (M4 w a b Q S wx) ∧
    (d 0 = true → u25 = Wd Q) ∧ (d 1 = true → u26 = Wd S)
set_option linter.unusedSimpArgs false in
set_option maxHeartbeats 4000000 in
set_option maxRecDepth 100000 in
theorem sdivmod_any (a b : Nat) (ha : a < 2 ^ 256) (hb : b < 2 ^ 256) (w : World) :
    Calls Try.prog 26 #[Wd a, Wd b] w fun e w' => e = .returned (.tuple #[Wd (sq a b), Wd (sr a b)]) ∧ Below w.heap.size w w' := by
  have hA := sz_lt a ha
  have hB := sz_lt b hb
  have KZ : Hid (∀ w : World, Calls Try.prog 46 #[Wd a] w fun e w' => e = .returned (Wd (sz a)) ∧ Below w.heap.size w w') := fun w => size_any a ha w
  have KY : Hid (∀ w : World, Calls Try.prog 46 #[Wd b] w fun e w' => e = .returned (Wd (sz b)) ∧ Below w.heap.size w w') := fun w => size_any b hb w
  have KS : Hid (∀ w : World, Calls Try.prog 44 #[Wd a] w fun e w' => e = .returned (.bool (sg a)) ∧ Below w.heap.size w w') := fun w => below_any a ha w
  have KT : Hid (∀ w : World, Calls Try.prog 44 #[Wd b] w fun e w' => e = .returned (.bool (sg b)) ∧ Below w.heap.size w w') := fun w => below_any b hb w
  have KD : Hid (∀ w : World, Calls Try.prog 22 #[Wd (sz a), Wd (sz b)] w fun e w' => e = .returned (.tuple #[Wd (sz a / sz b), Wd (md (sz a) (sz b))]) ∧ Below w.heap.size w w') := fun w => divmod_any _ _ hA hB w
  have KN : Hid (∀ w : World, Calls Try.prog 17 #[Wd (sz a / sz b)] w fun e w' => e = .returned (Wd (ng (sz a / sz b))) ∧ Below w.heap.size w w') := fun w => neg_any _ (Nat.lt_of_le_of_lt (Nat.div_le_self _ _) hA) w
  have KR : Hid (∀ w : World, Calls Try.prog 17 #[Wd (md (sz a) (sz b))] w fun e w' => e = .returned (Wd (ng (md (sz a) (sz b)))) ∧ Below w.heap.size w w') := fun w => neg_any _ (md_lt _ _ hA) w
  unfold sq sr
  clear ha hb hA hB
  generalize ng (sz a / sz b) = X at *
  generalize ng (md (sz a) (sz b)) = Y at *
  generalize sz a / sz b = N at *
  generalize md (sz a) (sz b) = R at *
  generalize sz a = A at *
  generalize sz b = B at *
  generalize sg a = s at *
  generalize sg b = t at *
  have m0 := M4_start w a b 24
  conv => arg 3; unfold Wd
  go_enter Try.func26, Try.ntmps26
  go_upto_region 1 with fail
  generalize (((w.alloc (.cells #[.int .u64 (dg a 0), .int .u64 (dg a 1), .int .u64 (dg a 2), .int .u64 (dg a 3)] 24)).alloc (.cells #[.int .u64 (dg b 0), .int .u64 (dg b 1), .int .u64 (dg b 2), .int .u64 (dg b 3)] 24)).alloc (.cells #[.int .u64 0, .int .u64 0, .int .u64 0, .int .u64 0] 24)).alloc (.cells #[.int .u64 0, .int .u64 0, .int .u64 0, .int .u64 0] 24) = W0 at m0 ⊢
  refine RI.wp_region_inv (SQ1 w a b A B N R) (by kernel_rfl) (by kernel_rfl) ?_ ?_ ?_
  · exact ⟨undef, undef, undef, undef, undef, undef, undef, undef, 0, 0, rfl, M4_drew m0, nofun, nofun, nofun, nofun, nofun, nofun, nofun, nofun, nofun, nofun⟩
  · clear m0
    intro d x wx i hI hi hm
    obtain ⟨u6, u7, u8, u9, u10, u11, u12, u13, x2, x3, rfl, hM, p0, p1, p2, p3, p4, p5, p6, p7, px8, px9⟩ := hI
    have hi' : i = 0 ∨ i = 1 ∨ i = 2 ∨ i = 3 ∨ i = 4 ∨ i = 5 ∨ i = 6 ∨ i = 7 ∨ i = 8 ∨ i = 9 := by simp at hi; omega
    have hd := hm.2
    clear hm hi
    rcases hi' with rfl | rfl | rfl | rfl | rfl | rfl | rfl | rfl | rfl | rfl
    · refine RI.wpOp_plain rfl rfl ?_
      have c0 : ∀ o, o < 4 → wx.cell? ⟨w.heap.size, o, none⟩ = some (.int .u64 (dg a o)) := hM.v0.c
      go_simp
      exact ⟨u6, _, u8, u9, u10, u11, u12, u13, x2, x3, rfl, hM, fun _ => rfl, RI.keep (by decide) p1, RI.keep (by decide) p2, RI.keep (by decide) p3, RI.keep (by decide) p4, RI.keep (by decide) p5, RI.keep (by decide) p6, RI.keep (by decide) p7, RI.keep (by decide) px8, RI.keep (by decide) px9⟩
    · have hd := hd _ rfl
      simp [Region.binds] at hd
      obtain rfl := p0 (by simp [hd])
      refine RI.wpOp_plain rfl rfl ?_
      go_simp
      refine (KZ.out _).mono ?_
      rintro e w1 ⟨rfl, hb1⟩
      exact ⟨u6, _, _, u9, u10, u11, u12, u13, x2, x3, rfl, M4_below hM hb1, RI.keep (by decide) p0, fun _ => rfl, RI.keep (by decide) p2, RI.keep (by decide) p3, RI.keep (by decide) p4, RI.keep (by decide) p5, RI.keep (by decide) p6, RI.keep (by decide) p7, RI.keep (by decide) (px8), RI.keep (by decide) (px9)⟩
    · refine RI.wpOp_plain rfl rfl ?_
      have c1 : ∀ o, o < 4 → wx.cell? ⟨w.heap.size + 1, o, none⟩ = some (.int .u64 (dg b o)) := hM.v1.c
      go_simp
      exact ⟨u6, u7, u8, _, u10, u11, u12, u13, x2, x3, rfl, hM, RI.keep (by decide) p0, RI.keep (by decide) p1, fun _ => rfl, RI.keep (by decide) p3, RI.keep (by decide) p4, RI.keep (by decide) p5, RI.keep (by decide) p6, RI.keep (by decide) p7, RI.keep (by decide) px8, RI.keep (by decide) px9⟩
    · have hd := hd _ rfl
      simp [Region.binds] at hd
      obtain rfl := p1 (by simp [hd])
      obtain rfl := p2 (by simp [hd])
      refine RI.wpOp_plain rfl rfl ?_
      go_simp
      refine (KY.out _).mono ?_
      rintro e w1 ⟨rfl, hb1⟩
      exact ⟨u6, u7, _, _, _, u11, u12, u13, x2, x3, rfl, M4_below hM hb1, RI.keep (by decide) p0, RI.keep (by decide) p1, RI.keep (by decide) p2, fun _ => rfl, RI.keep (by decide) p4, RI.keep (by decide) p5, RI.keep (by decide) p6, RI.keep (by decide) p7, RI.keep (by decide) (px8), RI.keep (by decide) (px9)⟩
    · have hd := hd _ rfl
      simp [Region.binds] at hd
      obtain rfl := p1 (by simp [hd])
      obtain rfl := p3 (by simp [hd])
      refine RI.wpOp_plain rfl rfl ?_
      go_simp
      refine (KD.out _).mono ?_
      rintro e w1 ⟨rfl, hb1⟩
      exact ⟨u6, u7, _, u9, _, _, u12, u13, x2, x3, rfl, M4_below hM hb1, RI.keep (by decide) p0, RI.keep (by decide) p1, RI.keep (by decide) p2, RI.keep (by decide) p3, fun _ => rfl, RI.keep (by decide) p5, RI.keep (by decide) p6, RI.keep (by decide) p7, RI.keep (by decide) (px8), RI.keep (by decide) (px9)⟩
    · have hd := hd _ rfl
      simp [Region.binds] at hd
      obtain rfl := p4 (by simp [hd])
      refine RI.wpOp_plain rfl rfl ?_
      go_simp
      exact ⟨_, u7, u8, u9, u10, _, u12, u13, x2, x3, rfl, hM, RI.keep (by decide) p0, RI.keep (by decide) p1, RI.keep (by decide) p2, RI.keep (by decide) p3, RI.keep (by decide) p4, fun _ => rfl, RI.keep (by decide) p6, RI.keep (by decide) p7, RI.keep (by decide) px8, RI.keep (by decide) px9⟩
    · have hd := hd _ rfl
      simp [Region.binds] at hd
      obtain rfl := p5 (by simp [hd])
      refine RI.wpOp_plain rfl rfl ?_
      go_simp
      exact ⟨_, u7, u8, u9, u10, u11, _, u13, x2, x3, rfl, hM, RI.keep (by decide) p0, RI.keep (by decide) p1, RI.keep (by decide) p2, RI.keep (by decide) p3, RI.keep (by decide) p4, RI.keep (by decide) p5, fun _ => rfl, RI.keep (by decide) p7, RI.keep (by decide) px8, RI.keep (by decide) px9⟩
    · have hd := hd _ rfl
      simp [Region.binds] at hd
      obtain rfl := p5 (by simp [hd])
      refine RI.wpOp_plain rfl rfl ?_
      go_simp
      exact ⟨_, u7, u8, u9, u10, u11, u12, _, x2, x3, rfl, hM, RI.keep (by decide) p0, RI.keep (by decide) p1, RI.keep (by decide) p2, RI.keep (by decide) p3, RI.keep (by decide) p4, RI.keep (by decide) p5, RI.keep (by decide) p6, fun _ => rfl, RI.keep (by decide) px8, RI.keep (by decide) px9⟩
    · have hd := hd _ rfl
      simp [Region.binds] at hd
      obtain rfl := p0 (by simp [hd])
      obtain rfl := p1 (by simp [hd])
      obtain rfl := p2 (by simp [hd])
      obtain rfl := p3 (by simp [hd])
      obtain rfl := p4 (by simp [hd])
      obtain rfl := p5 (by simp [hd])
      obtain rfl := p6 (by simp [hd])
      refine RI.wpOp_plain rfl rfl ?_
      have c2 : ∀ o, o < 4 → wx.cell? ⟨w.heap.size + 1 + 1, o, none⟩ = some (.int .u64 (dg x2 o)) := hM.v2.c
      have f2 : ∀ o, wx.frozen? ⟨w.heap.size + 1 + 1, o, none⟩ = false := hM.v2.f
      have z2 := hM.v2.hi
      unfold Wd
      go_simp
      exact ⟨_, _, _, _, _, _, _, u13, N, x3, rfl, M4_set2 hM, RI.keep (by decide) p0, RI.keep (by decide) p1, RI.keep (by decide) p2, RI.keep (by decide) p3, RI.keep (by decide) p4, RI.keep (by decide) p5, RI.keep (by decide) p6, RI.keep (by decide) p7, fun _ => rfl, RI.keep (by decide) px9⟩
    · have hd := hd _ rfl
      simp [Region.binds] at hd
      obtain rfl := p0 (by simp [hd])
      obtain rfl := p1 (by simp [hd])
      obtain rfl := p2 (by simp [hd])
      obtain rfl := p3 (by simp [hd])
      obtain rfl := p4 (by simp [hd])
      obtain rfl := p5 (by simp [hd])
      obtain rfl := p6 (by simp [hd])
      obtain rfl := p7 (by simp [hd])
      refine RI.wpOp_plain rfl rfl ?_
      have c3 : ∀ o, o < 4 → wx.cell? ⟨w.heap.size + 1 + 1 + 1, o, none⟩ = some (.int .u64 (dg x3 o)) := hM.v3.c
      have f3 : ∀ o, wx.frozen? ⟨w.heap.size + 1 + 1 + 1, o, none⟩ = false := hM.v3.f
      have z3 := hM.v3.hi
      unfold Wd
      go_simp
      exact ⟨_, _, _, _, _, _, _, _, x2, R, rfl, M4_set3 hM, RI.keep (by decide) p0, RI.keep (by decide) p1, RI.keep (by decide) p2, RI.keep (by decide) p3, RI.keep (by decide) p4, RI.keep (by decide) p5, RI.keep (by decide) p6, RI.keep (by decide) p7, RI.keep (by decide) px8, fun _ => rfl⟩
  · clear m0
    intro d x wx hI hd
    obtain ⟨u6, u7, u8, u9, u10, u11, u12, u13, x2, x3, rfl, hM, p0, p1, p2, p3, p4, p5, p6, p7, px8, px9⟩ := hI
    rw [px8 (hd 8 (by decide)), px9 (hd 9 (by decide))] at hM
    obtain rfl := p0 (hd 0 (by decide))
    obtain rfl := p1 (hd 1 (by decide))
    obtain rfl := p2 (hd 2 (by decide))
    obtain rfl := p3 (hd 3 (by decide))
    obtain rfl := p4 (hd 4 (by decide))
    obtain rfl := p5 (hd 5 (by decide))
    obtain rfl := p6 (hd 6 (by decide))
    obtain rfl := p7 (hd 7 (by decide))
    clear p0 p1 p2 p3 p4 p5 p6 p7 px8 px9 hd
    go_upto_region 2 with fail
    refine RI.wp_region_inv (SQ2 w a b A B N R s t) (by kernel_rfl) (by kernel_rfl) ?_ ?_ ?_
    · exact ⟨undef, undef, undef, undef, undef, rfl, M4_drew hM, nofun, nofun, nofun, nofun, nofun⟩
    · clear hM
      intro d x wx i hI hi hm
      obtain ⟨u14, u15, u16, u17, u18, rfl, hM, p0, p1, p2, p3, p4⟩ := hI
      have hi' : i = 0 ∨ i = 1 ∨ i = 2 ∨ i = 3 ∨ i = 4 := by simp at hi; omega
      have hd := hm.2
      clear hm hi
      rcases hi' with rfl | rfl | rfl | rfl | rfl
      · refine RI.wpOp_plain rfl rfl ?_
        have c0 : ∀ o, o < 4 → wx.cell? ⟨w.heap.size, o, none⟩ = some (.int .u64 (dg a o)) := hM.v0.c
        go_simp
        exact ⟨_, u15, u16, u17, u18, rfl, hM, fun _ => rfl, RI.keep (by decide) p1, RI.keep (by decide) p2, RI.keep (by decide) p3, RI.keep (by decide) p4⟩
      · have hd := hd _ rfl
        simp [Region.binds] at hd
        obtain rfl := p0 (by simp [hd])
        refine RI.wpOp_plain rfl rfl ?_
        go_simp
        refine (KS.out _).mono ?_
        rintro e w1 ⟨rfl, hb1⟩
        exact ⟨_, _, u16, u17, u18, rfl, M4_below hM hb1, RI.keep (by decide) p0, fun _ => rfl, RI.keep (by decide) p2, RI.keep (by decide) p3, RI.keep (by decide) p4⟩
      · refine RI.wpOp_plain rfl rfl ?_
        have c1 : ∀ o, o < 4 → wx.cell? ⟨w.heap.size + 1, o, none⟩ = some (.int .u64 (dg b o)) := hM.v1.c
        go_simp
        exact ⟨u14, u15, _, u17, u18, rfl, hM, RI.keep (by decide) p0, RI.keep (by decide) p1, fun _ => rfl, RI.keep (by decide) p3, RI.keep (by decide) p4⟩
      · have hd := hd _ rfl
        simp [Region.binds] at hd
        obtain rfl := p1 (by simp [hd])
        obtain rfl := p2 (by simp [hd])
        refine RI.wpOp_plain rfl rfl ?_
        go_simp
        refine (KT.out _).mono ?_
        rintro e w1 ⟨rfl, hb1⟩
        exact ⟨u14, _, _, _, u18, rfl, M4_below hM hb1, RI.keep (by decide) p0, RI.keep (by decide) p1, RI.keep (by decide) p2, fun _ => rfl, RI.keep (by decide) p4⟩
      · have hd := hd _ rfl
        simp [Region.binds] at hd
        obtain rfl := p1 (by simp [hd])
        obtain rfl := p3 (by simp [hd])
        refine RI.wpOp_plain rfl rfl ?_
        go_simp
        exact ⟨u14, _, u16, _, _, rfl, hM, RI.keep (by decide) p0, RI.keep (by decide) p1, RI.keep (by decide) p2, RI.keep (by decide) p3, fun _ => rfl⟩
    · clear hM
      intro d x wx hI hd
      obtain ⟨u14, u15, u16, u17, u18, rfl, hM, p0, p1, p2, p3, p4⟩ := hI
      obtain rfl := p0 (hd 0 (by decide))
      obtain rfl := p1 (hd 1 (by decide))
      obtain rfl := p2 (hd 2 (by decide))
      obtain rfl := p3 (hd 3 (by decide))
      obtain rfl := p4 (hd 4 (by decide))
      clear p0 p1 p2 p3 p4 hd
      cases s <;> cases t
      · simp only [bne_self_eq_false, Bool.false_eq_true, if_false, if_true]
        have c0 : ∀ o, o < 4 → wx.cell? ⟨w.heap.size, o, none⟩ = some (.int .u64 (dg a o)) := hM.v0.c
        have c1 : ∀ o, o < 4 → wx.cell? ⟨w.heap.size + 1, o, none⟩ = some (.int .u64 (dg b o)) := hM.v1.c
        have c2 : ∀ o, o < 4 → wx.cell? ⟨w.heap.size + 1 + 1, o, none⟩ = some (.int .u64 (dg N o)) := hM.v2.c
        have c3 : ∀ o, o < 4 → wx.cell? ⟨w.heap.size + 1 + 1 + 1, o, none⟩ = some (.int .u64 (dg R o)) := hM.v3.c
        have f2 : ∀ o, wx.frozen? ⟨w.heap.size + 1 + 1, o, none⟩ = false := hM.v2.f
        have f3 : ∀ o, wx.frozen? ⟨w.heap.size + 1 + 1 + 1, o, none⟩ = false := hM.v3.f
        have z0 := hM.v0.hi
        have z1 := hM.v1.hi
        have z2 := hM.v2.hi
        have z3 := hM.v3.hi
        have HM : Hid (M4 w a b N R wx) := hM
        clear hM
        go_wp2_with fail
        refine (KS.out _).mono ?_
        rintro e w5 ⟨rfl, hb5⟩
        have m5 := M4_below HM.out hb5
        clear c0 c1 c2 c3 f2 f3 z0 z1 z2 z3 hb5 HM
        have c0 : ∀ o, o < 4 → w5.cell? ⟨w.heap.size, o, none⟩ = some (.int .u64 (dg a o)) := m5.v0.c
        have c1 : ∀ o, o < 4 → w5.cell? ⟨w.heap.size + 1, o, none⟩ = some (.int .u64 (dg b o)) := m5.v1.c
        have c2 : ∀ o, o < 4 → w5.cell? ⟨w.heap.size + 1 + 1, o, none⟩ = some (.int .u64 (dg N o)) := m5.v2.c
        have c3 : ∀ o, o < 4 → w5.cell? ⟨w.heap.size + 1 + 1 + 1, o, none⟩ = some (.int .u64 (dg R o)) := m5.v3.c
        have f2 : ∀ o, w5.frozen? ⟨w.heap.size + 1 + 1, o, none⟩ = false := m5.v2.f
        have f3 : ∀ o, w5.frozen? ⟨w.heap.size + 1 + 1 + 1, o, none⟩ = false := m5.v3.f
        have z0 := m5.v0.hi
        have z1 := m5.v1.hi
        have z2 := m5.v2.hi
        have z3 := m5.v3.hi
        have HM : Hid _ := m5
        clear m5
        go_upto_region 6 with fail
        have m7 := HM.out
        clear HM c0 c1 c2 c3 f2 f3 z0 z1 z2 z3
        refine RI.wp_region_inv (SQ6 w a b N R) (by kernel_rfl) (by kernel_rfl) ?_ ?_ ?_
        · exact ⟨undef, undef, _, _, _, _, _, _, _, _, _, _, _, _, _, _, _, _, _, _, _, rfl, M4_drew m7, nofun, nofun⟩
        · clear m7
          intro d x wx i hI hi hm
          obtain ⟨u25, u26, v6, v7, v8, v9, v10, v11, v12, v13, v14, v15, v16, v17, v18, v19, v20, v21, v22, v23, v24, rfl, hM, p0, p1⟩ := hI
          have hi' : i = 0 ∨ i = 1 ∨ i = 2 ∨ i = 3 := by simp at hi; omega
          have hd := hm.2
          clear hm hi
          rcases hi' with rfl | rfl | rfl | rfl
          · refine RI.wpOp_plain rfl rfl ?_
            have c2 : ∀ o, o < 4 → wx.cell? ⟨w.heap.size + 1 + 1, o, none⟩ = some (.int .u64 (dg N o)) := hM.v2.c
            go_simp
            exact ⟨_, u26, v6, v7, v8, v9, v10, v11, v12, v13, v14, v15, v16, v17, v18, v19, v20, v21, v22, v23, v24, rfl, hM, fun _ => rfl, RI.keep (by decide) p1⟩
          · refine RI.wpOp_plain rfl rfl ?_
            have c3 : ∀ o, o < 4 → wx.cell? ⟨w.heap.size + 1 + 1 + 1, o, none⟩ = some (.int .u64 (dg R o)) := hM.v3.c
            go_simp
            exact ⟨u25, _, v6, v7, v8, v9, v10, v11, v12, v13, v14, v15, v16, v17, v18, v19, v20, v21, v22, v23, v24, rfl, hM, RI.keep (by decide) p0, fun _ => rfl⟩
          · have hd := hd _ rfl
            simp [Region.binds] at hd
            obtain rfl := p0 (by simp [hd])
            refine RI.wpOp_plain rfl rfl ?_
            have c2 : ∀ o, o < 4 → wx.cell? ⟨w.heap.size + 1 + 1, o, none⟩ = some (.int .u64 (dg N o)) := hM.v2.c
            have f2 : ∀ o, wx.frozen? ⟨w.heap.size + 1 + 1, o, none⟩ = false := hM.v2.f
            have z2 := hM.v2.hi
            unfold Wd
            go_simp
            exact ⟨_, u26, v6, v7, v8, v9, v10, v11, v12, v13, v14, v15, v16, v17, v18, v19, v20, v21, v22, v23, v24, rfl, M4_set2 hM, RI.keep (by decide) p0, RI.keep (by decide) p1⟩
          · have hd := hd _ rfl
            simp [Region.binds] at hd
            obtain rfl := p0 (by simp [hd])
            obtain rfl := p1 (by simp [hd])
            refine RI.wpOp_plain rfl rfl ?_
            have c3 : ∀ o, o < 4 → wx.cell? ⟨w.heap.size + 1 + 1 + 1, o, none⟩ = some (.int .u64 (dg R o)) := hM.v3.c
            have f3 : ∀ o, wx.frozen? ⟨w.heap.size + 1 + 1 + 1, o, none⟩ = false := hM.v3.f
            have z3 := hM.v3.hi
            unfold Wd
            go_simp
            exact ⟨_, _, v6, v7, v8, v9, v10, v11, v12, v13, v14, v15, v16, v17, v18, v19, v20, v21, v22, v23, v24, rfl, M4_set3 hM, RI.keep (by decide) p0, RI.keep (by decide) p1⟩
        · clear m7
          intro d x wx hI hd
          obtain ⟨u25, u26, v6, v7, v8, v9, v10, v11, v12, v13, v14, v15, v16, v17, v18, v19, v20, v21, v22, v23, v24, rfl, hM, p0, p1⟩ := hI
          obtain rfl := p0 (hd 0 (by decide))
          obtain rfl := p1 (hd 1 (by decide))
          clear p0 p1 hd
          go_wp2_with fail
          exact bodyPost_ret (v := .tuple #[Wd N, Wd R]) (resultQ _ _ w _ a b N R rfl rfl rfl hM) rfl ⟨rfl, hM.bel⟩
      · simp only [Bool.false_bne, Bool.true_bne, Bool.not_false, Bool.not_true, Bool.false_eq_true, if_false, if_true]
        have c0 : ∀ o, o < 4 → wx.cell? ⟨w.heap.size, o, none⟩ = some (.int .u64 (dg a o)) := hM.v0.c
        have c1 : ∀ o, o < 4 → wx.cell? ⟨w.heap.size + 1, o, none⟩ = some (.int .u64 (dg b o)) := hM.v1.c
        have c2 : ∀ o, o < 4 → wx.cell? ⟨w.heap.size + 1 + 1, o, none⟩ = some (.int .u64 (dg N o)) := hM.v2.c
        have c3 : ∀ o, o < 4 → wx.cell? ⟨w.heap.size + 1 + 1 + 1, o, none⟩ = some (.int .u64 (dg R o)) := hM.v3.c
        have f2 : ∀ o, wx.frozen? ⟨w.heap.size + 1 + 1, o, none⟩ = false := hM.v2.f
        have f3 : ∀ o, wx.frozen? ⟨w.heap.size + 1 + 1 + 1, o, none⟩ = false := hM.v3.f
        have z0 := hM.v0.hi
        have z1 := hM.v1.hi
        have z2 := hM.v2.hi
        have z3 := hM.v3.hi
        have HM : Hid (M4 w a b N R wx) := hM
        clear hM
        go_wp2_with fail
        refine (KN.out _).mono ?_
        rintro e w4 ⟨rfl, hb4⟩
        have m4 := M4_below HM.out hb4
        clear c0 c1 c2 c3 f2 f3 z0 z1 z2 z3 hb4 HM
        have c0 : ∀ o, o < 4 → w4.cell? ⟨w.heap.size, o, none⟩ = some (.int .u64 (dg a o)) := m4.v0.c
        have c1 : ∀ o, o < 4 → w4.cell? ⟨w.heap.size + 1, o, none⟩ = some (.int .u64 (dg b o)) := m4.v1.c
        have c2 : ∀ o, o < 4 → w4.cell? ⟨w.heap.size + 1 + 1, o, none⟩ = some (.int .u64 (dg N o)) := m4.v2.c
        have c3 : ∀ o, o < 4 → w4.cell? ⟨w.heap.size + 1 + 1 + 1, o, none⟩ = some (.int .u64 (dg R o)) := m4.v3.c
        have f2 : ∀ o, w4.frozen? ⟨w.heap.size + 1 + 1, o, none⟩ = false := m4.v2.f
        have f3 : ∀ o, w4.frozen? ⟨w.heap.size + 1 + 1 + 1, o, none⟩ = false := m4.v3.f
        have z0 := m4.v0.hi
        have z1 := m4.v1.hi
        have z2 := m4.v2.hi
        have z3 := m4.v3.hi
        have HM : Hid (M4 w a b X R _) := M4_set2 (m := X) m4
        clear m4
        unfold Wd
        go_wp2_with fail
        refine (KS.out _).mono ?_
        rintro e w5 ⟨rfl, hb5⟩
        have m5 := M4_below HM.out hb5
        clear c0 c1 c2 c3 f2 f3 z0 z1 z2 z3 hb5 HM
        have c0 : ∀ o, o < 4 → w5.cell? ⟨w.heap.size, o, none⟩ = some (.int .u64 (dg a o)) := m5.v0.c
        have c1 : ∀ o, o < 4 → w5.cell? ⟨w.heap.size + 1, o, none⟩ = some (.int .u64 (dg b o)) := m5.v1.c
        have c2 : ∀ o, o < 4 → w5.cell? ⟨w.heap.size + 1 + 1, o, none⟩ = some (.int .u64 (dg X o)) := m5.v2.c
        have c3 : ∀ o, o < 4 → w5.cell? ⟨w.heap.size + 1 + 1 + 1, o, none⟩ = some (.int .u64 (dg R o)) := m5.v3.c
        have f2 : ∀ o, w5.frozen? ⟨w.heap.size + 1 + 1, o, none⟩ = false := m5.v2.f
        have f3 : ∀ o, w5.frozen? ⟨w.heap.size + 1 + 1 + 1, o, none⟩ = false := m5.v3.f
        have z0 := m5.v0.hi
        have z1 := m5.v1.hi
        have z2 := m5.v2.hi
        have z3 := m5.v3.hi
        have HM : Hid _ := m5
        clear m5
        go_upto_region 6 with fail
        have m7 := HM.out
        clear HM c0 c1 c2 c3 f2 f3 z0 z1 z2 z3
        refine RI.wp_region_inv (SQ6 w a b X R) (by kernel_rfl) (by kernel_rfl) ?_ ?_ ?_
        · exact ⟨undef, undef, _, _, _, _, _, _, _, _, _, _, _, _, _, _, _, _, _, _, _, rfl, M4_drew m7, nofun, nofun⟩
        · clear m7
          intro d x wx i hI hi hm
          obtain ⟨u25, u26, v6, v7, v8, v9, v10, v11, v12, v13, v14, v15, v16, v17, v18, v19, v20, v21, v22, v23, v24, rfl, hM, p0, p1⟩ := hI
          have hi' : i = 0 ∨ i = 1 ∨ i = 2 ∨ i = 3 := by simp at hi; omega
          have hd := hm.2
          clear hm hi
          rcases hi' with rfl | rfl | rfl | rfl
          · refine RI.wpOp_plain rfl rfl ?_
            have c2 : ∀ o, o < 4 → wx.cell? ⟨w.heap.size + 1 + 1, o, none⟩ = some (.int .u64 (dg X o)) := hM.v2.c
            go_simp
            exact ⟨_, u26, v6, v7, v8, v9, v10, v11, v12, v13, v14, v15, v16, v17, v18, v19, v20, v21, v22, v23, v24, rfl, hM, fun _ => rfl, RI.keep (by decide) p1⟩
          · refine RI.wpOp_plain rfl rfl ?_
            have c3 : ∀ o, o < 4 → wx.cell? ⟨w.heap.size + 1 + 1 + 1, o, none⟩ = some (.int .u64 (dg R o)) := hM.v3.c
            go_simp
            exact ⟨u25, _, v6, v7, v8, v9, v10, v11, v12, v13, v14, v15, v16, v17, v18, v19, v20, v21, v22, v23, v24, rfl, hM, RI.keep (by decide) p0, fun _ => rfl⟩
          · have hd := hd _ rfl
            simp [Region.binds] at hd
            obtain rfl := p0 (by simp [hd])
            refine RI.wpOp_plain rfl rfl ?_
            have c2 : ∀ o, o < 4 → wx.cell? ⟨w.heap.size + 1 + 1, o, none⟩ = some (.int .u64 (dg X o)) := hM.v2.c
            have f2 : ∀ o, wx.frozen? ⟨w.heap.size + 1 + 1, o, none⟩ = false := hM.v2.f
            have z2 := hM.v2.hi
            unfold Wd
            go_simp
            exact ⟨_, u26, v6, v7, v8, v9, v10, v11, v12, v13, v14, v15, v16, v17, v18, v19, v20, v21, v22, v23, v24, rfl, M4_set2 hM, RI.keep (by decide) p0, RI.keep (by decide) p1⟩
          · have hd := hd _ rfl
            simp [Region.binds] at hd
            obtain rfl := p0 (by simp [hd])
            obtain rfl := p1 (by simp [hd])
            refine RI.wpOp_plain rfl rfl ?_
            have c3 : ∀ o, o < 4 → wx.cell? ⟨w.heap.size + 1 + 1 + 1, o, none⟩ = some (.int .u64 (dg R o)) := hM.v3.c
            have f3 : ∀ o, wx.frozen? ⟨w.heap.size + 1 + 1 + 1, o, none⟩ = false := hM.v3.f
            have z3 := hM.v3.hi
            unfold Wd
            go_simp
            exact ⟨_, _, v6, v7, v8, v9, v10, v11, v12, v13, v14, v15, v16, v17, v18, v19, v20, v21, v22, v23, v24, rfl, M4_set3 hM, RI.keep (by decide) p0, RI.keep (by decide) p1⟩
        · clear m7
          intro d x wx hI hd
          obtain ⟨u25, u26, v6, v7, v8, v9, v10, v11, v12, v13, v14, v15, v16, v17, v18, v19, v20, v21, v22, v23, v24, rfl, hM, p0, p1⟩ := hI
          obtain rfl := p0 (hd 0 (by decide))
          obtain rfl := p1 (hd 1 (by decide))
          clear p0 p1 hd
          go_wp2_with fail
          exact bodyPost_ret (v := .tuple #[Wd X, Wd R]) (resultQ _ _ w _ a b X R rfl rfl rfl hM) rfl ⟨rfl, hM.bel⟩
      · simp only [Bool.false_bne, Bool.true_bne, Bool.not_false, Bool.not_true, Bool.false_eq_true, if_false, if_true]
        have c0 : ∀ o, o < 4 → wx.cell? ⟨w.heap.size, o, none⟩ = some (.int .u64 (dg a o)) := hM.v0.c
        have c1 : ∀ o, o < 4 → wx.cell? ⟨w.heap.size + 1, o, none⟩ = some (.int .u64 (dg b o)) := hM.v1.c
        have c2 : ∀ o, o < 4 → wx.cell? ⟨w.heap.size + 1 + 1, o, none⟩ = some (.int .u64 (dg N o)) := hM.v2.c
        have c3 : ∀ o, o < 4 → wx.cell? ⟨w.heap.size + 1 + 1 + 1, o, none⟩ = some (.int .u64 (dg R o)) := hM.v3.c
        have f2 : ∀ o, wx.frozen? ⟨w.heap.size + 1 + 1, o, none⟩ = false := hM.v2.f
        have f3 : ∀ o, wx.frozen? ⟨w.heap.size + 1 + 1 + 1, o, none⟩ = false := hM.v3.f
        have z0 := hM.v0.hi
        have z1 := hM.v1.hi
        have z2 := hM.v2.hi
        have z3 := hM.v3.hi
        have HM : Hid (M4 w a b N R wx) := hM
        clear hM
        go_wp2_with fail
        refine (KN.out _).mono ?_
        rintro e w4 ⟨rfl, hb4⟩
        have m4 := M4_below HM.out hb4
        clear c0 c1 c2 c3 f2 f3 z0 z1 z2 z3 hb4 HM
        have c0 : ∀ o, o < 4 → w4.cell? ⟨w.heap.size, o, none⟩ = some (.int .u64 (dg a o)) := m4.v0.c
        have c1 : ∀ o, o < 4 → w4.cell? ⟨w.heap.size + 1, o, none⟩ = some (.int .u64 (dg b o)) := m4.v1.c
        have c2 : ∀ o, o < 4 → w4.cell? ⟨w.heap.size + 1 + 1, o, none⟩ = some (.int .u64 (dg N o)) := m4.v2.c
        have c3 : ∀ o, o < 4 → w4.cell? ⟨w.heap.size + 1 + 1 + 1, o, none⟩ = some (.int .u64 (dg R o)) := m4.v3.c
        have f2 : ∀ o, w4.frozen? ⟨w.heap.size + 1 + 1, o, none⟩ = false := m4.v2.f
        have f3 : ∀ o, w4.frozen? ⟨w.heap.size + 1 + 1 + 1, o, none⟩ = false := m4.v3.f
        have z0 := m4.v0.hi
        have z1 := m4.v1.hi
        have z2 := m4.v2.hi
        have z3 := m4.v3.hi
        have HM : Hid (M4 w a b X R _) := M4_set2 (m := X) m4
        clear m4
        unfold Wd
        go_wp2_with fail
        refine (KS.out _).mono ?_
        rintro e w5 ⟨rfl, hb5⟩
        have m5 := M4_below HM.out hb5
        clear c0 c1 c2 c3 f2 f3 z0 z1 z2 z3 hb5 HM
        have c0 : ∀ o, o < 4 → w5.cell? ⟨w.heap.size, o, none⟩ = some (.int .u64 (dg a o)) := m5.v0.c
        have c1 : ∀ o, o < 4 → w5.cell? ⟨w.heap.size + 1, o, none⟩ = some (.int .u64 (dg b o)) := m5.v1.c
        have c2 : ∀ o, o < 4 → w5.cell? ⟨w.heap.size + 1 + 1, o, none⟩ = some (.int .u64 (dg X o)) := m5.v2.c
        have c3 : ∀ o, o < 4 → w5.cell? ⟨w.heap.size + 1 + 1 + 1, o, none⟩ = some (.int .u64 (dg R o)) := m5.v3.c
        have f2 : ∀ o, w5.frozen? ⟨w.heap.size + 1 + 1, o, none⟩ = false := m5.v2.f
        have f3 : ∀ o, w5.frozen? ⟨w.heap.size + 1 + 1 + 1, o, none⟩ = false := m5.v3.f
        have z0 := m5.v0.hi
        have z1 := m5.v1.hi
        have z2 := m5.v2.hi
        have z3 := m5.v3.hi
        have HM : Hid (M4 w a b X R w5) := m5
        clear m5
        go_wp2_with fail
        refine (KR.out _).mono ?_
        rintro e w6 ⟨rfl, hb6⟩
        have m6 := M4_below HM.out hb6
        clear c0 c1 c2 c3 f2 f3 z0 z1 z2 z3 hb6 HM
        have c0 : ∀ o, o < 4 → w6.cell? ⟨w.heap.size, o, none⟩ = some (.int .u64 (dg a o)) := m6.v0.c
        have c1 : ∀ o, o < 4 → w6.cell? ⟨w.heap.size + 1, o, none⟩ = some (.int .u64 (dg b o)) := m6.v1.c
        have c2 : ∀ o, o < 4 → w6.cell? ⟨w.heap.size + 1 + 1, o, none⟩ = some (.int .u64 (dg X o)) := m6.v2.c
        have c3 : ∀ o, o < 4 → w6.cell? ⟨w.heap.size + 1 + 1 + 1, o, none⟩ = some (.int .u64 (dg R o)) := m6.v3.c
        have f2 : ∀ o, w6.frozen? ⟨w.heap.size + 1 + 1, o, none⟩ = false := m6.v2.f
        have f3 : ∀ o, w6.frozen? ⟨w.heap.size + 1 + 1 + 1, o, none⟩ = false := m6.v3.f
        have z0 := m6.v0.hi
        have z1 := m6.v1.hi
        have z2 := m6.v2.hi
        have z3 := m6.v3.hi
        have m5 : M4 w a b X Y _ := M4_set3 (m := Y) m6
        clear m6
        unfold Wd
        have HM : Hid _ := m5
        clear m5
        go_upto_region 6 with fail
        have m7 := HM.out
        clear HM c0 c1 c2 c3 f2 f3 z0 z1 z2 z3
        refine RI.wp_region_inv (SQ6 w a b X Y) (by kernel_rfl) (by kernel_rfl) ?_ ?_ ?_
        · exact ⟨undef, undef, _, _, _, _, _, _, _, _, _, _, _, _, _, _, _, _, _, _, _, rfl, M4_drew m7, nofun, nofun⟩
        · clear m7
          intro d x wx i hI hi hm
          obtain ⟨u25, u26, v6, v7, v8, v9, v10, v11, v12, v13, v14, v15, v16, v17, v18, v19, v20, v21, v22, v23, v24, rfl, hM, p0, p1⟩ := hI
          have hi' : i = 0 ∨ i = 1 ∨ i = 2 ∨ i = 3 := by simp at hi; omega
          have hd := hm.2
          clear hm hi
          rcases hi' with rfl | rfl | rfl | rfl
          · refine RI.wpOp_plain rfl rfl ?_
            have c2 : ∀ o, o < 4 → wx.cell? ⟨w.heap.size + 1 + 1, o, none⟩ = some (.int .u64 (dg X o)) := hM.v2.c
            go_simp
            exact ⟨_, u26, v6, v7, v8, v9, v10, v11, v12, v13, v14, v15, v16, v17, v18, v19, v20, v21, v22, v23, v24, rfl, hM, fun _ => rfl, RI.keep (by decide) p1⟩
          · refine RI.wpOp_plain rfl rfl ?_
            have c3 : ∀ o, o < 4 → wx.cell? ⟨w.heap.size + 1 + 1 + 1, o, none⟩ = some (.int .u64 (dg Y o)) := hM.v3.c
            go_simp
            exact ⟨u25, _, v6, v7, v8, v9, v10, v11, v12, v13, v14, v15, v16, v17, v18, v19, v20, v21, v22, v23, v24, rfl, hM, RI.keep (by decide) p0, fun _ => rfl⟩
          · have hd := hd _ rfl
            simp [Region.binds] at hd
            obtain rfl := p0 (by simp [hd])
            refine RI.wpOp_plain rfl rfl ?_
            have c2 : ∀ o, o < 4 → wx.cell? ⟨w.heap.size + 1 + 1, o, none⟩ = some (.int .u64 (dg X o)) := hM.v2.c
            have f2 : ∀ o, wx.frozen? ⟨w.heap.size + 1 + 1, o, none⟩ = false := hM.v2.f
            have z2 := hM.v2.hi
            unfold Wd
            go_simp
            exact ⟨_, u26, v6, v7, v8, v9, v10, v11, v12, v13, v14, v15, v16, v17, v18, v19, v20, v21, v22, v23, v24, rfl, M4_set2 hM, RI.keep (by decide) p0, RI.keep (by decide) p1⟩
          · have hd := hd _ rfl
            simp [Region.binds] at hd
            obtain rfl := p0 (by simp [hd])
            obtain rfl := p1 (by simp [hd])
            refine RI.wpOp_plain rfl rfl ?_
            have c3 : ∀ o, o < 4 → wx.cell? ⟨w.heap.size + 1 + 1 + 1, o, none⟩ = some (.int .u64 (dg Y o)) := hM.v3.c
            have f3 : ∀ o, wx.frozen? ⟨w.heap.size + 1 + 1 + 1, o, none⟩ = false := hM.v3.f
            have z3 := hM.v3.hi
            unfold Wd
            go_simp
            exact ⟨_, _, v6, v7, v8, v9, v10, v11, v12, v13, v14, v15, v16, v17, v18, v19, v20, v21, v22, v23, v24, rfl, M4_set3 hM, RI.keep (by decide) p0, RI.keep (by decide) p1⟩
        · clear m7
          intro d x wx hI hd
          obtain ⟨u25, u26, v6, v7, v8, v9, v10, v11, v12, v13, v14, v15, v16, v17, v18, v19, v20, v21, v22, v23, v24, rfl, hM, p0, p1⟩ := hI
          obtain rfl := p0 (hd 0 (by decide))
          obtain rfl := p1 (hd 1 (by decide))
          clear p0 p1 hd
          go_wp2_with fail
          exact bodyPost_ret (v := .tuple #[Wd X, Wd Y]) (resultQ _ _ w _ a b X Y rfl rfl rfl hM) rfl ⟨rfl, hM.bel⟩
      · simp only [bne_self_eq_false, Bool.false_eq_true, if_false, if_true]
        have c0 : ∀ o, o < 4 → wx.cell? ⟨w.heap.size, o, none⟩ = some (.int .u64 (dg a o)) := hM.v0.c
        have c1 : ∀ o, o < 4 → wx.cell? ⟨w.heap.size + 1, o, none⟩ = some (.int .u64 (dg b o)) := hM.v1.c
        have c2 : ∀ o, o < 4 → wx.cell? ⟨w.heap.size + 1 + 1, o, none⟩ = some (.int .u64 (dg N o)) := hM.v2.c
        have c3 : ∀ o, o < 4 → wx.cell? ⟨w.heap.size + 1 + 1 + 1, o, none⟩ = some (.int .u64 (dg R o)) := hM.v3.c
        have f2 : ∀ o, wx.frozen? ⟨w.heap.size + 1 + 1, o, none⟩ = false := hM.v2.f
        have f3 : ∀ o, wx.frozen? ⟨w.heap.size + 1 + 1 + 1, o, none⟩ = false := hM.v3.f
        have z0 := hM.v0.hi
        have z1 := hM.v1.hi
        have z2 := hM.v2.hi
        have z3 := hM.v3.hi
        have HM : Hid (M4 w a b N R wx) := hM
        clear hM
        go_wp2_with fail
        refine (KS.out _).mono ?_
        rintro e w5 ⟨rfl, hb5⟩
        have m5 := M4_below HM.out hb5
        clear c0 c1 c2 c3 f2 f3 z0 z1 z2 z3 hb5 HM
        have c0 : ∀ o, o < 4 → w5.cell? ⟨w.heap.size, o, none⟩ = some (.int .u64 (dg a o)) := m5.v0.c
        have c1 : ∀ o, o < 4 → w5.cell? ⟨w.heap.size + 1, o, none⟩ = some (.int .u64 (dg b o)) := m5.v1.c
        have c2 : ∀ o, o < 4 → w5.cell? ⟨w.heap.size + 1 + 1, o, none⟩ = some (.int .u64 (dg N o)) := m5.v2.c
        have c3 : ∀ o, o < 4 → w5.cell? ⟨w.heap.size + 1 + 1 + 1, o, none⟩ = some (.int .u64 (dg R o)) := m5.v3.c
        have f2 : ∀ o, w5.frozen? ⟨w.heap.size + 1 + 1, o, none⟩ = false := m5.v2.f
        have f3 : ∀ o, w5.frozen? ⟨w.heap.size + 1 + 1 + 1, o, none⟩ = false := m5.v3.f
        have z0 := m5.v0.hi
        have z1 := m5.v1.hi
        have z2 := m5.v2.hi
        have z3 := m5.v3.hi
        have HM : Hid (M4 w a b N R w5) := m5
        clear m5
        go_wp2_with fail
        refine (KR.out _).mono ?_
        rintro e w6 ⟨rfl, hb6⟩
        have m6 := M4_below HM.out hb6
        clear c0 c1 c2 c3 f2 f3 z0 z1 z2 z3 hb6 HM
        have c0 : ∀ o, o < 4 → w6.cell? ⟨w.heap.size, o, none⟩ = some (.int .u64 (dg a o)) := m6.v0.c
        have c1 : ∀ o, o < 4 → w6.cell? ⟨w.heap.size + 1, o, none⟩ = some (.int .u64 (dg b o)) := m6.v1.c
        have c2 : ∀ o, o < 4 → w6.cell? ⟨w.heap.size + 1 + 1, o, none⟩ = some (.int .u64 (dg N o)) := m6.v2.c
        have c3 : ∀ o, o < 4 → w6.cell? ⟨w.heap.size + 1 + 1 + 1, o, none⟩ = some (.int .u64 (dg R o)) := m6.v3.c
        have f2 : ∀ o, w6.frozen? ⟨w.heap.size + 1 + 1, o, none⟩ = false := m6.v2.f
        have f3 : ∀ o, w6.frozen? ⟨w.heap.size + 1 + 1 + 1, o, none⟩ = false := m6.v3.f
        have z0 := m6.v0.hi
        have z1 := m6.v1.hi
        have z2 := m6.v2.hi
        have z3 := m6.v3.hi
        have m5 : M4 w a b N Y _ := M4_set3 (m := Y) m6
        clear m6
        unfold Wd
        have HM : Hid _ := m5
        clear m5
        go_upto_region 6 with fail
        have m7 := HM.out
        clear HM c0 c1 c2 c3 f2 f3 z0 z1 z2 z3
        refine RI.wp_region_inv (SQ6 w a b N Y) (by kernel_rfl) (by kernel_rfl) ?_ ?_ ?_
        · exact ⟨undef, undef, _, _, _, _, _, _, _, _, _, _, _, _, _, _, _, _, _, _, _, rfl, M4_drew m7, nofun, nofun⟩
        · clear m7
          intro d x wx i hI hi hm
          obtain ⟨u25, u26, v6, v7, v8, v9, v10, v11, v12, v13, v14, v15, v16, v17, v18, v19, v20, v21, v22, v23, v24, rfl, hM, p0, p1⟩ := hI
          have hi' : i = 0 ∨ i = 1 ∨ i = 2 ∨ i = 3 := by simp at hi; omega
          have hd := hm.2
          clear hm hi
          rcases hi' with rfl | rfl | rfl | rfl
          · refine RI.wpOp_plain rfl rfl ?_
            have c2 : ∀ o, o < 4 → wx.cell? ⟨w.heap.size + 1 + 1, o, none⟩ = some (.int .u64 (dg N o)) := hM.v2.c
            go_simp
            exact ⟨_, u26, v6, v7, v8, v9, v10, v11, v12, v13, v14, v15, v16, v17, v18, v19, v20, v21, v22, v23, v24, rfl, hM, fun _ => rfl, RI.keep (by decide) p1⟩
          · refine RI.wpOp_plain rfl rfl ?_
            have c3 : ∀ o, o < 4 → wx.cell? ⟨w.heap.size + 1 + 1 + 1, o, none⟩ = some (.int .u64 (dg Y o)) := hM.v3.c
            go_simp
            exact ⟨u25, _, v6, v7, v8, v9, v10, v11, v12, v13, v14, v15, v16, v17, v18, v19, v20, v21, v22, v23, v24, rfl, hM, RI.keep (by decide) p0, fun _ => rfl⟩
          · have hd := hd _ rfl
            simp [Region.binds] at hd
            obtain rfl := p0 (by simp [hd])
            refine RI.wpOp_plain rfl rfl ?_
            have c2 : ∀ o, o < 4 → wx.cell? ⟨w.heap.size + 1 + 1, o, none⟩ = some (.int .u64 (dg N o)) := hM.v2.c
            have f2 : ∀ o, wx.frozen? ⟨w.heap.size + 1 + 1, o, none⟩ = false := hM.v2.f
            have z2 := hM.v2.hi
            unfold Wd
            go_simp
            exact ⟨_, u26, v6, v7, v8, v9, v10, v11, v12, v13, v14, v15, v16, v17, v18, v19, v20, v21, v22, v23, v24, rfl, M4_set2 hM, RI.keep (by decide) p0, RI.keep (by decide) p1⟩
          · have hd := hd _ rfl
            simp [Region.binds] at hd
            obtain rfl := p0 (by simp [hd])
            obtain rfl := p1 (by simp [hd])
            refine RI.wpOp_plain rfl rfl ?_
            have c3 : ∀ o, o < 4 → wx.cell? ⟨w.heap.size + 1 + 1 + 1, o, none⟩ = some (.int .u64 (dg Y o)) := hM.v3.c
            have f3 : ∀ o, wx.frozen? ⟨w.heap.size + 1 + 1 + 1, o, none⟩ = false := hM.v3.f
            have z3 := hM.v3.hi
            unfold Wd
            go_simp
            exact ⟨_, _, v6, v7, v8, v9, v10, v11, v12, v13, v14, v15, v16, v17, v18, v19, v20, v21, v22, v23, v24, rfl, M4_set3 hM, RI.keep (by decide) p0, RI.keep (by decide) p1⟩
        · clear m7
          intro d x wx hI hd
          obtain ⟨u25, u26, v6, v7, v8, v9, v10, v11, v12, v13, v14, v15, v16, v17, v18, v19, v20, v21, v22, v23, v24, rfl, hM, p0, p1⟩ := hI
          obtain rfl := p0 (hd 0 (by decide))
          obtain rfl := p1 (hd 1 (by decide))
          clear p0 p1 hd
          go_wp2_with fail
          exact bodyPost_ret (v := .tuple #[Wd N, Wd Y]) (resultQ _ _ w _ a b N Y rfl rfl rfl hM) rfl ⟨rfl, hM.bel⟩
end Go.Proofs.Ytblodmjnhmfjeaa
