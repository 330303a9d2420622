/- twos.partByPart, handed a closure: part by part; and twos.And, Or, Xor. -/
import Derived.Test.YtblodmjnhmfjeaaTwA
namespace Go.Proofs.Ytblodmjnhmfjeaa
open Go.RowKit Go.Shelf
/-- Two words handed in, one that goes out, and one under way. -/
structure P4 (w : World) (a b : Nat) (F : Nat → Int) (wx : World) : Prop where
  v0 : Vb w.heap.size w.heap.size 4 (dg a) wx
  v1 : Vb w.heap.size (w.heap.size + 1) 4 (dg b) wx
  v2 : Vb w.heap.size (w.heap.size + 1 + 1) 4 (dg 0) wx
  v3 : Vb w.heap.size (w.heap.size + 1 + 1 + 1) 4 F wx
  bel : Below w.heap.size w wx
theorem P4_below {w : World} {a b : Nat} {F : Nat → Int} {w1 w2 : World} (h : P4 w a b F w1) (k : Below w1.heap.size w1 w2) : P4 w a b F w2 := ⟨Vb_below h.v0 k, Vb_below h.v1 k, Vb_below h.v2 k, Vb_below h.v3 k, h.bel.trans (k.mono (Nat.le_of_lt h.v0.hi))⟩
theorem P4_drew {w : World} {a b : Nat} {F : Nat → Int} {w1 : World} (h : P4 w a b F w1) : P4 w a b F w1.drew := P4_below h (Below.refl _ _).drew
theorem P4_set {w : World} {a b i : Nat} {F : Nat → Int} {v : Int} {w1 : World} (h : P4 w a b F w1) (hi : i < 4) : P4 w a b (upd F i v) (w1.setCell ⟨w.heap.size + 1 + 1 + 1, i, none⟩ (.int .u64 v)) :=
  ⟨Vb_other h.v0 (show w.heap.size + 1 + 1 + 1 ≠ w.heap.size by omega), Vb_other h.v1 (show w.heap.size + 1 + 1 + 1 ≠ w.heap.size + 1 by omega), Vb_other h.v2 (show w.heap.size + 1 + 1 + 1 ≠ w.heap.size + 1 + 1 by omega), Vb_set h.v3 hi, h.bel.setCell (show w.heap.size ≤ (⟨w.heap.size + 1 + 1 + 1, i, none⟩ : Addr).block by show w.heap.size ≤ w.heap.size + 1 + 1 + 1; omega) _⟩
/-- What holds while a part is joined. -/
def PB0 (w : World) (a b : Nat) (f : Int → Int → Int) (fv : Value) (F0 : Nat → Int) (d : Nat → Bool) (x : Act) (wx : World) : Prop :=
  ∃ (u12 u13 u14 u15 u16 u17 u18 u19 u20 u21 : Value) (F : Nat → Int) (v5 : Value) (v10 : Value) (v11 : Value) (v22 : Value) (v23 : Value),
    x = { tmps := #[.agg #[.int .u64 (dg a 0), .int .u64 (dg a 1), .int .u64 (dg a 2), .int .u64 (dg a 3)], .agg #[.int .u64 (dg b 0), .int .u64 (dg b 1), .int .u64 (dg b 2), .int .u64 (dg b 3)], fv, .pointer (some ⟨w.heap.size, 0, none⟩), .pointer (some ⟨w.heap.size + 1, 0, none⟩), v5, .pointer (some ⟨w.heap.size + 1 + 1, 0, none⟩), .pointer (some ⟨w.heap.size + 1 + 1 + 1, 0, none⟩), .int .i64 0, .int .i64 0, v10, v11, u12, u13, u14, u15, u16, u17, u18, u19, u20, u21, v22, v23], defers := [] } ∧
    (P4 w a b F wx) ∧ (d 10 = false → F = F0) ∧
    (d 0 = true → u12 = .int .i64 0) ∧ (d 1 = true → u13 = fv) ∧ (d 2 = true → u14 = .int .i64 0) ∧ (d 3 = true → u15 = .pointer (some ⟨w.heap.size, 0, none⟩)) ∧ (d 4 = true → u16 = .int .u64 (dg a 0)) ∧ (d 5 = true → u17 = .int .i64 0) ∧ (d 6 = true → u18 = .pointer (some ⟨w.heap.size + 1, 0, none⟩)) ∧ (d 7 = true → u19 = .int .u64 (dg b 0)) ∧ (d 8 = true → u20 = .int .u64 (f (dg a 0) (dg b 0))) ∧ (d 9 = true → u21 = .pointer (some ⟨w.heap.size + 1 + 1 + 1, 0, none⟩)) ∧ (d 10 = true → F = upd F0 0 (f (dg a 0) (dg b 0)))
/-- The same, a part on. -/
def PB1 (w : World) (a b : Nat) (f : Int → Int → Int) (fv : Value) (F0 : Nat → Int) (d : Nat → Bool) (x : Act) (wx : World) : Prop :=
  ∃ (u12 u13 u14 u15 u16 u17 u18 u19 u20 u21 : Value) (F : Nat → Int) (v5 : Value) (v10 : Value) (v11 : Value) (v22 : Value) (v23 : Value),
    x = { tmps := #[.agg #[.int .u64 (dg a 0), .int .u64 (dg a 1), .int .u64 (dg a 2), .int .u64 (dg a 3)], .agg #[.int .u64 (dg b 0), .int .u64 (dg b 1), .int .u64 (dg b 2), .int .u64 (dg b 3)], fv, .pointer (some ⟨w.heap.size, 0, none⟩), .pointer (some ⟨w.heap.size + 1, 0, none⟩), v5, .pointer (some ⟨w.heap.size + 1 + 1, 0, none⟩), .pointer (some ⟨w.heap.size + 1 + 1 + 1, 0, none⟩), .int .i64 1, .int .i64 1, v10, v11, u12, u13, u14, u15, u16, u17, u18, u19, u20, u21, v22, v23], defers := [] } ∧
    (P4 w a b F wx) ∧ (d 10 = false → F = F0) ∧
    (d 0 = true → u12 = .int .i64 1) ∧ (d 1 = true → u13 = fv) ∧ (d 2 = true → u14 = .int .i64 1) ∧ (d 3 = true → u15 = .pointer (some ⟨w.heap.size, 1, none⟩)) ∧ (d 4 = true → u16 = .int .u64 (dg a 1)) ∧ (d 5 = true → u17 = .int .i64 1) ∧ (d 6 = true → u18 = .pointer (some ⟨w.heap.size + 1, 1, none⟩)) ∧ (d 7 = true → u19 = .int .u64 (dg b 1)) ∧ (d 8 = true → u20 = .int .u64 (f (dg a 1) (dg b 1))) ∧ (d 9 = true → u21 = .pointer (some ⟨w.heap.size + 1 + 1 + 1, 1, none⟩)) ∧ (d 10 = true → F = upd F0 1 (f (dg a 1) (dg b 1)))
/-- The same, a part on. -/
def PB2 (w : World) (a b : Nat) (f : Int → Int → Int) (fv : Value) (F0 : Nat → Int) (d : Nat → Bool) (x : Act) (wx : World) : Prop :=
  ∃ (u12 u13 u14 u15 u16 u17 u18 u19 u20 u21 : Value) (F : Nat → Int) (v5 : Value) (v10 : Value) (v11 : Value) (v22 : Value) (v23 : Value),
    x = { tmps := #[.agg #[.int .u64 (dg a 0), .int .u64 (dg a 1), .int .u64 (dg a 2), .int .u64 (dg a 3)], .agg #[.int .u64 (dg b 0), .int .u64 (dg b 1), .int .u64 (dg b 2), .int .u64 (dg b 3)], fv, .pointer (some ⟨w.heap.size, 0, none⟩), .pointer (some ⟨w.heap.size + 1, 0, none⟩), v5, .pointer (some ⟨w.heap.size + 1 + 1, 0, none⟩), .pointer (some ⟨w.heap.size + 1 + 1 + 1, 0, none⟩), .int .i64 2, .int .i64 2, v10, v11, u12, u13, u14, u15, u16, u17, u18, u19, u20, u21, v22, v23], defers := [] } ∧
    (P4 w a b F wx) ∧ (d 10 = false → F = F0) ∧
    (d 0 = true → u12 = .int .i64 2) ∧ (d 1 = true → u13 = fv) ∧ (d 2 = true → u14 = .int .i64 2) ∧ (d 3 = true → u15 = .pointer (some ⟨w.heap.size, 2, none⟩)) ∧ (d 4 = true → u16 = .int .u64 (dg a 2)) ∧ (d 5 = true → u17 = .int .i64 2) ∧ (d 6 = true → u18 = .pointer (some ⟨w.heap.size + 1, 2, none⟩)) ∧ (d 7 = true → u19 = .int .u64 (dg b 2)) ∧ (d 8 = true → u20 = .int .u64 (f (dg a 2) (dg b 2))) ∧ (d 9 = true → u21 = .pointer (some ⟨w.heap.size + 1 + 1 + 1, 2, none⟩)) ∧ (d 10 = true → F = upd F0 2 (f (dg a 2) (dg b 2)))
/-- The same, a part on. -/
def PB3 (w : World) (a b : Nat) (f : Int → Int → Int) (fv : Value) (F0 : Nat → Int) (d : Nat → Bool) (x : Act) (wx : World) : Prop :=
  ∃ (u12 u13 u14 u15 u16 u17 u18 u19 u20 u21 : Value) (F : Nat → Int) (v5 : Value) (v10 : Value) (v11 : Value) (v22 : Value) (v23 : Value),
    x = { tmps := #[.agg #[.int .u64 (dg a 0), .int .u64 (dg a 1), .int .u64 (dg a 2), .int .u64 (dg a 3)], .agg #[.int .u64 (dg b 0), .int .u64 (dg b 1), .int .u64 (dg b 2), .int .u64 (dg b 3)], fv, .pointer (some ⟨w.heap.size, 0, none⟩), .pointer (some ⟨w.heap.size + 1, 0, none⟩), v5, .pointer (some ⟨w.heap.size + 1 + 1, 0, none⟩), .pointer (some ⟨w.heap.size + 1 + 1 + 1, 0, none⟩), .int .i64 3, .int .i64 3, v10, v11, u12, u13, u14, u15, u16, u17, u18, u19, u20, u21, v22, v23], defers := [] } ∧
    (P4 w a b F wx) ∧ (d 10 = false → F = F0) ∧
    (d 0 = true → u12 = .int .i64 3) ∧ (d 1 = true → u13 = fv) ∧ (d 2 = true → u14 = .int .i64 3) ∧ (d 3 = true → u15 = .pointer (some ⟨w.heap.size, 3, none⟩)) ∧ (d 4 = true → u16 = .int .u64 (dg a 3)) ∧ (d 5 = true → u17 = .int .i64 3) ∧ (d 6 = true → u18 = .pointer (some ⟨w.heap.size + 1, 3, none⟩)) ∧ (d 7 = true → u19 = .int .u64 (dg b 3)) ∧ (d 8 = true → u20 = .int .u64 (f (dg a 3) (dg b 3))) ∧ (d 9 = true → u21 = .pointer (some ⟨w.heap.size + 1 + 1 + 1, 3, none⟩)) ∧ (d 10 = true → F = upd F0 3 (f (dg a 3) (dg b 3)))
set_option maxHeartbeats 4000000 in
set_option maxRecDepth 100000 in
theorem pbp_and (a b N : Nat) (f : Int → Int → Int) (KF : Hid (∀ (x y : Int) (w : World), Calls Try.prog 32 #[.int .u64 x, .int .u64 y] w fun e w' => e = .returned (.int .u64 (f x y)) ∧ Below w.heap.size w w')) (HN : Hid (∀ o, o < 4 → f (dg a o) (dg b o) = dg N o)) (w : World) :
    Calls Try.prog 30 #[Wd a, Wd b, .func (Fn.func 32) #[] #[]] w fun e w' => e = .returned (Wd N) ∧ Below w.heap.size w w' := by
  have m0 : P4 w a b (dg 0) ((((w.alloc (.cells #[.int .u64 (dg a 0), .int .u64 (dg a 1), .int .u64 (dg a 2), .int .u64 (dg a 3)] 24)).alloc (.cells #[.int .u64 (dg b 0), .int .u64 (dg b 1), .int .u64 (dg b 2), .int .u64 (dg b 3)] 24)).alloc (.cells #[.int .u64 0, .int .u64 0, .int .u64 0, .int .u64 0] 24)).alloc (.cells #[.int .u64 0, .int .u64 0, .int .u64 0, .int .u64 0] 24)) := by
    have k := M4_start w a b 24
    exact ⟨k.v0, k.v1, k.v2, k.v3, k.bel⟩
  conv => arg 3; unfold Wd
  go_enter Try.func30, Try.ntmps30
  go_wp2_with fail
  generalize (((w.alloc (.cells #[.int .u64 (dg a 0), .int .u64 (dg a 1), .int .u64 (dg a 2), .int .u64 (dg a 3)] 24)).alloc (.cells #[.int .u64 (dg b 0), .int .u64 (dg b 1), .int .u64 (dg b 2), .int .u64 (dg b 3)] 24)).alloc (.cells #[.int .u64 0, .int .u64 0, .int .u64 0, .int .u64 0] 24)).alloc (.cells #[.int .u64 0, .int .u64 0, .int .u64 0, .int .u64 0] 24) = W0 at m0 ⊢
  refine wp_loop_rounds 5 ?_
  rw [rounds_succ]
  go_upto_region 5 with fail
  refine RI.wp_region_inv (PB0 w a b f (.func (Fn.func 32) #[] #[]) (dg 0)) (by kernel_rfl) (by kernel_rfl) ?_ ?_ ?_
  · exact ⟨undef, undef, undef, undef, undef, undef, undef, undef, undef, undef, dg 0, _, _, _, _, _, rfl, P4_drew m0, fun _ => rfl, nofun, nofun, nofun, nofun, nofun, nofun, nofun, nofun, nofun, nofun, nofun⟩
  · clear m0
    intro d x wx i hI hi hm
    obtain ⟨u12, u13, u14, u15, u16, u17, u18, u19, u20, u21, F, v5, v10, v11, v22, v23, rfl, hP, q, p0, p1, p2, p3, p4, p5, p6, p7, p8, p9, px10⟩ := hI
    have hi' : i = 0 ∨ i = 1 ∨ i = 2 ∨ i = 3 ∨ i = 4 ∨ i = 5 ∨ i = 6 ∨ i = 7 ∨ i = 8 ∨ i = 9 ∨ i = 10 := by simp at hi; omega
    have hd := hm.2
    have hf := hm.1
    clear hm hi
    rcases hi' with rfl | rfl | rfl | rfl | rfl | rfl | rfl | rfl | rfl | rfl | rfl
    · refine RI.wpOp_plain rfl rfl ?_
      go_simp
      exact ⟨_, u13, u14, u15, u16, u17, u18, u19, u20, u21, F, v5, v10, v11, v22, v23, rfl, hP, (fun h => q (by rwa [RI.don_other _ _ _ (by decide)] at h)), fun _ => rfl, RI.keep (by decide) p1, RI.keep (by decide) p2, RI.keep (by decide) p3, RI.keep (by decide) p4, RI.keep (by decide) p5, RI.keep (by decide) p6, RI.keep (by decide) p7, RI.keep (by decide) p8, RI.keep (by decide) p9, RI.keep (by decide) px10⟩
    · refine RI.wpOp_plain rfl rfl ?_
      go_simp
      exact ⟨u12, _, u14, u15, u16, u17, u18, u19, u20, u21, F, v5, v10, v11, v22, v23, rfl, hP, (fun h => q (by rwa [RI.don_other _ _ _ (by decide)] at h)), RI.keep (by decide) p0, fun _ => rfl, RI.keep (by decide) p2, RI.keep (by decide) p3, RI.keep (by decide) p4, RI.keep (by decide) p5, RI.keep (by decide) p6, RI.keep (by decide) p7, RI.keep (by decide) p8, RI.keep (by decide) p9, RI.keep (by decide) px10⟩
    · refine RI.wpOp_plain rfl rfl ?_
      go_simp
      exact ⟨u12, u13, _, u15, u16, u17, u18, u19, u20, u21, F, v5, v10, v11, v22, v23, rfl, hP, (fun h => q (by rwa [RI.don_other _ _ _ (by decide)] at h)), RI.keep (by decide) p0, RI.keep (by decide) p1, fun _ => rfl, RI.keep (by decide) p3, RI.keep (by decide) p4, RI.keep (by decide) p5, RI.keep (by decide) p6, RI.keep (by decide) p7, RI.keep (by decide) p8, RI.keep (by decide) p9, RI.keep (by decide) px10⟩
    · have hd := hd _ rfl
      simp [Region.binds] at hd
      obtain rfl := p2 (by simp [hd])
      refine RI.wpOp_plain rfl rfl ?_
      go_simp
      exact ⟨u12, u13, _, _, u16, u17, u18, u19, u20, u21, F, v5, v10, v11, v22, v23, rfl, hP, (fun h => q (by rwa [RI.don_other _ _ _ (by decide)] at h)), RI.keep (by decide) p0, RI.keep (by decide) p1, RI.keep (by decide) p2, fun _ => rfl, RI.keep (by decide) p4, RI.keep (by decide) p5, RI.keep (by decide) p6, RI.keep (by decide) p7, RI.keep (by decide) p8, RI.keep (by decide) p9, RI.keep (by decide) px10⟩
    · have hd := hd _ rfl
      simp [Region.binds] at hd
      obtain rfl := p3 (by simp [hd])
      refine RI.wpOp_plain rfl rfl ?_
      have c0 : wx.cell? ⟨w.heap.size, 0, none⟩ = some (.int .u64 (dg a 0)) := hP.v0.c 0 (by decide)
      go_simp
      exact ⟨u12, u13, u14, _, _, u17, u18, u19, u20, u21, F, v5, v10, v11, v22, v23, rfl, hP, (fun h => q (by rwa [RI.don_other _ _ _ (by decide)] at h)), RI.keep (by decide) p0, RI.keep (by decide) p1, RI.keep (by decide) p2, RI.keep (by decide) p3, fun _ => rfl, RI.keep (by decide) p5, RI.keep (by decide) p6, RI.keep (by decide) p7, RI.keep (by decide) p8, RI.keep (by decide) p9, RI.keep (by decide) px10⟩
    · refine RI.wpOp_plain rfl rfl ?_
      go_simp
      exact ⟨u12, u13, u14, u15, u16, _, u18, u19, u20, u21, F, v5, v10, v11, v22, v23, rfl, hP, (fun h => q (by rwa [RI.don_other _ _ _ (by decide)] at h)), RI.keep (by decide) p0, RI.keep (by decide) p1, RI.keep (by decide) p2, RI.keep (by decide) p3, RI.keep (by decide) p4, fun _ => rfl, RI.keep (by decide) p6, RI.keep (by decide) p7, RI.keep (by decide) p8, RI.keep (by decide) p9, RI.keep (by decide) px10⟩
    · have hd := hd _ rfl
      simp [Region.binds] at hd
      obtain rfl := p5 (by simp [hd])
      refine RI.wpOp_plain rfl rfl ?_
      go_simp
      exact ⟨u12, u13, u14, u15, u16, _, _, u19, u20, u21, F, v5, v10, v11, v22, v23, rfl, hP, (fun h => q (by rwa [RI.don_other _ _ _ (by decide)] at h)), RI.keep (by decide) p0, RI.keep (by decide) p1, RI.keep (by decide) p2, RI.keep (by decide) p3, RI.keep (by decide) p4, RI.keep (by decide) p5, fun _ => rfl, RI.keep (by decide) p7, RI.keep (by decide) p8, RI.keep (by decide) p9, RI.keep (by decide) px10⟩
    · have hd := hd _ rfl
      simp [Region.binds] at hd
      obtain rfl := p6 (by simp [hd])
      refine RI.wpOp_plain rfl rfl ?_
      have c0 : wx.cell? ⟨w.heap.size + 1, 0, none⟩ = some (.int .u64 (dg b 0)) := hP.v1.c 0 (by decide)
      go_simp
      exact ⟨u12, u13, u14, u15, u16, u17, _, _, u20, u21, F, v5, v10, v11, v22, v23, rfl, hP, (fun h => q (by rwa [RI.don_other _ _ _ (by decide)] at h)), RI.keep (by decide) p0, RI.keep (by decide) p1, RI.keep (by decide) p2, RI.keep (by decide) p3, RI.keep (by decide) p4, RI.keep (by decide) p5, RI.keep (by decide) p6, fun _ => rfl, RI.keep (by decide) p8, RI.keep (by decide) p9, RI.keep (by decide) px10⟩
    · have hd := hd _ rfl
      simp [Region.binds] at hd
      obtain rfl := p1 (by simp [hd])
      obtain rfl := p4 (by simp [hd])
      obtain rfl := p7 (by simp [hd])
      refine RI.wpOp_plain rfl rfl ?_
      go_simp
      refine (KF.out _ _ _).mono ?_
      rintro e w1 ⟨rfl, hb1⟩
      exact ⟨u12, _, u14, u15, _, u17, u18, _, _, u21, F, v5, v10, v11, v22, v23, rfl, P4_below hP hb1, (fun h => q (by rwa [RI.don_other _ _ _ (by decide)] at h)), RI.keep (by decide) p0, RI.keep (by decide) p1, RI.keep (by decide) p2, RI.keep (by decide) p3, RI.keep (by decide) p4, RI.keep (by decide) p5, RI.keep (by decide) p6, RI.keep (by decide) p7, fun _ => rfl, RI.keep (by decide) p9, RI.keep (by decide) (px10)⟩
    · have hd := hd _ rfl
      simp [Region.binds] at hd
      obtain rfl := p0 (by simp [hd])
      obtain rfl := p1 (by simp [hd])
      obtain rfl := p2 (by simp [hd])
      obtain rfl := p3 (by simp [hd])
      obtain rfl := p4 (by simp [hd])
      obtain rfl := p5 (by simp [hd])
      obtain rfl := p6 (by simp [hd])
      obtain rfl := p7 (by simp [hd])
      obtain rfl := p8 (by simp [hd])
      refine RI.wpOp_plain rfl rfl ?_
      go_simp
      exact ⟨_, _, _, _, _, _, _, _, _, _, F, v5, v10, v11, v22, v23, rfl, hP, (fun h => q (by rwa [RI.don_other _ _ _ (by decide)] at h)), RI.keep (by decide) p0, RI.keep (by decide) p1, RI.keep (by decide) p2, RI.keep (by decide) p3, RI.keep (by decide) p4, RI.keep (by decide) p5, RI.keep (by decide) p6, RI.keep (by decide) p7, RI.keep (by decide) p8, fun _ => rfl, RI.keep (by decide) px10⟩
    · have hd := hd _ rfl
      simp [Region.binds] at hd
      obtain rfl := p0 (by simp [hd])
      obtain rfl := p1 (by simp [hd])
      obtain rfl := p2 (by simp [hd])
      obtain rfl := p3 (by simp [hd])
      obtain rfl := p4 (by simp [hd])
      obtain rfl := p5 (by simp [hd])
      obtain rfl := p6 (by simp [hd])
      obtain rfl := p7 (by simp [hd])
      obtain rfl := p8 (by simp [hd])
      obtain rfl := p9 (by simp [hd])
      refine RI.wpOp_plain rfl rfl ?_
      obtain rfl := q hf
      have c3 := hP.v3.c 0 (by decide)
      have f3 : ∀ o, wx.frozen? ⟨w.heap.size + 1 + 1 + 1, o, none⟩ = false := hP.v3.f
      go_simp
      exact ⟨_, _, _, _, _, _, _, _, _, _, _, v5, v10, v11, v22, v23, rfl, P4_set hP (by decide), (fun h => absurd h (by simp [RI.don])), RI.keep (by decide) p0, RI.keep (by decide) p1, RI.keep (by decide) p2, RI.keep (by decide) p3, RI.keep (by decide) p4, RI.keep (by decide) p5, RI.keep (by decide) p6, RI.keep (by decide) p7, RI.keep (by decide) p8, RI.keep (by decide) p9, fun _ => rfl⟩
  clear m0
  intro d x wx hI hd
  obtain ⟨u12, u13, u14, u15, u16, u17, u18, u19, u20, u21, F, v5, v10, v11, v22, v23, rfl, hP, q, p0, p1, p2, p3, p4, p5, p6, p7, p8, p9, px10⟩ := hI
  obtain rfl := p0 (hd 0 (by decide))
  obtain rfl := p1 (hd 1 (by decide))
  obtain rfl := p2 (hd 2 (by decide))
  obtain rfl := p3 (hd 3 (by decide))
  obtain rfl := p4 (hd 4 (by decide))
  obtain rfl := p5 (hd 5 (by decide))
  obtain rfl := p6 (hd 6 (by decide))
  obtain rfl := p7 (hd 7 (by decide))
  obtain rfl := p8 (hd 8 (by decide))
  obtain rfl := p9 (hd 9 (by decide))
  rw [px10 (hd 10 (by decide))] at hP
  have m0 := hP
  clear p0 p1 p2 p3 p4 p5 p6 p7 p8 p9 px10 q hd hP
  go_wp2_with fail
  rw [rounds_succ]
  go_upto_region 5 with fail
  refine RI.wp_region_inv (PB1 w a b f (.func (Fn.func 32) #[] #[]) (upd (dg 0) 0 (f (dg a 0) (dg b 0)))) (by kernel_rfl) (by kernel_rfl) ?_ ?_ ?_
  · exact ⟨_, _, _, _, _, _, _, _, _, _, upd (dg 0) 0 (f (dg a 0) (dg b 0)), _, _, _, _, _, rfl, P4_drew m0, fun _ => rfl, nofun, nofun, nofun, nofun, nofun, nofun, nofun, nofun, nofun, nofun, nofun⟩
  · clear m0
    intro d x wx i hI hi hm
    obtain ⟨u12, u13, u14, u15, u16, u17, u18, u19, u20, u21, F, v5, v10, v11, v22, v23, rfl, hP, q, p0, p1, p2, p3, p4, p5, p6, p7, p8, p9, px10⟩ := hI
    have hi' : i = 0 ∨ i = 1 ∨ i = 2 ∨ i = 3 ∨ i = 4 ∨ i = 5 ∨ i = 6 ∨ i = 7 ∨ i = 8 ∨ i = 9 ∨ i = 10 := by simp at hi; omega
    have hd := hm.2
    have hf := hm.1
    clear hm hi
    rcases hi' with rfl | rfl | rfl | rfl | rfl | rfl | rfl | rfl | rfl | rfl | rfl
    · refine RI.wpOp_plain rfl rfl ?_
      go_simp
      exact ⟨_, u13, u14, u15, u16, u17, u18, u19, u20, u21, F, v5, v10, v11, v22, v23, rfl, hP, (fun h => q (by rwa [RI.don_other _ _ _ (by decide)] at h)), fun _ => rfl, RI.keep (by decide) p1, RI.keep (by decide) p2, RI.keep (by decide) p3, RI.keep (by decide) p4, RI.keep (by decide) p5, RI.keep (by decide) p6, RI.keep (by decide) p7, RI.keep (by decide) p8, RI.keep (by decide) p9, RI.keep (by decide) px10⟩
    · refine RI.wpOp_plain rfl rfl ?_
      go_simp
      exact ⟨u12, _, u14, u15, u16, u17, u18, u19, u20, u21, F, v5, v10, v11, v22, v23, rfl, hP, (fun h => q (by rwa [RI.don_other _ _ _ (by decide)] at h)), RI.keep (by decide) p0, fun _ => rfl, RI.keep (by decide) p2, RI.keep (by decide) p3, RI.keep (by decide) p4, RI.keep (by decide) p5, RI.keep (by decide) p6, RI.keep (by decide) p7, RI.keep (by decide) p8, RI.keep (by decide) p9, RI.keep (by decide) px10⟩
    · refine RI.wpOp_plain rfl rfl ?_
      go_simp
      exact ⟨u12, u13, _, u15, u16, u17, u18, u19, u20, u21, F, v5, v10, v11, v22, v23, rfl, hP, (fun h => q (by rwa [RI.don_other _ _ _ (by decide)] at h)), RI.keep (by decide) p0, RI.keep (by decide) p1, fun _ => rfl, RI.keep (by decide) p3, RI.keep (by decide) p4, RI.keep (by decide) p5, RI.keep (by decide) p6, RI.keep (by decide) p7, RI.keep (by decide) p8, RI.keep (by decide) p9, RI.keep (by decide) px10⟩
    · have hd := hd _ rfl
      simp [Region.binds] at hd
      obtain rfl := p2 (by simp [hd])
      refine RI.wpOp_plain rfl rfl ?_
      go_simp
      exact ⟨u12, u13, _, _, u16, u17, u18, u19, u20, u21, F, v5, v10, v11, v22, v23, rfl, hP, (fun h => q (by rwa [RI.don_other _ _ _ (by decide)] at h)), RI.keep (by decide) p0, RI.keep (by decide) p1, RI.keep (by decide) p2, fun _ => rfl, RI.keep (by decide) p4, RI.keep (by decide) p5, RI.keep (by decide) p6, RI.keep (by decide) p7, RI.keep (by decide) p8, RI.keep (by decide) p9, RI.keep (by decide) px10⟩
    · have hd := hd _ rfl
      simp [Region.binds] at hd
      obtain rfl := p3 (by simp [hd])
      refine RI.wpOp_plain rfl rfl ?_
      have c0 : wx.cell? ⟨w.heap.size, 1, none⟩ = some (.int .u64 (dg a 1)) := hP.v0.c 1 (by decide)
      go_simp
      exact ⟨u12, u13, u14, _, _, u17, u18, u19, u20, u21, F, v5, v10, v11, v22, v23, rfl, hP, (fun h => q (by rwa [RI.don_other _ _ _ (by decide)] at h)), RI.keep (by decide) p0, RI.keep (by decide) p1, RI.keep (by decide) p2, RI.keep (by decide) p3, fun _ => rfl, RI.keep (by decide) p5, RI.keep (by decide) p6, RI.keep (by decide) p7, RI.keep (by decide) p8, RI.keep (by decide) p9, RI.keep (by decide) px10⟩
    · refine RI.wpOp_plain rfl rfl ?_
      go_simp
      exact ⟨u12, u13, u14, u15, u16, _, u18, u19, u20, u21, F, v5, v10, v11, v22, v23, rfl, hP, (fun h => q (by rwa [RI.don_other _ _ _ (by decide)] at h)), RI.keep (by decide) p0, RI.keep (by decide) p1, RI.keep (by decide) p2, RI.keep (by decide) p3, RI.keep (by decide) p4, fun _ => rfl, RI.keep (by decide) p6, RI.keep (by decide) p7, RI.keep (by decide) p8, RI.keep (by decide) p9, RI.keep (by decide) px10⟩
    · have hd := hd _ rfl
      simp [Region.binds] at hd
      obtain rfl := p5 (by simp [hd])
      refine RI.wpOp_plain rfl rfl ?_
      go_simp
      exact ⟨u12, u13, u14, u15, u16, _, _, u19, u20, u21, F, v5, v10, v11, v22, v23, rfl, hP, (fun h => q (by rwa [RI.don_other _ _ _ (by decide)] at h)), RI.keep (by decide) p0, RI.keep (by decide) p1, RI.keep (by decide) p2, RI.keep (by decide) p3, RI.keep (by decide) p4, RI.keep (by decide) p5, fun _ => rfl, RI.keep (by decide) p7, RI.keep (by decide) p8, RI.keep (by decide) p9, RI.keep (by decide) px10⟩
    · have hd := hd _ rfl
      simp [Region.binds] at hd
      obtain rfl := p6 (by simp [hd])
      refine RI.wpOp_plain rfl rfl ?_
      have c0 : wx.cell? ⟨w.heap.size + 1, 1, none⟩ = some (.int .u64 (dg b 1)) := hP.v1.c 1 (by decide)
      go_simp
      exact ⟨u12, u13, u14, u15, u16, u17, _, _, u20, u21, F, v5, v10, v11, v22, v23, rfl, hP, (fun h => q (by rwa [RI.don_other _ _ _ (by decide)] at h)), RI.keep (by decide) p0, RI.keep (by decide) p1, RI.keep (by decide) p2, RI.keep (by decide) p3, RI.keep (by decide) p4, RI.keep (by decide) p5, RI.keep (by decide) p6, fun _ => rfl, RI.keep (by decide) p8, RI.keep (by decide) p9, RI.keep (by decide) px10⟩
    · have hd := hd _ rfl
      simp [Region.binds] at hd
      obtain rfl := p1 (by simp [hd])
      obtain rfl := p4 (by simp [hd])
      obtain rfl := p7 (by simp [hd])
      refine RI.wpOp_plain rfl rfl ?_
      go_simp
      refine (KF.out _ _ _).mono ?_
      rintro e w1 ⟨rfl, hb1⟩
      exact ⟨u12, _, u14, u15, _, u17, u18, _, _, u21, F, v5, v10, v11, v22, v23, rfl, P4_below hP hb1, (fun h => q (by rwa [RI.don_other _ _ _ (by decide)] at h)), RI.keep (by decide) p0, RI.keep (by decide) p1, RI.keep (by decide) p2, RI.keep (by decide) p3, RI.keep (by decide) p4, RI.keep (by decide) p5, RI.keep (by decide) p6, RI.keep (by decide) p7, fun _ => rfl, RI.keep (by decide) p9, RI.keep (by decide) (px10)⟩
    · have hd := hd _ rfl
      simp [Region.binds] at hd
      obtain rfl := p0 (by simp [hd])
      obtain rfl := p1 (by simp [hd])
      obtain rfl := p2 (by simp [hd])
      obtain rfl := p3 (by simp [hd])
      obtain rfl := p4 (by simp [hd])
      obtain rfl := p5 (by simp [hd])
      obtain rfl := p6 (by simp [hd])
      obtain rfl := p7 (by simp [hd])
      obtain rfl := p8 (by simp [hd])
      refine RI.wpOp_plain rfl rfl ?_
      go_simp
      exact ⟨_, _, _, _, _, _, _, _, _, _, F, v5, v10, v11, v22, v23, rfl, hP, (fun h => q (by rwa [RI.don_other _ _ _ (by decide)] at h)), RI.keep (by decide) p0, RI.keep (by decide) p1, RI.keep (by decide) p2, RI.keep (by decide) p3, RI.keep (by decide) p4, RI.keep (by decide) p5, RI.keep (by decide) p6, RI.keep (by decide) p7, RI.keep (by decide) p8, fun _ => rfl, RI.keep (by decide) px10⟩
    · have hd := hd _ rfl
      simp [Region.binds] at hd
      obtain rfl := p0 (by simp [hd])
      obtain rfl := p1 (by simp [hd])
      obtain rfl := p2 (by simp [hd])
      obtain rfl := p3 (by simp [hd])
      obtain rfl := p4 (by simp [hd])
      obtain rfl := p5 (by simp [hd])
      obtain rfl := p6 (by simp [hd])
      obtain rfl := p7 (by simp [hd])
      obtain rfl := p8 (by simp [hd])
      obtain rfl := p9 (by simp [hd])
      refine RI.wpOp_plain rfl rfl ?_
      obtain rfl := q hf
      have c3 := hP.v3.c 1 (by decide)
      have f3 : ∀ o, wx.frozen? ⟨w.heap.size + 1 + 1 + 1, o, none⟩ = false := hP.v3.f
      go_simp
      exact ⟨_, _, _, _, _, _, _, _, _, _, _, v5, v10, v11, v22, v23, rfl, P4_set hP (by decide), (fun h => absurd h (by simp [RI.don])), RI.keep (by decide) p0, RI.keep (by decide) p1, RI.keep (by decide) p2, RI.keep (by decide) p3, RI.keep (by decide) p4, RI.keep (by decide) p5, RI.keep (by decide) p6, RI.keep (by decide) p7, RI.keep (by decide) p8, RI.keep (by decide) p9, fun _ => rfl⟩
  clear m0
  intro d x wx hI hd
  obtain ⟨u12, u13, u14, u15, u16, u17, u18, u19, u20, u21, F, v5, v10, v11, v22, v23, rfl, hP, q, p0, p1, p2, p3, p4, p5, p6, p7, p8, p9, px10⟩ := hI
  obtain rfl := p0 (hd 0 (by decide))
  obtain rfl := p1 (hd 1 (by decide))
  obtain rfl := p2 (hd 2 (by decide))
  obtain rfl := p3 (hd 3 (by decide))
  obtain rfl := p4 (hd 4 (by decide))
  obtain rfl := p5 (hd 5 (by decide))
  obtain rfl := p6 (hd 6 (by decide))
  obtain rfl := p7 (hd 7 (by decide))
  obtain rfl := p8 (hd 8 (by decide))
  obtain rfl := p9 (hd 9 (by decide))
  rw [px10 (hd 10 (by decide))] at hP
  have m0 := hP
  clear p0 p1 p2 p3 p4 p5 p6 p7 p8 p9 px10 q hd hP
  go_wp2_with fail
  rw [rounds_succ]
  go_upto_region 5 with fail
  refine RI.wp_region_inv (PB2 w a b f (.func (Fn.func 32) #[] #[]) (upd (upd (dg 0) 0 (f (dg a 0) (dg b 0))) 1 (f (dg a 1) (dg b 1)))) (by kernel_rfl) (by kernel_rfl) ?_ ?_ ?_
  · exact ⟨_, _, _, _, _, _, _, _, _, _, upd (upd (dg 0) 0 (f (dg a 0) (dg b 0))) 1 (f (dg a 1) (dg b 1)), _, _, _, _, _, rfl, P4_drew m0, fun _ => rfl, nofun, nofun, nofun, nofun, nofun, nofun, nofun, nofun, nofun, nofun, nofun⟩
  · clear m0
    intro d x wx i hI hi hm
    obtain ⟨u12, u13, u14, u15, u16, u17, u18, u19, u20, u21, F, v5, v10, v11, v22, v23, rfl, hP, q, p0, p1, p2, p3, p4, p5, p6, p7, p8, p9, px10⟩ := hI
    have hi' : i = 0 ∨ i = 1 ∨ i = 2 ∨ i = 3 ∨ i = 4 ∨ i = 5 ∨ i = 6 ∨ i = 7 ∨ i = 8 ∨ i = 9 ∨ i = 10 := by simp at hi; omega
    have hd := hm.2
    have hf := hm.1
    clear hm hi
    rcases hi' with rfl | rfl | rfl | rfl | rfl | rfl | rfl | rfl | rfl | rfl | rfl
    · refine RI.wpOp_plain rfl rfl ?_
      go_simp
      exact ⟨_, u13, u14, u15, u16, u17, u18, u19, u20, u21, F, v5, v10, v11, v22, v23, rfl, hP, (fun h => q (by rwa [RI.don_other _ _ _ (by decide)] at h)), fun _ => rfl, RI.keep (by decide) p1, RI.keep (by decide) p2, RI.keep (by decide) p3, RI.keep (by decide) p4, RI.keep (by decide) p5, RI.keep (by decide) p6, RI.keep (by decide) p7, RI.keep (by decide) p8, RI.keep (by decide) p9, RI.keep (by decide) px10⟩
    · refine RI.wpOp_plain rfl rfl ?_
      go_simp
      exact ⟨u12, _, u14, u15, u16, u17, u18, u19, u20, u21, F, v5, v10, v11, v22, v23, rfl, hP, (fun h => q (by rwa [RI.don_other _ _ _ (by decide)] at h)), RI.keep (by decide) p0, fun _ => rfl, RI.keep (by decide) p2, RI.keep (by decide) p3, RI.keep (by decide) p4, RI.keep (by decide) p5, RI.keep (by decide) p6, RI.keep (by decide) p7, RI.keep (by decide) p8, RI.keep (by decide) p9, RI.keep (by decide) px10⟩
    · refine RI.wpOp_plain rfl rfl ?_
      go_simp
      exact ⟨u12, u13, _, u15, u16, u17, u18, u19, u20, u21, F, v5, v10, v11, v22, v23, rfl, hP, (fun h => q (by rwa [RI.don_other _ _ _ (by decide)] at h)), RI.keep (by decide) p0, RI.keep (by decide) p1, fun _ => rfl, RI.keep (by decide) p3, RI.keep (by decide) p4, RI.keep (by decide) p5, RI.keep (by decide) p6, RI.keep (by decide) p7, RI.keep (by decide) p8, RI.keep (by decide) p9, RI.keep (by decide) px10⟩
    · have hd := hd _ rfl
      simp [Region.binds] at hd
      obtain rfl := p2 (by simp [hd])
      refine RI.wpOp_plain rfl rfl ?_
      go_simp
      exact ⟨u12, u13, _, _, u16, u17, u18, u19, u20, u21, F, v5, v10, v11, v22, v23, rfl, hP, (fun h => q (by rwa [RI.don_other _ _ _ (by decide)] at h)), RI.keep (by decide) p0, RI.keep (by decide) p1, RI.keep (by decide) p2, fun _ => rfl, RI.keep (by decide) p4, RI.keep (by decide) p5, RI.keep (by decide) p6, RI.keep (by decide) p7, RI.keep (by decide) p8, RI.keep (by decide) p9, RI.keep (by decide) px10⟩
    · have hd := hd _ rfl
      simp [Region.binds] at hd
      obtain rfl := p3 (by simp [hd])
      refine RI.wpOp_plain rfl rfl ?_
      have c0 : wx.cell? ⟨w.heap.size, 2, none⟩ = some (.int .u64 (dg a 2)) := hP.v0.c 2 (by decide)
      go_simp
      exact ⟨u12, u13, u14, _, _, u17, u18, u19, u20, u21, F, v5, v10, v11, v22, v23, rfl, hP, (fun h => q (by rwa [RI.don_other _ _ _ (by decide)] at h)), RI.keep (by decide) p0, RI.keep (by decide) p1, RI.keep (by decide) p2, RI.keep (by decide) p3, fun _ => rfl, RI.keep (by decide) p5, RI.keep (by decide) p6, RI.keep (by decide) p7, RI.keep (by decide) p8, RI.keep (by decide) p9, RI.keep (by decide) px10⟩
    · refine RI.wpOp_plain rfl rfl ?_
      go_simp
      exact ⟨u12, u13, u14, u15, u16, _, u18, u19, u20, u21, F, v5, v10, v11, v22, v23, rfl, hP, (fun h => q (by rwa [RI.don_other _ _ _ (by decide)] at h)), RI.keep (by decide) p0, RI.keep (by decide) p1, RI.keep (by decide) p2, RI.keep (by decide) p3, RI.keep (by decide) p4, fun _ => rfl, RI.keep (by decide) p6, RI.keep (by decide) p7, RI.keep (by decide) p8, RI.keep (by decide) p9, RI.keep (by decide) px10⟩
    · have hd := hd _ rfl
      simp [Region.binds] at hd
      obtain rfl := p5 (by simp [hd])
      refine RI.wpOp_plain rfl rfl ?_
      go_simp
      exact ⟨u12, u13, u14, u15, u16, _, _, u19, u20, u21, F, v5, v10, v11, v22, v23, rfl, hP, (fun h => q (by rwa [RI.don_other _ _ _ (by decide)] at h)), RI.keep (by decide) p0, RI.keep (by decide) p1, RI.keep (by decide) p2, RI.keep (by decide) p3, RI.keep (by decide) p4, RI.keep (by decide) p5, fun _ => rfl, RI.keep (by decide) p7, RI.keep (by decide) p8, RI.keep (by decide) p9, RI.keep (by decide) px10⟩
    · have hd := hd _ rfl
      simp [Region.binds] at hd
      obtain rfl := p6 (by simp [hd])
      refine RI.wpOp_plain rfl rfl ?_
      have c0 : wx.cell? ⟨w.heap.size + 1, 2, none⟩ = some (.int .u64 (dg b 2)) := hP.v1.c 2 (by decide)
      go_simp
      exact ⟨u12, u13, u14, u15, u16, u17, _, _, u20, u21, F, v5, v10, v11, v22, v23, rfl, hP, (fun h => q (by rwa [RI.don_other _ _ _ (by decide)] at h)), RI.keep (by decide) p0, RI.keep (by decide) p1, RI.keep (by decide) p2, RI.keep (by decide) p3, RI.keep (by decide) p4, RI.keep (by decide) p5, RI.keep (by decide) p6, fun _ => rfl, RI.keep (by decide) p8, RI.keep (by decide) p9, RI.keep (by decide) px10⟩
    · have hd := hd _ rfl
      simp [Region.binds] at hd
      obtain rfl := p1 (by simp [hd])
      obtain rfl := p4 (by simp [hd])
      obtain rfl := p7 (by simp [hd])
      refine RI.wpOp_plain rfl rfl ?_
      go_simp
      refine (KF.out _ _ _).mono ?_
      rintro e w1 ⟨rfl, hb1⟩
      exact ⟨u12, _, u14, u15, _, u17, u18, _, _, u21, F, v5, v10, v11, v22, v23, rfl, P4_below hP hb1, (fun h => q (by rwa [RI.don_other _ _ _ (by decide)] at h)), RI.keep (by decide) p0, RI.keep (by decide) p1, RI.keep (by decide) p2, RI.keep (by decide) p3, RI.keep (by decide) p4, RI.keep (by decide) p5, RI.keep (by decide) p6, RI.keep (by decide) p7, fun _ => rfl, RI.keep (by decide) p9, RI.keep (by decide) (px10)⟩
    · have hd := hd _ rfl
      simp [Region.binds] at hd
      obtain rfl := p0 (by simp [hd])
      obtain rfl := p1 (by simp [hd])
      obtain rfl := p2 (by simp [hd])
      obtain rfl := p3 (by simp [hd])
      obtain rfl := p4 (by simp [hd])
      obtain rfl := p5 (by simp [hd])
      obtain rfl := p6 (by simp [hd])
      obtain rfl := p7 (by simp [hd])
      obtain rfl := p8 (by simp [hd])
      refine RI.wpOp_plain rfl rfl ?_
      go_simp
      exact ⟨_, _, _, _, _, _, _, _, _, _, F, v5, v10, v11, v22, v23, rfl, hP, (fun h => q (by rwa [RI.don_other _ _ _ (by decide)] at h)), RI.keep (by decide) p0, RI.keep (by decide) p1, RI.keep (by decide) p2, RI.keep (by decide) p3, RI.keep (by decide) p4, RI.keep (by decide) p5, RI.keep (by decide) p6, RI.keep (by decide) p7, RI.keep (by decide) p8, fun _ => rfl, RI.keep (by decide) px10⟩
    · have hd := hd _ rfl
      simp [Region.binds] at hd
      obtain rfl := p0 (by simp [hd])
      obtain rfl := p1 (by simp [hd])
      obtain rfl := p2 (by simp [hd])
      obtain rfl := p3 (by simp [hd])
      obtain rfl := p4 (by simp [hd])
      obtain rfl := p5 (by simp [hd])
      obtain rfl := p6 (by simp [hd])
      obtain rfl := p7 (by simp [hd])
      obtain rfl := p8 (by simp [hd])
      obtain rfl := p9 (by simp [hd])
      refine RI.wpOp_plain rfl rfl ?_
      obtain rfl := q hf
      have c3 := hP.v3.c 2 (by decide)
      have f3 : ∀ o, wx.frozen? ⟨w.heap.size + 1 + 1 + 1, o, none⟩ = false := hP.v3.f
      go_simp
      exact ⟨_, _, _, _, _, _, _, _, _, _, _, v5, v10, v11, v22, v23, rfl, P4_set hP (by decide), (fun h => absurd h (by simp [RI.don])), RI.keep (by decide) p0, RI.keep (by decide) p1, RI.keep (by decide) p2, RI.keep (by decide) p3, RI.keep (by decide) p4, RI.keep (by decide) p5, RI.keep (by decide) p6, RI.keep (by decide) p7, RI.keep (by decide) p8, RI.keep (by decide) p9, fun _ => rfl⟩
  clear m0
  intro d x wx hI hd
  obtain ⟨u12, u13, u14, u15, u16, u17, u18, u19, u20, u21, F, v5, v10, v11, v22, v23, rfl, hP, q, p0, p1, p2, p3, p4, p5, p6, p7, p8, p9, px10⟩ := hI
  obtain rfl := p0 (hd 0 (by decide))
  obtain rfl := p1 (hd 1 (by decide))
  obtain rfl := p2 (hd 2 (by decide))
  obtain rfl := p3 (hd 3 (by decide))
  obtain rfl := p4 (hd 4 (by decide))
  obtain rfl := p5 (hd 5 (by decide))
  obtain rfl := p6 (hd 6 (by decide))
  obtain rfl := p7 (hd 7 (by decide))
  obtain rfl := p8 (hd 8 (by decide))
  obtain rfl := p9 (hd 9 (by decide))
  rw [px10 (hd 10 (by decide))] at hP
  have m0 := hP
  clear p0 p1 p2 p3 p4 p5 p6 p7 p8 p9 px10 q hd hP
  go_wp2_with fail
  rw [rounds_succ]
  go_upto_region 5 with fail
  refine RI.wp_region_inv (PB3 w a b f (.func (Fn.func 32) #[] #[]) (upd (upd (upd (dg 0) 0 (f (dg a 0) (dg b 0))) 1 (f (dg a 1) (dg b 1))) 2 (f (dg a 2) (dg b 2)))) (by kernel_rfl) (by kernel_rfl) ?_ ?_ ?_
  · exact ⟨_, _, _, _, _, _, _, _, _, _, upd (upd (upd (dg 0) 0 (f (dg a 0) (dg b 0))) 1 (f (dg a 1) (dg b 1))) 2 (f (dg a 2) (dg b 2)), _, _, _, _, _, rfl, P4_drew m0, fun _ => rfl, nofun, nofun, nofun, nofun, nofun, nofun, nofun, nofun, nofun, nofun, nofun⟩
  · clear m0
    intro d x wx i hI hi hm
    obtain ⟨u12, u13, u14, u15, u16, u17, u18, u19, u20, u21, F, v5, v10, v11, v22, v23, rfl, hP, q, p0, p1, p2, p3, p4, p5, p6, p7, p8, p9, px10⟩ := hI
    have hi' : i = 0 ∨ i = 1 ∨ i = 2 ∨ i = 3 ∨ i = 4 ∨ i = 5 ∨ i = 6 ∨ i = 7 ∨ i = 8 ∨ i = 9 ∨ i = 10 := by simp at hi; omega
    have hd := hm.2
    have hf := hm.1
    clear hm hi
    rcases hi' with rfl | rfl | rfl | rfl | rfl | rfl | rfl | rfl | rfl | rfl | rfl
    · refine RI.wpOp_plain rfl rfl ?_
      go_simp
      exact ⟨_, u13, u14, u15, u16, u17, u18, u19, u20, u21, F, v5, v10, v11, v22, v23, rfl, hP, (fun h => q (by rwa [RI.don_other _ _ _ (by decide)] at h)), fun _ => rfl, RI.keep (by decide) p1, RI.keep (by decide) p2, RI.keep (by decide) p3, RI.keep (by decide) p4, RI.keep (by decide) p5, RI.keep (by decide) p6, RI.keep (by decide) p7, RI.keep (by decide) p8, RI.keep (by decide) p9, RI.keep (by decide) px10⟩
    · refine RI.wpOp_plain rfl rfl ?_
      go_simp
      exact ⟨u12, _, u14, u15, u16, u17, u18, u19, u20, u21, F, v5, v10, v11, v22, v23, rfl, hP, (fun h => q (by rwa [RI.don_other _ _ _ (by decide)] at h)), RI.keep (by decide) p0, fun _ => rfl, RI.keep (by decide) p2, RI.keep (by decide) p3, RI.keep (by decide) p4, RI.keep (by decide) p5, RI.keep (by decide) p6, RI.keep (by decide) p7, RI.keep (by decide) p8, RI.keep (by decide) p9, RI.keep (by decide) px10⟩
    · refine RI.wpOp_plain rfl rfl ?_
      go_simp
      exact ⟨u12, u13, _, u15, u16, u17, u18, u19, u20, u21, F, v5, v10, v11, v22, v23, rfl, hP, (fun h => q (by rwa [RI.don_other _ _ _ (by decide)] at h)), RI.keep (by decide) p0, RI.keep (by decide) p1, fun _ => rfl, RI.keep (by decide) p3, RI.keep (by decide) p4, RI.keep (by decide) p5, RI.keep (by decide) p6, RI.keep (by decide) p7, RI.keep (by decide) p8, RI.keep (by decide) p9, RI.keep (by decide) px10⟩
    · have hd := hd _ rfl
      simp [Region.binds] at hd
      obtain rfl := p2 (by simp [hd])
      refine RI.wpOp_plain rfl rfl ?_
      go_simp
      exact ⟨u12, u13, _, _, u16, u17, u18, u19, u20, u21, F, v5, v10, v11, v22, v23, rfl, hP, (fun h => q (by rwa [RI.don_other _ _ _ (by decide)] at h)), RI.keep (by decide) p0, RI.keep (by decide) p1, RI.keep (by decide) p2, fun _ => rfl, RI.keep (by decide) p4, RI.keep (by decide) p5, RI.keep (by decide) p6, RI.keep (by decide) p7, RI.keep (by decide) p8, RI.keep (by decide) p9, RI.keep (by decide) px10⟩
    · have hd := hd _ rfl
      simp [Region.binds] at hd
      obtain rfl := p3 (by simp [hd])
      refine RI.wpOp_plain rfl rfl ?_
      have c0 : wx.cell? ⟨w.heap.size, 3, none⟩ = some (.int .u64 (dg a 3)) := hP.v0.c 3 (by decide)
      go_simp
      exact ⟨u12, u13, u14, _, _, u17, u18, u19, u20, u21, F, v5, v10, v11, v22, v23, rfl, hP, (fun h => q (by rwa [RI.don_other _ _ _ (by decide)] at h)), RI.keep (by decide) p0, RI.keep (by decide) p1, RI.keep (by decide) p2, RI.keep (by decide) p3, fun _ => rfl, RI.keep (by decide) p5, RI.keep (by decide) p6, RI.keep (by decide) p7, RI.keep (by decide) p8, RI.keep (by decide) p9, RI.keep (by decide) px10⟩
    · refine RI.wpOp_plain rfl rfl ?_
      go_simp
      exact ⟨u12, u13, u14, u15, u16, _, u18, u19, u20, u21, F, v5, v10, v11, v22, v23, rfl, hP, (fun h => q (by rwa [RI.don_other _ _ _ (by decide)] at h)), RI.keep (by decide) p0, RI.keep (by decide) p1, RI.keep (by decide) p2, RI.keep (by decide) p3, RI.keep (by decide) p4, fun _ => rfl, RI.keep (by decide) p6, RI.keep (by decide) p7, RI.keep (by decide) p8, RI.keep (by decide) p9, RI.keep (by decide) px10⟩
    · have hd := hd _ rfl
      simp [Region.binds] at hd
      obtain rfl := p5 (by simp [hd])
      refine RI.wpOp_plain rfl rfl ?_
      go_simp
      exact ⟨u12, u13, u14, u15, u16, _, _, u19, u20, u21, F, v5, v10, v11, v22, v23, rfl, hP, (fun h => q (by rwa [RI.don_other _ _ _ (by decide)] at h)), RI.keep (by decide) p0, RI.keep (by decide) p1, RI.keep (by decide) p2, RI.keep (by decide) p3, RI.keep (by decide) p4, RI.keep (by decide) p5, fun _ => rfl, RI.keep (by decide) p7, RI.keep (by decide) p8, RI.keep (by decide) p9, RI.keep (by decide) px10⟩
    · have hd := hd _ rfl
      simp [Region.binds] at hd
      obtain rfl := p6 (by simp [hd])
      refine RI.wpOp_plain rfl rfl ?_
      have c0 : wx.cell? ⟨w.heap.size + 1, 3, none⟩ = some (.int .u64 (dg b 3)) := hP.v1.c 3 (by decide)
      go_simp
      exact ⟨u12, u13, u14, u15, u16, u17, _, _, u20, u21, F, v5, v10, v11, v22, v23, rfl, hP, (fun h => q (by rwa [RI.don_other _ _ _ (by decide)] at h)), RI.keep (by decide) p0, RI.keep (by decide) p1, RI.keep (by decide) p2, RI.keep (by decide) p3, RI.keep (by decide) p4, RI.keep (by decide) p5, RI.keep (by decide) p6, fun _ => rfl, RI.keep (by decide) p8, RI.keep (by decide) p9, RI.keep (by decide) px10⟩
    · have hd := hd _ rfl
      simp [Region.binds] at hd
      obtain rfl := p1 (by simp [hd])
      obtain rfl := p4 (by simp [hd])
      obtain rfl := p7 (by simp [hd])
      refine RI.wpOp_plain rfl rfl ?_
      go_simp
      refine (KF.out _ _ _).mono ?_
      rintro e w1 ⟨rfl, hb1⟩
      exact ⟨u12, _, u14, u15, _, u17, u18, _, _, u21, F, v5, v10, v11, v22, v23, rfl, P4_below hP hb1, (fun h => q (by rwa [RI.don_other _ _ _ (by decide)] at h)), RI.keep (by decide) p0, RI.keep (by decide) p1, RI.keep (by decide) p2, RI.keep (by decide) p3, RI.keep (by decide) p4, RI.keep (by decide) p5, RI.keep (by decide) p6, RI.keep (by decide) p7, fun _ => rfl, RI.keep (by decide) p9, RI.keep (by decide) (px10)⟩
    · have hd := hd _ rfl
      simp [Region.binds] at hd
      obtain rfl := p0 (by simp [hd])
      obtain rfl := p1 (by simp [hd])
      obtain rfl := p2 (by simp [hd])
      obtain rfl := p3 (by simp [hd])
      obtain rfl := p4 (by simp [hd])
      obtain rfl := p5 (by simp [hd])
      obtain rfl := p6 (by simp [hd])
      obtain rfl := p7 (by simp [hd])
      obtain rfl := p8 (by simp [hd])
      refine RI.wpOp_plain rfl rfl ?_
      go_simp
      exact ⟨_, _, _, _, _, _, _, _, _, _, F, v5, v10, v11, v22, v23, rfl, hP, (fun h => q (by rwa [RI.don_other _ _ _ (by decide)] at h)), RI.keep (by decide) p0, RI.keep (by decide) p1, RI.keep (by decide) p2, RI.keep (by decide) p3, RI.keep (by decide) p4, RI.keep (by decide) p5, RI.keep (by decide) p6, RI.keep (by decide) p7, RI.keep (by decide) p8, fun _ => rfl, RI.keep (by decide) px10⟩
    · have hd := hd _ rfl
      simp [Region.binds] at hd
      obtain rfl := p0 (by simp [hd])
      obtain rfl := p1 (by simp [hd])
      obtain rfl := p2 (by simp [hd])
      obtain rfl := p3 (by simp [hd])
      obtain rfl := p4 (by simp [hd])
      obtain rfl := p5 (by simp [hd])
      obtain rfl := p6 (by simp [hd])
      obtain rfl := p7 (by simp [hd])
      obtain rfl := p8 (by simp [hd])
      obtain rfl := p9 (by simp [hd])
      refine RI.wpOp_plain rfl rfl ?_
      obtain rfl := q hf
      have c3 := hP.v3.c 3 (by decide)
      have f3 : ∀ o, wx.frozen? ⟨w.heap.size + 1 + 1 + 1, o, none⟩ = false := hP.v3.f
      go_simp
      exact ⟨_, _, _, _, _, _, _, _, _, _, _, v5, v10, v11, v22, v23, rfl, P4_set hP (by decide), (fun h => absurd h (by simp [RI.don])), RI.keep (by decide) p0, RI.keep (by decide) p1, RI.keep (by decide) p2, RI.keep (by decide) p3, RI.keep (by decide) p4, RI.keep (by decide) p5, RI.keep (by decide) p6, RI.keep (by decide) p7, RI.keep (by decide) p8, RI.keep (by decide) p9, fun _ => rfl⟩
  clear m0
  intro d x wx hI hd
  obtain ⟨u12, u13, u14, u15, u16, u17, u18, u19, u20, u21, F, v5, v10, v11, v22, v23, rfl, hP, q, p0, p1, p2, p3, p4, p5, p6, p7, p8, p9, px10⟩ := hI
  obtain rfl := p0 (hd 0 (by decide))
  obtain rfl := p1 (hd 1 (by decide))
  obtain rfl := p2 (hd 2 (by decide))
  obtain rfl := p3 (hd 3 (by decide))
  obtain rfl := p4 (hd 4 (by decide))
  obtain rfl := p5 (hd 5 (by decide))
  obtain rfl := p6 (hd 6 (by decide))
  obtain rfl := p7 (hd 7 (by decide))
  obtain rfl := p8 (hd 8 (by decide))
  obtain rfl := p9 (hd 9 (by decide))
  rw [px10 (hd 10 (by decide))] at hP
  have m0 := hP
  clear p0 p1 p2 p3 p4 p5 p6 p7 p8 p9 px10 q hd hP
  go_wp2_with fail
  rw [rounds_succ]
  have c3 : ∀ o, o < 4 → wx.cell? ⟨w.heap.size + 1 + 1 + 1, o, none⟩ = some (.int .u64 (dg N o)) := fun o ho => by
    rw [← HN.out o ho, m0.v3.c o ho]
    have : o = 0 ∨ o = 1 ∨ o = 2 ∨ o = 3 := by omega
    rcases this with rfl | rfl | rfl | rfl <;> rfl
  have c2 : ∀ o, o < 4 → wx.cell? ⟨w.heap.size + 1 + 1, o, none⟩ = some (.int .u64 (dg 0 o)) := m0.v2.c
  have f2 : ∀ o, wx.frozen? ⟨w.heap.size + 1 + 1, o, none⟩ = false := m0.v2.f
  have z2 := m0.v2.hi
  have HV : Hid (Vb w.heap.size (w.heap.size + 1 + 1) 4 (dg N) _) := Vb_set4 m0.v2
  have HB : Hid (Below w.heap.size w _) := Bel_set4 (h := w.heap.size + 1 + 1) (m := N) m0.bel (by omega)
  clear m0
  go_wp2_with fail
  exact bodyPost_ret (v := Wd N) (resultTw _ _ _ (w.heap.size + 1 + 1) N 6 rfl rfl HV.out.c) rfl ⟨rfl, HB.out⟩
set_option maxHeartbeats 4000000 in
set_option maxRecDepth 100000 in
theorem pbp_or (a b N : Nat) (f : Int → Int → Int) (KF : Hid (∀ (x y : Int) (w : World), Calls Try.prog 33 #[.int .u64 x, .int .u64 y] w fun e w' => e = .returned (.int .u64 (f x y)) ∧ Below w.heap.size w w')) (HN : Hid (∀ o, o < 4 → f (dg a o) (dg b o) = dg N o)) (w : World) :
    Calls Try.prog 30 #[Wd a, Wd b, .func (Fn.func 33) #[] #[]] w fun e w' => e = .returned (Wd N) ∧ Below w.heap.size w w' := by
  have m0 : P4 w a b (dg 0) ((((w.alloc (.cells #[.int .u64 (dg a 0), .int .u64 (dg a 1), .int .u64 (dg a 2), .int .u64 (dg a 3)] 24)).alloc (.cells #[.int .u64 (dg b 0), .int .u64 (dg b 1), .int .u64 (dg b 2), .int .u64 (dg b 3)] 24)).alloc (.cells #[.int .u64 0, .int .u64 0, .int .u64 0, .int .u64 0] 24)).alloc (.cells #[.int .u64 0, .int .u64 0, .int .u64 0, .int .u64 0] 24)) := by
    have k := M4_start w a b 24
    exact ⟨k.v0, k.v1, k.v2, k.v3, k.bel⟩
  conv => arg 3; unfold Wd
  go_enter Try.func30, Try.ntmps30
  go_wp2_with fail
  generalize (((w.alloc (.cells #[.int .u64 (dg a 0), .int .u64 (dg a 1), .int .u64 (dg a 2), .int .u64 (dg a 3)] 24)).alloc (.cells #[.int .u64 (dg b 0), .int .u64 (dg b 1), .int .u64 (dg b 2), .int .u64 (dg b 3)] 24)).alloc (.cells #[.int .u64 0, .int .u64 0, .int .u64 0, .int .u64 0] 24)).alloc (.cells #[.int .u64 0, .int .u64 0, .int .u64 0, .int .u64 0] 24) = W0 at m0 ⊢
  refine wp_loop_rounds 5 ?_
  rw [rounds_succ]
  go_upto_region 5 with fail
  refine RI.wp_region_inv (PB0 w a b f (.func (Fn.func 33) #[] #[]) (dg 0)) (by kernel_rfl) (by kernel_rfl) ?_ ?_ ?_
  · exact ⟨undef, undef, undef, undef, undef, undef, undef, undef, undef, undef, dg 0, _, _, _, _, _, rfl, P4_drew m0, fun _ => rfl, nofun, nofun, nofun, nofun, nofun, nofun, nofun, nofun, nofun, nofun, nofun⟩
  · clear m0
    intro d x wx i hI hi hm
    obtain ⟨u12, u13, u14, u15, u16, u17, u18, u19, u20, u21, F, v5, v10, v11, v22, v23, rfl, hP, q, p0, p1, p2, p3, p4, p5, p6, p7, p8, p9, px10⟩ := hI
    have hi' : i = 0 ∨ i = 1 ∨ i = 2 ∨ i = 3 ∨ i = 4 ∨ i = 5 ∨ i = 6 ∨ i = 7 ∨ i = 8 ∨ i = 9 ∨ i = 10 := by simp at hi; omega
    have hd := hm.2
    have hf := hm.1
    clear hm hi
    rcases hi' with rfl | rfl | rfl | rfl | rfl | rfl | rfl | rfl | rfl | rfl | rfl
    · refine RI.wpOp_plain rfl rfl ?_
      go_simp
      exact ⟨_, u13, u14, u15, u16, u17, u18, u19, u20, u21, F, v5, v10, v11, v22, v23, rfl, hP, (fun h => q (by rwa [RI.don_other _ _ _ (by decide)] at h)), fun _ => rfl, RI.keep (by decide) p1, RI.keep (by decide) p2, RI.keep (by decide) p3, RI.keep (by decide) p4, RI.keep (by decide) p5, RI.keep (by decide) p6, RI.keep (by decide) p7, RI.keep (by decide) p8, RI.keep (by decide) p9, RI.keep (by decide) px10⟩
    · refine RI.wpOp_plain rfl rfl ?_
      go_simp
      exact ⟨u12, _, u14, u15, u16, u17, u18, u19, u20, u21, F, v5, v10, v11, v22, v23, rfl, hP, (fun h => q (by rwa [RI.don_other _ _ _ (by decide)] at h)), RI.keep (by decide) p0, fun _ => rfl, RI.keep (by decide) p2, RI.keep (by decide) p3, RI.keep (by decide) p4, RI.keep (by decide) p5, RI.keep (by decide) p6, RI.keep (by decide) p7, RI.keep (by decide) p8, RI.keep (by decide) p9, RI.keep (by decide) px10⟩
    · refine RI.wpOp_plain rfl rfl ?_
      go_simp
      exact ⟨u12, u13, _, u15, u16, u17, u18, u19, u20, u21, F, v5, v10, v11, v22, v23, rfl, hP, (fun h => q (by rwa [RI.don_other _ _ _ (by decide)] at h)), RI.keep (by decide) p0, RI.keep (by decide) p1, fun _ => rfl, RI.keep (by decide) p3, RI.keep (by decide) p4, RI.keep (by decide) p5, RI.keep (by decide) p6, RI.keep (by decide) p7, RI.keep (by decide) p8, RI.keep (by decide) p9, RI.keep (by decide) px10⟩
    · have hd := hd _ rfl
      simp [Region.binds] at hd
      obtain rfl := p2 (by simp [hd])
      refine RI.wpOp_plain rfl rfl ?_
      go_simp
      exact ⟨u12, u13, _, _, u16, u17, u18, u19, u20, u21, F, v5, v10, v11, v22, v23, rfl, hP, (fun h => q (by rwa [RI.don_other _ _ _ (by decide)] at h)), RI.keep (by decide) p0, RI.keep (by decide) p1, RI.keep (by decide) p2, fun _ => rfl, RI.keep (by decide) p4, RI.keep (by decide) p5, RI.keep (by decide) p6, RI.keep (by decide) p7, RI.keep (by decide) p8, RI.keep (by decide) p9, RI.keep (by decide) px10⟩
    · have hd := hd _ rfl
      simp [Region.binds] at hd
      obtain rfl := p3 (by simp [hd])
      refine RI.wpOp_plain rfl rfl ?_
      have c0 : wx.cell? ⟨w.heap.size, 0, none⟩ = some (.int .u64 (dg a 0)) := hP.v0.c 0 (by decide)
      go_simp
      exact ⟨u12, u13, u14, _, _, u17, u18, u19, u20, u21, F, v5, v10, v11, v22, v23, rfl, hP, (fun h => q (by rwa [RI.don_other _ _ _ (by decide)] at h)), RI.keep (by decide) p0, RI.keep (by decide) p1, RI.keep (by decide) p2, RI.keep (by decide) p3, fun _ => rfl, RI.keep (by decide) p5, RI.keep (by decide) p6, RI.keep (by decide) p7, RI.keep (by decide) p8, RI.keep (by decide) p9, RI.keep (by decide) px10⟩
    · refine RI.wpOp_plain rfl rfl ?_
      go_simp
      exact ⟨u12, u13, u14, u15, u16, _, u18, u19, u20, u21, F, v5, v10, v11, v22, v23, rfl, hP, (fun h => q (by rwa [RI.don_other _ _ _ (by decide)] at h)), RI.keep (by decide) p0, RI.keep (by decide) p1, RI.keep (by decide) p2, RI.keep (by decide) p3, RI.keep (by decide) p4, fun _ => rfl, RI.keep (by decide) p6, RI.keep (by decide) p7, RI.keep (by decide) p8, RI.keep (by decide) p9, RI.keep (by decide) px10⟩
    · have hd := hd _ rfl
      simp [Region.binds] at hd
      obtain rfl := p5 (by simp [hd])
      refine RI.wpOp_plain rfl rfl ?_
      go_simp
      exact ⟨u12, u13, u14, u15, u16, _, _, u19, u20, u21, F, v5, v10, v11, v22, v23, rfl, hP, (fun h => q (by rwa [RI.don_other _ _ _ (by decide)] at h)), RI.keep (by decide) p0, RI.keep (by decide) p1, RI.keep (by decide) p2, RI.keep (by decide) p3, RI.keep (by decide) p4, RI.keep (by decide) p5, fun _ => rfl, RI.keep (by decide) p7, RI.keep (by decide) p8, RI.keep (by decide) p9, RI.keep (by decide) px10⟩
    · have hd := hd _ rfl
      simp [Region.binds] at hd
      obtain rfl := p6 (by simp [hd])
      refine RI.wpOp_plain rfl rfl ?_
      have c0 : wx.cell? ⟨w.heap.size + 1, 0, none⟩ = some (.int .u64 (dg b 0)) := hP.v1.c 0 (by decide)
      go_simp
      exact ⟨u12, u13, u14, u15, u16, u17, _, _, u20, u21, F, v5, v10, v11, v22, v23, rfl, hP, (fun h => q (by rwa [RI.don_other _ _ _ (by decide)] at h)), RI.keep (by decide) p0, RI.keep (by decide) p1, RI.keep (by decide) p2, RI.keep (by decide) p3, RI.keep (by decide) p4, RI.keep (by decide) p5, RI.keep (by decide) p6, fun _ => rfl, RI.keep (by decide) p8, RI.keep (by decide) p9, RI.keep (by decide) px10⟩
    · have hd := hd _ rfl
      simp [Region.binds] at hd
      obtain rfl := p1 (by simp [hd])
      obtain rfl := p4 (by simp [hd])
      obtain rfl := p7 (by simp [hd])
      refine RI.wpOp_plain rfl rfl ?_
      go_simp
      refine (KF.out _ _ _).mono ?_
      rintro e w1 ⟨rfl, hb1⟩
      exact ⟨u12, _, u14, u15, _, u17, u18, _, _, u21, F, v5, v10, v11, v22, v23, rfl, P4_below hP hb1, (fun h => q (by rwa [RI.don_other _ _ _ (by decide)] at h)), RI.keep (by decide) p0, RI.keep (by decide) p1, RI.keep (by decide) p2, RI.keep (by decide) p3, RI.keep (by decide) p4, RI.keep (by decide) p5, RI.keep (by decide) p6, RI.keep (by decide) p7, fun _ => rfl, RI.keep (by decide) p9, RI.keep (by decide) (px10)⟩
    · have hd := hd _ rfl
      simp [Region.binds] at hd
      obtain rfl := p0 (by simp [hd])
      obtain rfl := p1 (by simp [hd])
      obtain rfl := p2 (by simp [hd])
      obtain rfl := p3 (by simp [hd])
      obtain rfl := p4 (by simp [hd])
      obtain rfl := p5 (by simp [hd])
      obtain rfl := p6 (by simp [hd])
      obtain rfl := p7 (by simp [hd])
      obtain rfl := p8 (by simp [hd])
      refine RI.wpOp_plain rfl rfl ?_
      go_simp
      exact ⟨_, _, _, _, _, _, _, _, _, _, F, v5, v10, v11, v22, v23, rfl, hP, (fun h => q (by rwa [RI.don_other _ _ _ (by decide)] at h)), RI.keep (by decide) p0, RI.keep (by decide) p1, RI.keep (by decide) p2, RI.keep (by decide) p3, RI.keep (by decide) p4, RI.keep (by decide) p5, RI.keep (by decide) p6, RI.keep (by decide) p7, RI.keep (by decide) p8, fun _ => rfl, RI.keep (by decide) px10⟩
    · have hd := hd _ rfl
      simp [Region.binds] at hd
      obtain rfl := p0 (by simp [hd])
      obtain rfl := p1 (by simp [hd])
      obtain rfl := p2 (by simp [hd])
      obtain rfl := p3 (by simp [hd])
      obtain rfl := p4 (by simp [hd])
      obtain rfl := p5 (by simp [hd])
      obtain rfl := p6 (by simp [hd])
      obtain rfl := p7 (by simp [hd])
      obtain rfl := p8 (by simp [hd])
      obtain rfl := p9 (by simp [hd])
      refine RI.wpOp_plain rfl rfl ?_
      obtain rfl := q hf
      have c3 := hP.v3.c 0 (by decide)
      have f3 : ∀ o, wx.frozen? ⟨w.heap.size + 1 + 1 + 1, o, none⟩ = false := hP.v3.f
      go_simp
      exact ⟨_, _, _, _, _, _, _, _, _, _, _, v5, v10, v11, v22, v23, rfl, P4_set hP (by decide), (fun h => absurd h (by simp [RI.don])), RI.keep (by decide) p0, RI.keep (by decide) p1, RI.keep (by decide) p2, RI.keep (by decide) p3, RI.keep (by decide) p4, RI.keep (by decide) p5, RI.keep (by decide) p6, RI.keep (by decide) p7, RI.keep (by decide) p8, RI.keep (by decide) p9, fun _ => rfl⟩
  clear m0
  intro d x wx hI hd
  obtain ⟨u12, u13, u14, u15, u16, u17, u18, u19, u20, u21, F, v5, v10, v11, v22, v23, rfl, hP, q, p0, p1, p2, p3, p4, p5, p6, p7, p8, p9, px10⟩ := hI
  obtain rfl := p0 (hd 0 (by decide))
  obtain rfl := p1 (hd 1 (by decide))
  obtain rfl := p2 (hd 2 (by decide))
  obtain rfl := p3 (hd 3 (by decide))
  obtain rfl := p4 (hd 4 (by decide))
  obtain rfl := p5 (hd 5 (by decide))
  obtain rfl := p6 (hd 6 (by decide))
  obtain rfl := p7 (hd 7 (by decide))
  obtain rfl := p8 (hd 8 (by decide))
  obtain rfl := p9 (hd 9 (by decide))
  rw [px10 (hd 10 (by decide))] at hP
  have m0 := hP
  clear p0 p1 p2 p3 p4 p5 p6 p7 p8 p9 px10 q hd hP
  go_wp2_with fail
  rw [rounds_succ]
  go_upto_region 5 with fail
  refine RI.wp_region_inv (PB1 w a b f (.func (Fn.func 33) #[] #[]) (upd (dg 0) 0 (f (dg a 0) (dg b 0)))) (by kernel_rfl) (by kernel_rfl) ?_ ?_ ?_
  · exact ⟨_, _, _, _, _, _, _, _, _, _, upd (dg 0) 0 (f (dg a 0) (dg b 0)), _, _, _, _, _, rfl, P4_drew m0, fun _ => rfl, nofun, nofun, nofun, nofun, nofun, nofun, nofun, nofun, nofun, nofun, nofun⟩
  · clear m0
    intro d x wx i hI hi hm
    obtain ⟨u12, u13, u14, u15, u16, u17, u18, u19, u20, u21, F, v5, v10, v11, v22, v23, rfl, hP, q, p0, p1, p2, p3, p4, p5, p6, p7, p8, p9, px10⟩ := hI
    have hi' : i = 0 ∨ i = 1 ∨ i = 2 ∨ i = 3 ∨ i = 4 ∨ i = 5 ∨ i = 6 ∨ i = 7 ∨ i = 8 ∨ i = 9 ∨ i = 10 := by simp at hi; omega
    have hd := hm.2
    have hf := hm.1
    clear hm hi
    rcases hi' with rfl | rfl | rfl | rfl | rfl | rfl | rfl | rfl | rfl | rfl | rfl
    · refine RI.wpOp_plain rfl rfl ?_
      go_simp
      exact ⟨_, u13, u14, u15, u16, u17, u18, u19, u20, u21, F, v5, v10, v11, v22, v23, rfl, hP, (fun h => q (by rwa [RI.don_other _ _ _ (by decide)] at h)), fun _ => rfl, RI.keep (by decide) p1, RI.keep (by decide) p2, RI.keep (by decide) p3, RI.keep (by decide) p4, RI.keep (by decide) p5, RI.keep (by decide) p6, RI.keep (by decide) p7, RI.keep (by decide) p8, RI.keep (by decide) p9, RI.keep (by decide) px10⟩
    · refine RI.wpOp_plain rfl rfl ?_
      go_simp
      exact ⟨u12, _, u14, u15, u16, u17, u18, u19, u20, u21, F, v5, v10, v11, v22, v23, rfl, hP, (fun h => q (by rwa [RI.don_other _ _ _ (by decide)] at h)), RI.keep (by decide) p0, fun _ => rfl, RI.keep (by decide) p2, RI.keep (by decide) p3, RI.keep (by decide) p4, RI.keep (by decide) p5, RI.keep (by decide) p6, RI.keep (by decide) p7, RI.keep (by decide) p8, RI.keep (by decide) p9, RI.keep (by decide) px10⟩
    · refine RI.wpOp_plain rfl rfl ?_
      go_simp
      exact ⟨u12, u13, _, u15, u16, u17, u18, u19, u20, u21, F, v5, v10, v11, v22, v23, rfl, hP, (fun h => q (by rwa [RI.don_other _ _ _ (by decide)] at h)), RI.keep (by decide) p0, RI.keep (by decide) p1, fun _ => rfl, RI.keep (by decide) p3, RI.keep (by decide) p4, RI.keep (by decide) p5, RI.keep (by decide) p6, RI.keep (by decide) p7, RI.keep (by decide) p8, RI.keep (by decide) p9, RI.keep (by decide) px10⟩
    · have hd := hd _ rfl
      simp [Region.binds] at hd
      obtain rfl := p2 (by simp [hd])
      refine RI.wpOp_plain rfl rfl ?_
      go_simp
      exact ⟨u12, u13, _, _, u16, u17, u18, u19, u20, u21, F, v5, v10, v11, v22, v23, rfl, hP, (fun h => q (by rwa [RI.don_other _ _ _ (by decide)] at h)), RI.keep (by decide) p0, RI.keep (by decide) p1, RI.keep (by decide) p2, fun _ => rfl, RI.keep (by decide) p4, RI.keep (by decide) p5, RI.keep (by decide) p6, RI.keep (by decide) p7, RI.keep (by decide) p8, RI.keep (by decide) p9, RI.keep (by decide) px10⟩
    · have hd := hd _ rfl
      simp [Region.binds] at hd
      obtain rfl := p3 (by simp [hd])
      refine RI.wpOp_plain rfl rfl ?_
      have c0 : wx.cell? ⟨w.heap.size, 1, none⟩ = some (.int .u64 (dg a 1)) := hP.v0.c 1 (by decide)
      go_simp
      exact ⟨u12, u13, u14, _, _, u17, u18, u19, u20, u21, F, v5, v10, v11, v22, v23, rfl, hP, (fun h => q (by rwa [RI.don_other _ _ _ (by decide)] at h)), RI.keep (by decide) p0, RI.keep (by decide) p1, RI.keep (by decide) p2, RI.keep (by decide) p3, fun _ => rfl, RI.keep (by decide) p5, RI.keep (by decide) p6, RI.keep (by decide) p7, RI.keep (by decide) p8, RI.keep (by decide) p9, RI.keep (by decide) px10⟩
    · refine RI.wpOp_plain rfl rfl ?_
      go_simp
      exact ⟨u12, u13, u14, u15, u16, _, u18, u19, u20, u21, F, v5, v10, v11, v22, v23, rfl, hP, (fun h => q (by rwa [RI.don_other _ _ _ (by decide)] at h)), RI.keep (by decide) p0, RI.keep (by decide) p1, RI.keep (by decide) p2, RI.keep (by decide) p3, RI.keep (by decide) p4, fun _ => rfl, RI.keep (by decide) p6, RI.keep (by decide) p7, RI.keep (by decide) p8, RI.keep (by decide) p9, RI.keep (by decide) px10⟩
    · have hd := hd _ rfl
      simp [Region.binds] at hd
      obtain rfl := p5 (by simp [hd])
      refine RI.wpOp_plain rfl rfl ?_
      go_simp
      exact ⟨u12, u13, u14, u15, u16, _, _, u19, u20, u21, F, v5, v10, v11, v22, v23, rfl, hP, (fun h => q (by rwa [RI.don_other _ _ _ (by decide)] at h)), RI.keep (by decide) p0, RI.keep (by decide) p1, RI.keep (by decide) p2, RI.keep (by decide) p3, RI.keep (by decide) p4, RI.keep (by decide) p5, fun _ => rfl, RI.keep (by decide) p7, RI.keep (by decide) p8, RI.keep (by decide) p9, RI.keep (by decide) px10⟩
    · have hd := hd _ rfl
      simp [Region.binds] at hd
      obtain rfl := p6 (by simp [hd])
      refine RI.wpOp_plain rfl rfl ?_
      have c0 : wx.cell? ⟨w.heap.size + 1, 1, none⟩ = some (.int .u64 (dg b 1)) := hP.v1.c 1 (by decide)
      go_simp
      exact ⟨u12, u13, u14, u15, u16, u17, _, _, u20, u21, F, v5, v10, v11, v22, v23, rfl, hP, (fun h => q (by rwa [RI.don_other _ _ _ (by decide)] at h)), RI.keep (by decide) p0, RI.keep (by decide) p1, RI.keep (by decide) p2, RI.keep (by decide) p3, RI.keep (by decide) p4, RI.keep (by decide) p5, RI.keep (by decide) p6, fun _ => rfl, RI.keep (by decide) p8, RI.keep (by decide) p9, RI.keep (by decide) px10⟩
    · have hd := hd _ rfl
      simp [Region.binds] at hd
      obtain rfl := p1 (by simp [hd])
      obtain rfl := p4 (by simp [hd])
      obtain rfl := p7 (by simp [hd])
      refine RI.wpOp_plain rfl rfl ?_
      go_simp
      refine (KF.out _ _ _).mono ?_
      rintro e w1 ⟨rfl, hb1⟩
      exact ⟨u12, _, u14, u15, _, u17, u18, _, _, u21, F, v5, v10, v11, v22, v23, rfl, P4_below hP hb1, (fun h => q (by rwa [RI.don_other _ _ _ (by decide)] at h)), RI.keep (by decide) p0, RI.keep (by decide) p1, RI.keep (by decide) p2, RI.keep (by decide) p3, RI.keep (by decide) p4, RI.keep (by decide) p5, RI.keep (by decide) p6, RI.keep (by decide) p7, fun _ => rfl, RI.keep (by decide) p9, RI.keep (by decide) (px10)⟩
    · have hd := hd _ rfl
      simp [Region.binds] at hd
      obtain rfl := p0 (by simp [hd])
      obtain rfl := p1 (by simp [hd])
      obtain rfl := p2 (by simp [hd])
      obtain rfl := p3 (by simp [hd])
      obtain rfl := p4 (by simp [hd])
      obtain rfl := p5 (by simp [hd])
      obtain rfl := p6 (by simp [hd])
      obtain rfl := p7 (by simp [hd])
      obtain rfl := p8 (by simp [hd])
      refine RI.wpOp_plain rfl rfl ?_
      go_simp
      exact ⟨_, _, _, _, _, _, _, _, _, _, F, v5, v10, v11, v22, v23, rfl, hP, (fun h => q (by rwa [RI.don_other _ _ _ (by decide)] at h)), RI.keep (by decide) p0, RI.keep (by decide) p1, RI.keep (by decide) p2, RI.keep (by decide) p3, RI.keep (by decide) p4, RI.keep (by decide) p5, RI.keep (by decide) p6, RI.keep (by decide) p7, RI.keep (by decide) p8, fun _ => rfl, RI.keep (by decide) px10⟩
    · have hd := hd _ rfl
      simp [Region.binds] at hd
      obtain rfl := p0 (by simp [hd])
      obtain rfl := p1 (by simp [hd])
      obtain rfl := p2 (by simp [hd])
      obtain rfl := p3 (by simp [hd])
      obtain rfl := p4 (by simp [hd])
      obtain rfl := p5 (by simp [hd])
      obtain rfl := p6 (by simp [hd])
      obtain rfl := p7 (by simp [hd])
      obtain rfl := p8 (by simp [hd])
      obtain rfl := p9 (by simp [hd])
      refine RI.wpOp_plain rfl rfl ?_
      obtain rfl := q hf
      have c3 := hP.v3.c 1 (by decide)
      have f3 : ∀ o, wx.frozen? ⟨w.heap.size + 1 + 1 + 1, o, none⟩ = false := hP.v3.f
      go_simp
      exact ⟨_, _, _, _, _, _, _, _, _, _, _, v5, v10, v11, v22, v23, rfl, P4_set hP (by decide), (fun h => absurd h (by simp [RI.don])), RI.keep (by decide) p0, RI.keep (by decide) p1, RI.keep (by decide) p2, RI.keep (by decide) p3, RI.keep (by decide) p4, RI.keep (by decide) p5, RI.keep (by decide) p6, RI.keep (by decide) p7, RI.keep (by decide) p8, RI.keep (by decide) p9, fun _ => rfl⟩
  clear m0
  intro d x wx hI hd
  obtain ⟨u12, u13, u14, u15, u16, u17, u18, u19, u20, u21, F, v5, v10, v11, v22, v23, rfl, hP, q, p0, p1, p2, p3, p4, p5, p6, p7, p8, p9, px10⟩ := hI
  obtain rfl := p0 (hd 0 (by decide))
  obtain rfl := p1 (hd 1 (by decide))
  obtain rfl := p2 (hd 2 (by decide))
  obtain rfl := p3 (hd 3 (by decide))
  obtain rfl := p4 (hd 4 (by decide))
  obtain rfl := p5 (hd 5 (by decide))
  obtain rfl := p6 (hd 6 (by decide))
  obtain rfl := p7 (hd 7 (by decide))
  obtain rfl := p8 (hd 8 (by decide))
  obtain rfl := p9 (hd 9 (by decide))
  rw [px10 (hd 10 (by decide))] at hP
  have m0 := hP
  clear p0 p1 p2 p3 p4 p5 p6 p7 p8 p9 px10 q hd hP
  go_wp2_with fail
  rw [rounds_succ]
  go_upto_region 5 with fail
  refine RI.wp_region_inv (PB2 w a b f (.func (Fn.func 33) #[] #[]) (upd (upd (dg 0) 0 (f (dg a 0) (dg b 0))) 1 (f (dg a 1) (dg b 1)))) (by kernel_rfl) (by kernel_rfl) ?_ ?_ ?_
  · exact ⟨_, _, _, _, _, _, _, _, _, _, upd (upd (dg 0) 0 (f (dg a 0) (dg b 0))) 1 (f (dg a 1) (dg b 1)), _, _, _, _, _, rfl, P4_drew m0, fun _ => rfl, nofun, nofun, nofun, nofun, nofun, nofun, nofun, nofun, nofun, nofun, nofun⟩
  · clear m0
    intro d x wx i hI hi hm
    obtain ⟨u12, u13, u14, u15, u16, u17, u18, u19, u20, u21, F, v5, v10, v11, v22, v23, rfl, hP, q, p0, p1, p2, p3, p4, p5, p6, p7, p8, p9, px10⟩ := hI
    have hi' : i = 0 ∨ i = 1 ∨ i = 2 ∨ i = 3 ∨ i = 4 ∨ i = 5 ∨ i = 6 ∨ i = 7 ∨ i = 8 ∨ i = 9 ∨ i = 10 := by simp at hi; omega
    have hd := hm.2
    have hf := hm.1
    clear hm hi
    rcases hi' with rfl | rfl | rfl | rfl | rfl | rfl | rfl | rfl | rfl | rfl | rfl
    · refine RI.wpOp_plain rfl rfl ?_
      go_simp
      exact ⟨_, u13, u14, u15, u16, u17, u18, u19, u20, u21, F, v5, v10, v11, v22, v23, rfl, hP, (fun h => q (by rwa [RI.don_other _ _ _ (by decide)] at h)), fun _ => rfl, RI.keep (by decide) p1, RI.keep (by decide) p2, RI.keep (by decide) p3, RI.keep (by decide) p4, RI.keep (by decide) p5, RI.keep (by decide) p6, RI.keep (by decide) p7, RI.keep (by decide) p8, RI.keep (by decide) p9, RI.keep (by decide) px10⟩
    · refine RI.wpOp_plain rfl rfl ?_
      go_simp
      exact ⟨u12, _, u14, u15, u16, u17, u18, u19, u20, u21, F, v5, v10, v11, v22, v23, rfl, hP, (fun h => q (by rwa [RI.don_other _ _ _ (by decide)] at h)), RI.keep (by decide) p0, fun _ => rfl, RI.keep (by decide) p2, RI.keep (by decide) p3, RI.keep (by decide) p4, RI.keep (by decide) p5, RI.keep (by decide) p6, RI.keep (by decide) p7, RI.keep (by decide) p8, RI.keep (by decide) p9, RI.keep (by decide) px10⟩
    · refine RI.wpOp_plain rfl rfl ?_
      go_simp
      exact ⟨u12, u13, _, u15, u16, u17, u18, u19, u20, u21, F, v5, v10, v11, v22, v23, rfl, hP, (fun h => q (by rwa [RI.don_other _ _ _ (by decide)] at h)), RI.keep (by decide) p0, RI.keep (by decide) p1, fun _ => rfl, RI.keep (by decide) p3, RI.keep (by decide) p4, RI.keep (by decide) p5, RI.keep (by decide) p6, RI.keep (by decide) p7, RI.keep (by decide) p8, RI.keep (by decide) p9, RI.keep (by decide) px10⟩
    · have hd := hd _ rfl
      simp [Region.binds] at hd
      obtain rfl := p2 (by simp [hd])
      refine RI.wpOp_plain rfl rfl ?_
      go_simp
      exact ⟨u12, u13, _, _, u16, u17, u18, u19, u20, u21, F, v5, v10, v11, v22, v23, rfl, hP, (fun h => q (by rwa [RI.don_other _ _ _ (by decide)] at h)), RI.keep (by decide) p0, RI.keep (by decide) p1, RI.keep (by decide) p2, fun _ => rfl, RI.keep (by decide) p4, RI.keep (by decide) p5, RI.keep (by decide) p6, RI.keep (by decide) p7, RI.keep (by decide) p8, RI.keep (by decide) p9, RI.keep (by decide) px10⟩
    · have hd := hd _ rfl
      simp [Region.binds] at hd
      obtain rfl := p3 (by simp [hd])
      refine RI.wpOp_plain rfl rfl ?_
      have c0 : wx.cell? ⟨w.heap.size, 2, none⟩ = some (.int .u64 (dg a 2)) := hP.v0.c 2 (by decide)
      go_simp
      exact ⟨u12, u13, u14, _, _, u17, u18, u19, u20, u21, F, v5, v10, v11, v22, v23, rfl, hP, (fun h => q (by rwa [RI.don_other _ _ _ (by decide)] at h)), RI.keep (by decide) p0, RI.keep (by decide) p1, RI.keep (by decide) p2, RI.keep (by decide) p3, fun _ => rfl, RI.keep (by decide) p5, RI.keep (by decide) p6, RI.keep (by decide) p7, RI.keep (by decide) p8, RI.keep (by decide) p9, RI.keep (by decide) px10⟩
    · refine RI.wpOp_plain rfl rfl ?_
      go_simp
      exact ⟨u12, u13, u14, u15, u16, _, u18, u19, u20, u21, F, v5, v10, v11, v22, v23, rfl, hP, (fun h => q (by rwa [RI.don_other _ _ _ (by decide)] at h)), RI.keep (by decide) p0, RI.keep (by decide) p1, RI.keep (by decide) p2, RI.keep (by decide) p3, RI.keep (by decide) p4, fun _ => rfl, RI.keep (by decide) p6, RI.keep (by decide) p7, RI.keep (by decide) p8, RI.keep (by decide) p9, RI.keep (by decide) px10⟩
    · have hd := hd _ rfl
      simp [Region.binds] at hd
      obtain rfl := p5 (by simp [hd])
      refine RI.wpOp_plain rfl rfl ?_
      go_simp
      exact ⟨u12, u13, u14, u15, u16, _, _, u19, u20, u21, F, v5, v10, v11, v22, v23, rfl, hP, (fun h => q (by rwa [RI.don_other _ _ _ (by decide)] at h)), RI.keep (by decide) p0, RI.keep (by decide) p1, RI.keep (by decide) p2, RI.keep (by decide) p3, RI.keep (by decide) p4, RI.keep (by decide) p5, fun _ => rfl, RI.keep (by decide) p7, RI.keep (by decide) p8, RI.keep (by decide) p9, RI.keep (by decide) px10⟩
    · have hd := hd _ rfl
      simp [Region.binds] at hd
      obtain rfl := p6 (by simp [hd])
      refine RI.wpOp_plain rfl rfl ?_
      have c0 : wx.cell? ⟨w.heap.size + 1, 2, none⟩ = some (.int .u64 (dg b 2)) := hP.v1.c 2 (by decide)
      go_simp
      exact ⟨u12, u13, u14, u15, u16, u17, _, _, u20, u21, F, v5, v10, v11, v22, v23, rfl, hP, (fun h => q (by rwa [RI.don_other _ _ _ (by decide)] at h)), RI.keep (by decide) p0, RI.keep (by decide) p1, RI.keep (by decide) p2, RI.keep (by decide) p3, RI.keep (by decide) p4, RI.keep (by decide) p5, RI.keep (by decide) p6, fun _ => rfl, RI.keep (by decide) p8, RI.keep (by decide) p9, RI.keep (by decide) px10⟩
    · have hd := hd _ rfl
      simp [Region.binds] at hd
      obtain rfl := p1 (by simp [hd])
      obtain rfl := p4 (by simp [hd])
      obtain rfl := p7 (by simp [hd])
      refine RI.wpOp_plain rfl rfl ?_
      go_simp
      refine (KF.out _ _ _).mono ?_
      rintro e w1 ⟨rfl, hb1⟩
      exact ⟨u12, _, u14, u15, _, u17, u18, _, _, u21, F, v5, v10, v11, v22, v23, rfl, P4_below hP hb1, (fun h => q (by rwa [RI.don_other _ _ _ (by decide)] at h)), RI.keep (by decide) p0, RI.keep (by decide) p1, RI.keep (by decide) p2, RI.keep (by decide) p3, RI.keep (by decide) p4, RI.keep (by decide) p5, RI.keep (by decide) p6, RI.keep (by decide) p7, fun _ => rfl, RI.keep (by decide) p9, RI.keep (by decide) (px10)⟩
    · have hd := hd _ rfl
      simp [Region.binds] at hd
      obtain rfl := p0 (by simp [hd])
      obtain rfl := p1 (by simp [hd])
      obtain rfl := p2 (by simp [hd])
      obtain rfl := p3 (by simp [hd])
      obtain rfl := p4 (by simp [hd])
      obtain rfl := p5 (by simp [hd])
      obtain rfl := p6 (by simp [hd])
      obtain rfl := p7 (by simp [hd])
      obtain rfl := p8 (by simp [hd])
      refine RI.wpOp_plain rfl rfl ?_
      go_simp
      exact ⟨_, _, _, _, _, _, _, _, _, _, F, v5, v10, v11, v22, v23, rfl, hP, (fun h => q (by rwa [RI.don_other _ _ _ (by decide)] at h)), RI.keep (by decide) p0, RI.keep (by decide) p1, RI.keep (by decide) p2, RI.keep (by decide) p3, RI.keep (by decide) p4, RI.keep (by decide) p5, RI.keep (by decide) p6, RI.keep (by decide) p7, RI.keep (by decide) p8, fun _ => rfl, RI.keep (by decide) px10⟩
    · have hd := hd _ rfl
      simp [Region.binds] at hd
      obtain rfl := p0 (by simp [hd])
      obtain rfl := p1 (by simp [hd])
      obtain rfl := p2 (by simp [hd])
      obtain rfl := p3 (by simp [hd])
      obtain rfl := p4 (by simp [hd])
      obtain rfl := p5 (by simp [hd])
      obtain rfl := p6 (by simp [hd])
      obtain rfl := p7 (by simp [hd])
      obtain rfl := p8 (by simp [hd])
      obtain rfl := p9 (by simp [hd])
      refine RI.wpOp_plain rfl rfl ?_
      obtain rfl := q hf
      have c3 := hP.v3.c 2 (by decide)
      have f3 : ∀ o, wx.frozen? ⟨w.heap.size + 1 + 1 + 1, o, none⟩ = false := hP.v3.f
      go_simp
      exact ⟨_, _, _, _, _, _, _, _, _, _, _, v5, v10, v11, v22, v23, rfl, P4_set hP (by decide), (fun h => absurd h (by simp [RI.don])), RI.keep (by decide) p0, RI.keep (by decide) p1, RI.keep (by decide) p2, RI.keep (by decide) p3, RI.keep (by decide) p4, RI.keep (by decide) p5, RI.keep (by decide) p6, RI.keep (by decide) p7, RI.keep (by decide) p8, RI.keep (by decide) p9, fun _ => rfl⟩
  clear m0
  intro d x wx hI hd
  obtain ⟨u12, u13, u14, u15, u16, u17, u18, u19, u20, u21, F, v5, v10, v11, v22, v23, rfl, hP, q, p0, p1, p2, p3, p4, p5, p6, p7, p8, p9, px10⟩ := hI
  obtain rfl := p0 (hd 0 (by decide))
  obtain rfl := p1 (hd 1 (by decide))
  obtain rfl := p2 (hd 2 (by decide))
  obtain rfl := p3 (hd 3 (by decide))
  obtain rfl := p4 (hd 4 (by decide))
  obtain rfl := p5 (hd 5 (by decide))
  obtain rfl := p6 (hd 6 (by decide))
  obtain rfl := p7 (hd 7 (by decide))
  obtain rfl := p8 (hd 8 (by decide))
  obtain rfl := p9 (hd 9 (by decide))
  rw [px10 (hd 10 (by decide))] at hP
  have m0 := hP
  clear p0 p1 p2 p3 p4 p5 p6 p7 p8 p9 px10 q hd hP
  go_wp2_with fail
  rw [rounds_succ]
  go_upto_region 5 with fail
  refine RI.wp_region_inv (PB3 w a b f (.func (Fn.func 33) #[] #[]) (upd (upd (upd (dg 0) 0 (f (dg a 0) (dg b 0))) 1 (f (dg a 1) (dg b 1))) 2 (f (dg a 2) (dg b 2)))) (by kernel_rfl) (by kernel_rfl) ?_ ?_ ?_
  · exact ⟨_, _, _, _, _, _, _, _, _, _, upd (upd (upd (dg 0) 0 (f (dg a 0) (dg b 0))) 1 (f (dg a 1) (dg b 1))) 2 (f (dg a 2) (dg b 2)), _, _, _, _, _, rfl, P4_drew m0, fun _ => rfl, nofun, nofun, nofun, nofun, nofun, nofun, nofun, nofun, nofun, nofun, nofun⟩
  · clear m0
    intro d x wx i hI hi hm
    obtain ⟨u12, u13, u14, u15, u16, u17, u18, u19, u20, u21, F, v5, v10, v11, v22, v23, rfl, hP, q, p0, p1, p2, p3, p4, p5, p6, p7, p8, p9, px10⟩ := hI
    have hi' : i = 0 ∨ i = 1 ∨ i = 2 ∨ i = 3 ∨ i = 4 ∨ i = 5 ∨ i = 6 ∨ i = 7 ∨ i = 8 ∨ i = 9 ∨ i = 10 := by simp at hi; omega
    have hd := hm.2
    have hf := hm.1
    clear hm hi
    rcases hi' with rfl | rfl | rfl | rfl | rfl | rfl | rfl | rfl | rfl | rfl | rfl
    · refine RI.wpOp_plain rfl rfl ?_
      go_simp
      exact ⟨_, u13, u14, u15, u16, u17, u18, u19, u20, u21, F, v5, v10, v11, v22, v23, rfl, hP, (fun h => q (by rwa [RI.don_other _ _ _ (by decide)] at h)), fun _ => rfl, RI.keep (by decide) p1, RI.keep (by decide) p2, RI.keep (by decide) p3, RI.keep (by decide) p4, RI.keep (by decide) p5, RI.keep (by decide) p6, RI.keep (by decide) p7, RI.keep (by decide) p8, RI.keep (by decide) p9, RI.keep (by decide) px10⟩
    · refine RI.wpOp_plain rfl rfl ?_
      go_simp
      exact ⟨u12, _, u14, u15, u16, u17, u18, u19, u20, u21, F, v5, v10, v11, v22, v23, rfl, hP, (fun h => q (by rwa [RI.don_other _ _ _ (by decide)] at h)), RI.keep (by decide) p0, fun _ => rfl, RI.keep (by decide) p2, RI.keep (by decide) p3, RI.keep (by decide) p4, RI.keep (by decide) p5, RI.keep (by decide) p6, RI.keep (by decide) p7, RI.keep (by decide) p8, RI.keep (by decide) p9, RI.keep (by decide) px10⟩
    · refine RI.wpOp_plain rfl rfl ?_
      go_simp
      exact ⟨u12, u13, _, u15, u16, u17, u18, u19, u20, u21, F, v5, v10, v11, v22, v23, rfl, hP, (fun h => q (by rwa [RI.don_other _ _ _ (by decide)] at h)), RI.keep (by decide) p0, RI.keep (by decide) p1, fun _ => rfl, RI.keep (by decide) p3, RI.keep (by decide) p4, RI.keep (by decide) p5, RI.keep (by decide) p6, RI.keep (by decide) p7, RI.keep (by decide) p8, RI.keep (by decide) p9, RI.keep (by decide) px10⟩
    · have hd := hd _ rfl
      simp [Region.binds] at hd
      obtain rfl := p2 (by simp [hd])
      refine RI.wpOp_plain rfl rfl ?_
      go_simp
      exact ⟨u12, u13, _, _, u16, u17, u18, u19, u20, u21, F, v5, v10, v11, v22, v23, rfl, hP, (fun h => q (by rwa [RI.don_other _ _ _ (by decide)] at h)), RI.keep (by decide) p0, RI.keep (by decide) p1, RI.keep (by decide) p2, fun _ => rfl, RI.keep (by decide) p4, RI.keep (by decide) p5, RI.keep (by decide) p6, RI.keep (by decide) p7, RI.keep (by decide) p8, RI.keep (by decide) p9, RI.keep (by decide) px10⟩
    · have hd := hd _ rfl
      simp [Region.binds] at hd
      obtain rfl := p3 (by simp [hd])
      refine RI.wpOp_plain rfl rfl ?_
      have c0 : wx.cell? ⟨w.heap.size, 3, none⟩ = some (.int .u64 (dg a 3)) := hP.v0.c 3 (by decide)
      go_simp
      exact ⟨u12, u13, u14, _, _, u17, u18, u19, u20, u21, F, v5, v10, v11, v22, v23, rfl, hP, (fun h => q (by rwa [RI.don_other _ _ _ (by decide)] at h)), RI.keep (by decide) p0, RI.keep (by decide) p1, RI.keep (by decide) p2, RI.keep (by decide) p3, fun _ => rfl, RI.keep (by decide) p5, RI.keep (by decide) p6, RI.keep (by decide) p7, RI.keep (by decide) p8, RI.keep (by decide) p9, RI.keep (by decide) px10⟩
    · refine RI.wpOp_plain rfl rfl ?_
      go_simp
      exact ⟨u12, u13, u14, u15, u16, _, u18, u19, u20, u21, F, v5, v10, v11, v22, v23, rfl, hP, (fun h => q (by rwa [RI.don_other _ _ _ (by decide)] at h)), RI.keep (by decide) p0, RI.keep (by decide) p1, RI.keep (by decide) p2, RI.keep (by decide) p3, RI.keep (by decide) p4, fun _ => rfl, RI.keep (by decide) p6, RI.keep (by decide) p7, RI.keep (by decide) p8, RI.keep (by decide) p9, RI.keep (by decide) px10⟩
    · have hd := hd _ rfl
      simp [Region.binds] at hd
      obtain rfl := p5 (by simp [hd])
      refine RI.wpOp_plain rfl rfl ?_
      go_simp
      exact ⟨u12, u13, u14, u15, u16, _, _, u19, u20, u21, F, v5, v10, v11, v22, v23, rfl, hP, (fun h => q (by rwa [RI.don_other _ _ _ (by decide)] at h)), RI.keep (by decide) p0, RI.keep (by decide) p1, RI.keep (by decide) p2, RI.keep (by decide) p3, RI.keep (by decide) p4, RI.keep (by decide) p5, fun _ => rfl, RI.keep (by decide) p7, RI.keep (by decide) p8, RI.keep (by decide) p9, RI.keep (by decide) px10⟩
    · have hd := hd _ rfl
      simp [Region.binds] at hd
      obtain rfl := p6 (by simp [hd])
      refine RI.wpOp_plain rfl rfl ?_
      have c0 : wx.cell? ⟨w.heap.size + 1, 3, none⟩ = some (.int .u64 (dg b 3)) := hP.v1.c 3 (by decide)
      go_simp
      exact ⟨u12, u13, u14, u15, u16, u17, _, _, u20, u21, F, v5, v10, v11, v22, v23, rfl, hP, (fun h => q (by rwa [RI.don_other _ _ _ (by decide)] at h)), RI.keep (by decide) p0, RI.keep (by decide) p1, RI.keep (by decide) p2, RI.keep (by decide) p3, RI.keep (by decide) p4, RI.keep (by decide) p5, RI.keep (by decide) p6, fun _ => rfl, RI.keep (by decide) p8, RI.keep (by decide) p9, RI.keep (by decide) px10⟩
    · have hd := hd _ rfl
      simp [Region.binds] at hd
      obtain rfl := p1 (by simp [hd])
      obtain rfl := p4 (by simp [hd])
      obtain rfl := p7 (by simp [hd])
      refine RI.wpOp_plain rfl rfl ?_
      go_simp
      refine (KF.out _ _ _).mono ?_
      rintro e w1 ⟨rfl, hb1⟩
      exact ⟨u12, _, u14, u15, _, u17, u18, _, _, u21, F, v5, v10, v11, v22, v23, rfl, P4_below hP hb1, (fun h => q (by rwa [RI.don_other _ _ _ (by decide)] at h)), RI.keep (by decide) p0, RI.keep (by decide) p1, RI.keep (by decide) p2, RI.keep (by decide) p3, RI.keep (by decide) p4, RI.keep (by decide) p5, RI.keep (by decide) p6, RI.keep (by decide) p7, fun _ => rfl, RI.keep (by decide) p9, RI.keep (by decide) (px10)⟩
    · have hd := hd _ rfl
      simp [Region.binds] at hd
      obtain rfl := p0 (by simp [hd])
      obtain rfl := p1 (by simp [hd])
      obtain rfl := p2 (by simp [hd])
      obtain rfl := p3 (by simp [hd])
      obtain rfl := p4 (by simp [hd])
      obtain rfl := p5 (by simp [hd])
      obtain rfl := p6 (by simp [hd])
      obtain rfl := p7 (by simp [hd])
      obtain rfl := p8 (by simp [hd])
      refine RI.wpOp_plain rfl rfl ?_
      go_simp
      exact ⟨_, _, _, _, _, _, _, _, _, _, F, v5, v10, v11, v22, v23, rfl, hP, (fun h => q (by rwa [RI.don_other _ _ _ (by decide)] at h)), RI.keep (by decide) p0, RI.keep (by decide) p1, RI.keep (by decide) p2, RI.keep (by decide) p3, RI.keep (by decide) p4, RI.keep (by decide) p5, RI.keep (by decide) p6, RI.keep (by decide) p7, RI.keep (by decide) p8, fun _ => rfl, RI.keep (by decide) px10⟩
    · have hd := hd _ rfl
      simp [Region.binds] at hd
      obtain rfl := p0 (by simp [hd])
      obtain rfl := p1 (by simp [hd])
      obtain rfl := p2 (by simp [hd])
      obtain rfl := p3 (by simp [hd])
      obtain rfl := p4 (by simp [hd])
      obtain rfl := p5 (by simp [hd])
      obtain rfl := p6 (by simp [hd])
      obtain rfl := p7 (by simp [hd])
      obtain rfl := p8 (by simp [hd])
      obtain rfl := p9 (by simp [hd])
      refine RI.wpOp_plain rfl rfl ?_
      obtain rfl := q hf
      have c3 := hP.v3.c 3 (by decide)
      have f3 : ∀ o, wx.frozen? ⟨w.heap.size + 1 + 1 + 1, o, none⟩ = false := hP.v3.f
      go_simp
      exact ⟨_, _, _, _, _, _, _, _, _, _, _, v5, v10, v11, v22, v23, rfl, P4_set hP (by decide), (fun h => absurd h (by simp [RI.don])), RI.keep (by decide) p0, RI.keep (by decide) p1, RI.keep (by decide) p2, RI.keep (by decide) p3, RI.keep (by decide) p4, RI.keep (by decide) p5, RI.keep (by decide) p6, RI.keep (by decide) p7, RI.keep (by decide) p8, RI.keep (by decide) p9, fun _ => rfl⟩
  clear m0
  intro d x wx hI hd
  obtain ⟨u12, u13, u14, u15, u16, u17, u18, u19, u20, u21, F, v5, v10, v11, v22, v23, rfl, hP, q, p0, p1, p2, p3, p4, p5, p6, p7, p8, p9, px10⟩ := hI
  obtain rfl := p0 (hd 0 (by decide))
  obtain rfl := p1 (hd 1 (by decide))
  obtain rfl := p2 (hd 2 (by decide))
  obtain rfl := p3 (hd 3 (by decide))
  obtain rfl := p4 (hd 4 (by decide))
  obtain rfl := p5 (hd 5 (by decide))
  obtain rfl := p6 (hd 6 (by decide))
  obtain rfl := p7 (hd 7 (by decide))
  obtain rfl := p8 (hd 8 (by decide))
  obtain rfl := p9 (hd 9 (by decide))
  rw [px10 (hd 10 (by decide))] at hP
  have m0 := hP
  clear p0 p1 p2 p3 p4 p5 p6 p7 p8 p9 px10 q hd hP
  go_wp2_with fail
  rw [rounds_succ]
  have c3 : ∀ o, o < 4 → wx.cell? ⟨w.heap.size + 1 + 1 + 1, o, none⟩ = some (.int .u64 (dg N o)) := fun o ho => by
    rw [← HN.out o ho, m0.v3.c o ho]
    have : o = 0 ∨ o = 1 ∨ o = 2 ∨ o = 3 := by omega
    rcases this with rfl | rfl | rfl | rfl <;> rfl
  have c2 : ∀ o, o < 4 → wx.cell? ⟨w.heap.size + 1 + 1, o, none⟩ = some (.int .u64 (dg 0 o)) := m0.v2.c
  have f2 : ∀ o, wx.frozen? ⟨w.heap.size + 1 + 1, o, none⟩ = false := m0.v2.f
  have z2 := m0.v2.hi
  have HV : Hid (Vb w.heap.size (w.heap.size + 1 + 1) 4 (dg N) _) := Vb_set4 m0.v2
  have HB : Hid (Below w.heap.size w _) := Bel_set4 (h := w.heap.size + 1 + 1) (m := N) m0.bel (by omega)
  clear m0
  go_wp2_with fail
  exact bodyPost_ret (v := Wd N) (resultTw _ _ _ (w.heap.size + 1 + 1) N 6 rfl rfl HV.out.c) rfl ⟨rfl, HB.out⟩
set_option maxHeartbeats 4000000 in
set_option maxRecDepth 100000 in
theorem pbp_xor (a b N : Nat) (f : Int → Int → Int) (KF : Hid (∀ (x y : Int) (w : World), Calls Try.prog 34 #[.int .u64 x, .int .u64 y] w fun e w' => e = .returned (.int .u64 (f x y)) ∧ Below w.heap.size w w')) (HN : Hid (∀ o, o < 4 → f (dg a o) (dg b o) = dg N o)) (w : World) :
    Calls Try.prog 30 #[Wd a, Wd b, .func (Fn.func 34) #[] #[]] w fun e w' => e = .returned (Wd N) ∧ Below w.heap.size w w' := by
  have m0 : P4 w a b (dg 0) ((((w.alloc (.cells #[.int .u64 (dg a 0), .int .u64 (dg a 1), .int .u64 (dg a 2), .int .u64 (dg a 3)] 24)).alloc (.cells #[.int .u64 (dg b 0), .int .u64 (dg b 1), .int .u64 (dg b 2), .int .u64 (dg b 3)] 24)).alloc (.cells #[.int .u64 0, .int .u64 0, .int .u64 0, .int .u64 0] 24)).alloc (.cells #[.int .u64 0, .int .u64 0, .int .u64 0, .int .u64 0] 24)) := by
    have k := M4_start w a b 24
    exact ⟨k.v0, k.v1, k.v2, k.v3, k.bel⟩
  conv => arg 3; unfold Wd
  go_enter Try.func30, Try.ntmps30
  go_wp2_with fail
  generalize (((w.alloc (.cells #[.int .u64 (dg a 0), .int .u64 (dg a 1), .int .u64 (dg a 2), .int .u64 (dg a 3)] 24)).alloc (.cells #[.int .u64 (dg b 0), .int .u64 (dg b 1), .int .u64 (dg b 2), .int .u64 (dg b 3)] 24)).alloc (.cells #[.int .u64 0, .int .u64 0, .int .u64 0, .int .u64 0] 24)).alloc (.cells #[.int .u64 0, .int .u64 0, .int .u64 0, .int .u64 0] 24) = W0 at m0 ⊢
  refine wp_loop_rounds 5 ?_
  rw [rounds_succ]
  go_upto_region 5 with fail
  refine RI.wp_region_inv (PB0 w a b f (.func (Fn.func 34) #[] #[]) (dg 0)) (by kernel_rfl) (by kernel_rfl) ?_ ?_ ?_
  · exact ⟨undef, undef, undef, undef, undef, undef, undef, undef, undef, undef, dg 0, _, _, _, _, _, rfl, P4_drew m0, fun _ => rfl, nofun, nofun, nofun, nofun, nofun, nofun, nofun, nofun, nofun, nofun, nofun⟩
  · clear m0
    intro d x wx i hI hi hm
    obtain ⟨u12, u13, u14, u15, u16, u17, u18, u19, u20, u21, F, v5, v10, v11, v22, v23, rfl, hP, q, p0, p1, p2, p3, p4, p5, p6, p7, p8, p9, px10⟩ := hI
    have hi' : i = 0 ∨ i = 1 ∨ i = 2 ∨ i = 3 ∨ i = 4 ∨ i = 5 ∨ i = 6 ∨ i = 7 ∨ i = 8 ∨ i = 9 ∨ i = 10 := by simp at hi; omega
    have hd := hm.2
    have hf := hm.1
    clear hm hi
    rcases hi' with rfl | rfl | rfl | rfl | rfl | rfl | rfl | rfl | rfl | rfl | rfl
    · refine RI.wpOp_plain rfl rfl ?_
      go_simp
      exact ⟨_, u13, u14, u15, u16, u17, u18, u19, u20, u21, F, v5, v10, v11, v22, v23, rfl, hP, (fun h => q (by rwa [RI.don_other _ _ _ (by decide)] at h)), fun _ => rfl, RI.keep (by decide) p1, RI.keep (by decide) p2, RI.keep (by decide) p3, RI.keep (by decide) p4, RI.keep (by decide) p5, RI.keep (by decide) p6, RI.keep (by decide) p7, RI.keep (by decide) p8, RI.keep (by decide) p9, RI.keep (by decide) px10⟩
    · refine RI.wpOp_plain rfl rfl ?_
      go_simp
      exact ⟨u12, _, u14, u15, u16, u17, u18, u19, u20, u21, F, v5, v10, v11, v22, v23, rfl, hP, (fun h => q (by rwa [RI.don_other _ _ _ (by decide)] at h)), RI.keep (by decide) p0, fun _ => rfl, RI.keep (by decide) p2, RI.keep (by decide) p3, RI.keep (by decide) p4, RI.keep (by decide) p5, RI.keep (by decide) p6, RI.keep (by decide) p7, RI.keep (by decide) p8, RI.keep (by decide) p9, RI.keep (by decide) px10⟩
    · refine RI.wpOp_plain rfl rfl ?_
      go_simp
      exact ⟨u12, u13, _, u15, u16, u17, u18, u19, u20, u21, F, v5, v10, v11, v22, v23, rfl, hP, (fun h => q (by rwa [RI.don_other _ _ _ (by decide)] at h)), RI.keep (by decide) p0, RI.keep (by decide) p1, fun _ => rfl, RI.keep (by decide) p3, RI.keep (by decide) p4, RI.keep (by decide) p5, RI.keep (by decide) p6, RI.keep (by decide) p7, RI.keep (by decide) p8, RI.keep (by decide) p9, RI.keep (by decide) px10⟩
    · have hd := hd _ rfl
      simp [Region.binds] at hd
      obtain rfl := p2 (by simp [hd])
      refine RI.wpOp_plain rfl rfl ?_
      go_simp
      exact ⟨u12, u13, _, _, u16, u17, u18, u19, u20, u21, F, v5, v10, v11, v22, v23, rfl, hP, (fun h => q (by rwa [RI.don_other _ _ _ (by decide)] at h)), RI.keep (by decide) p0, RI.keep (by decide) p1, RI.keep (by decide) p2, fun _ => rfl, RI.keep (by decide) p4, RI.keep (by decide) p5, RI.keep (by decide) p6, RI.keep (by decide) p7, RI.keep (by decide) p8, RI.keep (by decide) p9, RI.keep (by decide) px10⟩
    · have hd := hd _ rfl
      simp [Region.binds] at hd
      obtain rfl := p3 (by simp [hd])
      refine RI.wpOp_plain rfl rfl ?_
      have c0 : wx.cell? ⟨w.heap.size, 0, none⟩ = some (.int .u64 (dg a 0)) := hP.v0.c 0 (by decide)
      go_simp
      exact ⟨u12, u13, u14, _, _, u17, u18, u19, u20, u21, F, v5, v10, v11, v22, v23, rfl, hP, (fun h => q (by rwa [RI.don_other _ _ _ (by decide)] at h)), RI.keep (by decide) p0, RI.keep (by decide) p1, RI.keep (by decide) p2, RI.keep (by decide) p3, fun _ => rfl, RI.keep (by decide) p5, RI.keep (by decide) p6, RI.keep (by decide) p7, RI.keep (by decide) p8, RI.keep (by decide) p9, RI.keep (by decide) px10⟩
    · refine RI.wpOp_plain rfl rfl ?_
      go_simp
      exact ⟨u12, u13, u14, u15, u16, _, u18, u19, u20, u21, F, v5, v10, v11, v22, v23, rfl, hP, (fun h => q (by rwa [RI.don_other _ _ _ (by decide)] at h)), RI.keep (by decide) p0, RI.keep (by decide) p1, RI.keep (by decide) p2, RI.keep (by decide) p3, RI.keep (by decide) p4, fun _ => rfl, RI.keep (by decide) p6, RI.keep (by decide) p7, RI.keep (by decide) p8, RI.keep (by decide) p9, RI.keep (by decide) px10⟩
    · have hd := hd _ rfl
      simp [Region.binds] at hd
      obtain rfl := p5 (by simp [hd])
      refine RI.wpOp_plain rfl rfl ?_
      go_simp
      exact ⟨u12, u13, u14, u15, u16, _, _, u19, u20, u21, F, v5, v10, v11, v22, v23, rfl, hP, (fun h => q (by rwa [RI.don_other _ _ _ (by decide)] at h)), RI.keep (by decide) p0, RI.keep (by decide) p1, RI.keep (by decide) p2, RI.keep (by decide) p3, RI.keep (by decide) p4, RI.keep (by decide) p5, fun _ => rfl, RI.keep (by decide) p7, RI.keep (by decide) p8, RI.keep (by decide) p9, RI.keep (by decide) px10⟩
    · have hd := hd _ rfl
      simp [Region.binds] at hd
      obtain rfl := p6 (by simp [hd])
      refine RI.wpOp_plain rfl rfl ?_
      have c0 : wx.cell? ⟨w.heap.size + 1, 0, none⟩ = some (.int .u64 (dg b 0)) := hP.v1.c 0 (by decide)
      go_simp
      exact ⟨u12, u13, u14, u15, u16, u17, _, _, u20, u21, F, v5, v10, v11, v22, v23, rfl, hP, (fun h => q (by rwa [RI.don_other _ _ _ (by decide)] at h)), RI.keep (by decide) p0, RI.keep (by decide) p1, RI.keep (by decide) p2, RI.keep (by decide) p3, RI.keep (by decide) p4, RI.keep (by decide) p5, RI.keep (by decide) p6, fun _ => rfl, RI.keep (by decide) p8, RI.keep (by decide) p9, RI.keep (by decide) px10⟩
    · have hd := hd _ rfl
      simp [Region.binds] at hd
      obtain rfl := p1 (by simp [hd])
      obtain rfl := p4 (by simp [hd])
      obtain rfl := p7 (by simp [hd])
      refine RI.wpOp_plain rfl rfl ?_
      go_simp
      refine (KF.out _ _ _).mono ?_
      rintro e w1 ⟨rfl, hb1⟩
      exact ⟨u12, _, u14, u15, _, u17, u18, _, _, u21, F, v5, v10, v11, v22, v23, rfl, P4_below hP hb1, (fun h => q (by rwa [RI.don_other _ _ _ (by decide)] at h)), RI.keep (by decide) p0, RI.keep (by decide) p1, RI.keep (by decide) p2, RI.keep (by decide) p3, RI.keep (by decide) p4, RI.keep (by decide) p5, RI.keep (by decide) p6, RI.keep (by decide) p7, fun _ => rfl, RI.keep (by decide) p9, RI.keep (by decide) (px10)⟩
    · have hd := hd _ rfl
      simp [Region.binds] at hd
      obtain rfl := p0 (by simp [hd])
      obtain rfl := p1 (by simp [hd])
      obtain rfl := p2 (by simp [hd])
      obtain rfl := p3 (by simp [hd])
      obtain rfl := p4 (by simp [hd])
      obtain rfl := p5 (by simp [hd])
      obtain rfl := p6 (by simp [hd])
      obtain rfl := p7 (by simp [hd])
      obtain rfl := p8 (by simp [hd])
      refine RI.wpOp_plain rfl rfl ?_
      go_simp
      exact ⟨_, _, _, _, _, _, _, _, _, _, F, v5, v10, v11, v22, v23, rfl, hP, (fun h => q (by rwa [RI.don_other _ _ _ (by decide)] at h)), RI.keep (by decide) p0, RI.keep (by decide) p1, RI.keep (by decide) p2, RI.keep (by decide) p3, RI.keep (by decide) p4, RI.keep (by decide) p5, RI.keep (by decide) p6, RI.keep (by decide) p7, RI.keep (by decide) p8, fun _ => rfl, RI.keep (by decide) px10⟩
    · have hd := hd _ rfl
      simp [Region.binds] at hd
      obtain rfl := p0 (by simp [hd])
      obtain rfl := p1 (by simp [hd])
      obtain rfl := p2 (by simp [hd])
      obtain rfl := p3 (by simp [hd])
      obtain rfl := p4 (by simp [hd])
      obtain rfl := p5 (by simp [hd])
      obtain rfl := p6 (by simp [hd])
      obtain rfl := p7 (by simp [hd])
      obtain rfl := p8 (by simp [hd])
      obtain rfl := p9 (by simp [hd])
      refine RI.wpOp_plain rfl rfl ?_
      obtain rfl := q hf
      have c3 := hP.v3.c 0 (by decide)
      have f3 : ∀ o, wx.frozen? ⟨w.heap.size + 1 + 1 + 1, o, none⟩ = false := hP.v3.f
      go_simp
      exact ⟨_, _, _, _, _, _, _, _, _, _, _, v5, v10, v11, v22, v23, rfl, P4_set hP (by decide), (fun h => absurd h (by simp [RI.don])), RI.keep (by decide) p0, RI.keep (by decide) p1, RI.keep (by decide) p2, RI.keep (by decide) p3, RI.keep (by decide) p4, RI.keep (by decide) p5, RI.keep (by decide) p6, RI.keep (by decide) p7, RI.keep (by decide) p8, RI.keep (by decide) p9, fun _ => rfl⟩
  clear m0
  intro d x wx hI hd
  obtain ⟨u12, u13, u14, u15, u16, u17, u18, u19, u20, u21, F, v5, v10, v11, v22, v23, rfl, hP, q, p0, p1, p2, p3, p4, p5, p6, p7, p8, p9, px10⟩ := hI
  obtain rfl := p0 (hd 0 (by decide))
  obtain rfl := p1 (hd 1 (by decide))
  obtain rfl := p2 (hd 2 (by decide))
  obtain rfl := p3 (hd 3 (by decide))
  obtain rfl := p4 (hd 4 (by decide))
  obtain rfl := p5 (hd 5 (by decide))
  obtain rfl := p6 (hd 6 (by decide))
  obtain rfl := p7 (hd 7 (by decide))
  obtain rfl := p8 (hd 8 (by decide))
  obtain rfl := p9 (hd 9 (by decide))
  rw [px10 (hd 10 (by decide))] at hP
  have m0 := hP
  clear p0 p1 p2 p3 p4 p5 p6 p7 p8 p9 px10 q hd hP
  go_wp2_with fail
  rw [rounds_succ]
  go_upto_region 5 with fail
  refine RI.wp_region_inv (PB1 w a b f (.func (Fn.func 34) #[] #[]) (upd (dg 0) 0 (f (dg a 0) (dg b 0)))) (by kernel_rfl) (by kernel_rfl) ?_ ?_ ?_
  · exact ⟨_, _, _, _, _, _, _, _, _, _, upd (dg 0) 0 (f (dg a 0) (dg b 0)), _, _, _, _, _, rfl, P4_drew m0, fun _ => rfl, nofun, nofun, nofun, nofun, nofun, nofun, nofun, nofun, nofun, nofun, nofun⟩
  · clear m0
    intro d x wx i hI hi hm
    obtain ⟨u12, u13, u14, u15, u16, u17, u18, u19, u20, u21, F, v5, v10, v11, v22, v23, rfl, hP, q, p0, p1, p2, p3, p4, p5, p6, p7, p8, p9, px10⟩ := hI
    have hi' : i = 0 ∨ i = 1 ∨ i = 2 ∨ i = 3 ∨ i = 4 ∨ i = 5 ∨ i = 6 ∨ i = 7 ∨ i = 8 ∨ i = 9 ∨ i = 10 := by simp at hi; omega
    have hd := hm.2
    have hf := hm.1
    clear hm hi
    rcases hi' with rfl | rfl | rfl | rfl | rfl | rfl | rfl | rfl | rfl | rfl | rfl
    · refine RI.wpOp_plain rfl rfl ?_
      go_simp
      exact ⟨_, u13, u14, u15, u16, u17, u18, u19, u20, u21, F, v5, v10, v11, v22, v23, rfl, hP, (fun h => q (by rwa [RI.don_other _ _ _ (by decide)] at h)), fun _ => rfl, RI.keep (by decide) p1, RI.keep (by decide) p2, RI.keep (by decide) p3, RI.keep (by decide) p4, RI.keep (by decide) p5, RI.keep (by decide) p6, RI.keep (by decide) p7, RI.keep (by decide) p8, RI.keep (by decide) p9, RI.keep (by decide) px10⟩
    · refine RI.wpOp_plain rfl rfl ?_
      go_simp
      exact ⟨u12, _, u14, u15, u16, u17, u18, u19, u20, u21, F, v5, v10, v11, v22, v23, rfl, hP, (fun h => q (by rwa [RI.don_other _ _ _ (by decide)] at h)), RI.keep (by decide) p0, fun _ => rfl, RI.keep (by decide) p2, RI.keep (by decide) p3, RI.keep (by decide) p4, RI.keep (by decide) p5, RI.keep (by decide) p6, RI.keep (by decide) p7, RI.keep (by decide) p8, RI.keep (by decide) p9, RI.keep (by decide) px10⟩
    · refine RI.wpOp_plain rfl rfl ?_
      go_simp
      exact ⟨u12, u13, _, u15, u16, u17, u18, u19, u20, u21, F, v5, v10, v11, v22, v23, rfl, hP, (fun h => q (by rwa [RI.don_other _ _ _ (by decide)] at h)), RI.keep (by decide) p0, RI.keep (by decide) p1, fun _ => rfl, RI.keep (by decide) p3, RI.keep (by decide) p4, RI.keep (by decide) p5, RI.keep (by decide) p6, RI.keep (by decide) p7, RI.keep (by decide) p8, RI.keep (by decide) p9, RI.keep (by decide) px10⟩
    · have hd := hd _ rfl
      simp [Region.binds] at hd
      obtain rfl := p2 (by simp [hd])
      refine RI.wpOp_plain rfl rfl ?_
      go_simp
      exact ⟨u12, u13, _, _, u16, u17, u18, u19, u20, u21, F, v5, v10, v11, v22, v23, rfl, hP, (fun h => q (by rwa [RI.don_other _ _ _ (by decide)] at h)), RI.keep (by decide) p0, RI.keep (by decide) p1, RI.keep (by decide) p2, fun _ => rfl, RI.keep (by decide) p4, RI.keep (by decide) p5, RI.keep (by decide) p6, RI.keep (by decide) p7, RI.keep (by decide) p8, RI.keep (by decide) p9, RI.keep (by decide) px10⟩
    · have hd := hd _ rfl
      simp [Region.binds] at hd
      obtain rfl := p3 (by simp [hd])
      refine RI.wpOp_plain rfl rfl ?_
      have c0 : wx.cell? ⟨w.heap.size, 1, none⟩ = some (.int .u64 (dg a 1)) := hP.v0.c 1 (by decide)
      go_simp
      exact ⟨u12, u13, u14, _, _, u17, u18, u19, u20, u21, F, v5, v10, v11, v22, v23, rfl, hP, (fun h => q (by rwa [RI.don_other _ _ _ (by decide)] at h)), RI.keep (by decide) p0, RI.keep (by decide) p1, RI.keep (by decide) p2, RI.keep (by decide) p3, fun _ => rfl, RI.keep (by decide) p5, RI.keep (by decide) p6, RI.keep (by decide) p7, RI.keep (by decide) p8, RI.keep (by decide) p9, RI.keep (by decide) px10⟩
    · refine RI.wpOp_plain rfl rfl ?_
      go_simp
      exact ⟨u12, u13, u14, u15, u16, _, u18, u19, u20, u21, F, v5, v10, v11, v22, v23, rfl, hP, (fun h => q (by rwa [RI.don_other _ _ _ (by decide)] at h)), RI.keep (by decide) p0, RI.keep (by decide) p1, RI.keep (by decide) p2, RI.keep (by decide) p3, RI.keep (by decide) p4, fun _ => rfl, RI.keep (by decide) p6, RI.keep (by decide) p7, RI.keep (by decide) p8, RI.keep (by decide) p9, RI.keep (by decide) px10⟩
    · have hd := hd _ rfl
      simp [Region.binds] at hd
      obtain rfl := p5 (by simp [hd])
      refine RI.wpOp_plain rfl rfl ?_
      go_simp
      exact ⟨u12, u13, u14, u15, u16, _, _, u19, u20, u21, F, v5, v10, v11, v22, v23, rfl, hP, (fun h => q (by rwa [RI.don_other _ _ _ (by decide)] at h)), RI.keep (by decide) p0, RI.keep (by decide) p1, RI.keep (by decide) p2, RI.keep (by decide) p3, RI.keep (by decide) p4, RI.keep (by decide) p5, fun _ => rfl, RI.keep (by decide) p7, RI.keep (by decide) p8, RI.keep (by decide) p9, RI.keep (by decide) px10⟩
    · have hd := hd _ rfl
      simp [Region.binds] at hd
      obtain rfl := p6 (by simp [hd])
      refine RI.wpOp_plain rfl rfl ?_
      have c0 : wx.cell? ⟨w.heap.size + 1, 1, none⟩ = some (.int .u64 (dg b 1)) := hP.v1.c 1 (by decide)
      go_simp
      exact ⟨u12, u13, u14, u15, u16, u17, _, _, u20, u21, F, v5, v10, v11, v22, v23, rfl, hP, (fun h => q (by rwa [RI.don_other _ _ _ (by decide)] at h)), RI.keep (by decide) p0, RI.keep (by decide) p1, RI.keep (by decide) p2, RI.keep (by decide) p3, RI.keep (by decide) p4, RI.keep (by decide) p5, RI.keep (by decide) p6, fun _ => rfl, RI.keep (by decide) p8, RI.keep (by decide) p9, RI.keep (by decide) px10⟩
    · have hd := hd _ rfl
      simp [Region.binds] at hd
      obtain rfl := p1 (by simp [hd])
      obtain rfl := p4 (by simp [hd])
      obtain rfl := p7 (by simp [hd])
      refine RI.wpOp_plain rfl rfl ?_
      go_simp
      refine (KF.out _ _ _).mono ?_
      rintro e w1 ⟨rfl, hb1⟩
      exact ⟨u12, _, u14, u15, _, u17, u18, _, _, u21, F, v5, v10, v11, v22, v23, rfl, P4_below hP hb1, (fun h => q (by rwa [RI.don_other _ _ _ (by decide)] at h)), RI.keep (by decide) p0, RI.keep (by decide) p1, RI.keep (by decide) p2, RI.keep (by decide) p3, RI.keep (by decide) p4, RI.keep (by decide) p5, RI.keep (by decide) p6, RI.keep (by decide) p7, fun _ => rfl, RI.keep (by decide) p9, RI.keep (by decide) (px10)⟩
    · have hd := hd _ rfl
      simp [Region.binds] at hd
      obtain rfl := p0 (by simp [hd])
      obtain rfl := p1 (by simp [hd])
      obtain rfl := p2 (by simp [hd])
      obtain rfl := p3 (by simp [hd])
      obtain rfl := p4 (by simp [hd])
      obtain rfl := p5 (by simp [hd])
      obtain rfl := p6 (by simp [hd])
      obtain rfl := p7 (by simp [hd])
      obtain rfl := p8 (by simp [hd])
      refine RI.wpOp_plain rfl rfl ?_
      go_simp
      exact ⟨_, _, _, _, _, _, _, _, _, _, F, v5, v10, v11, v22, v23, rfl, hP, (fun h => q (by rwa [RI.don_other _ _ _ (by decide)] at h)), RI.keep (by decide) p0, RI.keep (by decide) p1, RI.keep (by decide) p2, RI.keep (by decide) p3, RI.keep (by decide) p4, RI.keep (by decide) p5, RI.keep (by decide) p6, RI.keep (by decide) p7, RI.keep (by decide) p8, fun _ => rfl, RI.keep (by decide) px10⟩
    · have hd := hd _ rfl
      simp [Region.binds] at hd
      obtain rfl := p0 (by simp [hd])
      obtain rfl := p1 (by simp [hd])
      obtain rfl := p2 (by simp [hd])
      obtain rfl := p3 (by simp [hd])
      obtain rfl := p4 (by simp [hd])
      obtain rfl := p5 (by simp [hd])
      obtain rfl := p6 (by simp [hd])
      obtain rfl := p7 (by simp [hd])
      obtain rfl := p8 (by simp [hd])
      obtain rfl := p9 (by simp [hd])
      refine RI.wpOp_plain rfl rfl ?_
      obtain rfl := q hf
      have c3 := hP.v3.c 1 (by decide)
      have f3 : ∀ o, wx.frozen? ⟨w.heap.size + 1 + 1 + 1, o, none⟩ = false := hP.v3.f
      go_simp
      exact ⟨_, _, _, _, _, _, _, _, _, _, _, v5, v10, v11, v22, v23, rfl, P4_set hP (by decide), (fun h => absurd h (by simp [RI.don])), RI.keep (by decide) p0, RI.keep (by decide) p1, RI.keep (by decide) p2, RI.keep (by decide) p3, RI.keep (by decide) p4, RI.keep (by decide) p5, RI.keep (by decide) p6, RI.keep (by decide) p7, RI.keep (by decide) p8, RI.keep (by decide) p9, fun _ => rfl⟩
  clear m0
  intro d x wx hI hd
  obtain ⟨u12, u13, u14, u15, u16, u17, u18, u19, u20, u21, F, v5, v10, v11, v22, v23, rfl, hP, q, p0, p1, p2, p3, p4, p5, p6, p7, p8, p9, px10⟩ := hI
  obtain rfl := p0 (hd 0 (by decide))
  obtain rfl := p1 (hd 1 (by decide))
  obtain rfl := p2 (hd 2 (by decide))
  obtain rfl := p3 (hd 3 (by decide))
  obtain rfl := p4 (hd 4 (by decide))
  obtain rfl := p5 (hd 5 (by decide))
  obtain rfl := p6 (hd 6 (by decide))
  obtain rfl := p7 (hd 7 (by decide))
  obtain rfl := p8 (hd 8 (by decide))
  obtain rfl := p9 (hd 9 (by decide))
  rw [px10 (hd 10 (by decide))] at hP
  have m0 := hP
  clear p0 p1 p2 p3 p4 p5 p6 p7 p8 p9 px10 q hd hP
  go_wp2_with fail
  rw [rounds_succ]
  go_upto_region 5 with fail
  refine RI.wp_region_inv (PB2 w a b f (.func (Fn.func 34) #[] #[]) (upd (upd (dg 0) 0 (f (dg a 0) (dg b 0))) 1 (f (dg a 1) (dg b 1)))) (by kernel_rfl) (by kernel_rfl) ?_ ?_ ?_
  · exact ⟨_, _, _, _, _, _, _, _, _, _, upd (upd (dg 0) 0 (f (dg a 0) (dg b 0))) 1 (f (dg a 1) (dg b 1)), _, _, _, _, _, rfl, P4_drew m0, fun _ => rfl, nofun, nofun, nofun, nofun, nofun, nofun, nofun, nofun, nofun, nofun, nofun⟩
  · clear m0
    intro d x wx i hI hi hm
    obtain ⟨u12, u13, u14, u15, u16, u17, u18, u19, u20, u21, F, v5, v10, v11, v22, v23, rfl, hP, q, p0, p1, p2, p3, p4, p5, p6, p7, p8, p9, px10⟩ := hI
    have hi' : i = 0 ∨ i = 1 ∨ i = 2 ∨ i = 3 ∨ i = 4 ∨ i = 5 ∨ i = 6 ∨ i = 7 ∨ i = 8 ∨ i = 9 ∨ i = 10 := by simp at hi; omega
    have hd := hm.2
    have hf := hm.1
    clear hm hi
    rcases hi' with rfl | rfl | rfl | rfl | rfl | rfl | rfl | rfl | rfl | rfl | rfl
    · refine RI.wpOp_plain rfl rfl ?_
      go_simp
      exact ⟨_, u13, u14, u15, u16, u17, u18, u19, u20, u21, F, v5, v10, v11, v22, v23, rfl, hP, (fun h => q (by rwa [RI.don_other _ _ _ (by decide)] at h)), fun _ => rfl, RI.keep (by decide) p1, RI.keep (by decide) p2, RI.keep (by decide) p3, RI.keep (by decide) p4, RI.keep (by decide) p5, RI.keep (by decide) p6, RI.keep (by decide) p7, RI.keep (by decide) p8, RI.keep (by decide) p9, RI.keep (by decide) px10⟩
    · refine RI.wpOp_plain rfl rfl ?_
      go_simp
      exact ⟨u12, _, u14, u15, u16, u17, u18, u19, u20, u21, F, v5, v10, v11, v22, v23, rfl, hP, (fun h => q (by rwa [RI.don_other _ _ _ (by decide)] at h)), RI.keep (by decide) p0, fun _ => rfl, RI.keep (by decide) p2, RI.keep (by decide) p3, RI.keep (by decide) p4, RI.keep (by decide) p5, RI.keep (by decide) p6, RI.keep (by decide) p7, RI.keep (by decide) p8, RI.keep (by decide) p9, RI.keep (by decide) px10⟩
    · refine RI.wpOp_plain rfl rfl ?_
      go_simp
      exact ⟨u12, u13, _, u15, u16, u17, u18, u19, u20, u21, F, v5, v10, v11, v22, v23, rfl, hP, (fun h => q (by rwa [RI.don_other _ _ _ (by decide)] at h)), RI.keep (by decide) p0, RI.keep (by decide) p1, fun _ => rfl, RI.keep (by decide) p3, RI.keep (by decide) p4, RI.keep (by decide) p5, RI.keep (by decide) p6, RI.keep (by decide) p7, RI.keep (by decide) p8, RI.keep (by decide) p9, RI.keep (by decide) px10⟩
    · have hd := hd _ rfl
      simp [Region.binds] at hd
      obtain rfl := p2 (by simp [hd])
      refine RI.wpOp_plain rfl rfl ?_
      go_simp
      exact ⟨u12, u13, _, _, u16, u17, u18, u19, u20, u21, F, v5, v10, v11, v22, v23, rfl, hP, (fun h => q (by rwa [RI.don_other _ _ _ (by decide)] at h)), RI.keep (by decide) p0, RI.keep (by decide) p1, RI.keep (by decide) p2, fun _ => rfl, RI.keep (by decide) p4, RI.keep (by decide) p5, RI.keep (by decide) p6, RI.keep (by decide) p7, RI.keep (by decide) p8, RI.keep (by decide) p9, RI.keep (by decide) px10⟩
    · have hd := hd _ rfl
      simp [Region.binds] at hd
      obtain rfl := p3 (by simp [hd])
      refine RI.wpOp_plain rfl rfl ?_
      have c0 : wx.cell? ⟨w.heap.size, 2, none⟩ = some (.int .u64 (dg a 2)) := hP.v0.c 2 (by decide)
      go_simp
      exact ⟨u12, u13, u14, _, _, u17, u18, u19, u20, u21, F, v5, v10, v11, v22, v23, rfl, hP, (fun h => q (by rwa [RI.don_other _ _ _ (by decide)] at h)), RI.keep (by decide) p0, RI.keep (by decide) p1, RI.keep (by decide) p2, RI.keep (by decide) p3, fun _ => rfl, RI.keep (by decide) p5, RI.keep (by decide) p6, RI.keep (by decide) p7, RI.keep (by decide) p8, RI.keep (by decide) p9, RI.keep (by decide) px10⟩
    · refine RI.wpOp_plain rfl rfl ?_
      go_simp
      exact ⟨u12, u13, u14, u15, u16, _, u18, u19, u20, u21, F, v5, v10, v11, v22, v23, rfl, hP, (fun h => q (by rwa [RI.don_other _ _ _ (by decide)] at h)), RI.keep (by decide) p0, RI.keep (by decide) p1, RI.keep (by decide) p2, RI.keep (by decide) p3, RI.keep (by decide) p4, fun _ => rfl, RI.keep (by decide) p6, RI.keep (by decide) p7, RI.keep (by decide) p8, RI.keep (by decide) p9, RI.keep (by decide) px10⟩
    · have hd := hd _ rfl
      simp [Region.binds] at hd
      obtain rfl := p5 (by simp [hd])
      refine RI.wpOp_plain rfl rfl ?_
      go_simp
      exact ⟨u12, u13, u14, u15, u16, _, _, u19, u20, u21, F, v5, v10, v11, v22, v23, rfl, hP, (fun h => q (by rwa [RI.don_other _ _ _ (by decide)] at h)), RI.keep (by decide) p0, RI.keep (by decide) p1, RI.keep (by decide) p2, RI.keep (by decide) p3, RI.keep (by decide) p4, RI.keep (by decide) p5, fun _ => rfl, RI.keep (by decide) p7, RI.keep (by decide) p8, RI.keep (by decide) p9, RI.keep (by decide) px10⟩
    · have hd := hd _ rfl
      simp [Region.binds] at hd
      obtain rfl := p6 (by simp [hd])
      refine RI.wpOp_plain rfl rfl ?_
      have c0 : wx.cell? ⟨w.heap.size + 1, 2, none⟩ = some (.int .u64 (dg b 2)) := hP.v1.c 2 (by decide)
      go_simp
      exact ⟨u12, u13, u14, u15, u16, u17, _, _, u20, u21, F, v5, v10, v11, v22, v23, rfl, hP, (fun h => q (by rwa [RI.don_other _ _ _ (by decide)] at h)), RI.keep (by decide) p0, RI.keep (by decide) p1, RI.keep (by decide) p2, RI.keep (by decide) p3, RI.keep (by decide) p4, RI.keep (by decide) p5, RI.keep (by decide) p6, fun _ => rfl, RI.keep (by decide) p8, RI.keep (by decide) p9, RI.keep (by decide) px10⟩
    · have hd := hd _ rfl
      simp [Region.binds] at hd
      obtain rfl := p1 (by simp [hd])
      obtain rfl := p4 (by simp [hd])
      obtain rfl := p7 (by simp [hd])
      refine RI.wpOp_plain rfl rfl ?_
      go_simp
      refine (KF.out _ _ _).mono ?_
      rintro e w1 ⟨rfl, hb1⟩
      exact ⟨u12, _, u14, u15, _, u17, u18, _, _, u21, F, v5, v10, v11, v22, v23, rfl, P4_below hP hb1, (fun h => q (by rwa [RI.don_other _ _ _ (by decide)] at h)), RI.keep (by decide) p0, RI.keep (by decide) p1, RI.keep (by decide) p2, RI.keep (by decide) p3, RI.keep (by decide) p4, RI.keep (by decide) p5, RI.keep (by decide) p6, RI.keep (by decide) p7, fun _ => rfl, RI.keep (by decide) p9, RI.keep (by decide) (px10)⟩
    · have hd := hd _ rfl
      simp [Region.binds] at hd
      obtain rfl := p0 (by simp [hd])
      obtain rfl := p1 (by simp [hd])
      obtain rfl := p2 (by simp [hd])
      obtain rfl := p3 (by simp [hd])
      obtain rfl := p4 (by simp [hd])
      obtain rfl := p5 (by simp [hd])
      obtain rfl := p6 (by simp [hd])
      obtain rfl := p7 (by simp [hd])
      obtain rfl := p8 (by simp [hd])
      refine RI.wpOp_plain rfl rfl ?_
      go_simp
      exact ⟨_, _, _, _, _, _, _, _, _, _, F, v5, v10, v11, v22, v23, rfl, hP, (fun h => q (by rwa [RI.don_other _ _ _ (by decide)] at h)), RI.keep (by decide) p0, RI.keep (by decide) p1, RI.keep (by decide) p2, RI.keep (by decide) p3, RI.keep (by decide) p4, RI.keep (by decide) p5, RI.keep (by decide) p6, RI.keep (by decide) p7, RI.keep (by decide) p8, fun _ => rfl, RI.keep (by decide) px10⟩
    · have hd := hd _ rfl
      simp [Region.binds] at hd
      obtain rfl := p0 (by simp [hd])
      obtain rfl := p1 (by simp [hd])
      obtain rfl := p2 (by simp [hd])
      obtain rfl := p3 (by simp [hd])
      obtain rfl := p4 (by simp [hd])
      obtain rfl := p5 (by simp [hd])
      obtain rfl := p6 (by simp [hd])
      obtain rfl := p7 (by simp [hd])
      obtain rfl := p8 (by simp [hd])
      obtain rfl := p9 (by simp [hd])
      refine RI.wpOp_plain rfl rfl ?_
      obtain rfl := q hf
      have c3 := hP.v3.c 2 (by decide)
      have f3 : ∀ o, wx.frozen? ⟨w.heap.size + 1 + 1 + 1, o, none⟩ = false := hP.v3.f
      go_simp
      exact ⟨_, _, _, _, _, _, _, _, _, _, _, v5, v10, v11, v22, v23, rfl, P4_set hP (by decide), (fun h => absurd h (by simp [RI.don])), RI.keep (by decide) p0, RI.keep (by decide) p1, RI.keep (by decide) p2, RI.keep (by decide) p3, RI.keep (by decide) p4, RI.keep (by decide) p5, RI.keep (by decide) p6, RI.keep (by decide) p7, RI.keep (by decide) p8, RI.keep (by decide) p9, fun _ => rfl⟩
  clear m0
  intro d x wx hI hd
  obtain ⟨u12, u13, u14, u15, u16, u17, u18, u19, u20, u21, F, v5, v10, v11, v22, v23, rfl, hP, q, p0, p1, p2, p3, p4, p5, p6, p7, p8, p9, px10⟩ := hI
  obtain rfl := p0 (hd 0 (by decide))
  obtain rfl := p1 (hd 1 (by decide))
  obtain rfl := p2 (hd 2 (by decide))
  obtain rfl := p3 (hd 3 (by decide))
  obtain rfl := p4 (hd 4 (by decide))
  obtain rfl := p5 (hd 5 (by decide))
  obtain rfl := p6 (hd 6 (by decide))
  obtain rfl := p7 (hd 7 (by decide))
  obtain rfl := p8 (hd 8 (by decide))
  obtain rfl := p9 (hd 9 (by decide))
  rw [px10 (hd 10 (by decide))] at hP
  have m0 := hP
  clear p0 p1 p2 p3 p4 p5 p6 p7 p8 p9 px10 q hd hP
  go_wp2_with fail
  rw [rounds_succ]
  go_upto_region 5 with fail
  refine RI.wp_region_inv (PB3 w a b f (.func (Fn.func 34) #[] #[]) (upd (upd (upd (dg 0) 0 (f (dg a 0) (dg b 0))) 1 (f (dg a 1) (dg b 1))) 2 (f (dg a 2) (dg b 2)))) (by kernel_rfl) (by kernel_rfl) ?_ ?_ ?_
  · exact ⟨_, _, _, _, _, _, _, _, _, _, upd (upd (upd (dg 0) 0 (f (dg a 0) (dg b 0))) 1 (f (dg a 1) (dg b 1))) 2 (f (dg a 2) (dg b 2)), _, _, _, _, _, rfl, P4_drew m0, fun _ => rfl, nofun, nofun, nofun, nofun, nofun, nofun, nofun, nofun, nofun, nofun, nofun⟩
  · clear m0
    intro d x wx i hI hi hm
    obtain ⟨u12, u13, u14, u15, u16, u17, u18, u19, u20, u21, F, v5, v10, v11, v22, v23, rfl, hP, q, p0, p1, p2, p3, p4, p5, p6, p7, p8, p9, px10⟩ := hI
    have hi' : i = 0 ∨ i = 1 ∨ i = 2 ∨ i = 3 ∨ i = 4 ∨ i = 5 ∨ i = 6 ∨ i = 7 ∨ i = 8 ∨ i = 9 ∨ i = 10 := by simp at hi; omega
    have hd := hm.2
    have hf := hm.1
    clear hm hi
    rcases hi' with rfl | rfl | rfl | rfl | rfl | rfl | rfl | rfl | rfl | rfl | rfl
    · refine RI.wpOp_plain rfl rfl ?_
      go_simp
      exact ⟨_, u13, u14, u15, u16, u17, u18, u19, u20, u21, F, v5, v10, v11, v22, v23, rfl, hP, (fun h => q (by rwa [RI.don_other _ _ _ (by decide)] at h)), fun _ => rfl, RI.keep (by decide) p1, RI.keep (by decide) p2, RI.keep (by decide) p3, RI.keep (by decide) p4, RI.keep (by decide) p5, RI.keep (by decide) p6, RI.keep (by decide) p7, RI.keep (by decide) p8, RI.keep (by decide) p9, RI.keep (by decide) px10⟩
    · refine RI.wpOp_plain rfl rfl ?_
      go_simp
      exact ⟨u12, _, u14, u15, u16, u17, u18, u19, u20, u21, F, v5, v10, v11, v22, v23, rfl, hP, (fun h => q (by rwa [RI.don_other _ _ _ (by decide)] at h)), RI.keep (by decide) p0, fun _ => rfl, RI.keep (by decide) p2, RI.keep (by decide) p3, RI.keep (by decide) p4, RI.keep (by decide) p5, RI.keep (by decide) p6, RI.keep (by decide) p7, RI.keep (by decide) p8, RI.keep (by decide) p9, RI.keep (by decide) px10⟩
    · refine RI.wpOp_plain rfl rfl ?_
      go_simp
      exact ⟨u12, u13, _, u15, u16, u17, u18, u19, u20, u21, F, v5, v10, v11, v22, v23, rfl, hP, (fun h => q (by rwa [RI.don_other _ _ _ (by decide)] at h)), RI.keep (by decide) p0, RI.keep (by decide) p1, fun _ => rfl, RI.keep (by decide) p3, RI.keep (by decide) p4, RI.keep (by decide) p5, RI.keep (by decide) p6, RI.keep (by decide) p7, RI.keep (by decide) p8, RI.keep (by decide) p9, RI.keep (by decide) px10⟩
    · have hd := hd _ rfl
      simp [Region.binds] at hd
      obtain rfl := p2 (by simp [hd])
      refine RI.wpOp_plain rfl rfl ?_
      go_simp
      exact ⟨u12, u13, _, _, u16, u17, u18, u19, u20, u21, F, v5, v10, v11, v22, v23, rfl, hP, (fun h => q (by rwa [RI.don_other _ _ _ (by decide)] at h)), RI.keep (by decide) p0, RI.keep (by decide) p1, RI.keep (by decide) p2, fun _ => rfl, RI.keep (by decide) p4, RI.keep (by decide) p5, RI.keep (by decide) p6, RI.keep (by decide) p7, RI.keep (by decide) p8, RI.keep (by decide) p9, RI.keep (by decide) px10⟩
    · have hd := hd _ rfl
      simp [Region.binds] at hd
      obtain rfl := p3 (by simp [hd])
      refine RI.wpOp_plain rfl rfl ?_
      have c0 : wx.cell? ⟨w.heap.size, 3, none⟩ = some (.int .u64 (dg a 3)) := hP.v0.c 3 (by decide)
      go_simp
      exact ⟨u12, u13, u14, _, _, u17, u18, u19, u20, u21, F, v5, v10, v11, v22, v23, rfl, hP, (fun h => q (by rwa [RI.don_other _ _ _ (by decide)] at h)), RI.keep (by decide) p0, RI.keep (by decide) p1, RI.keep (by decide) p2, RI.keep (by decide) p3, fun _ => rfl, RI.keep (by decide) p5, RI.keep (by decide) p6, RI.keep (by decide) p7, RI.keep (by decide) p8, RI.keep (by decide) p9, RI.keep (by decide) px10⟩
    · refine RI.wpOp_plain rfl rfl ?_
      go_simp
      exact ⟨u12, u13, u14, u15, u16, _, u18, u19, u20, u21, F, v5, v10, v11, v22, v23, rfl, hP, (fun h => q (by rwa [RI.don_other _ _ _ (by decide)] at h)), RI.keep (by decide) p0, RI.keep (by decide) p1, RI.keep (by decide) p2, RI.keep (by decide) p3, RI.keep (by decide) p4, fun _ => rfl, RI.keep (by decide) p6, RI.keep (by decide) p7, RI.keep (by decide) p8, RI.keep (by decide) p9, RI.keep (by decide) px10⟩
    · have hd := hd _ rfl
      simp [Region.binds] at hd
      obtain rfl := p5 (by simp [hd])
      refine RI.wpOp_plain rfl rfl ?_
      go_simp
      exact ⟨u12, u13, u14, u15, u16, _, _, u19, u20, u21, F, v5, v10, v11, v22, v23, rfl, hP, (fun h => q (by rwa [RI.don_other _ _ _ (by decide)] at h)), RI.keep (by decide) p0, RI.keep (by decide) p1, RI.keep (by decide) p2, RI.keep (by decide) p3, RI.keep (by decide) p4, RI.keep (by decide) p5, fun _ => rfl, RI.keep (by decide) p7, RI.keep (by decide) p8, RI.keep (by decide) p9, RI.keep (by decide) px10⟩
    · have hd := hd _ rfl
      simp [Region.binds] at hd
      obtain rfl := p6 (by simp [hd])
      refine RI.wpOp_plain rfl rfl ?_
      have c0 : wx.cell? ⟨w.heap.size + 1, 3, none⟩ = some (.int .u64 (dg b 3)) := hP.v1.c 3 (by decide)
      go_simp
      exact ⟨u12, u13, u14, u15, u16, u17, _, _, u20, u21, F, v5, v10, v11, v22, v23, rfl, hP, (fun h => q (by rwa [RI.don_other _ _ _ (by decide)] at h)), RI.keep (by decide) p0, RI.keep (by decide) p1, RI.keep (by decide) p2, RI.keep (by decide) p3, RI.keep (by decide) p4, RI.keep (by decide) p5, RI.keep (by decide) p6, fun _ => rfl, RI.keep (by decide) p8, RI.keep (by decide) p9, RI.keep (by decide) px10⟩
    · have hd := hd _ rfl
      simp [Region.binds] at hd
      obtain rfl := p1 (by simp [hd])
      obtain rfl := p4 (by simp [hd])
      obtain rfl := p7 (by simp [hd])
      refine RI.wpOp_plain rfl rfl ?_
      go_simp
      refine (KF.out _ _ _).mono ?_
      rintro e w1 ⟨rfl, hb1⟩
      exact ⟨u12, _, u14, u15, _, u17, u18, _, _, u21, F, v5, v10, v11, v22, v23, rfl, P4_below hP hb1, (fun h => q (by rwa [RI.don_other _ _ _ (by decide)] at h)), RI.keep (by decide) p0, RI.keep (by decide) p1, RI.keep (by decide) p2, RI.keep (by decide) p3, RI.keep (by decide) p4, RI.keep (by decide) p5, RI.keep (by decide) p6, RI.keep (by decide) p7, fun _ => rfl, RI.keep (by decide) p9, RI.keep (by decide) (px10)⟩
    · have hd := hd _ rfl
      simp [Region.binds] at hd
      obtain rfl := p0 (by simp [hd])
      obtain rfl := p1 (by simp [hd])
      obtain rfl := p2 (by simp [hd])
      obtain rfl := p3 (by simp [hd])
      obtain rfl := p4 (by simp [hd])
      obtain rfl := p5 (by simp [hd])
      obtain rfl := p6 (by simp [hd])
      obtain rfl := p7 (by simp [hd])
      obtain rfl := p8 (by simp [hd])
      refine RI.wpOp_plain rfl rfl ?_
      go_simp
      exact ⟨_, _, _, _, _, _, _, _, _, _, F, v5, v10, v11, v22, v23, rfl, hP, (fun h => q (by rwa [RI.don_other _ _ _ (by decide)] at h)), RI.keep (by decide) p0, RI.keep (by decide) p1, RI.keep (by decide) p2, RI.keep (by decide) p3, RI.keep (by decide) p4, RI.keep (by decide) p5, RI.keep (by decide) p6, RI.keep (by decide) p7, RI.keep (by decide) p8, fun _ => rfl, RI.keep (by decide) px10⟩
    · have hd := hd _ rfl
      simp [Region.binds] at hd
      obtain rfl := p0 (by simp [hd])
      obtain rfl := p1 (by simp [hd])
      obtain rfl := p2 (by simp [hd])
      obtain rfl := p3 (by simp [hd])
      obtain rfl := p4 (by simp [hd])
      obtain rfl := p5 (by simp [hd])
      obtain rfl := p6 (by simp [hd])
      obtain rfl := p7 (by simp [hd])
      obtain rfl := p8 (by simp [hd])
      obtain rfl := p9 (by simp [hd])
      refine RI.wpOp_plain rfl rfl ?_
      obtain rfl := q hf
      have c3 := hP.v3.c 3 (by decide)
      have f3 : ∀ o, wx.frozen? ⟨w.heap.size + 1 + 1 + 1, o, none⟩ = false := hP.v3.f
      go_simp
      exact ⟨_, _, _, _, _, _, _, _, _, _, _, v5, v10, v11, v22, v23, rfl, P4_set hP (by decide), (fun h => absurd h (by simp [RI.don])), RI.keep (by decide) p0, RI.keep (by decide) p1, RI.keep (by decide) p2, RI.keep (by decide) p3, RI.keep (by decide) p4, RI.keep (by decide) p5, RI.keep (by decide) p6, RI.keep (by decide) p7, RI.keep (by decide) p8, RI.keep (by decide) p9, fun _ => rfl⟩
  clear m0
  intro d x wx hI hd
  obtain ⟨u12, u13, u14, u15, u16, u17, u18, u19, u20, u21, F, v5, v10, v11, v22, v23, rfl, hP, q, p0, p1, p2, p3, p4, p5, p6, p7, p8, p9, px10⟩ := hI
  obtain rfl := p0 (hd 0 (by decide))
  obtain rfl := p1 (hd 1 (by decide))
  obtain rfl := p2 (hd 2 (by decide))
  obtain rfl := p3 (hd 3 (by decide))
  obtain rfl := p4 (hd 4 (by decide))
  obtain rfl := p5 (hd 5 (by decide))
  obtain rfl := p6 (hd 6 (by decide))
  obtain rfl := p7 (hd 7 (by decide))
  obtain rfl := p8 (hd 8 (by decide))
  obtain rfl := p9 (hd 9 (by decide))
  rw [px10 (hd 10 (by decide))] at hP
  have m0 := hP
  clear p0 p1 p2 p3 p4 p5 p6 p7 p8 p9 px10 q hd hP
  go_wp2_with fail
  rw [rounds_succ]
  have c3 : ∀ o, o < 4 → wx.cell? ⟨w.heap.size + 1 + 1 + 1, o, none⟩ = some (.int .u64 (dg N o)) := fun o ho => by
    rw [← HN.out o ho, m0.v3.c o ho]
    have : o = 0 ∨ o = 1 ∨ o = 2 ∨ o = 3 := by omega
    rcases this with rfl | rfl | rfl | rfl <;> rfl
  have c2 : ∀ o, o < 4 → wx.cell? ⟨w.heap.size + 1 + 1, o, none⟩ = some (.int .u64 (dg 0 o)) := m0.v2.c
  have f2 : ∀ o, wx.frozen? ⟨w.heap.size + 1 + 1, o, none⟩ = false := m0.v2.f
  have z2 := m0.v2.hi
  have HV : Hid (Vb w.heap.size (w.heap.size + 1 + 1) 4 (dg N) _) := Vb_set4 m0.v2
  have HB : Hid (Below w.heap.size w _) := Bel_set4 (h := w.heap.size + 1 + 1) (m := N) m0.bel (by omega)
  clear m0
  go_wp2_with fail
  exact bodyPost_ret (v := Wd N) (resultTw _ _ _ (w.heap.size + 1 + 1) N 6 rfl rfl HV.out.c) rfl ⟨rfl, HB.out⟩
set_option maxHeartbeats 4000000 in
set_option maxRecDepth 100000 in
theorem pbp_not (a b N : Nat) (f : Int → Int → Int) (KF : Hid (∀ (x y : Int) (w : World), Calls Try.prog 31 #[.int .u64 x, .int .u64 y] w fun e w' => e = .returned (.int .u64 (f x y)) ∧ Below w.heap.size w w')) (HN : Hid (∀ o, o < 4 → f (dg a o) (dg b o) = dg N o)) (w : World) :
    Calls Try.prog 30 #[Wd a, Wd b, .func (Fn.func 31) #[] #[]] w fun e w' => e = .returned (Wd N) ∧ Below w.heap.size w w' := by
  have m0 : P4 w a b (dg 0) ((((w.alloc (.cells #[.int .u64 (dg a 0), .int .u64 (dg a 1), .int .u64 (dg a 2), .int .u64 (dg a 3)] 24)).alloc (.cells #[.int .u64 (dg b 0), .int .u64 (dg b 1), .int .u64 (dg b 2), .int .u64 (dg b 3)] 24)).alloc (.cells #[.int .u64 0, .int .u64 0, .int .u64 0, .int .u64 0] 24)).alloc (.cells #[.int .u64 0, .int .u64 0, .int .u64 0, .int .u64 0] 24)) := by
    have k := M4_start w a b 24
    exact ⟨k.v0, k.v1, k.v2, k.v3, k.bel⟩
  conv => arg 3; unfold Wd
  go_enter Try.func30, Try.ntmps30
  go_wp2_with fail
  generalize (((w.alloc (.cells #[.int .u64 (dg a 0), .int .u64 (dg a 1), .int .u64 (dg a 2), .int .u64 (dg a 3)] 24)).alloc (.cells #[.int .u64 (dg b 0), .int .u64 (dg b 1), .int .u64 (dg b 2), .int .u64 (dg b 3)] 24)).alloc (.cells #[.int .u64 0, .int .u64 0, .int .u64 0, .int .u64 0] 24)).alloc (.cells #[.int .u64 0, .int .u64 0, .int .u64 0, .int .u64 0] 24) = W0 at m0 ⊢
  refine wp_loop_rounds 5 ?_
  rw [rounds_succ]
  go_upto_region 5 with fail
  refine RI.wp_region_inv (PB0 w a b f (.func (Fn.func 31) #[] #[]) (dg 0)) (by kernel_rfl) (by kernel_rfl) ?_ ?_ ?_
  · exact ⟨undef, undef, undef, undef, undef, undef, undef, undef, undef, undef, dg 0, _, _, _, _, _, rfl, P4_drew m0, fun _ => rfl, nofun, nofun, nofun, nofun, nofun, nofun, nofun, nofun, nofun, nofun, nofun⟩
  · clear m0
    intro d x wx i hI hi hm
    obtain ⟨u12, u13, u14, u15, u16, u17, u18, u19, u20, u21, F, v5, v10, v11, v22, v23, rfl, hP, q, p0, p1, p2, p3, p4, p5, p6, p7, p8, p9, px10⟩ := hI
    have hi' : i = 0 ∨ i = 1 ∨ i = 2 ∨ i = 3 ∨ i = 4 ∨ i = 5 ∨ i = 6 ∨ i = 7 ∨ i = 8 ∨ i = 9 ∨ i = 10 := by simp at hi; omega
    have hd := hm.2
    have hf := hm.1
    clear hm hi
    rcases hi' with rfl | rfl | rfl | rfl | rfl | rfl | rfl | rfl | rfl | rfl | rfl
    · refine RI.wpOp_plain rfl rfl ?_
      go_simp
      exact ⟨_, u13, u14, u15, u16, u17, u18, u19, u20, u21, F, v5, v10, v11, v22, v23, rfl, hP, (fun h => q (by rwa [RI.don_other _ _ _ (by decide)] at h)), fun _ => rfl, RI.keep (by decide) p1, RI.keep (by decide) p2, RI.keep (by decide) p3, RI.keep (by decide) p4, RI.keep (by decide) p5, RI.keep (by decide) p6, RI.keep (by decide) p7, RI.keep (by decide) p8, RI.keep (by decide) p9, RI.keep (by decide) px10⟩
    · refine RI.wpOp_plain rfl rfl ?_
      go_simp
      exact ⟨u12, _, u14, u15, u16, u17, u18, u19, u20, u21, F, v5, v10, v11, v22, v23, rfl, hP, (fun h => q (by rwa [RI.don_other _ _ _ (by decide)] at h)), RI.keep (by decide) p0, fun _ => rfl, RI.keep (by decide) p2, RI.keep (by decide) p3, RI.keep (by decide) p4, RI.keep (by decide) p5, RI.keep (by decide) p6, RI.keep (by decide) p7, RI.keep (by decide) p8, RI.keep (by decide) p9, RI.keep (by decide) px10⟩
    · refine RI.wpOp_plain rfl rfl ?_
      go_simp
      exact ⟨u12, u13, _, u15, u16, u17, u18, u19, u20, u21, F, v5, v10, v11, v22, v23, rfl, hP, (fun h => q (by rwa [RI.don_other _ _ _ (by decide)] at h)), RI.keep (by decide) p0, RI.keep (by decide) p1, fun _ => rfl, RI.keep (by decide) p3, RI.keep (by decide) p4, RI.keep (by decide) p5, RI.keep (by decide) p6, RI.keep (by decide) p7, RI.keep (by decide) p8, RI.keep (by decide) p9, RI.keep (by decide) px10⟩
    · have hd := hd _ rfl
      simp [Region.binds] at hd
      obtain rfl := p2 (by simp [hd])
      refine RI.wpOp_plain rfl rfl ?_
      go_simp
      exact ⟨u12, u13, _, _, u16, u17, u18, u19, u20, u21, F, v5, v10, v11, v22, v23, rfl, hP, (fun h => q (by rwa [RI.don_other _ _ _ (by decide)] at h)), RI.keep (by decide) p0, RI.keep (by decide) p1, RI.keep (by decide) p2, fun _ => rfl, RI.keep (by decide) p4, RI.keep (by decide) p5, RI.keep (by decide) p6, RI.keep (by decide) p7, RI.keep (by decide) p8, RI.keep (by decide) p9, RI.keep (by decide) px10⟩
    · have hd := hd _ rfl
      simp [Region.binds] at hd
      obtain rfl := p3 (by simp [hd])
      refine RI.wpOp_plain rfl rfl ?_
      have c0 : wx.cell? ⟨w.heap.size, 0, none⟩ = some (.int .u64 (dg a 0)) := hP.v0.c 0 (by decide)
      go_simp
      exact ⟨u12, u13, u14, _, _, u17, u18, u19, u20, u21, F, v5, v10, v11, v22, v23, rfl, hP, (fun h => q (by rwa [RI.don_other _ _ _ (by decide)] at h)), RI.keep (by decide) p0, RI.keep (by decide) p1, RI.keep (by decide) p2, RI.keep (by decide) p3, fun _ => rfl, RI.keep (by decide) p5, RI.keep (by decide) p6, RI.keep (by decide) p7, RI.keep (by decide) p8, RI.keep (by decide) p9, RI.keep (by decide) px10⟩
    · refine RI.wpOp_plain rfl rfl ?_
      go_simp
      exact ⟨u12, u13, u14, u15, u16, _, u18, u19, u20, u21, F, v5, v10, v11, v22, v23, rfl, hP, (fun h => q (by rwa [RI.don_other _ _ _ (by decide)] at h)), RI.keep (by decide) p0, RI.keep (by decide) p1, RI.keep (by decide) p2, RI.keep (by decide) p3, RI.keep (by decide) p4, fun _ => rfl, RI.keep (by decide) p6, RI.keep (by decide) p7, RI.keep (by decide) p8, RI.keep (by decide) p9, RI.keep (by decide) px10⟩
    · have hd := hd _ rfl
      simp [Region.binds] at hd
      obtain rfl := p5 (by simp [hd])
      refine RI.wpOp_plain rfl rfl ?_
      go_simp
      exact ⟨u12, u13, u14, u15, u16, _, _, u19, u20, u21, F, v5, v10, v11, v22, v23, rfl, hP, (fun h => q (by rwa [RI.don_other _ _ _ (by decide)] at h)), RI.keep (by decide) p0, RI.keep (by decide) p1, RI.keep (by decide) p2, RI.keep (by decide) p3, RI.keep (by decide) p4, RI.keep (by decide) p5, fun _ => rfl, RI.keep (by decide) p7, RI.keep (by decide) p8, RI.keep (by decide) p9, RI.keep (by decide) px10⟩
    · have hd := hd _ rfl
      simp [Region.binds] at hd
      obtain rfl := p6 (by simp [hd])
      refine RI.wpOp_plain rfl rfl ?_
      have c0 : wx.cell? ⟨w.heap.size + 1, 0, none⟩ = some (.int .u64 (dg b 0)) := hP.v1.c 0 (by decide)
      go_simp
      exact ⟨u12, u13, u14, u15, u16, u17, _, _, u20, u21, F, v5, v10, v11, v22, v23, rfl, hP, (fun h => q (by rwa [RI.don_other _ _ _ (by decide)] at h)), RI.keep (by decide) p0, RI.keep (by decide) p1, RI.keep (by decide) p2, RI.keep (by decide) p3, RI.keep (by decide) p4, RI.keep (by decide) p5, RI.keep (by decide) p6, fun _ => rfl, RI.keep (by decide) p8, RI.keep (by decide) p9, RI.keep (by decide) px10⟩
    · have hd := hd _ rfl
      simp [Region.binds] at hd
      obtain rfl := p1 (by simp [hd])
      obtain rfl := p4 (by simp [hd])
      obtain rfl := p7 (by simp [hd])
      refine RI.wpOp_plain rfl rfl ?_
      go_simp
      refine (KF.out _ _ _).mono ?_
      rintro e w1 ⟨rfl, hb1⟩
      exact ⟨u12, _, u14, u15, _, u17, u18, _, _, u21, F, v5, v10, v11, v22, v23, rfl, P4_below hP hb1, (fun h => q (by rwa [RI.don_other _ _ _ (by decide)] at h)), RI.keep (by decide) p0, RI.keep (by decide) p1, RI.keep (by decide) p2, RI.keep (by decide) p3, RI.keep (by decide) p4, RI.keep (by decide) p5, RI.keep (by decide) p6, RI.keep (by decide) p7, fun _ => rfl, RI.keep (by decide) p9, RI.keep (by decide) (px10)⟩
    · have hd := hd _ rfl
      simp [Region.binds] at hd
      obtain rfl := p0 (by simp [hd])
      obtain rfl := p1 (by simp [hd])
      obtain rfl := p2 (by simp [hd])
      obtain rfl := p3 (by simp [hd])
      obtain rfl := p4 (by simp [hd])
      obtain rfl := p5 (by simp [hd])
      obtain rfl := p6 (by simp [hd])
      obtain rfl := p7 (by simp [hd])
      obtain rfl := p8 (by simp [hd])
      refine RI.wpOp_plain rfl rfl ?_
      go_simp
      exact ⟨_, _, _, _, _, _, _, _, _, _, F, v5, v10, v11, v22, v23, rfl, hP, (fun h => q (by rwa [RI.don_other _ _ _ (by decide)] at h)), RI.keep (by decide) p0, RI.keep (by decide) p1, RI.keep (by decide) p2, RI.keep (by decide) p3, RI.keep (by decide) p4, RI.keep (by decide) p5, RI.keep (by decide) p6, RI.keep (by decide) p7, RI.keep (by decide) p8, fun _ => rfl, RI.keep (by decide) px10⟩
    · have hd := hd _ rfl
      simp [Region.binds] at hd
      obtain rfl := p0 (by simp [hd])
      obtain rfl := p1 (by simp [hd])
      obtain rfl := p2 (by simp [hd])
      obtain rfl := p3 (by simp [hd])
      obtain rfl := p4 (by simp [hd])
      obtain rfl := p5 (by simp [hd])
      obtain rfl := p6 (by simp [hd])
      obtain rfl := p7 (by simp [hd])
      obtain rfl := p8 (by simp [hd])
      obtain rfl := p9 (by simp [hd])
      refine RI.wpOp_plain rfl rfl ?_
      obtain rfl := q hf
      have c3 := hP.v3.c 0 (by decide)
      have f3 : ∀ o, wx.frozen? ⟨w.heap.size + 1 + 1 + 1, o, none⟩ = false := hP.v3.f
      go_simp
      exact ⟨_, _, _, _, _, _, _, _, _, _, _, v5, v10, v11, v22, v23, rfl, P4_set hP (by decide), (fun h => absurd h (by simp [RI.don])), RI.keep (by decide) p0, RI.keep (by decide) p1, RI.keep (by decide) p2, RI.keep (by decide) p3, RI.keep (by decide) p4, RI.keep (by decide) p5, RI.keep (by decide) p6, RI.keep (by decide) p7, RI.keep (by decide) p8, RI.keep (by decide) p9, fun _ => rfl⟩
  clear m0
  intro d x wx hI hd
  obtain ⟨u12, u13, u14, u15, u16, u17, u18, u19, u20, u21, F, v5, v10, v11, v22, v23, rfl, hP, q, p0, p1, p2, p3, p4, p5, p6, p7, p8, p9, px10⟩ := hI
  obtain rfl := p0 (hd 0 (by decide))
  obtain rfl := p1 (hd 1 (by decide))
  obtain rfl := p2 (hd 2 (by decide))
  obtain rfl := p3 (hd 3 (by decide))
  obtain rfl := p4 (hd 4 (by decide))
  obtain rfl := p5 (hd 5 (by decide))
  obtain rfl := p6 (hd 6 (by decide))
  obtain rfl := p7 (hd 7 (by decide))
  obtain rfl := p8 (hd 8 (by decide))
  obtain rfl := p9 (hd 9 (by decide))
  rw [px10 (hd 10 (by decide))] at hP
  have m0 := hP
  clear p0 p1 p2 p3 p4 p5 p6 p7 p8 p9 px10 q hd hP
  go_wp2_with fail
  rw [rounds_succ]
  go_upto_region 5 with fail
  refine RI.wp_region_inv (PB1 w a b f (.func (Fn.func 31) #[] #[]) (upd (dg 0) 0 (f (dg a 0) (dg b 0)))) (by kernel_rfl) (by kernel_rfl) ?_ ?_ ?_
  · exact ⟨_, _, _, _, _, _, _, _, _, _, upd (dg 0) 0 (f (dg a 0) (dg b 0)), _, _, _, _, _, rfl, P4_drew m0, fun _ => rfl, nofun, nofun, nofun, nofun, nofun, nofun, nofun, nofun, nofun, nofun, nofun⟩
  · clear m0
    intro d x wx i hI hi hm
    obtain ⟨u12, u13, u14, u15, u16, u17, u18, u19, u20, u21, F, v5, v10, v11, v22, v23, rfl, hP, q, p0, p1, p2, p3, p4, p5, p6, p7, p8, p9, px10⟩ := hI
    have hi' : i = 0 ∨ i = 1 ∨ i = 2 ∨ i = 3 ∨ i = 4 ∨ i = 5 ∨ i = 6 ∨ i = 7 ∨ i = 8 ∨ i = 9 ∨ i = 10 := by simp at hi; omega
    have hd := hm.2
    have hf := hm.1
    clear hm hi
    rcases hi' with rfl | rfl | rfl | rfl | rfl | rfl | rfl | rfl | rfl | rfl | rfl
    · refine RI.wpOp_plain rfl rfl ?_
      go_simp
      exact ⟨_, u13, u14, u15, u16, u17, u18, u19, u20, u21, F, v5, v10, v11, v22, v23, rfl, hP, (fun h => q (by rwa [RI.don_other _ _ _ (by decide)] at h)), fun _ => rfl, RI.keep (by decide) p1, RI.keep (by decide) p2, RI.keep (by decide) p3, RI.keep (by decide) p4, RI.keep (by decide) p5, RI.keep (by decide) p6, RI.keep (by decide) p7, RI.keep (by decide) p8, RI.keep (by decide) p9, RI.keep (by decide) px10⟩
    · refine RI.wpOp_plain rfl rfl ?_
      go_simp
      exact ⟨u12, _, u14, u15, u16, u17, u18, u19, u20, u21, F, v5, v10, v11, v22, v23, rfl, hP, (fun h => q (by rwa [RI.don_other _ _ _ (by decide)] at h)), RI.keep (by decide) p0, fun _ => rfl, RI.keep (by decide) p2, RI.keep (by decide) p3, RI.keep (by decide) p4, RI.keep (by decide) p5, RI.keep (by decide) p6, RI.keep (by decide) p7, RI.keep (by decide) p8, RI.keep (by decide) p9, RI.keep (by decide) px10⟩
    · refine RI.wpOp_plain rfl rfl ?_
      go_simp
      exact ⟨u12, u13, _, u15, u16, u17, u18, u19, u20, u21, F, v5, v10, v11, v22, v23, rfl, hP, (fun h => q (by rwa [RI.don_other _ _ _ (by decide)] at h)), RI.keep (by decide) p0, RI.keep (by decide) p1, fun _ => rfl, RI.keep (by decide) p3, RI.keep (by decide) p4, RI.keep (by decide) p5, RI.keep (by decide) p6, RI.keep (by decide) p7, RI.keep (by decide) p8, RI.keep (by decide) p9, RI.keep (by decide) px10⟩
    · have hd := hd _ rfl
      simp [Region.binds] at hd
      obtain rfl := p2 (by simp [hd])
      refine RI.wpOp_plain rfl rfl ?_
      go_simp
      exact ⟨u12, u13, _, _, u16, u17, u18, u19, u20, u21, F, v5, v10, v11, v22, v23, rfl, hP, (fun h => q (by rwa [RI.don_other _ _ _ (by decide)] at h)), RI.keep (by decide) p0, RI.keep (by decide) p1, RI.keep (by decide) p2, fun _ => rfl, RI.keep (by decide) p4, RI.keep (by decide) p5, RI.keep (by decide) p6, RI.keep (by decide) p7, RI.keep (by decide) p8, RI.keep (by decide) p9, RI.keep (by decide) px10⟩
    · have hd := hd _ rfl
      simp [Region.binds] at hd
      obtain rfl := p3 (by simp [hd])
      refine RI.wpOp_plain rfl rfl ?_
      have c0 : wx.cell? ⟨w.heap.size, 1, none⟩ = some (.int .u64 (dg a 1)) := hP.v0.c 1 (by decide)
      go_simp
      exact ⟨u12, u13, u14, _, _, u17, u18, u19, u20, u21, F, v5, v10, v11, v22, v23, rfl, hP, (fun h => q (by rwa [RI.don_other _ _ _ (by decide)] at h)), RI.keep (by decide) p0, RI.keep (by decide) p1, RI.keep (by decide) p2, RI.keep (by decide) p3, fun _ => rfl, RI.keep (by decide) p5, RI.keep (by decide) p6, RI.keep (by decide) p7, RI.keep (by decide) p8, RI.keep (by decide) p9, RI.keep (by decide) px10⟩
    · refine RI.wpOp_plain rfl rfl ?_
      go_simp
      exact ⟨u12, u13, u14, u15, u16, _, u18, u19, u20, u21, F, v5, v10, v11, v22, v23, rfl, hP, (fun h => q (by rwa [RI.don_other _ _ _ (by decide)] at h)), RI.keep (by decide) p0, RI.keep (by decide) p1, RI.keep (by decide) p2, RI.keep (by decide) p3, RI.keep (by decide) p4, fun _ => rfl, RI.keep (by decide) p6, RI.keep (by decide) p7, RI.keep (by decide) p8, RI.keep (by decide) p9, RI.keep (by decide) px10⟩
    · have hd := hd _ rfl
      simp [Region.binds] at hd
      obtain rfl := p5 (by simp [hd])
      refine RI.wpOp_plain rfl rfl ?_
      go_simp
      exact ⟨u12, u13, u14, u15, u16, _, _, u19, u20, u21, F, v5, v10, v11, v22, v23, rfl, hP, (fun h => q (by rwa [RI.don_other _ _ _ (by decide)] at h)), RI.keep (by decide) p0, RI.keep (by decide) p1, RI.keep (by decide) p2, RI.keep (by decide) p3, RI.keep (by decide) p4, RI.keep (by decide) p5, fun _ => rfl, RI.keep (by decide) p7, RI.keep (by decide) p8, RI.keep (by decide) p9, RI.keep (by decide) px10⟩
    · have hd := hd _ rfl
      simp [Region.binds] at hd
      obtain rfl := p6 (by simp [hd])
      refine RI.wpOp_plain rfl rfl ?_
      have c0 : wx.cell? ⟨w.heap.size + 1, 1, none⟩ = some (.int .u64 (dg b 1)) := hP.v1.c 1 (by decide)
      go_simp
      exact ⟨u12, u13, u14, u15, u16, u17, _, _, u20, u21, F, v5, v10, v11, v22, v23, rfl, hP, (fun h => q (by rwa [RI.don_other _ _ _ (by decide)] at h)), RI.keep (by decide) p0, RI.keep (by decide) p1, RI.keep (by decide) p2, RI.keep (by decide) p3, RI.keep (by decide) p4, RI.keep (by decide) p5, RI.keep (by decide) p6, fun _ => rfl, RI.keep (by decide) p8, RI.keep (by decide) p9, RI.keep (by decide) px10⟩
    · have hd := hd _ rfl
      simp [Region.binds] at hd
      obtain rfl := p1 (by simp [hd])
      obtain rfl := p4 (by simp [hd])
      obtain rfl := p7 (by simp [hd])
      refine RI.wpOp_plain rfl rfl ?_
      go_simp
      refine (KF.out _ _ _).mono ?_
      rintro e w1 ⟨rfl, hb1⟩
      exact ⟨u12, _, u14, u15, _, u17, u18, _, _, u21, F, v5, v10, v11, v22, v23, rfl, P4_below hP hb1, (fun h => q (by rwa [RI.don_other _ _ _ (by decide)] at h)), RI.keep (by decide) p0, RI.keep (by decide) p1, RI.keep (by decide) p2, RI.keep (by decide) p3, RI.keep (by decide) p4, RI.keep (by decide) p5, RI.keep (by decide) p6, RI.keep (by decide) p7, fun _ => rfl, RI.keep (by decide) p9, RI.keep (by decide) (px10)⟩
    · have hd := hd _ rfl
      simp [Region.binds] at hd
      obtain rfl := p0 (by simp [hd])
      obtain rfl := p1 (by simp [hd])
      obtain rfl := p2 (by simp [hd])
      obtain rfl := p3 (by simp [hd])
      obtain rfl := p4 (by simp [hd])
      obtain rfl := p5 (by simp [hd])
      obtain rfl := p6 (by simp [hd])
      obtain rfl := p7 (by simp [hd])
      obtain rfl := p8 (by simp [hd])
      refine RI.wpOp_plain rfl rfl ?_
      go_simp
      exact ⟨_, _, _, _, _, _, _, _, _, _, F, v5, v10, v11, v22, v23, rfl, hP, (fun h => q (by rwa [RI.don_other _ _ _ (by decide)] at h)), RI.keep (by decide) p0, RI.keep (by decide) p1, RI.keep (by decide) p2, RI.keep (by decide) p3, RI.keep (by decide) p4, RI.keep (by decide) p5, RI.keep (by decide) p6, RI.keep (by decide) p7, RI.keep (by decide) p8, fun _ => rfl, RI.keep (by decide) px10⟩
    · have hd := hd _ rfl
      simp [Region.binds] at hd
      obtain rfl := p0 (by simp [hd])
      obtain rfl := p1 (by simp [hd])
      obtain rfl := p2 (by simp [hd])
      obtain rfl := p3 (by simp [hd])
      obtain rfl := p4 (by simp [hd])
      obtain rfl := p5 (by simp [hd])
      obtain rfl := p6 (by simp [hd])
      obtain rfl := p7 (by simp [hd])
      obtain rfl := p8 (by simp [hd])
      obtain rfl := p9 (by simp [hd])
      refine RI.wpOp_plain rfl rfl ?_
      obtain rfl := q hf
      have c3 := hP.v3.c 1 (by decide)
      have f3 : ∀ o, wx.frozen? ⟨w.heap.size + 1 + 1 + 1, o, none⟩ = false := hP.v3.f
      go_simp
      exact ⟨_, _, _, _, _, _, _, _, _, _, _, v5, v10, v11, v22, v23, rfl, P4_set hP (by decide), (fun h => absurd h (by simp [RI.don])), RI.keep (by decide) p0, RI.keep (by decide) p1, RI.keep (by decide) p2, RI.keep (by decide) p3, RI.keep (by decide) p4, RI.keep (by decide) p5, RI.keep (by decide) p6, RI.keep (by decide) p7, RI.keep (by decide) p8, RI.keep (by decide) p9, fun _ => rfl⟩
  clear m0
  intro d x wx hI hd
  obtain ⟨u12, u13, u14, u15, u16, u17, u18, u19, u20, u21, F, v5, v10, v11, v22, v23, rfl, hP, q, p0, p1, p2, p3, p4, p5, p6, p7, p8, p9, px10⟩ := hI
  obtain rfl := p0 (hd 0 (by decide))
  obtain rfl := p1 (hd 1 (by decide))
  obtain rfl := p2 (hd 2 (by decide))
  obtain rfl := p3 (hd 3 (by decide))
  obtain rfl := p4 (hd 4 (by decide))
  obtain rfl := p5 (hd 5 (by decide))
  obtain rfl := p6 (hd 6 (by decide))
  obtain rfl := p7 (hd 7 (by decide))
  obtain rfl := p8 (hd 8 (by decide))
  obtain rfl := p9 (hd 9 (by decide))
  rw [px10 (hd 10 (by decide))] at hP
  have m0 := hP
  clear p0 p1 p2 p3 p4 p5 p6 p7 p8 p9 px10 q hd hP
  go_wp2_with fail
  rw [rounds_succ]
  go_upto_region 5 with fail
  refine RI.wp_region_inv (PB2 w a b f (.func (Fn.func 31) #[] #[]) (upd (upd (dg 0) 0 (f (dg a 0) (dg b 0))) 1 (f (dg a 1) (dg b 1)))) (by kernel_rfl) (by kernel_rfl) ?_ ?_ ?_
  · exact ⟨_, _, _, _, _, _, _, _, _, _, upd (upd (dg 0) 0 (f (dg a 0) (dg b 0))) 1 (f (dg a 1) (dg b 1)), _, _, _, _, _, rfl, P4_drew m0, fun _ => rfl, nofun, nofun, nofun, nofun, nofun, nofun, nofun, nofun, nofun, nofun, nofun⟩
  · clear m0
    intro d x wx i hI hi hm
    obtain ⟨u12, u13, u14, u15, u16, u17, u18, u19, u20, u21, F, v5, v10, v11, v22, v23, rfl, hP, q, p0, p1, p2, p3, p4, p5, p6, p7, p8, p9, px10⟩ := hI
    have hi' : i = 0 ∨ i = 1 ∨ i = 2 ∨ i = 3 ∨ i = 4 ∨ i = 5 ∨ i = 6 ∨ i = 7 ∨ i = 8 ∨ i = 9 ∨ i = 10 := by simp at hi; omega
    have hd := hm.2
    have hf := hm.1
    clear hm hi
    rcases hi' with rfl | rfl | rfl | rfl | rfl | rfl | rfl | rfl | rfl | rfl | rfl
    · refine RI.wpOp_plain rfl rfl ?_
      go_simp
      exact ⟨_, u13, u14, u15, u16, u17, u18, u19, u20, u21, F, v5, v10, v11, v22, v23, rfl, hP, (fun h => q (by rwa [RI.don_other _ _ _ (by decide)] at h)), fun _ => rfl, RI.keep (by decide) p1, RI.keep (by decide) p2, RI.keep (by decide) p3, RI.keep (by decide) p4, RI.keep (by decide) p5, RI.keep (by decide) p6, RI.keep (by decide) p7, RI.keep (by decide) p8, RI.keep (by decide) p9, RI.keep (by decide) px10⟩
    · refine RI.wpOp_plain rfl rfl ?_
      go_simp
      exact ⟨u12, _, u14, u15, u16, u17, u18, u19, u20, u21, F, v5, v10, v11, v22, v23, rfl, hP, (fun h => q (by rwa [RI.don_other _ _ _ (by decide)] at h)), RI.keep (by decide) p0, fun _ => rfl, RI.keep (by decide) p2, RI.keep (by decide) p3, RI.keep (by decide) p4, RI.keep (by decide) p5, RI.keep (by decide) p6, RI.keep (by decide) p7, RI.keep (by decide) p8, RI.keep (by decide) p9, RI.keep (by decide) px10⟩
    · refine RI.wpOp_plain rfl rfl ?_
      go_simp
      exact ⟨u12, u13, _, u15, u16, u17, u18, u19, u20, u21, F, v5, v10, v11, v22, v23, rfl, hP, (fun h => q (by rwa [RI.don_other _ _ _ (by decide)] at h)), RI.keep (by decide) p0, RI.keep (by decide) p1, fun _ => rfl, RI.keep (by decide) p3, RI.keep (by decide) p4, RI.keep (by decide) p5, RI.keep (by decide) p6, RI.keep (by decide) p7, RI.keep (by decide) p8, RI.keep (by decide) p9, RI.keep (by decide) px10⟩
    · have hd := hd _ rfl
      simp [Region.binds] at hd
      obtain rfl := p2 (by simp [hd])
      refine RI.wpOp_plain rfl rfl ?_
      go_simp
      exact ⟨u12, u13, _, _, u16, u17, u18, u19, u20, u21, F, v5, v10, v11, v22, v23, rfl, hP, (fun h => q (by rwa [RI.don_other _ _ _ (by decide)] at h)), RI.keep (by decide) p0, RI.keep (by decide) p1, RI.keep (by decide) p2, fun _ => rfl, RI.keep (by decide) p4, RI.keep (by decide) p5, RI.keep (by decide) p6, RI.keep (by decide) p7, RI.keep (by decide) p8, RI.keep (by decide) p9, RI.keep (by decide) px10⟩
    · have hd := hd _ rfl
      simp [Region.binds] at hd
      obtain rfl := p3 (by simp [hd])
      refine RI.wpOp_plain rfl rfl ?_
      have c0 : wx.cell? ⟨w.heap.size, 2, none⟩ = some (.int .u64 (dg a 2)) := hP.v0.c 2 (by decide)
      go_simp
      exact ⟨u12, u13, u14, _, _, u17, u18, u19, u20, u21, F, v5, v10, v11, v22, v23, rfl, hP, (fun h => q (by rwa [RI.don_other _ _ _ (by decide)] at h)), RI.keep (by decide) p0, RI.keep (by decide) p1, RI.keep (by decide) p2, RI.keep (by decide) p3, fun _ => rfl, RI.keep (by decide) p5, RI.keep (by decide) p6, RI.keep (by decide) p7, RI.keep (by decide) p8, RI.keep (by decide) p9, RI.keep (by decide) px10⟩
    · refine RI.wpOp_plain rfl rfl ?_
      go_simp
      exact ⟨u12, u13, u14, u15, u16, _, u18, u19, u20, u21, F, v5, v10, v11, v22, v23, rfl, hP, (fun h => q (by rwa [RI.don_other _ _ _ (by decide)] at h)), RI.keep (by decide) p0, RI.keep (by decide) p1, RI.keep (by decide) p2, RI.keep (by decide) p3, RI.keep (by decide) p4, fun _ => rfl, RI.keep (by decide) p6, RI.keep (by decide) p7, RI.keep (by decide) p8, RI.keep (by decide) p9, RI.keep (by decide) px10⟩
    · have hd := hd _ rfl
      simp [Region.binds] at hd
      obtain rfl := p5 (by simp [hd])
      refine RI.wpOp_plain rfl rfl ?_
      go_simp
      exact ⟨u12, u13, u14, u15, u16, _, _, u19, u20, u21, F, v5, v10, v11, v22, v23, rfl, hP, (fun h => q (by rwa [RI.don_other _ _ _ (by decide)] at h)), RI.keep (by decide) p0, RI.keep (by decide) p1, RI.keep (by decide) p2, RI.keep (by decide) p3, RI.keep (by decide) p4, RI.keep (by decide) p5, fun _ => rfl, RI.keep (by decide) p7, RI.keep (by decide) p8, RI.keep (by decide) p9, RI.keep (by decide) px10⟩
    · have hd := hd _ rfl
      simp [Region.binds] at hd
      obtain rfl := p6 (by simp [hd])
      refine RI.wpOp_plain rfl rfl ?_
      have c0 : wx.cell? ⟨w.heap.size + 1, 2, none⟩ = some (.int .u64 (dg b 2)) := hP.v1.c 2 (by decide)
      go_simp
      exact ⟨u12, u13, u14, u15, u16, u17, _, _, u20, u21, F, v5, v10, v11, v22, v23, rfl, hP, (fun h => q (by rwa [RI.don_other _ _ _ (by decide)] at h)), RI.keep (by decide) p0, RI.keep (by decide) p1, RI.keep (by decide) p2, RI.keep (by decide) p3, RI.keep (by decide) p4, RI.keep (by decide) p5, RI.keep (by decide) p6, fun _ => rfl, RI.keep (by decide) p8, RI.keep (by decide) p9, RI.keep (by decide) px10⟩
    · have hd := hd _ rfl
      simp [Region.binds] at hd
      obtain rfl := p1 (by simp [hd])
      obtain rfl := p4 (by simp [hd])
      obtain rfl := p7 (by simp [hd])
      refine RI.wpOp_plain rfl rfl ?_
      go_simp
      refine (KF.out _ _ _).mono ?_
      rintro e w1 ⟨rfl, hb1⟩
      exact ⟨u12, _, u14, u15, _, u17, u18, _, _, u21, F, v5, v10, v11, v22, v23, rfl, P4_below hP hb1, (fun h => q (by rwa [RI.don_other _ _ _ (by decide)] at h)), RI.keep (by decide) p0, RI.keep (by decide) p1, RI.keep (by decide) p2, RI.keep (by decide) p3, RI.keep (by decide) p4, RI.keep (by decide) p5, RI.keep (by decide) p6, RI.keep (by decide) p7, fun _ => rfl, RI.keep (by decide) p9, RI.keep (by decide) (px10)⟩
    · have hd := hd _ rfl
      simp [Region.binds] at hd
      obtain rfl := p0 (by simp [hd])
      obtain rfl := p1 (by simp [hd])
      obtain rfl := p2 (by simp [hd])
      obtain rfl := p3 (by simp [hd])
      obtain rfl := p4 (by simp [hd])
      obtain rfl := p5 (by simp [hd])
      obtain rfl := p6 (by simp [hd])
      obtain rfl := p7 (by simp [hd])
      obtain rfl := p8 (by simp [hd])
      refine RI.wpOp_plain rfl rfl ?_
      go_simp
      exact ⟨_, _, _, _, _, _, _, _, _, _, F, v5, v10, v11, v22, v23, rfl, hP, (fun h => q (by rwa [RI.don_other _ _ _ (by decide)] at h)), RI.keep (by decide) p0, RI.keep (by decide) p1, RI.keep (by decide) p2, RI.keep (by decide) p3, RI.keep (by decide) p4, RI.keep (by decide) p5, RI.keep (by decide) p6, RI.keep (by decide) p7, RI.keep (by decide) p8, fun _ => rfl, RI.keep (by decide) px10⟩
    · have hd := hd _ rfl
      simp [Region.binds] at hd
      obtain rfl := p0 (by simp [hd])
      obtain rfl := p1 (by simp [hd])
      obtain rfl := p2 (by simp [hd])
      obtain rfl := p3 (by simp [hd])
      obtain rfl := p4 (by simp [hd])
      obtain rfl := p5 (by simp [hd])
      obtain rfl := p6 (by simp [hd])
      obtain rfl := p7 (by simp [hd])
      obtain rfl := p8 (by simp [hd])
      obtain rfl := p9 (by simp [hd])
      refine RI.wpOp_plain rfl rfl ?_
      obtain rfl := q hf
      have c3 := hP.v3.c 2 (by decide)
      have f3 : ∀ o, wx.frozen? ⟨w.heap.size + 1 + 1 + 1, o, none⟩ = false := hP.v3.f
      go_simp
      exact ⟨_, _, _, _, _, _, _, _, _, _, _, v5, v10, v11, v22, v23, rfl, P4_set hP (by decide), (fun h => absurd h (by simp [RI.don])), RI.keep (by decide) p0, RI.keep (by decide) p1, RI.keep (by decide) p2, RI.keep (by decide) p3, RI.keep (by decide) p4, RI.keep (by decide) p5, RI.keep (by decide) p6, RI.keep (by decide) p7, RI.keep (by decide) p8, RI.keep (by decide) p9, fun _ => rfl⟩
  clear m0
  intro d x wx hI hd
  obtain ⟨u12, u13, u14, u15, u16, u17, u18, u19, u20, u21, F, v5, v10, v11, v22, v23, rfl, hP, q, p0, p1, p2, p3, p4, p5, p6, p7, p8, p9, px10⟩ := hI
  obtain rfl := p0 (hd 0 (by decide))
  obtain rfl := p1 (hd 1 (by decide))
  obtain rfl := p2 (hd 2 (by decide))
  obtain rfl := p3 (hd 3 (by decide))
  obtain rfl := p4 (hd 4 (by decide))
  obtain rfl := p5 (hd 5 (by decide))
  obtain rfl := p6 (hd 6 (by decide))
  obtain rfl := p7 (hd 7 (by decide))
  obtain rfl := p8 (hd 8 (by decide))
  obtain rfl := p9 (hd 9 (by decide))
  rw [px10 (hd 10 (by decide))] at hP
  have m0 := hP
  clear p0 p1 p2 p3 p4 p5 p6 p7 p8 p9 px10 q hd hP
  go_wp2_with fail
  rw [rounds_succ]
  go_upto_region 5 with fail
  refine RI.wp_region_inv (PB3 w a b f (.func (Fn.func 31) #[] #[]) (upd (upd (upd (dg 0) 0 (f (dg a 0) (dg b 0))) 1 (f (dg a 1) (dg b 1))) 2 (f (dg a 2) (dg b 2)))) (by kernel_rfl) (by kernel_rfl) ?_ ?_ ?_
  · exact ⟨_, _, _, _, _, _, _, _, _, _, upd (upd (upd (dg 0) 0 (f (dg a 0) (dg b 0))) 1 (f (dg a 1) (dg b 1))) 2 (f (dg a 2) (dg b 2)), _, _, _, _, _, rfl, P4_drew m0, fun _ => rfl, nofun, nofun, nofun, nofun, nofun, nofun, nofun, nofun, nofun, nofun, nofun⟩
  · clear m0
    intro d x wx i hI hi hm
    obtain ⟨u12, u13, u14, u15, u16, u17, u18, u19, u20, u21, F, v5, v10, v11, v22, v23, rfl, hP, q, p0, p1, p2, p3, p4, p5, p6, p7, p8, p9, px10⟩ := hI
    have hi' : i = 0 ∨ i = 1 ∨ i = 2 ∨ i = 3 ∨ i = 4 ∨ i = 5 ∨ i = 6 ∨ i = 7 ∨ i = 8 ∨ i = 9 ∨ i = 10 := by simp at hi; omega
    have hd := hm.2
    have hf := hm.1
    clear hm hi
    rcases hi' with rfl | rfl | rfl | rfl | rfl | rfl | rfl | rfl | rfl | rfl | rfl
    · refine RI.wpOp_plain rfl rfl ?_
      go_simp
      exact ⟨_, u13, u14, u15, u16, u17, u18, u19, u20, u21, F, v5, v10, v11, v22, v23, rfl, hP, (fun h => q (by rwa [RI.don_other _ _ _ (by decide)] at h)), fun _ => rfl, RI.keep (by decide) p1, RI.keep (by decide) p2, RI.keep (by decide) p3, RI.keep (by decide) p4, RI.keep (by decide) p5, RI.keep (by decide) p6, RI.keep (by decide) p7, RI.keep (by decide) p8, RI.keep (by decide) p9, RI.keep (by decide) px10⟩
    · refine RI.wpOp_plain rfl rfl ?_
      go_simp
      exact ⟨u12, _, u14, u15, u16, u17, u18, u19, u20, u21, F, v5, v10, v11, v22, v23, rfl, hP, (fun h => q (by rwa [RI.don_other _ _ _ (by decide)] at h)), RI.keep (by decide) p0, fun _ => rfl, RI.keep (by decide) p2, RI.keep (by decide) p3, RI.keep (by decide) p4, RI.keep (by decide) p5, RI.keep (by decide) p6, RI.keep (by decide) p7, RI.keep (by decide) p8, RI.keep (by decide) p9, RI.keep (by decide) px10⟩
    · refine RI.wpOp_plain rfl rfl ?_
      go_simp
      exact ⟨u12, u13, _, u15, u16, u17, u18, u19, u20, u21, F, v5, v10, v11, v22, v23, rfl, hP, (fun h => q (by rwa [RI.don_other _ _ _ (by decide)] at h)), RI.keep (by decide) p0, RI.keep (by decide) p1, fun _ => rfl, RI.keep (by decide) p3, RI.keep (by decide) p4, RI.keep (by decide) p5, RI.keep (by decide) p6, RI.keep (by decide) p7, RI.keep (by decide) p8, RI.keep (by decide) p9, RI.keep (by decide) px10⟩
    · have hd := hd _ rfl
      simp [Region.binds] at hd
      obtain rfl := p2 (by simp [hd])
      refine RI.wpOp_plain rfl rfl ?_
      go_simp
      exact ⟨u12, u13, _, _, u16, u17, u18, u19, u20, u21, F, v5, v10, v11, v22, v23, rfl, hP, (fun h => q (by rwa [RI.don_other _ _ _ (by decide)] at h)), RI.keep (by decide) p0, RI.keep (by decide) p1, RI.keep (by decide) p2, fun _ => rfl, RI.keep (by decide) p4, RI.keep (by decide) p5, RI.keep (by decide) p6, RI.keep (by decide) p7, RI.keep (by decide) p8, RI.keep (by decide) p9, RI.keep (by decide) px10⟩
    · have hd := hd _ rfl
      simp [Region.binds] at hd
      obtain rfl := p3 (by simp [hd])
      refine RI.wpOp_plain rfl rfl ?_
      have c0 : wx.cell? ⟨w.heap.size, 3, none⟩ = some (.int .u64 (dg a 3)) := hP.v0.c 3 (by decide)
      go_simp
      exact ⟨u12, u13, u14, _, _, u17, u18, u19, u20, u21, F, v5, v10, v11, v22, v23, rfl, hP, (fun h => q (by rwa [RI.don_other _ _ _ (by decide)] at h)), RI.keep (by decide) p0, RI.keep (by decide) p1, RI.keep (by decide) p2, RI.keep (by decide) p3, fun _ => rfl, RI.keep (by decide) p5, RI.keep (by decide) p6, RI.keep (by decide) p7, RI.keep (by decide) p8, RI.keep (by decide) p9, RI.keep (by decide) px10⟩
    · refine RI.wpOp_plain rfl rfl ?_
      go_simp
      exact ⟨u12, u13, u14, u15, u16, _, u18, u19, u20, u21, F, v5, v10, v11, v22, v23, rfl, hP, (fun h => q (by rwa [RI.don_other _ _ _ (by decide)] at h)), RI.keep (by decide) p0, RI.keep (by decide) p1, RI.keep (by decide) p2, RI.keep (by decide) p3, RI.keep (by decide) p4, fun _ => rfl, RI.keep (by decide) p6, RI.keep (by decide) p7, RI.keep (by decide) p8, RI.keep (by decide) p9, RI.keep (by decide) px10⟩
    · have hd := hd _ rfl
      simp [Region.binds] at hd
      obtain rfl := p5 (by simp [hd])
      refine RI.wpOp_plain rfl rfl ?_
      go_simp
      exact ⟨u12, u13, u14, u15, u16, _, _, u19, u20, u21, F, v5, v10, v11, v22, v23, rfl, hP, (fun h => q (by rwa [RI.don_other _ _ _ (by decide)] at h)), RI.keep (by decide) p0, RI.keep (by decide) p1, RI.keep (by decide) p2, RI.keep (by decide) p3, RI.keep (by decide) p4, RI.keep (by decide) p5, fun _ => rfl, RI.keep (by decide) p7, RI.keep (by decide) p8, RI.keep (by decide) p9, RI.keep (by decide) px10⟩
    · have hd := hd _ rfl
      simp [Region.binds] at hd
      obtain rfl := p6 (by simp [hd])
      refine RI.wpOp_plain rfl rfl ?_
      have c0 : wx.cell? ⟨w.heap.size + 1, 3, none⟩ = some (.int .u64 (dg b 3)) := hP.v1.c 3 (by decide)
      go_simp
      exact ⟨u12, u13, u14, u15, u16, u17, _, _, u20, u21, F, v5, v10, v11, v22, v23, rfl, hP, (fun h => q (by rwa [RI.don_other _ _ _ (by decide)] at h)), RI.keep (by decide) p0, RI.keep (by decide) p1, RI.keep (by decide) p2, RI.keep (by decide) p3, RI.keep (by decide) p4, RI.keep (by decide) p5, RI.keep (by decide) p6, fun _ => rfl, RI.keep (by decide) p8, RI.keep (by decide) p9, RI.keep (by decide) px10⟩
    · have hd := hd _ rfl
      simp [Region.binds] at hd
      obtain rfl := p1 (by simp [hd])
      obtain rfl := p4 (by simp [hd])
      obtain rfl := p7 (by simp [hd])
      refine RI.wpOp_plain rfl rfl ?_
      go_simp
      refine (KF.out _ _ _).mono ?_
      rintro e w1 ⟨rfl, hb1⟩
      exact ⟨u12, _, u14, u15, _, u17, u18, _, _, u21, F, v5, v10, v11, v22, v23, rfl, P4_below hP hb1, (fun h => q (by rwa [RI.don_other _ _ _ (by decide)] at h)), RI.keep (by decide) p0, RI.keep (by decide) p1, RI.keep (by decide) p2, RI.keep (by decide) p3, RI.keep (by decide) p4, RI.keep (by decide) p5, RI.keep (by decide) p6, RI.keep (by decide) p7, fun _ => rfl, RI.keep (by decide) p9, RI.keep (by decide) (px10)⟩
    · have hd := hd _ rfl
      simp [Region.binds] at hd
      obtain rfl := p0 (by simp [hd])
      obtain rfl := p1 (by simp [hd])
      obtain rfl := p2 (by simp [hd])
      obtain rfl := p3 (by simp [hd])
      obtain rfl := p4 (by simp [hd])
      obtain rfl := p5 (by simp [hd])
      obtain rfl := p6 (by simp [hd])
      obtain rfl := p7 (by simp [hd])
      obtain rfl := p8 (by simp [hd])
      refine RI.wpOp_plain rfl rfl ?_
      go_simp
      exact ⟨_, _, _, _, _, _, _, _, _, _, F, v5, v10, v11, v22, v23, rfl, hP, (fun h => q (by rwa [RI.don_other _ _ _ (by decide)] at h)), RI.keep (by decide) p0, RI.keep (by decide) p1, RI.keep (by decide) p2, RI.keep (by decide) p3, RI.keep (by decide) p4, RI.keep (by decide) p5, RI.keep (by decide) p6, RI.keep (by decide) p7, RI.keep (by decide) p8, fun _ => rfl, RI.keep (by decide) px10⟩
    · have hd := hd _ rfl
      simp [Region.binds] at hd
      obtain rfl := p0 (by simp [hd])
      obtain rfl := p1 (by simp [hd])
      obtain rfl := p2 (by simp [hd])
      obtain rfl := p3 (by simp [hd])
      obtain rfl := p4 (by simp [hd])
      obtain rfl := p5 (by simp [hd])
      obtain rfl := p6 (by simp [hd])
      obtain rfl := p7 (by simp [hd])
      obtain rfl := p8 (by simp [hd])
      obtain rfl := p9 (by simp [hd])
      refine RI.wpOp_plain rfl rfl ?_
      obtain rfl := q hf
      have c3 := hP.v3.c 3 (by decide)
      have f3 : ∀ o, wx.frozen? ⟨w.heap.size + 1 + 1 + 1, o, none⟩ = false := hP.v3.f
      go_simp
      exact ⟨_, _, _, _, _, _, _, _, _, _, _, v5, v10, v11, v22, v23, rfl, P4_set hP (by decide), (fun h => absurd h (by simp [RI.don])), RI.keep (by decide) p0, RI.keep (by decide) p1, RI.keep (by decide) p2, RI.keep (by decide) p3, RI.keep (by decide) p4, RI.keep (by decide) p5, RI.keep (by decide) p6, RI.keep (by decide) p7, RI.keep (by decide) p8, RI.keep (by decide) p9, fun _ => rfl⟩
  clear m0
  intro d x wx hI hd
  obtain ⟨u12, u13, u14, u15, u16, u17, u18, u19, u20, u21, F, v5, v10, v11, v22, v23, rfl, hP, q, p0, p1, p2, p3, p4, p5, p6, p7, p8, p9, px10⟩ := hI
  obtain rfl := p0 (hd 0 (by decide))
  obtain rfl := p1 (hd 1 (by decide))
  obtain rfl := p2 (hd 2 (by decide))
  obtain rfl := p3 (hd 3 (by decide))
  obtain rfl := p4 (hd 4 (by decide))
  obtain rfl := p5 (hd 5 (by decide))
  obtain rfl := p6 (hd 6 (by decide))
  obtain rfl := p7 (hd 7 (by decide))
  obtain rfl := p8 (hd 8 (by decide))
  obtain rfl := p9 (hd 9 (by decide))
  rw [px10 (hd 10 (by decide))] at hP
  have m0 := hP
  clear p0 p1 p2 p3 p4 p5 p6 p7 p8 p9 px10 q hd hP
  go_wp2_with fail
  rw [rounds_succ]
  have c3 : ∀ o, o < 4 → wx.cell? ⟨w.heap.size + 1 + 1 + 1, o, none⟩ = some (.int .u64 (dg N o)) := fun o ho => by
    rw [← HN.out o ho, m0.v3.c o ho]
    have : o = 0 ∨ o = 1 ∨ o = 2 ∨ o = 3 := by omega
    rcases this with rfl | rfl | rfl | rfl <;> rfl
  have c2 : ∀ o, o < 4 → wx.cell? ⟨w.heap.size + 1 + 1, o, none⟩ = some (.int .u64 (dg 0 o)) := m0.v2.c
  have f2 : ∀ o, wx.frozen? ⟨w.heap.size + 1 + 1, o, none⟩ = false := m0.v2.f
  have z2 := m0.v2.hi
  have HV : Hid (Vb w.heap.size (w.heap.size + 1 + 1) 4 (dg N) _) := Vb_set4 m0.v2
  have HB : Hid (Below w.heap.size w _) := Bel_set4 (h := w.heap.size + 1 + 1) (m := N) m0.bel (by omega)
  clear m0
  go_wp2_with fail
  exact bodyPost_ret (v := Wd N) (resultTw _ _ _ (w.heap.size + 1 + 1) N 6 rfl rfl HV.out.c) rfl ⟨rfl, HB.out⟩
end Go.Proofs.Ytblodmjnhmfjeaa
