/- twos.partByPart, handed a closure: part by part; and twos.And, Or, Xor. -/
import Derived.Test.YtblodmjnhmfjeaaPackB
import Derived.Laws.BitsAllLaws
import Derived.Test.YtblodmjnhmfjeaaPackA
namespace Go.Proofs.Ytblodmjnhmfjeaa
open Go.RowKit Go.Shelf
/-- Two words handed in, one that goes out, and one under way. -/
structure P4 (w : World) (a b : Nat) (F : Nat → Int) (wx : World) : Prop where
  v0 : Vb w.heap.size w.heap.size 4 (dg a) wx
  v1 : Vb w.heap.size (w.heap.size + 1) 4 (dg b) wx
  v2 : Vb w.heap.size (w.heap.size + 1 + 1) 4 (dg 0) wx
  v3 : Vb w.heap.size (w.heap.size + 1 + 1 + 1) 4 F wx
  bel : Below w.heap.size w wx
theorem P4_below {w : World} {a b : Nat} {F : Nat → Int} {w1 w2 : World} (h : P4 w a b F w1) (k : Below w1.heap.size w1 w2) : P4 w a b F w2 := ⟨Vb_below h.v0 k, Vb_below h.v1 k, Vb_below h.v2 k, Vb_below h.v3 k, h.bel.trans (k.mono (Nat.le_of_lt h.v0.hi))⟩
theorem P4_drew {w : World} {a b : Nat} {F : Nat → Int} {w1 : World} (h : P4 w a b F w1) : P4 w a b F w1.drew := P4_below h (Below.refl _ _).drew
theorem P4_set {w : World} {a b i : Nat} {F : Nat → Int} {v : Int} {w1 : World} (h : P4 w a b F w1) (hi : i < 4) : P4 w a b (upd F i v) (w1.setCell ⟨w.heap.size + 1 + 1 + 1, i, none⟩ (.int .u64 v)) :=
  ⟨Vb_other h.v0 (show w.heap.size + 1 + 1 + 1 ≠ w.heap.size by omega), Vb_other h.v1 (show w.heap.size + 1 + 1 + 1 ≠ w.heap.size + 1 by omega), Vb_other h.v2 (show w.heap.size + 1 + 1 + 1 ≠ w.heap.size + 1 + 1 by omega), Vb_set h.v3 hi, h.bel.setCell (show w.heap.size ≤ (⟨w.heap.size + 1 + 1 + 1, i, none⟩ : Addr).block by show w.heap.size ≤ w.heap.size + 1 + 1 + 1; omega) _⟩
/-- What holds while a part is joined. -/
def PB0 (w : World) (a b : Nat) (f : Int → Int → Int) (fv : Value) (F0 : Nat → Int) (d : Nat → Bool) (x : Act) (wx : World) : Prop :=
  ∃ (u12 u13 u14 u15 u16 u17 u18 u19 u20 u21 : Value) (F : Nat → Int) (v5 : Value) (v10 : Value) (v11 : Value) (v22 : Value) (v23 : Value),
    x = { tmps := #[.agg #[.int .u64 (dg a 0), .int .u64 (dg a 1), .int .u64 (dg a 2), .int .u64 (dg a 3)], .agg #[.int .u64 (dg b 0), .int .u64 (dg b 1), .int .u64 (dg b 2), .int .u64 (dg b 3)], fv, .pointer (some ⟨w.heap.size, 0, none⟩), .pointer (some ⟨w.heap.size + 1, 0, none⟩), v5, .pointer (some ⟨w.heap.size + 1 + 1, 0, none⟩), .pointer (some ⟨w.heap.size + 1 + 1 + 1, 0, none⟩), .int .i64 0, .int .i64 0, v10, v11, u12, u13, u14, u15, u16, u17, u18, u19, u20, u21, v22, v23], defers := [] } ∧
    (P4 w a b F wx) ∧ (d 10 = false → F = F0) ∧
    (d 0 = true → u12 = .int .i64 0) ∧ (d 1 = true → u13 = fv) ∧ (d 2 = true → u14 = .int .i64 0) ∧ (d 3 = true → u15 = .pointer (some ⟨w.heap.size, 0, none⟩)) ∧ (d 4 = true → u16 = .int .u64 (dg a 0)) ∧ (d 5 = true → u17 = .int .i64 0) ∧ (d 6 = true → u18 = .pointer (some ⟨w.heap.size + 1, 0, none⟩)) ∧ (d 7 = true → u19 = .int .u64 (dg b 0)) ∧ (d 8 = true → u20 = .int .u64 (f (dg a 0) (dg b 0))) ∧ (d 9 = true → u21 = .pointer (some ⟨w.heap.size + 1 + 1 + 1, 0, none⟩)) ∧ (d 10 = true → F = upd F0 0 (f (dg a 0) (dg b 0)))
/-- The same, a part on. -/
def PB1 (w : World) (a b : Nat) (f : Int → Int → Int) (fv : Value) (F0 : Nat → Int) (d : Nat → Bool) (x : Act) (wx : World) : Prop :=
  ∃ (u12 u13 u14 u15 u16 u17 u18 u19 u20 u21 : Value) (F : Nat → Int) (v5 : Value) (v10 : Value) (v11 : Value) (v22 : Value) (v23 : Value),
    x = { tmps := #[.agg #[.int .u64 (dg a 0), .int .u64 (dg a 1), .int .u64 (dg a 2), .int .u64 (dg a 3)], .agg #[.int .u64 (dg b 0), .int .u64 (dg b 1), .int .u64 (dg b 2), .int .u64 (dg b 3)], fv, .pointer (some ⟨w.heap.size, 0, none⟩), .pointer (some ⟨w.heap.size + 1, 0, none⟩), v5, .pointer (some ⟨w.heap.size + 1 + 1, 0, none⟩), .pointer (some ⟨w.heap.size + 1 + 1 + 1, 0, none⟩), .int .i64 1, .int .i64 1, v10, v11, u12, u13, u14, u15, u16, u17, u18, u19, u20, u21, v22, v23], defers := [] } ∧
    (P4 w a b F wx) ∧ (d 10 = false → F = F0) ∧
    (d 0 = true → u12 = .int .i64 1) ∧ (d 1 = true → u13 = fv) ∧ (d 2 = true → u14 = .int .i64 1) ∧ (d 3 = true → u15 = .pointer (some ⟨w.heap.size, 1, none⟩)) ∧ (d 4 = true → u16 = .int .u64 (dg a 1)) ∧ (d 5 = true → u17 = .int .i64 1) ∧ (d 6 = true → u18 = .pointer (some ⟨w.heap.size + 1, 1, none⟩)) ∧ (d 7 = true → u19 = .int .u64 (dg b 1)) ∧ (d 8 = true → u20 = .int .u64 (f (dg a 1) (dg b 1))) ∧ (d 9 = true → u21 = .pointer (some ⟨w.heap.size + 1 + 1 + 1, 1, none⟩)) ∧ (d 10 = true → F = upd F0 1 (f (dg a 1) (dg b 1)))
/-- The same, a part on. -/
def PB2 (w : World) (a b : Nat) (f : Int → Int → Int) (fv : Value) (F0 : Nat → Int) (d : Nat → Bool) (x : Act) (wx : World) : Prop :=
  ∃ (u12 u13 u14 u15 u16 u17 u18 u19 u20 u21 : Value) (F : Nat → Int) (v5 : Value) (v10 : Value) (v11 : Value) (v22 : Value) (v23 : Value),
    x = { tmps := #[.agg #[.int .u64 (dg a 0), .int .u64 (dg a 1), .int .u64 (dg a 2), .int .u64 (dg a 3)], .agg #[.int .u64 (dg b 0), .int .u64 (dg b 1), .int .u64 (dg b 2), .int .u64 (dg b 3)], fv, .pointer (some ⟨w.heap.size, 0, none⟩), .pointer (some ⟨w.heap.size + 1, 0, none⟩), v5, .pointer (some ⟨w.heap.size + 1 + 1, 0, none⟩), .pointer (some ⟨w.heap.size + 1 + 1 + 1, 0, none⟩), .int .i64 2, .int .i64 2, v10, v11, u12, u13, u14, u15, u16, u17, u18, u19, u20, u21, v22, v23], defers := [] } ∧
    (P4 w a b F wx) ∧ (d 10 = false → F = F0) ∧
    (d 0 = true → u12 = .int .i64 2) ∧ (d 1 = true → u13 = fv) ∧ (d 2 = true → u14 = .int .i64 2) ∧ (d 3 = true → u15 = .pointer (some ⟨w.heap.size, 2, none⟩)) ∧ (d 4 = true → u16 = .int .u64 (dg a 2)) ∧ (d 5 = true → u17 = .int .i64 2) ∧ (d 6 = true → u18 = .pointer (some ⟨w.heap.size + 1, 2, none⟩)) ∧ (d 7 = true → u19 = .int .u64 (dg b 2)) ∧ (d 8 = true → u20 = .int .u64 (f (dg a 2) (dg b 2))) ∧ (d 9 = true → u21 = .pointer (some ⟨w.heap.size + 1 + 1 + 1, 2, none⟩)) ∧ (d 10 = true → F = upd F0 2 (f (dg a 2) (dg b 2)))
/-- The same, a part on. -/
def PB3 (w : World) (a b : Nat) (f : Int → Int → Int) (fv : Value) (F0 : Nat → Int) (d : Nat → Bool) (x : Act) (wx : World) : Prop :=
  ∃ (u12 u13 u14 u15 u16 u17 u18 u19 u20 u21 : Value) (F : Nat → Int) (v5 : Value) (v10 : Value) (v11 : Value) (v22 : Value) (v23 : Value),
    x = { tmps := #[.agg #[.int .u64 (dg a 0), .int .u64 (dg a 1), .int .u64 (dg a 2), .int .u64 (dg a 3)], .agg #[.int .u64 (dg b 0), .int .u64 (dg b 1), .int .u64 (dg b 2), .int .u64 (dg b 3)], fv, .pointer (some ⟨w.heap.size, 0, none⟩), .pointer (some ⟨w.heap.size + 1, 0, none⟩), v5, .pointer (some ⟨w.heap.size + 1 + 1, 0, none⟩), .pointer (some ⟨w.heap.size + 1 + 1 + 1, 0, none⟩), .int .i64 3, .int .i64 3, v10, v11, u12, u13, u14, u15, u16, u17, u18, u19, u20, u21, v22, v23], defers := [] } ∧
    (P4 w a b F wx) ∧ (d 10 = false → F = F0) ∧
    (d 0 = true → u12 = .int .i64 3) ∧ (d 1 = true → u13 = fv) ∧ (d 2 = true → u14 = .int .i64 3) ∧ (d 3 = true → u15 = .pointer (some ⟨w.heap.size, 3, none⟩)) ∧ (d 4 = true → u16 = .int .u64 (dg a 3)) ∧ (d 5 = true → u17 = .int .i64 3) ∧ (d 6 = true → u18 = .pointer (some ⟨w.heap.size + 1, 3, none⟩)) ∧ (d 7 = true → u19 = .int .u64 (dg b 3)) ∧ (d 8 = true → u20 = .int .u64 (f (dg a 3) (dg b 3))) ∧ (d 9 = true → u21 = .pointer (some ⟨w.heap.size + 1 + 1 + 1, 3, none⟩)) ∧ (d 10 = true → F = upd F0 3 (f (dg a 3) (dg b 3)))
set_option maxHeartbeats 4000000 in
set_option maxRecDepth 100000 in
theorem pbp_and (a b N : Nat) (f : Int → Int → Int) (KF : Hid (∀ (x y : Int) (w : World), Calls Try.prog 32 #[.int .u64 x, .int .u64 y] w fun e w' => e = .returned (.int .u64 (f x y)) ∧ Below w.heap.size w w')) (HN : Hid (∀ o, o < 4 → f (dg a o) (dg b o) = dg N o)) (w : World) :
    Calls Try.prog 30 #[Wd a, Wd b, .func (Fn.func 32) #[] #[]] w fun e w' => e = .returned (Wd N) ∧ Below w.heap.size w w' := by
  have m0 : P4 w a b (dg 0) ((((w.alloc (.cells #[.int .u64 (dg a 0), .int .u64 (dg a 1), .int .u64 (dg a 2), .int .u64 (dg a 3)] 24)).alloc (.cells #[.int .u64 (dg b 0), .int .u64 (dg b 1), .int .u64 (dg b 2), .int .u64 (dg b 3)] 24)).alloc (.cells #[.int .u64 0, .int .u64 0, .int .u64 0, .int .u64 0] 24)).alloc (.cells #[.int .u64 0, .int .u64 0, .int .u64 0, .int .u64 0] 24)) := by
    have k := M4_start w a b 24
    exact ⟨k.v0, k.v1, k.v2, k.v3, k.bel⟩
  conv => arg 3; unfold Wd
  go_enter Try.func30, Try.ntmps30
  go_wp2_with fail
  generalize (((w.alloc (.cells #[.int .u64 (dg a 0), .int .u64 (dg a 1), .int .u64 (dg a 2), .int .u64 (dg a 3)] 24)).alloc (.cells #[.int .u64 (dg b 0), .int .u64 (dg b 1), .int .u64 (dg b 2), .int .u64 (dg b 3)] 24)).alloc (.cells #[.int .u64 0, .int .u64 0, .int .u64 0, .int .u64 0] 24)).alloc (.cells #[.int .u64 0, .int .u64 0, .int .u64 0, .int .u64 0] 24) = W0 at m0 ⊢
  refine wp_loop_rounds 5 ?_
  rw [rounds_succ]
  go_upto_region 5 with fail
  refine RI.wp_region_inv (PB0 w a b f (.func (Fn.func 32) #[] #[]) (dg 0)) (by kernel_rfl) (by kernel_rfl) ?_ ?_ ?_
  · exact ⟨undef, undef, undef, undef, undef, undef, undef, undef, undef, undef, dg 0, _, _, _, _, _, rfl, P4_drew m0, fun _ => rfl, nofun, nofun, nofun, nofun, nofun, nofun, nofun, nofun, nofun, nofun, nofun⟩
  · clear m0
    intro d x wx i hI hi hm
    obtain ⟨u12, u13, u14, u15, u16, u17, u18, u19, u20, u21, F, v5, v10, v11, v22, v23, rfl, hP, q, p0, p1, p2, p3, p4, p5, p6, p7, p8, p9, px10⟩ := hI
    have hi' : i = 0 ∨ i = 1 ∨ i = 2 ∨ i = 3 ∨ i = 4 ∨ i = 5 ∨ i = 6 ∨ i = 7 ∨ i = 8 ∨ i = 9 ∨ i = 10 := by simp at hi; omega
    have hd := hm.2
    have hf := hm.1
    clear hm hi
    rcases hi' with rfl | rfl | rfl | rfl | rfl | rfl | rfl | rfl | rfl | rfl | rfl
    · refine RI.wpOp_plain rfl rfl ?_
      go_simp
      exact ⟨_, u13, u14, u15, u16, u17, u18, u19, u20, u21, F, v5, v10, v11, v22, v23, rfl, hP, (fun h => q (by rwa [RI.don_other _ _ _ (by decide)] at h)), fun _ => rfl, RI.keep (by decide) p1, RI.keep (by decide) p2, RI.keep (by decide) p3, RI.keep (by decide) p4, RI.keep (by decide) p5, RI.keep (by decide) p6, RI.keep (by decide) p7, RI.keep (by decide) p8, RI.keep (by decide) p9, RI.keep (by decide) px10⟩
    · refine RI.wpOp_plain rfl rfl ?_
      go_simp
      exact ⟨u12, _, u14, u15, u16, u17, u18, u19, u20, u21, F, v5, v10, v11, v22, v23, rfl, hP, (fun h => q (by rwa [RI.don_other _ _ _ (by decide)] at h)), RI.keep (by decide) p0, fun _ => rfl, RI.keep (by decide) p2, RI.keep (by decide) p3, RI.keep (by decide) p4, RI.keep (by decide) p5, RI.keep (by decide) p6, RI.keep (by decide) p7, RI.keep (by decide) p8, RI.keep (by decide) p9, RI.keep (by decide) px10⟩
    · refine RI.wpOp_plain rfl rfl ?_
      go_simp
      exact ⟨u12, u13, _, u15, u16, u17, u18, u19, u20, u21, F, v5, v10, v11, v22, v23, rfl, hP, (fun h => q (by rwa [RI.don_other _ _ _ (by decide)] at h)), RI.keep (by decide) p0, RI.keep (by decide) p1, fun _ => rfl, RI.keep (by decide) p3, RI.keep (by decide) p4, RI.keep (by decide) p5, RI.keep (by decide) p6, RI.keep (by decide) p7, RI.keep (by decide) p8, RI.keep (by decide) p9, RI.keep (by decide) px10⟩
    · have hd := hd _ rfl
      simp [Region.binds] at hd
      obtain rfl := p2 (by simp [hd])
      refine RI.wpOp_plain rfl rfl ?_
      go_simp
      exact ⟨u12, u13, _, _, u16, u17, u18, u19, u20, u21, F, v5, v10, v11, v22, v23, rfl, hP, (fun h => q (by rwa [RI.don_other _ _ _ (by decide)] at h)), RI.keep (by decide) p0, RI.keep (by decide) p1, RI.keep (by decide) p2, fun _ => rfl, RI.keep (by decide) p4, RI.keep (by decide) p5, RI.keep (by decide) p6, RI.keep (by decide) p7, RI.keep (by decide) p8, RI.keep (by decide) p9, RI.keep (by decide) px10⟩
    · have hd := hd _ rfl
      simp [Region.binds] at hd
      obtain rfl := p3 (by simp [hd])
      refine RI.wpOp_plain rfl rfl ?_
      have c0 : wx.cell? ⟨w.heap.size, 0, none⟩ = some (.int .u64 (dg a 0)) := hP.v0.c 0 (by decide)
      go_simp
      exact ⟨u12, u13, u14, _, _, u17, u18, u19, u20, u21, F, v5, v10, v11, v22, v23, rfl, hP, (fun h => q (by rwa [RI.don_other _ _ _ (by decide)] at h)), RI.keep (by decide) p0, RI.keep (by decide) p1, RI.keep (by decide) p2, RI.keep (by decide) p3, fun _ => rfl, RI.keep (by decide) p5, RI.keep (by decide) p6, RI.keep (by decide) p7, RI.keep (by decide) p8, RI.keep (by decide) p9, RI.keep (by decide) px10⟩
    · refine RI.wpOp_plain rfl rfl ?_
      go_simp
      exact ⟨u12, u13, u14, u15, u16, _, u18, u19, u20, u21, F, v5, v10, v11, v22, v23, rfl, hP, (fun h => q (by rwa [RI.don_other _ _ _ (by decide)] at h)), RI.keep (by decide) p0, RI.keep (by decide) p1, RI.keep (by decide) p2, RI.keep (by decide) p3, RI.keep (by decide) p4, fun _ => rfl, RI.keep (by decide) p6, RI.keep (by decide) p7, RI.keep (by decide) p8, RI.keep (by decide) p9, RI.keep (by decide) px10⟩
    · have hd := hd _ rfl
      simp [Region.binds] at hd
      obtain rfl := p5 (by simp [hd])
      refine RI.wpOp_plain rfl rfl ?_
      go_simp
      exact ⟨u12, u13, u14, u15, u16, _, _, u19, u20, u21, F, v5, v10, v11, v22, v23, rfl, hP, (fun h => q (by rwa [RI.don_other _ _ _ (by decide)] at h)), RI.keep (by decide) p0, RI.keep (by decide) p1, RI.keep (by decide) p2, RI.keep (by decide) p3, RI.keep (by decide) p4, RI.keep (by decide) p5, fun _ => rfl, RI.keep (by decide) p7, RI.keep (by decide) p8, RI.keep (by decide) p9, RI.keep (by decide) px10⟩
    · have hd := hd _ rfl
      simp [Region.binds] at hd
      obtain rfl := p6 (by simp [hd])
      refine RI.wpOp_plain rfl rfl ?_
      have c0 : wx.cell? ⟨w.heap.size + 1, 0, none⟩ = some (.int .u64 (dg b 0)) := hP.v1.c 0 (by decide)
      go_simp
      exact ⟨u12, u13, u14, u15, u16, u17, _, _, u20, u21, F, v5, v10, v11, v22, v23, rfl, hP, (fun h => q (by rwa [RI.don_other _ _ _ (by decide)] at h)), RI.keep (by decide) p0, RI.keep (by decide) p1, RI.keep (by decide) p2, RI.keep (by decide) p3, RI.keep (by decide) p4, RI.keep (by decide) p5, RI.keep (by decide) p6, fun _ => rfl, RI.keep (by decide) p8, RI.keep (by decide) p9, RI.keep (by decide) px10⟩
    · have hd := hd _ rfl
      simp [Region.binds] at hd
      obtain rfl := p1 (by simp [hd])
      obtain rfl := p4 (by simp [hd])
      obtain rfl := p7 (by simp [hd])
      refine RI.wpOp_plain rfl rfl ?_
      go_simp
      refine (KF.out _ _ _).mono ?_
      rintro e w1 ⟨rfl, hb1⟩
      exact ⟨u12, _, u14, u15, _, u17, u18, _, _, u21, F, v5, v10, v11, v22, v23, rfl, P4_below hP hb1, (fun h => q (by rwa [RI.don_other _ _ _ (by decide)] at h)), RI.keep (by decide) p0, RI.keep (by decide) p1, RI.keep (by decide) p2, RI.keep (by decide) p3, RI.keep (by decide) p4, RI.keep (by decide) p5, RI.keep (by decide) p6, RI.keep (by decide) p7, fun _ => rfl, RI.keep (by decide) p9, RI.keep (by decide) (px10)⟩
    · have hd := hd _ rfl
      simp [Region.binds] at hd
      obtain rfl := p0 (by simp [hd])
      obtain rfl := p1 (by simp [hd])
      obtain rfl := p2 (by simp [hd])
      obtain rfl := p3 (by simp [hd])
      obtain rfl := p4 (by simp [hd])
      obtain rfl := p5 (by simp [hd])
      obtain rfl := p6 (by simp [hd])
      obtain rfl := p7 (by simp [hd])
      obtain rfl := p8 (by simp [hd])
      refine RI.wpOp_plain rfl rfl ?_
      go_simp
      exact ⟨_, _, _, _, _, _, _, _, _, _, F, v5, v10, v11, v22, v23, rfl, hP, (fun h => q (by rwa [RI.don_other _ _ _ (by decide)] at h)), RI.keep (by decide) p0, RI.keep (by decide) p1, RI.keep (by decide) p2, RI.keep (by decide) p3, RI.keep (by decide) p4, RI.keep (by decide) p5, RI.keep (by decide) p6, RI.keep (by decide) p7, RI.keep (by decide) p8, fun _ => rfl, RI.keep (by decide) px10⟩
    · have hd := hd _ rfl
      simp [Region.binds] at hd
      obtain rfl := p0 (by simp [hd])
      obtain rfl := p1 (by simp [hd])
      obtain rfl := p2 (by simp [hd])
      obtain rfl := p3 (by simp [hd])
      obtain rfl := p4 (by simp [hd])
      obtain rfl := p5 (by simp [hd])
      obtain rfl := p6 (by simp [hd])
      obtain rfl := p7 (by simp [hd])
      obtain rfl := p8 (by simp [hd])
      obtain rfl := p9 (by simp [hd])
      refine RI.wpOp_plain rfl rfl ?_
      obtain rfl := q hf
      have c3 := hP.v3.c 0 (by decide)
      have f3 : ∀ o, wx.frozen? ⟨w.heap.size + 1 + 1 + 1, o, none⟩ = false := hP.v3.f
      go_simp
      exact ⟨_, _, _, _, _, _, _, _, _, _, _, v5, v10, v11, v22, v23, rfl, P4_set hP (by decide), (fun h => absurd h (by simp [RI.don])), RI.keep (by decide) p0, RI.keep (by decide) p1, RI.keep (by decide) p2, RI.keep (by decide) p3, RI.keep (by decide) p4, RI.keep (by decide) p5, RI.keep (by decide) p6, RI.keep (by decide) p7, RI.keep (by decide) p8, RI.keep (by decide) p9, fun _ => rfl⟩
  clear m0
  intro d x wx hI hd
  obtain ⟨u12, u13, u14, u15, u16, u17, u18, u19, u20, u21, F, v5, v10, v11, v22, v23, rfl, hP, q, p0, p1, p2, p3, p4, p5, p6, p7, p8, p9, px10⟩ := hI
  obtain rfl := p0 (hd 0 (by decide))
  obtain rfl := p1 (hd 1 (by decide))
  obtain rfl := p2 (hd 2 (by decide))
  obtain rfl := p3 (hd 3 (by decide))
  obtain rfl := p4 (hd 4 (by decide))
  obtain rfl := p5 (hd 5 (by decide))
  obtain rfl := p6 (hd 6 (by decide))
  obtain rfl := p7 (hd 7 (by decide))
  obtain rfl := p8 (hd 8 (by decide))
  obtain rfl := p9 (hd 9 (by decide))
  rw [px10 (hd 10 (by decide))] at hP
  have m0 := hP
  clear p0 p1 p2 p3 p4 p5 p6 p7 p8 p9 px10 q hd hP
  go_wp2_with fail
  rw [rounds_succ]
  go_upto_region 5 with fail
  refine RI.wp_region_inv (PB1 w a b f (.func (Fn.func 32) #[] #[]) (upd (dg 0) 0 (f (dg a 0) (dg b 0)))) (by kernel_rfl) (by kernel_rfl) ?_ ?_ ?_
  · exact ⟨_, _, _, _, _, _, _, _, _, _, upd (dg 0) 0 (f (dg a 0) (dg b 0)), _, _, _, _, _, rfl, P4_drew m0, fun _ => rfl, nofun, nofun, nofun, nofun, nofun, nofun, nofun, nofun, nofun, nofun, nofun⟩
  · clear m0
    intro d x wx i hI hi hm
    obtain ⟨u12, u13, u14, u15, u16, u17, u18, u19, u20, u21, F, v5, v10, v11, v22, v23, rfl, hP, q, p0, p1, p2, p3, p4, p5, p6, p7, p8, p9, px10⟩ := hI
    have hi' : i = 0 ∨ i = 1 ∨ i = 2 ∨ i = 3 ∨ i = 4 ∨ i = 5 ∨ i = 6 ∨ i = 7 ∨ i = 8 ∨ i = 9 ∨ i = 10 := by simp at hi; omega
    have hd := hm.2
    have hf := hm.1
    clear hm hi
    rcases hi' with rfl | rfl | rfl | rfl | rfl | rfl | rfl | rfl | rfl | rfl | rfl
    · refine RI.wpOp_plain rfl rfl ?_
      go_simp
      exact ⟨_, u13, u14, u15, u16, u17, u18, u19, u20, u21, F, v5, v10, v11, v22, v23, rfl, hP, (fun h => q (by rwa [RI.don_other _ _ _ (by decide)] at h)), fun _ => rfl, RI.keep (by decide) p1, RI.keep (by decide) p2, RI.keep (by decide) p3, RI.keep (by decide) p4, RI.keep (by decide) p5, RI.keep (by decide) p6, RI.keep (by decide) p7, RI.keep (by decide) p8, RI.keep (by decide) p9, RI.keep (by decide) px10⟩
    · refine RI.wpOp_plain rfl rfl ?_
      go_simp
      exact ⟨u12, _, u14, u15, u16, u17, u18, u19, u20, u21, F, v5, v10, v11, v22, v23, rfl, hP, (fun h => q (by rwa [RI.don_other _ _ _ (by decide)] at h)), RI.keep (by decide) p0, fun _ => rfl, RI.keep (by decide) p2, RI.keep (by decide) p3, RI.keep (by decide) p4, RI.keep (by decide) p5, RI.keep (by decide) p6, RI.keep (by decide) p7, RI.keep (by decide) p8, RI.keep (by decide) p9, RI.keep (by decide) px10⟩
    · refine RI.wpOp_plain rfl rfl ?_
      go_simp
      exact ⟨u12, u13, _, u15, u16, u17, u18, u19, u20, u21, F, v5, v10, v11, v22, v23, rfl, hP, (fun h => q (by rwa [RI.don_other _ _ _ (by decide)] at h)), RI.keep (by decide) p0, RI.keep (by decide) p1, fun _ => rfl, RI.keep (by decide) p3, RI.keep (by decide) p4, RI.keep (by decide) p5, RI.keep (by decide) p6, RI.keep (by decide) p7, RI.keep (by decide) p8, RI.keep (by decide) p9, RI.keep (by decide) px10⟩
    · have hd := hd _ rfl
      simp [Region.binds] at hd
      obtain rfl := p2 (by simp [hd])
      refine RI.wpOp_plain rfl rfl ?_
      go_simp
      exact ⟨u12, u13, _, _, u16, u17, u18, u19, u20, u21, F, v5, v10, v11, v22, v23, rfl, hP, (fun h => q (by rwa [RI.don_other _ _ _ (by decide)] at h)), RI.keep (by decide) p0, RI.keep (by decide) p1, RI.keep (by decide) p2, fun _ => rfl, RI.keep (by decide) p4, RI.keep (by decide) p5, RI.keep (by decide) p6, RI.keep (by decide) p7, RI.keep (by decide) p8, RI.keep (by decide) p9, RI.keep (by decide) px10⟩
    · have hd := hd _ rfl
      simp [Region.binds] at hd
      obtain rfl := p3 (by simp [hd])
      refine RI.wpOp_plain rfl rfl ?_
      have c0 : wx.cell? ⟨w.heap.size, 1, none⟩ = some (.int .u64 (dg a 1)) := hP.v0.c 1 (by decide)
      go_simp
      exact ⟨u12, u13, u14, _, _, u17, u18, u19, u20, u21, F, v5, v10, v11, v22, v23, rfl, hP, (fun h => q (by rwa [RI.don_other _ _ _ (by decide)] at h)), RI.keep (by decide) p0, RI.keep (by decide) p1, RI.keep (by decide) p2, RI.keep (by decide) p3, fun _ => rfl, RI.keep (by decide) p5, RI.keep (by decide) p6, RI.keep (by decide) p7, RI.keep (by decide) p8, RI.keep (by decide) p9, RI.keep (by decide) px10⟩
    · refine RI.wpOp_plain rfl rfl ?_
      go_simp
      exact ⟨u12, u13, u14, u15, u16, _, u18, u19, u20, u21, F, v5, v10, v11, v22, v23, rfl, hP, (fun h => q (by rwa [RI.don_other _ _ _ (by decide)] at h)), RI.keep (by decide) p0, RI.keep (by decide) p1, RI.keep (by decide) p2, RI.keep (by decide) p3, RI.keep (by decide) p4, fun _ => rfl, RI.keep (by decide) p6, RI.keep (by decide) p7, RI.keep (by decide) p8, RI.keep (by decide) p9, RI.keep (by decide) px10⟩
    · have hd := hd _ rfl
      simp [Region.binds] at hd
      obtain rfl := p5 (by simp [hd])
      refine RI.wpOp_plain rfl rfl ?_
      go_simp
      exact ⟨u12, u13, u14, u15, u16, _, _, u19, u20, u21, F, v5, v10, v11, v22, v23, rfl, hP, (fun h => q (by rwa [RI.don_other _ _ _ (by decide)] at h)), RI.keep (by decide) p0, RI.keep (by decide) p1, RI.keep (by decide) p2, RI.keep (by decide) p3, RI.keep (by decide) p4, RI.keep (by decide) p5, fun _ => rfl, RI.keep (by decide) p7, RI.keep (by decide) p8, RI.keep (by decide) p9, RI.keep (by decide) px10⟩
    · have hd := hd _ rfl
      simp [Region.binds] at hd
      obtain rfl := p6 (by simp [hd])
      refine RI.wpOp_plain rfl rfl ?_
      have c0 : wx.cell? ⟨w.heap.size + 1, 1, none⟩ = some (.int .u64 (dg b 1)) := hP.v1.c 1 (by decide)
      go_simp
      exact ⟨u12, u13, u14, u15, u16, u17, _, _, u20, u21, F, v5, v10, v11, v22, v23, rfl, hP, (fun h => q (by rwa [RI.don_other _ _ _ (by decide)] at h)), RI.keep (by decide) p0, RI.keep (by decide) p1, RI.keep (by decide) p2, RI.keep (by decide) p3, RI.keep (by decide) p4, RI.keep (by decide) p5, RI.keep (by decide) p6, fun _ => rfl, RI.keep (by decide) p8, RI.keep (by decide) p9, RI.keep (by decide) px10⟩
    · have hd := hd _ rfl
      simp [Region.binds] at hd
      obtain rfl := p1 (by simp [hd])
      obtain rfl := p4 (by simp [hd])
      obtain rfl := p7 (by simp [hd])
      refine RI.wpOp_plain rfl rfl ?_
      go_simp
      refine (KF.out _ _ _).mono ?_
      rintro e w1 ⟨rfl, hb1⟩
      exact ⟨u12, _, u14, u15, _, u17, u18, _, _, u21, F, v5, v10, v11, v22, v23, rfl, P4_below hP hb1, (fun h => q (by rwa [RI.don_other _ _ _ (by decide)] at h)), RI.keep (by decide) p0, RI.keep (by decide) p1, RI.keep (by decide) p2, RI.keep (by decide) p3, RI.keep (by decide) p4, RI.keep (by decide) p5, RI.keep (by decide) p6, RI.keep (by decide) p7, fun _ => rfl, RI.keep (by decide) p9, RI.keep (by decide) (px10)⟩
    · have hd := hd _ rfl
      simp [Region.binds] at hd
      obtain rfl := p0 (by simp [hd])
      obtain rfl := p1 (by simp [hd])
      obtain rfl := p2 (by simp [hd])
      obtain rfl := p3 (by simp [hd])
      obtain rfl := p4 (by simp [hd])
      obtain rfl := p5 (by simp [hd])
      obtain rfl := p6 (by simp [hd])
      obtain rfl := p7 (by simp [hd])
      obtain rfl := p8 (by simp [hd])
      refine RI.wpOp_plain rfl rfl ?_
      go_simp
      exact ⟨_, _, _, _, _, _, _, _, _, _, F, v5, v10, v11, v22, v23, rfl, hP, (fun h => q (by rwa [RI.don_other _ _ _ (by decide)] at h)), RI.keep (by decide) p0, RI.keep (by decide) p1, RI.keep (by decide) p2, RI.keep (by decide) p3, RI.keep (by decide) p4, RI.keep (by decide) p5, RI.keep (by decide) p6, RI.keep (by decide) p7, RI.keep (by decide) p8, fun _ => rfl, RI.keep (by decide) px10⟩
    · have hd := hd _ rfl
      simp [Region.binds] at hd
      obtain rfl := p0 (by simp [hd])
      obtain rfl := p1 (by simp [hd])
      obtain rfl := p2 (by simp [hd])
      obtain rfl := p3 (by simp [hd])
      obtain rfl := p4 (by simp [hd])
      obtain rfl := p5 (by simp [hd])
      obtain rfl := p6 (by simp [hd])
      obtain rfl := p7 (by simp [hd])
      obtain rfl := p8 (by simp [hd])
      obtain rfl := p9 (by simp [hd])
      refine RI.wpOp_plain rfl rfl ?_
      obtain rfl := q hf
      have c3 := hP.v3.c 1 (by decide)
      have f3 : ∀ o, wx.frozen? ⟨w.heap.size + 1 + 1 + 1, o, none⟩ = false := hP.v3.f
      go_simp
      exact ⟨_, _, _, _, _, _, _, _, _, _, _, v5, v10, v11, v22, v23, rfl, P4_set hP (by decide), (fun h => absurd h (by simp [RI.don])), RI.keep (by decide) p0, RI.keep (by decide) p1, RI.keep (by decide) p2, RI.keep (by decide) p3, RI.keep (by decide) p4, RI.keep (by decide) p5, RI.keep (by decide) p6, RI.keep (by decide) p7, RI.keep (by decide) p8, RI.keep (by decide) p9, fun _ => rfl⟩
  clear m0
  intro d x wx hI hd
  obtain ⟨u12, u13, u14, u15, u16, u17, u18, u19, u20, u21, F, v5, v10, v11, v22, v23, rfl, hP, q, p0, p1, p2, p3, p4, p5, p6, p7, p8, p9, px10⟩ := hI
  obtain rfl := p0 (hd 0 (by decide))
  obtain rfl := p1 (hd 1 (by decide))
  obtain rfl := p2 (hd 2 (by decide))
  obtain rfl := p3 (hd 3 (by decide))
  obtain rfl := p4 (hd 4 (by decide))
  obtain rfl := p5 (hd 5 (by decide))
  obtain rfl := p6 (hd 6 (by decide))
  obtain rfl := p7 (hd 7 (by decide))
  obtain rfl := p8 (hd 8 (by decide))
  obtain rfl := p9 (hd 9 (by decide))
  rw [px10 (hd 10 (by decide))] at hP
  have m0 := hP
  clear p0 p1 p2 p3 p4 p5 p6 p7 p8 p9 px10 q hd hP
  go_wp2_with fail
  rw [rounds_succ]
  go_upto_region 5 with fail
  refine RI.wp_region_inv (PB2 w a b f (.func (Fn.func 32) #[] #[]) (upd (upd (dg 0) 0 (f (dg a 0) (dg b 0))) 1 (f (dg a 1) (dg b 1)))) (by kernel_rfl) (by kernel_rfl) ?_ ?_ ?_
  · exact ⟨_, _, _, _, _, _, _, _, _, _, upd (upd (dg 0) 0 (f (dg a 0) (dg b 0))) 1 (f (dg a 1) (dg b 1)), _, _, _, _, _, rfl, P4_drew m0, fun _ => rfl, nofun, nofun, nofun, nofun, nofun, nofun, nofun, nofun, nofun, nofun, nofun⟩
  · clear m0
    intro d x wx i hI hi hm
    obtain ⟨u12, u13, u14, u15, u16, u17, u18, u19, u20, u21, F, v5, v10, v11, v22, v23, rfl, hP, q, p0, p1, p2, p3, p4, p5, p6, p7, p8, p9, px10⟩ := hI
    have hi' : i = 0 ∨ i = 1 ∨ i = 2 ∨ i = 3 ∨ i = 4 ∨ i = 5 ∨ i = 6 ∨ i = 7 ∨ i = 8 ∨ i = 9 ∨ i = 10 := by simp at hi; omega
    have hd := hm.2
    have hf := hm.1
    clear hm hi
    rcases hi' with rfl | rfl | rfl | rfl | rfl | rfl | rfl | rfl | rfl | rfl | rfl
    · refine RI.wpOp_plain rfl rfl ?_
      go_simp
      exact ⟨_, u13, u14, u15, u16, u17, u18, u19, u20, u21, F, v5, v10, v11, v22, v23, rfl, hP, (fun h => q (by rwa [RI.don_other _ _ _ (by decide)] at h)), fun _ => rfl, RI.keep (by decide) p1, RI.keep (by decide) p2, RI.keep (by decide) p3, RI.keep (by decide) p4, RI.keep (by decide) p5, RI.keep (by decide) p6, RI.keep (by decide) p7, RI.keep (by decide) p8, RI.keep (by decide) p9, RI.keep (by decide) px10⟩
    · refine RI.wpOp_plain rfl rfl ?_
      go_simp
      exact ⟨u12, _, u14, u15, u16, u17, u18, u19, u20, u21, F, v5, v10, v11, v22, v23, rfl, hP, (fun h => q (by rwa [RI.don_other _ _ _ (by decide)] at h)), RI.keep (by decide) p0, fun _ => rfl, RI.keep (by decide) p2, RI.keep (by decide) p3, RI.keep (by decide) p4, RI.keep (by decide) p5, RI.keep (by decide) p6, RI.keep (by decide) p7, RI.keep (by decide) p8, RI.keep (by decide) p9, RI.keep (by decide) px10⟩
    · refine RI.wpOp_plain rfl rfl ?_
      go_simp
      exact ⟨u12, u13, _, u15, u16, u17, u18, u19, u20, u21, F, v5, v10, v11, v22, v23, rfl, hP, (fun h => q (by rwa [RI.don_other _ _ _ (by decide)] at h)), RI.keep (by decide) p0, RI.keep (by decide) p1, fun _ => rfl, RI.keep (by decide) p3, RI.keep (by decide) p4, RI.keep (by decide) p5, RI.keep (by decide) p6, RI.keep (by decide) p7, RI.keep (by decide) p8, RI.keep (by decide) p9, RI.keep (by decide) px10⟩
    · have hd := hd _ rfl
      simp [Region.binds] at hd
      obtain rfl := p2 (by simp [hd])
      refine RI.wpOp_plain rfl rfl ?_
      go_simp
      exact ⟨u12, u13, _, _, u16, u17, u18, u19, u20, u21, F, v5, v10, v11, v22, v23, rfl, hP, (fun h => q (by rwa [RI.don_other _ _ _ (by decide)] at h)), RI.keep (by decide) p0, RI.keep (by decide) p1, RI.keep (by decide) p2, fun _ => rfl, RI.keep (by decide) p4, RI.keep (by decide) p5, RI.keep (by decide) p6, RI.keep (by decide) p7, RI.keep (by decide) p8, RI.keep (by decide) p9, RI.keep (by decide) px10⟩
    · have hd := hd _ rfl
      simp [Region.binds] at hd
      obtain rfl := p3 (by simp [hd])
      refine RI.wpOp_plain rfl rfl ?_
      have c0 : wx.cell? ⟨w.heap.size, 2, none⟩ = some (.int .u64 (dg a 2)) := hP.v0.c 2 (by decide)
      go_simp
      exact ⟨u12, u13, u14, _, _, u17, u18, u19, u20, u21, F, v5, v10, v11, v22, v23, rfl, hP, (fun h => q (by rwa [RI.don_other _ _ _ (by decide)] at h)), RI.keep (by decide) p0, RI.keep (by decide) p1, RI.keep (by decide) p2, RI.keep (by decide) p3, fun _ => rfl, RI.keep (by decide) p5, RI.keep (by decide) p6, RI.keep (by decide) p7, RI.keep (by decide) p8, RI.keep (by decide) p9, RI.keep (by decide) px10⟩
    · refine RI.wpOp_plain rfl rfl ?_
      go_simp
      exact ⟨u12, u13, u14, u15, u16, _, u18, u19, u20, u21, F, v5, v10, v11, v22, v23, rfl, hP, (fun h => q (by rwa [RI.don_other _ _ _ (by decide)] at h)), RI.keep (by decide) p0, RI.keep (by decide) p1, RI.keep (by decide) p2, RI.keep (by decide) p3, RI.keep (by decide) p4, fun _ => rfl, RI.keep (by decide) p6, RI.keep (by decide) p7, RI.keep (by decide) p8, RI.keep (by decide) p9, RI.keep (by decide) px10⟩
    · have hd := hd _ rfl
      simp [Region.binds] at hd
      obtain rfl := p5 (by simp [hd])
      refine RI.wpOp_plain rfl rfl ?_
      go_simp
      exact ⟨u12, u13, u14, u15, u16, _, _, u19, u20, u21, F, v5, v10, v11, v22, v23, rfl, hP, (fun h => q (by rwa [RI.don_other _ _ _ (by decide)] at h)), RI.keep (by decide) p0, RI.keep (by decide) p1, RI.keep (by decide) p2, RI.keep (by decide) p3, RI.keep (by decide) p4, RI.keep (by decide) p5, fun _ => rfl, RI.keep (by decide) p7, RI.keep (by decide) p8, RI.keep (by decide) p9, RI.keep (by decide) px10⟩
    · have hd := hd _ rfl
      simp [Region.binds] at hd
      obtain rfl := p6 (by simp [hd])
      refine RI.wpOp_plain rfl rfl ?_
      have c0 : wx.cell? ⟨w.heap.size + 1, 2, none⟩ = some (.int .u64 (dg b 2)) := hP.v1.c 2 (by decide)
      go_simp
      exact ⟨u12, u13, u14, u15, u16, u17, _, _, u20, u21, F, v5, v10, v11, v22, v23, rfl, hP, (fun h => q (by rwa [RI.don_other _ _ _ (by decide)] at h)), RI.keep (by decide) p0, RI.keep (by decide) p1, RI.keep (by decide) p2, RI.keep (by decide) p3, RI.keep (by decide) p4, RI.keep (by decide) p5, RI.keep (by decide) p6, fun _ => rfl, RI.keep (by decide) p8, RI.keep (by decide) p9, RI.keep (by decide) px10⟩
    · have hd := hd _ rfl
      simp [Region.binds] at hd
      obtain rfl := p1 (by simp [hd])
      obtain rfl := p4 (by simp [hd])
      obtain rfl := p7 (by simp [hd])
      refine RI.wpOp_plain rfl rfl ?_
      go_simp
      refine (KF.out _ _ _).mono ?_
      rintro e w1 ⟨rfl, hb1⟩
      exact ⟨u12, _, u14, u15, _, u17, u18, _, _, u21, F, v5, v10, v11, v22, v23, rfl, P4_below hP hb1, (fun h => q (by rwa [RI.don_other _ _ _ (by decide)] at h)), RI.keep (by decide) p0, RI.keep (by decide) p1, RI.keep (by decide) p2, RI.keep (by decide) p3, RI.keep (by decide) p4, RI.keep (by decide) p5, RI.keep (by decide) p6, RI.keep (by decide) p7, fun _ => rfl, RI.keep (by decide) p9, RI.keep (by decide) (px10)⟩
    · have hd := hd _ rfl
      simp [Region.binds] at hd
      obtain rfl := p0 (by simp [hd])
      obtain rfl := p1 (by simp [hd])
      obtain rfl := p2 (by simp [hd])
      obtain rfl := p3 (by simp [hd])
      obtain rfl := p4 (by simp [hd])
      obtain rfl := p5 (by simp [hd])
      obtain rfl := p6 (by simp [hd])
      obtain rfl := p7 (by simp [hd])
      obtain rfl := p8 (by simp [hd])
      refine RI.wpOp_plain rfl rfl ?_
      go_simp
      exact ⟨_, _, _, _, _, _, _, _, _, _, F, v5, v10, v11, v22, v23, rfl, hP, (fun h => q (by rwa [RI.don_other _ _ _ (by decide)] at h)), RI.keep (by decide) p0, RI.keep (by decide) p1, RI.keep (by decide) p2, RI.keep (by decide) p3, RI.keep (by decide) p4, RI.keep (by decide) p5, RI.keep (by decide) p6, RI.keep (by decide) p7, RI.keep (by decide) p8, fun _ => rfl, RI.keep (by decide) px10⟩
    · have hd := hd _ rfl
      simp [Region.binds] at hd
      obtain rfl := p0 (by simp [hd])
      obtain rfl := p1 (by simp [hd])
      obtain rfl := p2 (by simp [hd])
      obtain rfl := p3 (by simp [hd])
      obtain rfl := p4 (by simp [hd])
      obtain rfl := p5 (by simp [hd])
      obtain rfl := p6 (by simp [hd])
      obtain rfl := p7 (by simp [hd])
      obtain rfl := p8 (by simp [hd])
      obtain rfl := p9 (by simp [hd])
      refine RI.wpOp_plain rfl rfl ?_
      obtain rfl := q hf
      have c3 := hP.v3.c 2 (by decide)
      have f3 : ∀ o, wx.frozen? ⟨w.heap.size + 1 + 1 + 1, o, none⟩ = false := hP.v3.f
      go_simp
      exact ⟨_, _, _, _, _, _, _, _, _, _, _, v5, v10, v11, v22, v23, rfl, P4_set hP (by decide), (fun h => absurd h (by simp [RI.don])), RI.keep (by decide) p0, RI.keep (by decide) p1, RI.keep (by decide) p2, RI.keep (by decide) p3, RI.keep (by decide) p4, RI.keep (by decide) p5, RI.keep (by decide) p6, RI.keep (by decide) p7, RI.keep (by decide) p8, RI.keep (by decide) p9, fun _ => rfl⟩
  clear m0
  intro d x wx hI hd
  obtain ⟨u12, u13, u14, u15, u16, u17, u18, u19, u20, u21, F, v5, v10, v11, v22, v23, rfl, hP, q, p0, p1, p2, p3, p4, p5, p6, p7, p8, p9, px10⟩ := hI
  obtain rfl := p0 (hd 0 (by decide))
  obtain rfl := p1 (hd 1 (by decide))
  obtain rfl := p2 (hd 2 (by decide))
  obtain rfl := p3 (hd 3 (by decide))
  obtain rfl := p4 (hd 4 (by decide))
  obtain rfl := p5 (hd 5 (by decide))
  obtain rfl := p6 (hd 6 (by decide))
  obtain rfl := p7 (hd 7 (by decide))
  obtain rfl := p8 (hd 8 (by decide))
  obtain rfl := p9 (hd 9 (by decide))
  rw [px10 (hd 10 (by decide))] at hP
  have m0 := hP
  clear p0 p1 p2 p3 p4 p5 p6 p7 p8 p9 px10 q hd hP
  go_wp2_with fail
  rw [rounds_succ]
  go_upto_region 5 with fail
  refine RI.wp_region_inv (PB3 w a b f (.func (Fn.func 32) #[] #[]) (upd (upd (upd (dg 0) 0 (f (dg a 0) (dg b 0))) 1 (f (dg a 1) (dg b 1))) 2 (f (dg a 2) (dg b 2)))) (by kernel_rfl) (by kernel_rfl) ?_ ?_ ?_
  · exact ⟨_, _, _, _, _, _, _, _, _, _, upd (upd (upd (dg 0) 0 (f (dg a 0) (dg b 0))) 1 (f (dg a 1) (dg b 1))) 2 (f (dg a 2) (dg b 2)), _, _, _, _, _, rfl, P4_drew m0, fun _ => rfl, nofun, nofun, nofun, nofun, nofun, nofun, nofun, nofun, nofun, nofun, nofun⟩
  · clear m0
    intro d x wx i hI hi hm
    obtain ⟨u12, u13, u14, u15, u16, u17, u18, u19, u20, u21, F, v5, v10, v11, v22, v23, rfl, hP, q, p0, p1, p2, p3, p4, p5, p6, p7, p8, p9, px10⟩ := hI
    have hi' : i = 0 ∨ i = 1 ∨ i = 2 ∨ i = 3 ∨ i = 4 ∨ i = 5 ∨ i = 6 ∨ i = 7 ∨ i = 8 ∨ i = 9 ∨ i = 10 := by simp at hi; omega
    have hd := hm.2
    have hf := hm.1
    clear hm hi
    rcases hi' with rfl | rfl | rfl | rfl | rfl | rfl | rfl | rfl | rfl | rfl | rfl
    · refine RI.wpOp_plain rfl rfl ?_
      go_simp
      exact ⟨_, u13, u14, u15, u16, u17, u18, u19, u20, u21, F, v5, v10, v11, v22, v23, rfl, hP, (fun h => q (by rwa [RI.don_other _ _ _ (by decide)] at h)), fun _ => rfl, RI.keep (by decide) p1, RI.keep (by decide) p2, RI.keep (by decide) p3, RI.keep (by decide) p4, RI.keep (by decide) p5, RI.keep (by decide) p6, RI.keep (by decide) p7, RI.keep (by decide) p8, RI.keep (by decide) p9, RI.keep (by decide) px10⟩
    · refine RI.wpOp_plain rfl rfl ?_
      go_simp
      exact ⟨u12, _, u14, u15, u16, u17, u18, u19, u20, u21, F, v5, v10, v11, v22, v23, rfl, hP, (fun h => q (by rwa [RI.don_other _ _ _ (by decide)] at h)), RI.keep (by decide) p0, fun _ => rfl, RI.keep (by decide) p2, RI.keep (by decide) p3, RI.keep (by decide) p4, RI.keep (by decide) p5, RI.keep (by decide) p6, RI.keep (by decide) p7, RI.keep (by decide) p8, RI.keep (by decide) p9, RI.keep (by decide) px10⟩
    · refine RI.wpOp_plain rfl rfl ?_
      go_simp
      exact ⟨u12, u13, _, u15, u16, u17, u18, u19, u20, u21, F, v5, v10, v11, v22, v23, rfl, hP, (fun h => q (by rwa [RI.don_other _ _ _ (by decide)] at h)), RI.keep (by decide) p0, RI.keep (by decide) p1, fun _ => rfl, RI.keep (by decide) p3, RI.keep (by decide) p4, RI.keep (by decide) p5, RI.keep (by decide) p6, RI.keep (by decide) p7, RI.keep (by decide) p8, RI.keep (by decide) p9, RI.keep (by decide) px10⟩
    · have hd := hd _ rfl
      simp [Region.binds] at hd
      obtain rfl := p2 (by simp [hd])
      refine RI.wpOp_plain rfl rfl ?_
      go_simp
      exact ⟨u12, u13, _, _, u16, u17, u18, u19, u20, u21, F, v5, v10, v11, v22, v23, rfl, hP, (fun h => q (by rwa [RI.don_other _ _ _ (by decide)] at h)), RI.keep (by decide) p0, RI.keep (by decide) p1, RI.keep (by decide) p2, fun _ => rfl, RI.keep (by decide) p4, RI.keep (by decide) p5, RI.keep (by decide) p6, RI.keep (by decide) p7, RI.keep (by decide) p8, RI.keep (by decide) p9, RI.keep (by decide) px10⟩
    · have hd := hd _ rfl
      simp [Region.binds] at hd
      obtain rfl := p3 (by simp [hd])
      refine RI.wpOp_plain rfl rfl ?_
      have c0 : wx.cell? ⟨w.heap.size, 3, none⟩ = some (.int .u64 (dg a 3)) := hP.v0.c 3 (by decide)
      go_simp
      exact ⟨u12, u13, u14, _, _, u17, u18, u19, u20, u21, F, v5, v10, v11, v22, v23, rfl, hP, (fun h => q (by rwa [RI.don_other _ _ _ (by decide)] at h)), RI.keep (by decide) p0, RI.keep (by decide) p1, RI.keep (by decide) p2, RI.keep (by decide) p3, fun _ => rfl, RI.keep (by decide) p5, RI.keep (by decide) p6, RI.keep (by decide) p7, RI.keep (by decide) p8, RI.keep (by decide) p9, RI.keep (by decide) px10⟩
    · refine RI.wpOp_plain rfl rfl ?_
      go_simp
      exact ⟨u12, u13, u14, u15, u16, _, u18, u19, u20, u21, F, v5, v10, v11, v22, v23, rfl, hP, (fun h => q (by rwa [RI.don_other _ _ _ (by decide)] at h)), RI.keep (by decide) p0, RI.keep (by decide) p1, RI.keep (by decide) p2, RI.keep (by decide) p3, RI.keep (by decide) p4, fun _ => rfl, RI.keep (by decide) p6, RI.keep (by decide) p7, RI.keep (by decide) p8, RI.keep (by decide) p9, RI.keep (by decide) px10⟩
    · have hd := hd _ rfl
      simp [Region.binds] at hd
      obtain rfl := p5 (by simp [hd])
      refine RI.wpOp_plain rfl rfl ?_
      go_simp
      exact ⟨u12, u13, u14, u15, u16, _, _, u19, u20, u21, F, v5, v10, v11, v22, v23, rfl, hP, (fun h => q (by rwa [RI.don_other _ _ _ (by decide)] at h)), RI.keep (by decide) p0, RI.keep (by decide) p1, RI.keep (by decide) p2, RI.keep (by decide) p3, RI.keep (by decide) p4, RI.keep (by decide) p5, fun _ => rfl, RI.keep (by decide) p7, RI.keep (by decide) p8, RI.keep (by decide) p9, RI.keep (by decide) px10⟩
    · have hd := hd _ rfl
      simp [Region.binds] at hd
      obtain rfl := p6 (by simp [hd])
      refine RI.wpOp_plain rfl rfl ?_
      have c0 : wx.cell? ⟨w.heap.size + 1, 3, none⟩ = some (.int .u64 (dg b 3)) := hP.v1.c 3 (by decide)
      go_simp
      exact ⟨u12, u13, u14, u15, u16, u17, _, _, u20, u21, F, v5, v10, v11, v22, v23, rfl, hP, (fun h => q (by rwa [RI.don_other _ _ _ (by decide)] at h)), RI.keep (by decide) p0, RI.keep (by decide) p1, RI.keep (by decide) p2, RI.keep (by decide) p3, RI.keep (by decide) p4, RI.keep (by decide) p5, RI.keep (by decide) p6, fun _ => rfl, RI.keep (by decide) p8, RI.keep (by decide) p9, RI.keep (by decide) px10⟩
    · have hd := hd _ rfl
      simp [Region.binds] at hd
      obtain rfl := p1 (by simp [hd])
      obtain rfl := p4 (by simp [hd])
      obtain rfl := p7 (by simp [hd])
      refine RI.wpOp_plain rfl rfl ?_
      go_simp
      refine (KF.out _ _ _).mono ?_
      rintro e w1 ⟨rfl, hb1⟩
      exact ⟨u12, _, u14, u15, _, u17, u18, _, _, u21, F, v5, v10, v11, v22, v23, rfl, P4_below hP hb1, (fun h => q (by rwa [RI.don_other _ _ _ (by decide)] at h)), RI.keep (by decide) p0, RI.keep (by decide) p1, RI.keep (by decide) p2, RI.keep (by decide) p3, RI.keep (by decide) p4, RI.keep (by decide) p5, RI.keep (by decide) p6, RI.keep (by decide) p7, fun _ => rfl, RI.keep (by decide) p9, RI.keep (by decide) (px10)⟩
    · have hd := hd _ rfl
      simp [Region.binds] at hd
      obtain rfl := p0 (by simp [hd])
      obtain rfl := p1 (by simp [hd])
      obtain rfl := p2 (by simp [hd])
      obtain rfl := p3 (by simp [hd])
      obtain rfl := p4 (by simp [hd])
      obtain rfl := p5 (by simp [hd])
      obtain rfl := p6 (by simp [hd])
      obtain rfl := p7 (by simp [hd])
      obtain rfl := p8 (by simp [hd])
      refine RI.wpOp_plain rfl rfl ?_
      go_simp
      exact ⟨_, _, _, _, _, _, _, _, _, _, F, v5, v10, v11, v22, v23, rfl, hP, (fun h => q (by rwa [RI.don_other _ _ _ (by decide)] at h)), RI.keep (by decide) p0, RI.keep (by decide) p1, RI.keep (by decide) p2, RI.keep (by decide) p3, RI.keep (by decide) p4, RI.keep (by decide) p5, RI.keep (by decide) p6, RI.keep (by decide) p7, RI.keep (by decide) p8, fun _ => rfl, RI.keep (by decide) px10⟩
    · have hd := hd _ rfl
      simp [Region.binds] at hd
      obtain rfl := p0 (by simp [hd])
      obtain rfl := p1 (by simp [hd])
      obtain rfl := p2 (by simp [hd])
      obtain rfl := p3 (by simp [hd])
      obtain rfl := p4 (by simp [hd])
      obtain rfl := p5 (by simp [hd])
      obtain rfl := p6 (by simp [hd])
      obtain rfl := p7 (by simp [hd])
      obtain rfl := p8 (by simp [hd])
      obtain rfl := p9 (by simp [hd])
      refine RI.wpOp_plain rfl rfl ?_
      obtain rfl := q hf
      have c3 := hP.v3.c 3 (by decide)
      have f3 : ∀ o, wx.frozen? ⟨w.heap.size + 1 + 1 + 1, o, none⟩ = false := hP.v3.f
      go_simp
      exact ⟨_, _, _, _, _, _, _, _, _, _, _, v5, v10, v11, v22, v23, rfl, P4_set hP (by decide), (fun h => absurd h (by simp [RI.don])), RI.keep (by decide) p0, RI.keep (by decide) p1, RI.keep (by decide) p2, RI.keep (by decide) p3, RI.keep (by decide) p4, RI.keep (by decide) p5, RI.keep (by decide) p6, RI.keep (by decide) p7, RI.keep (by decide) p8, RI.keep (by decide) p9, fun _ => rfl⟩
  clear m0
  intro d x wx hI hd
  obtain ⟨u12, u13, u14, u15, u16, u17, u18, u19, u20, u21, F, v5, v10, v11, v22, v23, rfl, hP, q, p0, p1, p2, p3, p4, p5, p6, p7, p8, p9, px10⟩ := hI
  obtain rfl := p0 (hd 0 (by decide))
  obtain rfl := p1 (hd 1 (by decide))
  obtain rfl := p2 (hd 2 (by decide))
  obtain rfl := p3 (hd 3 (by decide))
  obtain rfl := p4 (hd 4 (by decide))
  obtain rfl := p5 (hd 5 (by decide))
  obtain rfl := p6 (hd 6 (by decide))
  obtain rfl := p7 (hd 7 (by decide))
  obtain rfl := p8 (hd 8 (by decide))
  obtain rfl := p9 (hd 9 (by decide))
  rw [px10 (hd 10 (by decide))] at hP
  have m0 := hP
  clear p0 p1 p2 p3 p4 p5 p6 p7 p8 p9 px10 q hd hP
  go_wp2_with fail
  rw [rounds_succ]
  have c3 : ∀ o, o < 4 → wx.cell? ⟨w.heap.size + 1 + 1 + 1, o, none⟩ = some (.int .u64 (dg N o)) := fun o ho => by
    rw [← HN.out o ho, m0.v3.c o ho]
    have : o = 0 ∨ o = 1 ∨ o = 2 ∨ o = 3 := by omega
    rcases this with rfl | rfl | rfl | rfl <;> rfl
  have c2 : ∀ o, o < 4 → wx.cell? ⟨w.heap.size + 1 + 1, o, none⟩ = some (.int .u64 (dg 0 o)) := m0.v2.c
  have f2 : ∀ o, wx.frozen? ⟨w.heap.size + 1 + 1, o, none⟩ = false := m0.v2.f
  have z2 := m0.v2.hi
  have HV : Hid (Vb w.heap.size (w.heap.size + 1 + 1) 4 (dg N) _) := Vb_set4 m0.v2
  have HB : Hid (Below w.heap.size w _) := Bel_set4 (h := w.heap.size + 1 + 1) (m := N) m0.bel (by omega)
  clear m0
  go_wp2_with fail
  exact bodyPost_ret (v := Wd N) (resultTw _ _ _ (w.heap.size + 1 + 1) N 6 rfl rfl HV.out.c) rfl ⟨rfl, HB.out⟩
set_option maxHeartbeats 4000000 in
set_option maxRecDepth 100000 in
theorem pbp_or (a b N : Nat) (f : Int → Int → Int) (KF : Hid (∀ (x y : Int) (w : World), Calls Try.prog 33 #[.int .u64 x, .int .u64 y] w fun e w' => e = .returned (.int .u64 (f x y)) ∧ Below w.heap.size w w')) (HN : Hid (∀ o, o < 4 → f (dg a o) (dg b o) = dg N o)) (w : World) :
    Calls Try.prog 30 #[Wd a, Wd b, .func (Fn.func 33) #[] #[]] w fun e w' => e = .returned (Wd N) ∧ Below w.heap.size w w' := by
  have m0 : P4 w a b (dg 0) ((((w.alloc (.cells #[.int .u64 (dg a 0), .int .u64 (dg a 1), .int .u64 (dg a 2), .int .u64 (dg a 3)] 24)).alloc (.cells #[.int .u64 (dg b 0), .int .u64 (dg b 1), .int .u64 (dg b 2), .int .u64 (dg b 3)] 24)).alloc (.cells #[.int .u64 0, .int .u64 0, .int .u64 0, .int .u64 0] 24)).alloc (.cells #[.int .u64 0, .int .u64 0, .int .u64 0, .int .u64 0] 24)) := by
    have k := M4_start w a b 24
    exact ⟨k.v0, k.v1, k.v2, k.v3, k.bel⟩
  conv => arg 3; unfold Wd
  go_enter Try.func30, Try.ntmps30
  go_wp2_with fail
  generalize (((w.alloc (.cells #[.int .u64 (dg a 0), .int .u64 (dg a 1), .int .u64 (dg a 2), .int .u64 (dg a 3)] 24)).alloc (.cells #[.int .u64 (dg b 0), .int .u64 (dg b 1), .int .u64 (dg b 2), .int .u64 (dg b 3)] 24)).alloc (.cells #[.int .u64 0, .int .u64 0, .int .u64 0, .int .u64 0] 24)).alloc (.cells #[.int .u64 0, .int .u64 0, .int .u64 0, .int .u64 0] 24) = W0 at m0 ⊢
  refine wp_loop_rounds 5 ?_
  rw [rounds_succ]
  go_upto_region 5 with fail
  refine RI.wp_region_inv (PB0 w a b f (.func (Fn.func 33) #[] #[]) (dg 0)) (by kernel_rfl) (by kernel_rfl) ?_ ?_ ?_
  · exact ⟨undef, undef, undef, undef, undef, undef, undef, undef, undef, undef, dg 0, _, _, _, _, _, rfl, P4_drew m0, fun _ => rfl, nofun, nofun, nofun, nofun, nofun, nofun, nofun, nofun, nofun, nofun, nofun⟩
  · clear m0
    intro d x wx i hI hi hm
    obtain ⟨u12, u13, u14, u15, u16, u17, u18, u19, u20, u21, F, v5, v10, v11, v22, v23, rfl, hP, q, p0, p1, p2, p3, p4, p5, p6, p7, p8, p9, px10⟩ := hI
    have hi' : i = 0 ∨ i = 1 ∨ i = 2 ∨ i = 3 ∨ i = 4 ∨ i = 5 ∨ i = 6 ∨ i = 7 ∨ i = 8 ∨ i = 9 ∨ i = 10 := by simp at hi; omega
    have hd := hm.2
    have hf := hm.1
    clear hm hi
    rcases hi' with rfl | rfl | rfl | rfl | rfl | rfl | rfl | rfl | rfl | rfl | rfl
    · refine RI.wpOp_plain rfl rfl ?_
      go_simp
      exact ⟨_, u13, u14, u15, u16, u17, u18, u19, u20, u21, F, v5, v10, v11, v22, v23, rfl, hP, (fun h => q (by rwa [RI.don_other _ _ _ (by decide)] at h)), fun _ => rfl, RI.keep (by decide) p1, RI.keep (by decide) p2, RI.keep (by decide) p3, RI.keep (by decide) p4, RI.keep (by decide) p5, RI.keep (by decide) p6, RI.keep (by decide) p7, RI.keep (by decide) p8, RI.keep (by decide) p9, RI.keep (by decide) px10⟩
    · refine RI.wpOp_plain rfl rfl ?_
      go_simp
      exact ⟨u12, _, u14, u15, u16, u17, u18, u19, u20, u21, F, v5, v10, v11, v22, v23, rfl, hP, (fun h => q (by rwa [RI.don_other _ _ _ (by decide)] at h)), RI.keep (by decide) p0, fun _ => rfl, RI.keep (by decide) p2, RI.keep (by decide) p3, RI.keep (by decide) p4, RI.keep (by decide) p5, RI.keep (by decide) p6, RI.keep (by decide) p7, RI.keep (by decide) p8, RI.keep (by decide) p9, RI.keep (by decide) px10⟩
    · refine RI.wpOp_plain rfl rfl ?_
      go_simp
      exact ⟨u12, u13, _, u15, u16, u17, u18, u19, u20, u21, F, v5, v10, v11, v22, v23, rfl, hP, (fun h => q (by rwa [RI.don_other _ _ _ (by decide)] at h)), RI.keep (by decide) p0, RI.keep (by decide) p1, fun _ => rfl, RI.keep (by decide) p3, RI.keep (by decide) p4, RI.keep (by decide) p5, RI.keep (by decide) p6, RI.keep (by decide) p7, RI.keep (by decide) p8, RI.keep (by decide) p9, RI.keep (by decide) px10⟩
    · have hd := hd _ rfl
      simp [Region.binds] at hd
      obtain rfl := p2 (by simp [hd])
      refine RI.wpOp_plain rfl rfl ?_
      go_simp
      exact ⟨u12, u13, _, _, u16, u17, u18, u19, u20, u21, F, v5, v10, v11, v22, v23, rfl, hP, (fun h => q (by rwa [RI.don_other _ _ _ (by decide)] at h)), RI.keep (by decide) p0, RI.keep (by decide) p1, RI.keep (by decide) p2, fun _ => rfl, RI.keep (by decide) p4, RI.keep (by decide) p5, RI.keep (by decide) p6, RI.keep (by decide) p7, RI.keep (by decide) p8, RI.keep (by decide) p9, RI.keep (by decide) px10⟩
    · have hd := hd _ rfl
      simp [Region.binds] at hd
      obtain rfl := p3 (by simp [hd])
      refine RI.wpOp_plain rfl rfl ?_
      have c0 : wx.cell? ⟨w.heap.size, 0, none⟩ = some (.int .u64 (dg a 0)) := hP.v0.c 0 (by decide)
      go_simp
      exact ⟨u12, u13, u14, _, _, u17, u18, u19, u20, u21, F, v5, v10, v11, v22, v23, rfl, hP, (fun h => q (by rwa [RI.don_other _ _ _ (by decide)] at h)), RI.keep (by decide) p0, RI.keep (by decide) p1, RI.keep (by decide) p2, RI.keep (by decide) p3, fun _ => rfl, RI.keep (by decide) p5, RI.keep (by decide) p6, RI.keep (by decide) p7, RI.keep (by decide) p8, RI.keep (by decide) p9, RI.keep (by decide) px10⟩
    · refine RI.wpOp_plain rfl rfl ?_
      go_simp
      exact ⟨u12, u13, u14, u15, u16, _, u18, u19, u20, u21, F, v5, v10, v11, v22, v23, rfl, hP, (fun h => q (by rwa [RI.don_other _ _ _ (by decide)] at h)), RI.keep (by decide) p0, RI.keep (by decide) p1, RI.keep (by decide) p2, RI.keep (by decide) p3, RI.keep (by decide) p4, fun _ => rfl, RI.keep (by decide) p6, RI.keep (by decide) p7, RI.keep (by decide) p8, RI.keep (by decide) p9, RI.keep (by decide) px10⟩
    · have hd := hd _ rfl
      simp [Region.binds] at hd
      obtain rfl := p5 (by simp [hd])
      refine RI.wpOp_plain rfl rfl ?_
      go_simp
      exact ⟨u12, u13, u14, u15, u16, _, _, u19, u20, u21, F, v5, v10, v11, v22, v23, rfl, hP, (fun h => q (by rwa [RI.don_other _ _ _ (by decide)] at h)), RI.keep (by decide) p0, RI.keep (by decide) p1, RI.keep (by decide) p2, RI.keep (by decide) p3, RI.keep (by decide) p4, RI.keep (by decide) p5, fun _ => rfl, RI.keep (by decide) p7, RI.keep (by decide) p8, RI.keep (by decide) p9, RI.keep (by decide) px10⟩
    · have hd := hd _ rfl
      simp [Region.binds] at hd
      obtain rfl := p6 (by simp [hd])
      refine RI.wpOp_plain rfl rfl ?_
      have c0 : wx.cell? ⟨w.heap.size + 1, 0, none⟩ = some (.int .u64 (dg b 0)) := hP.v1.c 0 (by decide)
      go_simp
      exact ⟨u12, u13, u14, u15, u16, u17, _, _, u20, u21, F, v5, v10, v11, v22, v23, rfl, hP, (fun h => q (by rwa [RI.don_other _ _ _ (by decide)] at h)), RI.keep (by decide) p0, RI.keep (by decide) p1, RI.keep (by decide) p2, RI.keep (by decide) p3, RI.keep (by decide) p4, RI.keep (by decide) p5, RI.keep (by decide) p6, fun _ => rfl, RI.keep (by decide) p8, RI.keep (by decide) p9, RI.keep (by decide) px10⟩
    · have hd := hd _ rfl
      simp [Region.binds] at hd
      obtain rfl := p1 (by simp [hd])
      obtain rfl := p4 (by simp [hd])
      obtain rfl := p7 (by simp [hd])
      refine RI.wpOp_plain rfl rfl ?_
      go_simp
      refine (KF.out _ _ _).mono ?_
      rintro e w1 ⟨rfl, hb1⟩
      exact ⟨u12, _, u14, u15, _, u17, u18, _, _, u21, F, v5, v10, v11, v22, v23, rfl, P4_below hP hb1, (fun h => q (by rwa [RI.don_other _ _ _ (by decide)] at h)), RI.keep (by decide) p0, RI.keep (by decide) p1, RI.keep (by decide) p2, RI.keep (by decide) p3, RI.keep (by decide) p4, RI.keep (by decide) p5, RI.keep (by decide) p6, RI.keep (by decide) p7, fun _ => rfl, RI.keep (by decide) p9, RI.keep (by decide) (px10)⟩
    · have hd := hd _ rfl
      simp [Region.binds] at hd
      obtain rfl := p0 (by simp [hd])
      obtain rfl := p1 (by simp [hd])
      obtain rfl := p2 (by simp [hd])
      obtain rfl := p3 (by simp [hd])
      obtain rfl := p4 (by simp [hd])
      obtain rfl := p5 (by simp [hd])
      obtain rfl := p6 (by simp [hd])
      obtain rfl := p7 (by simp [hd])
      obtain rfl := p8 (by simp [hd])
      refine RI.wpOp_plain rfl rfl ?_
      go_simp
      exact ⟨_, _, _, _, _, _, _, _, _, _, F, v5, v10, v11, v22, v23, rfl, hP, (fun h => q (by rwa [RI.don_other _ _ _ (by decide)] at h)), RI.keep (by decide) p0, RI.keep (by decide) p1, RI.keep (by decide) p2, RI.keep (by decide) p3, RI.keep (by decide) p4, RI.keep (by decide) p5, RI.keep (by decide) p6, RI.keep (by decide) p7, RI.keep (by decide) p8, fun _ => rfl, RI.keep (by decide) px10⟩
    · have hd := hd _ rfl
      simp [Region.binds] at hd
      obtain rfl := p0 (by simp [hd])
      obtain rfl := p1 (by simp [hd])
      obtain rfl := p2 (by simp [hd])
      obtain rfl := p3 (by simp [hd])
      obtain rfl := p4 (by simp [hd])
      obtain rfl := p5 (by simp [hd])
      obtain rfl := p6 (by simp [hd])
      obtain rfl := p7 (by simp [hd])
      obtain rfl := p8 (by simp [hd])
      obtain rfl := p9 (by simp [hd])
      refine RI.wpOp_plain rfl rfl ?_
      obtain rfl := q hf
      have c3 := hP.v3.c 0 (by decide)
      have f3 : ∀ o, wx.frozen? ⟨w.heap.size + 1 + 1 + 1, o, none⟩ = false := hP.v3.f
      go_simp
      exact ⟨_, _, _, _, _, _, _, _, _, _, _, v5, v10, v11, v22, v23, rfl, P4_set hP (by decide), (fun h => absurd h (by simp [RI.don])), RI.keep (by decide) p0, RI.keep (by decide) p1, RI.keep (by decide) p2, RI.keep (by decide) p3, RI.keep (by decide) p4, RI.keep (by decide) p5, RI.keep (by decide) p6, RI.keep (by decide) p7, RI.keep (by decide) p8, RI.keep (by decide) p9, fun _ => rfl⟩
  clear m0
  intro d x wx hI hd
  obtain ⟨u12, u13, u14, u15, u16, u17, u18, u19, u20, u21, F, v5, v10, v11, v22, v23, rfl, hP, q, p0, p1, p2, p3, p4, p5, p6, p7, p8, p9, px10⟩ := hI
  obtain rfl := p0 (hd 0 (by decide))
  obtain rfl := p1 (hd 1 (by decide))
  obtain rfl := p2 (hd 2 (by decide))
  obtain rfl := p3 (hd 3 (by decide))
  obtain rfl := p4 (hd 4 (by decide))
  obtain rfl := p5 (hd 5 (by decide))
  obtain rfl := p6 (hd 6 (by decide))
  obtain rfl := p7 (hd 7 (by decide))
  obtain rfl := p8 (hd 8 (by decide))
  obtain rfl := p9 (hd 9 (by decide))
  rw [px10 (hd 10 (by decide))] at hP
  have m0 := hP
  clear p0 p1 p2 p3 p4 p5 p6 p7 p8 p9 px10 q hd hP
  go_wp2_with fail
  rw [rounds_succ]
  go_upto_region 5 with fail
  refine RI.wp_region_inv (PB1 w a b f (.func (Fn.func 33) #[] #[]) (upd (dg 0) 0 (f (dg a 0) (dg b 0)))) (by kernel_rfl) (by kernel_rfl) ?_ ?_ ?_
  · exact ⟨_, _, _, _, _, _, _, _, _, _, upd (dg 0) 0 (f (dg a 0) (dg b 0)), _, _, _, _, _, rfl, P4_drew m0, fun _ => rfl, nofun, nofun, nofun, nofun, nofun, nofun, nofun, nofun, nofun, nofun, nofun⟩
  · clear m0
    intro d x wx i hI hi hm
    obtain ⟨u12, u13, u14, u15, u16, u17, u18, u19, u20, u21, F, v5, v10, v11, v22, v23, rfl, hP, q, p0, p1, p2, p3, p4, p5, p6, p7, p8, p9, px10⟩ := hI
    have hi' : i = 0 ∨ i = 1 ∨ i = 2 ∨ i = 3 ∨ i = 4 ∨ i = 5 ∨ i = 6 ∨ i = 7 ∨ i = 8 ∨ i = 9 ∨ i = 10 := by simp at hi; omega
    have hd := hm.2
    have hf := hm.1
    clear hm hi
    rcases hi' with rfl | rfl | rfl | rfl | rfl | rfl | rfl | rfl | rfl | rfl | rfl
    · refine RI.wpOp_plain rfl rfl ?_
      go_simp
      exact ⟨_, u13, u14, u15, u16, u17, u18, u19, u20, u21, F, v5, v10, v11, v22, v23, rfl, hP, (fun h => q (by rwa [RI.don_other _ _ _ (by decide)] at h)), fun _ => rfl, RI.keep (by decide) p1, RI.keep (by decide) p2, RI.keep (by decide) p3, RI.keep (by decide) p4, RI.keep (by decide) p5, RI.keep (by decide) p6, RI.keep (by decide) p7, RI.keep (by decide) p8, RI.keep (by decide) p9, RI.keep (by decide) px10⟩
    · refine RI.wpOp_plain rfl rfl ?_
      go_simp
      exact ⟨u12, _, u14, u15, u16, u17, u18, u19, u20, u21, F, v5, v10, v11, v22, v23, rfl, hP, (fun h => q (by rwa [RI.don_other _ _ _ (by decide)] at h)), RI.keep (by decide) p0, fun _ => rfl, RI.keep (by decide) p2, RI.keep (by decide) p3, RI.keep (by decide) p4, RI.keep (by decide) p5, RI.keep (by decide) p6, RI.keep (by decide) p7, RI.keep (by decide) p8, RI.keep (by decide) p9, RI.keep (by decide) px10⟩
    · refine RI.wpOp_plain rfl rfl ?_
      go_simp
      exact ⟨u12, u13, _, u15, u16, u17, u18, u19, u20, u21, F, v5, v10, v11, v22, v23, rfl, hP, (fun h => q (by rwa [RI.don_other _ _ _ (by decide)] at h)), RI.keep (by decide) p0, RI.keep (by decide) p1, fun _ => rfl, RI.keep (by decide) p3, RI.keep (by decide) p4, RI.keep (by decide) p5, RI.keep (by decide) p6, RI.keep (by decide) p7, RI.keep (by decide) p8, RI.keep (by decide) p9, RI.keep (by decide) px10⟩
    · have hd := hd _ rfl
      simp [Region.binds] at hd
      obtain rfl := p2 (by simp [hd])
      refine RI.wpOp_plain rfl rfl ?_
      go_simp
      exact ⟨u12, u13, _, _, u16, u17, u18, u19, u20, u21, F, v5, v10, v11, v22, v23, rfl, hP, (fun h => q (by rwa [RI.don_other _ _ _ (by decide)] at h)), RI.keep (by decide) p0, RI.keep (by decide) p1, RI.keep (by decide) p2, fun _ => rfl, RI.keep (by decide) p4, RI.keep (by decide) p5, RI.keep (by decide) p6, RI.keep (by decide) p7, RI.keep (by decide) p8, RI.keep (by decide) p9, RI.keep (by decide) px10⟩
    · have hd := hd _ rfl
      simp [Region.binds] at hd
      obtain rfl := p3 (by simp [hd])
      refine RI.wpOp_plain rfl rfl ?_
      have c0 : wx.cell? ⟨w.heap.size, 1, none⟩ = some (.int .u64 (dg a 1)) := hP.v0.c 1 (by decide)
      go_simp
      exact ⟨u12, u13, u14, _, _, u17, u18, u19, u20, u21, F, v5, v10, v11, v22, v23, rfl, hP, (fun h => q (by rwa [RI.don_other _ _ _ (by decide)] at h)), RI.keep (by decide) p0, RI.keep (by decide) p1, RI.keep (by decide) p2, RI.keep (by decide) p3, fun _ => rfl, RI.keep (by decide) p5, RI.keep (by decide) p6, RI.keep (by decide) p7, RI.keep (by decide) p8, RI.keep (by decide) p9, RI.keep (by decide) px10⟩
    · refine RI.wpOp_plain rfl rfl ?_
      go_simp
      exact ⟨u12, u13, u14, u15, u16, _, u18, u19, u20, u21, F, v5, v10, v11, v22, v23, rfl, hP, (fun h => q (by rwa [RI.don_other _ _ _ (by decide)] at h)), RI.keep (by decide) p0, RI.keep (by decide) p1, RI.keep (by decide) p2, RI.keep (by decide) p3, RI.keep (by decide) p4, fun _ => rfl, RI.keep (by decide) p6, RI.keep (by decide) p7, RI.keep (by decide) p8, RI.keep (by decide) p9, RI.keep (by decide) px10⟩
    · have hd := hd _ rfl
      simp [Region.binds] at hd
      obtain rfl := p5 (by simp [hd])
      refine RI.wpOp_plain rfl rfl ?_
      go_simp
      exact ⟨u12, u13, u14, u15, u16, _, _, u19, u20, u21, F, v5, v10, v11, v22, v23, rfl, hP, (fun h => q (by rwa [RI.don_other _ _ _ (by decide)] at h)), RI.keep (by decide) p0, RI.keep (by decide) p1, RI.keep (by decide) p2, RI.keep (by decide) p3, RI.keep (by decide) p4, RI.keep (by decide) p5, fun _ => rfl, RI.keep (by decide) p7, RI.keep (by decide) p8, RI.keep (by decide) p9, RI.keep (by decide) px10⟩
    · have hd := hd _ rfl
      simp [Region.binds] at hd
      obtain rfl := p6 (by simp [hd])
      refine RI.wpOp_plain rfl rfl ?_
      have c0 : wx.cell? ⟨w.heap.size + 1, 1, none⟩ = some (.int .u64 (dg b 1)) := hP.v1.c 1 (by decide)
      go_simp
      exact ⟨u12, u13, u14, u15, u16, u17, _, _, u20, u21, F, v5, v10, v11, v22, v23, rfl, hP, (fun h => q (by rwa [RI.don_other _ _ _ (by decide)] at h)), RI.keep (by decide) p0, RI.keep (by decide) p1, RI.keep (by decide) p2, RI.keep (by decide) p3, RI.keep (by decide) p4, RI.keep (by decide) p5, RI.keep (by decide) p6, fun _ => rfl, RI.keep (by decide) p8, RI.keep (by decide) p9, RI.keep (by decide) px10⟩
    · have hd := hd _ rfl
      simp [Region.binds] at hd
      obtain rfl := p1 (by simp [hd])
      obtain rfl := p4 (by simp [hd])
      obtain rfl := p7 (by simp [hd])
      refine RI.wpOp_plain rfl rfl ?_
      go_simp
      refine (KF.out _ _ _).mono ?_
      rintro e w1 ⟨rfl, hb1⟩
      exact ⟨u12, _, u14, u15, _, u17, u18, _, _, u21, F, v5, v10, v11, v22, v23, rfl, P4_below hP hb1, (fun h => q (by rwa [RI.don_other _ _ _ (by decide)] at h)), RI.keep (by decide) p0, RI.keep (by decide) p1, RI.keep (by decide) p2, RI.keep (by decide) p3, RI.keep (by decide) p4, RI.keep (by decide) p5, RI.keep (by decide) p6, RI.keep (by decide) p7, fun _ => rfl, RI.keep (by decide) p9, RI.keep (by decide) (px10)⟩
    · have hd := hd _ rfl
      simp [Region.binds] at hd
      obtain rfl := p0 (by simp [hd])
      obtain rfl := p1 (by simp [hd])
      obtain rfl := p2 (by simp [hd])
      obtain rfl := p3 (by simp [hd])
      obtain rfl := p4 (by simp [hd])
      obtain rfl := p5 (by simp [hd])
      obtain rfl := p6 (by simp [hd])
      obtain rfl := p7 (by simp [hd])
      obtain rfl := p8 (by simp [hd])
      refine RI.wpOp_plain rfl rfl ?_
      go_simp
      exact ⟨_, _, _, _, _, _, _, _, _, _, F, v5, v10, v11, v22, v23, rfl, hP, (fun h => q (by rwa [RI.don_other _ _ _ (by decide)] at h)), RI.keep (by decide) p0, RI.keep (by decide) p1, RI.keep (by decide) p2, RI.keep (by decide) p3, RI.keep (by decide) p4, RI.keep (by decide) p5, RI.keep (by decide) p6, RI.keep (by decide) p7, RI.keep (by decide) p8, fun _ => rfl, RI.keep (by decide) px10⟩
    · have hd := hd _ rfl
      simp [Region.binds] at hd
      obtain rfl := p0 (by simp [hd])
      obtain rfl := p1 (by simp [hd])
      obtain rfl := p2 (by simp [hd])
      obtain rfl := p3 (by simp [hd])
      obtain rfl := p4 (by simp [hd])
      obtain rfl := p5 (by simp [hd])
      obtain rfl := p6 (by simp [hd])
      obtain rfl := p7 (by simp [hd])
      obtain rfl := p8 (by simp [hd])
      obtain rfl := p9 (by simp [hd])
      refine RI.wpOp_plain rfl rfl ?_
      obtain rfl := q hf
      have c3 := hP.v3.c 1 (by decide)
      have f3 : ∀ o, wx.frozen? ⟨w.heap.size + 1 + 1 + 1, o, none⟩ = false := hP.v3.f
      go_simp
      exact ⟨_, _, _, _, _, _, _, _, _, _, _, v5, v10, v11, v22, v23, rfl, P4_set hP (by decide), (fun h => absurd h (by simp [RI.don])), RI.keep (by decide) p0, RI.keep (by decide) p1, RI.keep (by decide) p2, RI.keep (by decide) p3, RI.keep (by decide) p4, RI.keep (by decide) p5, RI.keep (by decide) p6, RI.keep (by decide) p7, RI.keep (by decide) p8, RI.keep (by decide) p9, fun _ => rfl⟩
  clear m0
  intro d x wx hI hd
  obtain ⟨u12, u13, u14, u15, u16, u17, u18, u19, u20, u21, F, v5, v10, v11, v22, v23, rfl, hP, q, p0, p1, p2, p3, p4, p5, p6, p7, p8, p9, px10⟩ := hI
  obtain rfl := p0 (hd 0 (by decide))
  obtain rfl := p1 (hd 1 (by decide))
  obtain rfl := p2 (hd 2 (by decide))
  obtain rfl := p3 (hd 3 (by decide))
  obtain rfl := p4 (hd 4 (by decide))
  obtain rfl := p5 (hd 5 (by decide))
  obtain rfl := p6 (hd 6 (by decide))
  obtain rfl := p7 (hd 7 (by decide))
  obtain rfl := p8 (hd 8 (by decide))
  obtain rfl := p9 (hd 9 (by decide))
  rw [px10 (hd 10 (by decide))] at hP
  have m0 := hP
  clear p0 p1 p2 p3 p4 p5 p6 p7 p8 p9 px10 q hd hP
  go_wp2_with fail
  rw [rounds_succ]
  go_upto_region 5 with fail
  refine RI.wp_region_inv (PB2 w a b f (.func (Fn.func 33) #[] #[]) (upd (upd (dg 0) 0 (f (dg a 0) (dg b 0))) 1 (f (dg a 1) (dg b 1)))) (by kernel_rfl) (by kernel_rfl) ?_ ?_ ?_
  · exact ⟨_, _, _, _, _, _, _, _, _, _, upd (upd (dg 0) 0 (f (dg a 0) (dg b 0))) 1 (f (dg a 1) (dg b 1)), _, _, _, _, _, rfl, P4_drew m0, fun _ => rfl, nofun, nofun, nofun, nofun, nofun, nofun, nofun, nofun, nofun, nofun, nofun⟩
  · clear m0
    intro d x wx i hI hi hm
    obtain ⟨u12, u13, u14, u15, u16, u17, u18, u19, u20, u21, F, v5, v10, v11, v22, v23, rfl, hP, q, p0, p1, p2, p3, p4, p5, p6, p7, p8, p9, px10⟩ := hI
    have hi' : i = 0 ∨ i = 1 ∨ i = 2 ∨ i = 3 ∨ i = 4 ∨ i = 5 ∨ i = 6 ∨ i = 7 ∨ i = 8 ∨ i = 9 ∨ i = 10 := by simp at hi; omega
    have hd := hm.2
    have hf := hm.1
    clear hm hi
    rcases hi' with rfl | rfl | rfl | rfl | rfl | rfl | rfl | rfl | rfl | rfl | rfl
    · refine RI.wpOp_plain rfl rfl ?_
      go_simp
      exact ⟨_, u13, u14, u15, u16, u17, u18, u19, u20, u21, F, v5, v10, v11, v22, v23, rfl, hP, (fun h => q (by rwa [RI.don_other _ _ _ (by decide)] at h)), fun _ => rfl, RI.keep (by decide) p1, RI.keep (by decide) p2, RI.keep (by decide) p3, RI.keep (by decide) p4, RI.keep (by decide) p5, RI.keep (by decide) p6, RI.keep (by decide) p7, RI.keep (by decide) p8, RI.keep (by decide) p9, RI.keep (by decide) px10⟩
    · refine RI.wpOp_plain rfl rfl ?_
      go_simp
      exact ⟨u12, _, u14, u15, u16, u17, u18, u19, u20, u21, F, v5, v10, v11, v22, v23, rfl, hP, (fun h => q (by rwa [RI.don_other _ _ _ (by decide)] at h)), RI.keep (by decide) p0, fun _ => rfl, RI.keep (by decide) p2, RI.keep (by decide) p3, RI.keep (by decide) p4, RI.keep (by decide) p5, RI.keep (by decide) p6, RI.keep (by decide) p7, RI.keep (by decide) p8, RI.keep (by decide) p9, RI.keep (by decide) px10⟩
    · refine RI.wpOp_plain rfl rfl ?_
      go_simp
      exact ⟨u12, u13, _, u15, u16, u17, u18, u19, u20, u21, F, v5, v10, v11, v22, v23, rfl, hP, (fun h => q (by rwa [RI.don_other _ _ _ (by decide)] at h)), RI.keep (by decide) p0, RI.keep (by decide) p1, fun _ => rfl, RI.keep (by decide) p3, RI.keep (by decide) p4, RI.keep (by decide) p5, RI.keep (by decide) p6, RI.keep (by decide) p7, RI.keep (by decide) p8, RI.keep (by decide) p9, RI.keep (by decide) px10⟩
    · have hd := hd _ rfl
      simp [Region.binds] at hd
      obtain rfl := p2 (by simp [hd])
      refine RI.wpOp_plain rfl rfl ?_
      go_simp
      exact ⟨u12, u13, _, _, u16, u17, u18, u19, u20, u21, F, v5, v10, v11, v22, v23, rfl, hP, (fun h => q (by rwa [RI.don_other _ _ _ (by decide)] at h)), RI.keep (by decide) p0, RI.keep (by decide) p1, RI.keep (by decide) p2, fun _ => rfl, RI.keep (by decide) p4, RI.keep (by decide) p5, RI.keep (by decide) p6, RI.keep (by decide) p7, RI.keep (by decide) p8, RI.keep (by decide) p9, RI.keep (by decide) px10⟩
    · have hd := hd _ rfl
      simp [Region.binds] at hd
      obtain rfl := p3 (by simp [hd])
      refine RI.wpOp_plain rfl rfl ?_
      have c0 : wx.cell? ⟨w.heap.size, 2, none⟩ = some (.int .u64 (dg a 2)) := hP.v0.c 2 (by decide)
      go_simp
      exact ⟨u12, u13, u14, _, _, u17, u18, u19, u20, u21, F, v5, v10, v11, v22, v23, rfl, hP, (fun h => q (by rwa [RI.don_other _ _ _ (by decide)] at h)), RI.keep (by decide) p0, RI.keep (by decide) p1, RI.keep (by decide) p2, RI.keep (by decide) p3, fun _ => rfl, RI.keep (by decide) p5, RI.keep (by decide) p6, RI.keep (by decide) p7, RI.keep (by decide) p8, RI.keep (by decide) p9, RI.keep (by decide) px10⟩
    · refine RI.wpOp_plain rfl rfl ?_
      go_simp
      exact ⟨u12, u13, u14, u15, u16, _, u18, u19, u20, u21, F, v5, v10, v11, v22, v23, rfl, hP, (fun h => q (by rwa [RI.don_other _ _ _ (by decide)] at h)), RI.keep (by decide) p0, RI.keep (by decide) p1, RI.keep (by decide) p2, RI.keep (by decide) p3, RI.keep (by decide) p4, fun _ => rfl, RI.keep (by decide) p6, RI.keep (by decide) p7, RI.keep (by decide) p8, RI.keep (by decide) p9, RI.keep (by decide) px10⟩
    · have hd := hd _ rfl
      simp [Region.binds] at hd
      obtain rfl := p5 (by simp [hd])
      refine RI.wpOp_plain rfl rfl ?_
      go_simp
      exact ⟨u12, u13, u14, u15, u16, _, _, u19, u20, u21, F, v5, v10, v11, v22, v23, rfl, hP, (fun h => q (by rwa [RI.don_other _ _ _ (by decide)] at h)), RI.keep (by decide) p0, RI.keep (by decide) p1, RI.keep (by decide) p2, RI.keep (by decide) p3, RI.keep (by decide) p4, RI.keep (by decide) p5, fun _ => rfl, RI.keep (by decide) p7, RI.keep (by decide) p8, RI.keep (by decide) p9, RI.keep (by decide) px10⟩
    · have hd := hd _ rfl
      simp [Region.binds] at hd
      obtain rfl := p6 (by simp [hd])
      refine RI.wpOp_plain rfl rfl ?_
      have c0 : wx.cell? ⟨w.heap.size + 1, 2, none⟩ = some (.int .u64 (dg b 2)) := hP.v1.c 2 (by decide)
      go_simp
      exact ⟨u12, u13, u14, u15, u16, u17, _, _, u20, u21, F, v5, v10, v11, v22, v23, rfl, hP, (fun h => q (by rwa [RI.don_other _ _ _ (by decide)] at h)), RI.keep (by decide) p0, RI.keep (by decide) p1, RI.keep (by decide) p2, RI.keep (by decide) p3, RI.keep (by decide) p4, RI.keep (by decide) p5, RI.keep (by decide) p6, fun _ => rfl, RI.keep (by decide) p8, RI.keep (by decide) p9, RI.keep (by decide) px10⟩
    · have hd := hd _ rfl
      simp [Region.binds] at hd
      obtain rfl := p1 (by simp [hd])
      obtain rfl := p4 (by simp [hd])
      obtain rfl := p7 (by simp [hd])
      refine RI.wpOp_plain rfl rfl ?_
      go_simp
      refine (KF.out _ _ _).mono ?_
      rintro e w1 ⟨rfl, hb1⟩
      exact ⟨u12, _, u14, u15, _, u17, u18, _, _, u21, F, v5, v10, v11, v22, v23, rfl, P4_below hP hb1, (fun h => q (by rwa [RI.don_other _ _ _ (by decide)] at h)), RI.keep (by decide) p0, RI.keep (by decide) p1, RI.keep (by decide) p2, RI.keep (by decide) p3, RI.keep (by decide) p4, RI.keep (by decide) p5, RI.keep (by decide) p6, RI.keep (by decide) p7, fun _ => rfl, RI.keep (by decide) p9, RI.keep (by decide) (px10)⟩
    · have hd := hd _ rfl
      simp [Region.binds] at hd
      obtain rfl := p0 (by simp [hd])
      obtain rfl := p1 (by simp [hd])
      obtain rfl := p2 (by simp [hd])
      obtain rfl := p3 (by simp [hd])
      obtain rfl := p4 (by simp [hd])
      obtain rfl := p5 (by simp [hd])
      obtain rfl := p6 (by simp [hd])
      obtain rfl := p7 (by simp [hd])
      obtain rfl := p8 (by simp [hd])
      refine RI.wpOp_plain rfl rfl ?_
      go_simp
      exact ⟨_, _, _, _, _, _, _, _, _, _, F, v5, v10, v11, v22, v23, rfl, hP, (fun h => q (by rwa [RI.don_other _ _ _ (by decide)] at h)), RI.keep (by decide) p0, RI.keep (by decide) p1, RI.keep (by decide) p2, RI.keep (by decide) p3, RI.keep (by decide) p4, RI.keep (by decide) p5, RI.keep (by decide) p6, RI.keep (by decide) p7, RI.keep (by decide) p8, fun _ => rfl, RI.keep (by decide) px10⟩
    · have hd := hd _ rfl
      simp [Region.binds] at hd
      obtain rfl := p0 (by simp [hd])
      obtain rfl := p1 (by simp [hd])
      obtain rfl := p2 (by simp [hd])
      obtain rfl := p3 (by simp [hd])
      obtain rfl := p4 (by simp [hd])
      obtain rfl := p5 (by simp [hd])
      obtain rfl := p6 (by simp [hd])
      obtain rfl := p7 (by simp [hd])
      obtain rfl := p8 (by simp [hd])
      obtain rfl := p9 (by simp [hd])
      refine RI.wpOp_plain rfl rfl ?_
      obtain rfl := q hf
      have c3 := hP.v3.c 2 (by decide)
      have f3 : ∀ o, wx.frozen? ⟨w.heap.size + 1 + 1 + 1, o, none⟩ = false := hP.v3.f
      go_simp
      exact ⟨_, _, _, _, _, _, _, _, _, _, _, v5, v10, v11, v22, v23, rfl, P4_set hP (by decide), (fun h => absurd h (by simp [RI.don])), RI.keep (by decide) p0, RI.keep (by decide) p1, RI.keep (by decide) p2, RI.keep (by decide) p3, RI.keep (by decide) p4, RI.keep (by decide) p5, RI.keep (by decide) p6, RI.keep (by decide) p7, RI.keep (by decide) p8, RI.keep (by decide) p9, fun _ => rfl⟩
  clear m0
  intro d x wx hI hd
  obtain ⟨u12, u13, u14, u15, u16, u17, u18, u19, u20, u21, F, v5, v10, v11, v22, v23, rfl, hP, q, p0, p1, p2, p3, p4, p5, p6, p7, p8, p9, px10⟩ := hI
  obtain rfl := p0 (hd 0 (by decide))
  obtain rfl := p1 (hd 1 (by decide))
  obtain rfl := p2 (hd 2 (by decide))
  obtain rfl := p3 (hd 3 (by decide))
  obtain rfl := p4 (hd 4 (by decide))
  obtain rfl := p5 (hd 5 (by decide))
  obtain rfl := p6 (hd 6 (by decide))
  obtain rfl := p7 (hd 7 (by decide))
  obtain rfl := p8 (hd 8 (by decide))
  obtain rfl := p9 (hd 9 (by decide))
  rw [px10 (hd 10 (by decide))] at hP
  have m0 := hP
  clear p0 p1 p2 p3 p4 p5 p6 p7 p8 p9 px10 q hd hP
  go_wp2_with fail
  rw [rounds_succ]
  go_upto_region 5 with fail
  refine RI.wp_region_inv (PB3 w a b f (.func (Fn.func 33) #[] #[]) (upd (upd (upd (dg 0) 0 (f (dg a 0) (dg b 0))) 1 (f (dg a 1) (dg b 1))) 2 (f (dg a 2) (dg b 2)))) (by kernel_rfl) (by kernel_rfl) ?_ ?_ ?_
  · exact ⟨_, _, _, _, _, _, _, _, _, _, upd (upd (upd (dg 0) 0 (f (dg a 0) (dg b 0))) 1 (f (dg a 1) (dg b 1))) 2 (f (dg a 2) (dg b 2)), _, _, _, _, _, rfl, P4_drew m0, fun _ => rfl, nofun, nofun, nofun, nofun, nofun, nofun, nofun, nofun, nofun, nofun, nofun⟩
  · clear m0
    intro d x wx i hI hi hm
    obtain ⟨u12, u13, u14, u15, u16, u17, u18, u19, u20, u21, F, v5, v10, v11, v22, v23, rfl, hP, q, p0, p1, p2, p3, p4, p5, p6, p7, p8, p9, px10⟩ := hI
    have hi' : i = 0 ∨ i = 1 ∨ i = 2 ∨ i = 3 ∨ i = 4 ∨ i = 5 ∨ i = 6 ∨ i = 7 ∨ i = 8 ∨ i = 9 ∨ i = 10 := by simp at hi; omega
    have hd := hm.2
    have hf := hm.1
    clear hm hi
    rcases hi' with rfl | rfl | rfl | rfl | rfl | rfl | rfl | rfl | rfl | rfl | rfl
    · refine RI.wpOp_plain rfl rfl ?_
      go_simp
      exact ⟨_, u13, u14, u15, u16, u17, u18, u19, u20, u21, F, v5, v10, v11, v22, v23, rfl, hP, (fun h => q (by rwa [RI.don_other _ _ _ (by decide)] at h)), fun _ => rfl, RI.keep (by decide) p1, RI.keep (by decide) p2, RI.keep (by decide) p3, RI.keep (by decide) p4, RI.keep (by decide) p5, RI.keep (by decide) p6, RI.keep (by decide) p7, RI.keep (by decide) p8, RI.keep (by decide) p9, RI.keep (by decide) px10⟩
    · refine RI.wpOp_plain rfl rfl ?_
      go_simp
      exact ⟨u12, _, u14, u15, u16, u17, u18, u19, u20, u21, F, v5, v10, v11, v22, v23, rfl, hP, (fun h => q (by rwa [RI.don_other _ _ _ (by decide)] at h)), RI.keep (by decide) p0, fun _ => rfl, RI.keep (by decide) p2, RI.keep (by decide) p3, RI.keep (by decide) p4, RI.keep (by decide) p5, RI.keep (by decide) p6, RI.keep (by decide) p7, RI.keep (by decide) p8, RI.keep (by decide) p9, RI.keep (by decide) px10⟩
    · refine RI.wpOp_plain rfl rfl ?_
      go_simp
      exact ⟨u12, u13, _, u15, u16, u17, u18, u19, u20, u21, F, v5, v10, v11, v22, v23, rfl, hP, (fun h => q (by rwa [RI.don_other _ _ _ (by decide)] at h)), RI.keep (by decide) p0, RI.keep (by decide) p1, fun _ => rfl, RI.keep (by decide) p3, RI.keep (by decide) p4, RI.keep (by decide) p5, RI.keep (by decide) p6, RI.keep (by decide) p7, RI.keep (by decide) p8, RI.keep (by decide) p9, RI.keep (by decide) px10⟩
    · have hd := hd _ rfl
      simp [Region.binds] at hd
      obtain rfl := p2 (by simp [hd])
      refine RI.wpOp_plain rfl rfl ?_
      go_simp
      exact ⟨u12, u13, _, _, u16, u17, u18, u19, u20, u21, F, v5, v10, v11, v22, v23, rfl, hP, (fun h => q (by rwa [RI.don_other _ _ _ (by decide)] at h)), RI.keep (by decide) p0, RI.keep (by decide) p1, RI.keep (by decide) p2, fun _ => rfl, RI.keep (by decide) p4, RI.keep (by decide) p5, RI.keep (by decide) p6, RI.keep (by decide) p7, RI.keep (by decide) p8, RI.keep (by decide) p9, RI.keep (by decide) px10⟩
    · have hd := hd _ rfl
      simp [Region.binds] at hd
      obtain rfl := p3 (by simp [hd])
      refine RI.wpOp_plain rfl rfl ?_
      have c0 : wx.cell? ⟨w.heap.size, 3, none⟩ = some (.int .u64 (dg a 3)) := hP.v0.c 3 (by decide)
      go_simp
      exact ⟨u12, u13, u14, _, _, u17, u18, u19, u20, u21, F, v5, v10, v11, v22, v23, rfl, hP, (fun h => q (by rwa [RI.don_other _ _ _ (by decide)] at h)), RI.keep (by decide) p0, RI.keep (by decide) p1, RI.keep (by decide) p2, RI.keep (by decide) p3, fun _ => rfl, RI.keep (by decide) p5, RI.keep (by decide) p6, RI.keep (by decide) p7, RI.keep (by decide) p8, RI.keep (by decide) p9, RI.keep (by decide) px10⟩
    · refine RI.wpOp_plain rfl rfl ?_
      go_simp
      exact ⟨u12, u13, u14, u15, u16, _, u18, u19, u20, u21, F, v5, v10, v11, v22, v23, rfl, hP, (fun h => q (by rwa [RI.don_other _ _ _ (by decide)] at h)), RI.keep (by decide) p0, RI.keep (by decide) p1, RI.keep (by decide) p2, RI.keep (by decide) p3, RI.keep (by decide) p4, fun _ => rfl, RI.keep (by decide) p6, RI.keep (by decide) p7, RI.keep (by decide) p8, RI.keep (by decide) p9, RI.keep (by decide) px10⟩
    · have hd := hd _ rfl
      simp [Region.binds] at hd
      obtain rfl := p5 (by simp [hd])
      refine RI.wpOp_plain rfl rfl ?_
      go_simp
      exact ⟨u12, u13, u14, u15, u16, _, _, u19, u20, u21, F, v5, v10, v11, v22, v23, rfl, hP, (fun h => q (by rwa [RI.don_other _ _ _ (by decide)] at h)), RI.keep (by decide) p0, RI.keep (by decide) p1, RI.keep (by decide) p2, RI.keep (by decide) p3, RI.keep (by decide) p4, RI.keep (by decide) p5, fun _ => rfl, RI.keep (by decide) p7, RI.keep (by decide) p8, RI.keep (by decide) p9, RI.keep (by decide) px10⟩
    · have hd := hd _ rfl
      simp [Region.binds] at hd
      obtain rfl := p6 (by simp [hd])
      refine RI.wpOp_plain rfl rfl ?_
      have c0 : wx.cell? ⟨w.heap.size + 1, 3, none⟩ = some (.int .u64 (dg b 3)) := hP.v1.c 3 (by decide)
      go_simp
      exact ⟨u12, u13, u14, u15, u16, u17, _, _, u20, u21, F, v5, v10, v11, v22, v23, rfl, hP, (fun h => q (by rwa [RI.don_other _ _ _ (by decide)] at h)), RI.keep (by decide) p0, RI.keep (by decide) p1, RI.keep (by decide) p2, RI.keep (by decide) p3, RI.keep (by decide) p4, RI.keep (by decide) p5, RI.keep (by decide) p6, fun _ => rfl, RI.keep (by decide) p8, RI.keep (by decide) p9, RI.keep (by decide) px10⟩
    · have hd := hd _ rfl
      simp [Region.binds] at hd
      obtain rfl := p1 (by simp [hd])
      obtain rfl := p4 (by simp [hd])
      obtain rfl := p7 (by simp [hd])
      refine RI.wpOp_plain rfl rfl ?_
      go_simp
      refine (KF.out _ _ _).mono ?_
      rintro e w1 ⟨rfl, hb1⟩
      exact ⟨u12, _, u14, u15, _, u17, u18, _, _, u21, F, v5, v10, v11, v22, v23, rfl, P4_below hP hb1, (fun h => q (by rwa [RI.don_other _ _ _ (by decide)] at h)), RI.keep (by decide) p0, RI.keep (by decide) p1, RI.keep (by decide) p2, RI.keep (by decide) p3, RI.keep (by decide) p4, RI.keep (by decide) p5, RI.keep (by decide) p6, RI.keep (by decide) p7, fun _ => rfl, RI.keep (by decide) p9, RI.keep (by decide) (px10)⟩
    · have hd := hd _ rfl
      simp [Region.binds] at hd
      obtain rfl := p0 (by simp [hd])
      obtain rfl := p1 (by simp [hd])
      obtain rfl := p2 (by simp [hd])
      obtain rfl := p3 (by simp [hd])
      obtain rfl := p4 (by simp [hd])
      obtain rfl := p5 (by simp [hd])
      obtain rfl := p6 (by simp [hd])
      obtain rfl := p7 (by simp [hd])
      obtain rfl := p8 (by simp [hd])
      refine RI.wpOp_plain rfl rfl ?_
      go_simp
      exact ⟨_, _, _, _, _, _, _, _, _, _, F, v5, v10, v11, v22, v23, rfl, hP, (fun h => q (by rwa [RI.don_other _ _ _ (by decide)] at h)), RI.keep (by decide) p0, RI.keep (by decide) p1, RI.keep (by decide) p2, RI.keep (by decide) p3, RI.keep (by decide) p4, RI.keep (by decide) p5, RI.keep (by decide) p6, RI.keep (by decide) p7, RI.keep (by decide) p8, fun _ => rfl, RI.keep (by decide) px10⟩
    · have hd := hd _ rfl
      simp [Region.binds] at hd
      obtain rfl := p0 (by simp [hd])
      obtain rfl := p1 (by simp [hd])
      obtain rfl := p2 (by simp [hd])
      obtain rfl := p3 (by simp [hd])
      obtain rfl := p4 (by simp [hd])
      obtain rfl := p5 (by simp [hd])
      obtain rfl := p6 (by simp [hd])
      obtain rfl := p7 (by simp [hd])
      obtain rfl := p8 (by simp [hd])
      obtain rfl := p9 (by simp [hd])
      refine RI.wpOp_plain rfl rfl ?_
      obtain rfl := q hf
      have c3 := hP.v3.c 3 (by decide)
      have f3 : ∀ o, wx.frozen? ⟨w.heap.size + 1 + 1 + 1, o, none⟩ = false := hP.v3.f
      go_simp
      exact ⟨_, _, _, _, _, _, _, _, _, _, _, v5, v10, v11, v22, v23, rfl, P4_set hP (by decide), (fun h => absurd h (by simp [RI.don])), RI.keep (by decide) p0, RI.keep (by decide) p1, RI.keep (by decide) p2, RI.keep (by decide) p3, RI.keep (by decide) p4, RI.keep (by decide) p5, RI.keep (by decide) p6, RI.keep (by decide) p7, RI.keep (by decide) p8, RI.keep (by decide) p9, fun _ => rfl⟩
  clear m0
  intro d x wx hI hd
  obtain ⟨u12, u13, u14, u15, u16, u17, u18, u19, u20, u21, F, v5, v10, v11, v22, v23, rfl, hP, q, p0, p1, p2, p3, p4, p5, p6, p7, p8, p9, px10⟩ := hI
  obtain rfl := p0 (hd 0 (by decide))
  obtain rfl := p1 (hd 1 (by decide))
  obtain rfl := p2 (hd 2 (by decide))
  obtain rfl := p3 (hd 3 (by decide))
  obtain rfl := p4 (hd 4 (by decide))
  obtain rfl := p5 (hd 5 (by decide))
  obtain rfl := p6 (hd 6 (by decide))
  obtain rfl := p7 (hd 7 (by decide))
  obtain rfl := p8 (hd 8 (by decide))
  obtain rfl := p9 (hd 9 (by decide))
  rw [px10 (hd 10 (by decide))] at hP
  have m0 := hP
  clear p0 p1 p2 p3 p4 p5 p6 p7 p8 p9 px10 q hd hP
  go_wp2_with fail
  rw [rounds_succ]
  have c3 : ∀ o, o < 4 → wx.cell? ⟨w.heap.size + 1 + 1 + 1, o, none⟩ = some (.int .u64 (dg N o)) := fun o ho => by
    rw [← HN.out o ho, m0.v3.c o ho]
    have : o = 0 ∨ o = 1 ∨ o = 2 ∨ o = 3 := by omega
    rcases this with rfl | rfl | rfl | rfl <;> rfl
  have c2 : ∀ o, o < 4 → wx.cell? ⟨w.heap.size + 1 + 1, o, none⟩ = some (.int .u64 (dg 0 o)) := m0.v2.c
  have f2 : ∀ o, wx.frozen? ⟨w.heap.size + 1 + 1, o, none⟩ = false := m0.v2.f
  have z2 := m0.v2.hi
  have HV : Hid (Vb w.heap.size (w.heap.size + 1 + 1) 4 (dg N) _) := Vb_set4 m0.v2
  have HB : Hid (Below w.heap.size w _) := Bel_set4 (h := w.heap.size + 1 + 1) (m := N) m0.bel (by omega)
  clear m0
  go_wp2_with fail
  exact bodyPost_ret (v := Wd N) (resultTw _ _ _ (w.heap.size + 1 + 1) N 6 rfl rfl HV.out.c) rfl ⟨rfl, HB.out⟩
set_option maxHeartbeats 4000000 in
set_option maxRecDepth 100000 in
theorem pbp_xor (a b N : Nat) (f : Int → Int → Int) (KF : Hid (∀ (x y : Int) (w : World), Calls Try.prog 34 #[.int .u64 x, .int .u64 y] w fun e w' => e = .returned (.int .u64 (f x y)) ∧ Below w.heap.size w w')) (HN : Hid (∀ o, o < 4 → f (dg a o) (dg b o) = dg N o)) (w : World) :
    Calls Try.prog 30 #[Wd a, Wd b, .func (Fn.func 34) #[] #[]] w fun e w' => e = .returned (Wd N) ∧ Below w.heap.size w w' := by
  have m0 : P4 w a b (dg 0) ((((w.alloc (.cells #[.int .u64 (dg a 0), .int .u64 (dg a 1), .int .u64 (dg a 2), .int .u64 (dg a 3)] 24)).alloc (.cells #[.int .u64 (dg b 0), .int .u64 (dg b 1), .int .u64 (dg b 2), .int .u64 (dg b 3)] 24)).alloc (.cells #[.int .u64 0, .int .u64 0, .int .u64 0, .int .u64 0] 24)).alloc (.cells #[.int .u64 0, .int .u64 0, .int .u64 0, .int .u64 0] 24)) := by
    have k := M4_start w a b 24
    exact ⟨k.v0, k.v1, k.v2, k.v3, k.bel⟩
  conv => arg 3; unfold Wd
  go_enter Try.func30, Try.ntmps30
  go_wp2_with fail
  generalize (((w.alloc (.cells #[.int .u64 (dg a 0), .int .u64 (dg a 1), .int .u64 (dg a 2), .int .u64 (dg a 3)] 24)).alloc (.cells #[.int .u64 (dg b 0), .int .u64 (dg b 1), .int .u64 (dg b 2), .int .u64 (dg b 3)] 24)).alloc (.cells #[.int .u64 0, .int .u64 0, .int .u64 0, .int .u64 0] 24)).alloc (.cells #[.int .u64 0, .int .u64 0, .int .u64 0, .int .u64 0] 24) = W0 at m0 ⊢
  refine wp_loop_rounds 5 ?_
  rw [rounds_succ]
  go_upto_region 5 with fail
  refine RI.wp_region_inv (PB0 w a b f (.func (Fn.func 34) #[] #[]) (dg 0)) (by kernel_rfl) (by kernel_rfl) ?_ ?_ ?_
  · exact ⟨undef, undef, undef, undef, undef, undef, undef, undef, undef, undef, dg 0, _, _, _, _, _, rfl, P4_drew m0, fun _ => rfl, nofun, nofun, nofun, nofun, nofun, nofun, nofun, nofun, nofun, nofun, nofun⟩
  · clear m0
    intro d x wx i hI hi hm
    obtain ⟨u12, u13, u14, u15, u16, u17, u18, u19, u20, u21, F, v5, v10, v11, v22, v23, rfl, hP, q, p0, p1, p2, p3, p4, p5, p6, p7, p8, p9, px10⟩ := hI
    have hi' : i = 0 ∨ i = 1 ∨ i = 2 ∨ i = 3 ∨ i = 4 ∨ i = 5 ∨ i = 6 ∨ i = 7 ∨ i = 8 ∨ i = 9 ∨ i = 10 := by simp at hi; omega
    have hd := hm.2
    have hf := hm.1
    clear hm hi
    rcases hi' with rfl | rfl | rfl | rfl | rfl | rfl | rfl | rfl | rfl | rfl | rfl
    · refine RI.wpOp_plain rfl rfl ?_
      go_simp
      exact ⟨_, u13, u14, u15, u16, u17, u18, u19, u20, u21, F, v5, v10, v11, v22, v23, rfl, hP, (fun h => q (by rwa [RI.don_other _ _ _ (by decide)] at h)), fun _ => rfl, RI.keep (by decide) p1, RI.keep (by decide) p2, RI.keep (by decide) p3, RI.keep (by decide) p4, RI.keep (by decide) p5, RI.keep (by decide) p6, RI.keep (by decide) p7, RI.keep (by decide) p8, RI.keep (by decide) p9, RI.keep (by decide) px10⟩
    · refine RI.wpOp_plain rfl rfl ?_
      go_simp
      exact ⟨u12, _, u14, u15, u16, u17, u18, u19, u20, u21, F, v5, v10, v11, v22, v23, rfl, hP, (fun h => q (by rwa [RI.don_other _ _ _ (by decide)] at h)), RI.keep (by decide) p0, fun _ => rfl, RI.keep (by decide) p2, RI.keep (by decide) p3, RI.keep (by decide) p4, RI.keep (by decide) p5, RI.keep (by decide) p6, RI.keep (by decide) p7, RI.keep (by decide) p8, RI.keep (by decide) p9, RI.keep (by decide) px10⟩
    · refine RI.wpOp_plain rfl rfl ?_
      go_simp
      exact ⟨u12, u13, _, u15, u16, u17, u18, u19, u20, u21, F, v5, v10, v11, v22, v23, rfl, hP, (fun h => q (by rwa [RI.don_other _ _ _ (by decide)] at h)), RI.keep (by decide) p0, RI.keep (by decide) p1, fun _ => rfl, RI.keep (by decide) p3, RI.keep (by decide) p4, RI.keep (by decide) p5, RI.keep (by decide) p6, RI.keep (by decide) p7, RI.keep (by decide) p8, RI.keep (by decide) p9, RI.keep (by decide) px10⟩
    · have hd := hd _ rfl
      simp [Region.binds] at hd
      obtain rfl := p2 (by simp [hd])
      refine RI.wpOp_plain rfl rfl ?_
      go_simp
      exact ⟨u12, u13, _, _, u16, u17, u18, u19, u20, u21, F, v5, v10, v11, v22, v23, rfl, hP, (fun h => q (by rwa [RI.don_other _ _ _ (by decide)] at h)), RI.keep (by decide) p0, RI.keep (by decide) p1, RI.keep (by decide) p2, fun _ => rfl, RI.keep (by decide) p4, RI.keep (by decide) p5, RI.keep (by decide) p6, RI.keep (by decide) p7, RI.keep (by decide) p8, RI.keep (by decide) p9, RI.keep (by decide) px10⟩
    · have hd := hd _ rfl
      simp [Region.binds] at hd
      obtain rfl := p3 (by simp [hd])
      refine RI.wpOp_plain rfl rfl ?_
      have c0 : wx.cell? ⟨w.heap.size, 0, none⟩ = some (.int .u64 (dg a 0)) := hP.v0.c 0 (by decide)
      go_simp
      exact ⟨u12, u13, u14, _, _, u17, u18, u19, u20, u21, F, v5, v10, v11, v22, v23, rfl, hP, (fun h => q (by rwa [RI.don_other _ _ _ (by decide)] at h)), RI.keep (by decide) p0, RI.keep (by decide) p1, RI.keep (by decide) p2, RI.keep (by decide) p3, fun _ => rfl, RI.keep (by decide) p5, RI.keep (by decide) p6, RI.keep (by decide) p7, RI.keep (by decide) p8, RI.keep (by decide) p9, RI.keep (by decide) px10⟩
    · refine RI.wpOp_plain rfl rfl ?_
      go_simp
      exact ⟨u12, u13, u14, u15, u16, _, u18, u19, u20, u21, F, v5, v10, v11, v22, v23, rfl, hP, (fun h => q (by rwa [RI.don_other _ _ _ (by decide)] at h)), RI.keep (by decide) p0, RI.keep (by decide) p1, RI.keep (by decide) p2, RI.keep (by decide) p3, RI.keep (by decide) p4, fun _ => rfl, RI.keep (by decide) p6, RI.keep (by decide) p7, RI.keep (by decide) p8, RI.keep (by decide) p9, RI.keep (by decide) px10⟩
    · have hd := hd _ rfl
      simp [Region.binds] at hd
      obtain rfl := p5 (by simp [hd])
      refine RI.wpOp_plain rfl rfl ?_
      go_simp
      exact ⟨u12, u13, u14, u15, u16, _, _, u19, u20, u21, F, v5, v10, v11, v22, v23, rfl, hP, (fun h => q (by rwa [RI.don_other _ _ _ (by decide)] at h)), RI.keep (by decide) p0, RI.keep (by decide) p1, RI.keep (by decide) p2, RI.keep (by decide) p3, RI.keep (by decide) p4, RI.keep (by decide) p5, fun _ => rfl, RI.keep (by decide) p7, RI.keep (by decide) p8, RI.keep (by decide) p9, RI.keep (by decide) px10⟩
    · have hd := hd _ rfl
      simp [Region.binds] at hd
      obtain rfl := p6 (by simp [hd])
      refine RI.wpOp_plain rfl rfl ?_
      have c0 : wx.cell? ⟨w.heap.size + 1, 0, none⟩ = some (.int .u64 (dg b 0)) := hP.v1.c 0 (by decide)
      go_simp
      exact ⟨u12, u13, u14, u15, u16, u17, _, _, u20, u21, F, v5, v10, v11, v22, v23, rfl, hP, (fun h => q (by rwa [RI.don_other _ _ _ (by decide)] at h)), RI.keep (by decide) p0, RI.keep (by decide) p1, RI.keep (by decide) p2, RI.keep (by decide) p3, RI.keep (by decide) p4, RI.keep (by decide) p5, RI.keep (by decide) p6, fun _ => rfl, RI.keep (by decide) p8, RI.keep (by decide) p9, RI.keep (by decide) px10⟩
    · have hd := hd _ rfl
      simp [Region.binds] at hd
      obtain rfl := p1 (by simp [hd])
      obtain rfl := p4 (by simp [hd])
      obtain rfl := p7 (by simp [hd])
      refine RI.wpOp_plain rfl rfl ?_
      go_simp
      refine (KF.out _ _ _).mono ?_
      rintro e w1 ⟨rfl, hb1⟩
      exact ⟨u12, _, u14, u15, _, u17, u18, _, _, u21, F, v5, v10, v11, v22, v23, rfl, P4_below hP hb1, (fun h => q (by rwa [RI.don_other _ _ _ (by decide)] at h)), RI.keep (by decide) p0, RI.keep (by decide) p1, RI.keep (by decide) p2, RI.keep (by decide) p3, RI.keep (by decide) p4, RI.keep (by decide) p5, RI.keep (by decide) p6, RI.keep (by decide) p7, fun _ => rfl, RI.keep (by decide) p9, RI.keep (by decide) (px10)⟩
    · have hd := hd _ rfl
      simp [Region.binds] at hd
      obtain rfl := p0 (by simp [hd])
      obtain rfl := p1 (by simp [hd])
      obtain rfl := p2 (by simp [hd])
      obtain rfl := p3 (by simp [hd])
      obtain rfl := p4 (by simp [hd])
      obtain rfl := p5 (by simp [hd])
      obtain rfl := p6 (by simp [hd])
      obtain rfl := p7 (by simp [hd])
      obtain rfl := p8 (by simp [hd])
      refine RI.wpOp_plain rfl rfl ?_
      go_simp
      exact ⟨_, _, _, _, _, _, _, _, _, _, F, v5, v10, v11, v22, v23, rfl, hP, (fun h => q (by rwa [RI.don_other _ _ _ (by decide)] at h)), RI.keep (by decide) p0, RI.keep (by decide) p1, RI.keep (by decide) p2, RI.keep (by decide) p3, RI.keep (by decide) p4, RI.keep (by decide) p5, RI.keep (by decide) p6, RI.keep (by decide) p7, RI.keep (by decide) p8, fun _ => rfl, RI.keep (by decide) px10⟩
    · have hd := hd _ rfl
      simp [Region.binds] at hd
      obtain rfl := p0 (by simp [hd])
      obtain rfl := p1 (by simp [hd])
      obtain rfl := p2 (by simp [hd])
      obtain rfl := p3 (by simp [hd])
      obtain rfl := p4 (by simp [hd])
      obtain rfl := p5 (by simp [hd])
      obtain rfl := p6 (by simp [hd])
      obtain rfl := p7 (by simp [hd])
      obtain rfl := p8 (by simp [hd])
      obtain rfl := p9 (by simp [hd])
      refine RI.wpOp_plain rfl rfl ?_
      obtain rfl := q hf
      have c3 := hP.v3.c 0 (by decide)
      have f3 : ∀ o, wx.frozen? ⟨w.heap.size + 1 + 1 + 1, o, none⟩ = false := hP.v3.f
      go_simp
      exact ⟨_, _, _, _, _, _, _, _, _, _, _, v5, v10, v11, v22, v23, rfl, P4_set hP (by decide), (fun h => absurd h (by simp [RI.don])), RI.keep (by decide) p0, RI.keep (by decide) p1, RI.keep (by decide) p2, RI.keep (by decide) p3, RI.keep (by decide) p4, RI.keep (by decide) p5, RI.keep (by decide) p6, RI.keep (by decide) p7, RI.keep (by decide) p8, RI.keep (by decide) p9, fun _ => rfl⟩
  clear m0
  intro d x wx hI hd
  obtain ⟨u12, u13, u14, u15, u16, u17, u18, u19, u20, u21, F, v5, v10, v11, v22, v23, rfl, hP, q, p0, p1, p2, p3, p4, p5, p6, p7, p8, p9, px10⟩ := hI
  obtain rfl := p0 (hd 0 (by decide))
  obtain rfl := p1 (hd 1 (by decide))
  obtain rfl := p2 (hd 2 (by decide))
  obtain rfl := p3 (hd 3 (by decide))
  obtain rfl := p4 (hd 4 (by decide))
  obtain rfl := p5 (hd 5 (by decide))
  obtain rfl := p6 (hd 6 (by decide))
  obtain rfl := p7 (hd 7 (by decide))
  obtain rfl := p8 (hd 8 (by decide))
  obtain rfl := p9 (hd 9 (by decide))
  rw [px10 (hd 10 (by decide))] at hP
  have m0 := hP
  clear p0 p1 p2 p3 p4 p5 p6 p7 p8 p9 px10 q hd hP
  go_wp2_with fail
  rw [rounds_succ]
  go_upto_region 5 with fail
  refine RI.wp_region_inv (PB1 w a b f (.func (Fn.func 34) #[] #[]) (upd (dg 0) 0 (f (dg a 0) (dg b 0)))) (by kernel_rfl) (by kernel_rfl) ?_ ?_ ?_
  · exact ⟨_, _, _, _, _, _, _, _, _, _, upd (dg 0) 0 (f (dg a 0) (dg b 0)), _, _, _, _, _, rfl, P4_drew m0, fun _ => rfl, nofun, nofun, nofun, nofun, nofun, nofun, nofun, nofun, nofun, nofun, nofun⟩
  · clear m0
    intro d x wx i hI hi hm
    obtain ⟨u12, u13, u14, u15, u16, u17, u18, u19, u20, u21, F, v5, v10, v11, v22, v23, rfl, hP, q, p0, p1, p2, p3, p4, p5, p6, p7, p8, p9, px10⟩ := hI
    have hi' : i = 0 ∨ i = 1 ∨ i = 2 ∨ i = 3 ∨ i = 4 ∨ i = 5 ∨ i = 6 ∨ i = 7 ∨ i = 8 ∨ i = 9 ∨ i = 10 := by simp at hi; omega
    have hd := hm.2
    have hf := hm.1
    clear hm hi
    rcases hi' with rfl | rfl | rfl | rfl | rfl | rfl | rfl | rfl | rfl | rfl | rfl
    · refine RI.wpOp_plain rfl rfl ?_
      go_simp
      exact ⟨_, u13, u14, u15, u16, u17, u18, u19, u20, u21, F, v5, v10, v11, v22, v23, rfl, hP, (fun h => q (by rwa [RI.don_other _ _ _ (by decide)] at h)), fun _ => rfl, RI.keep (by decide) p1, RI.keep (by decide) p2, RI.keep (by decide) p3, RI.keep (by decide) p4, RI.keep (by decide) p5, RI.keep (by decide) p6, RI.keep (by decide) p7, RI.keep (by decide) p8, RI.keep (by decide) p9, RI.keep (by decide) px10⟩
    · refine RI.wpOp_plain rfl rfl ?_
      go_simp
      exact ⟨u12, _, u14, u15, u16, u17, u18, u19, u20, u21, F, v5, v10, v11, v22, v23, rfl, hP, (fun h => q (by rwa [RI.don_other _ _ _ (by decide)] at h)), RI.keep (by decide) p0, fun _ => rfl, RI.keep (by decide) p2, RI.keep (by decide) p3, RI.keep (by decide) p4, RI.keep (by decide) p5, RI.keep (by decide) p6, RI.keep (by decide) p7, RI.keep (by decide) p8, RI.keep (by decide) p9, RI.keep (by decide) px10⟩
    · refine RI.wpOp_plain rfl rfl ?_
      go_simp
      exact ⟨u12, u13, _, u15, u16, u17, u18, u19, u20, u21, F, v5, v10, v11, v22, v23, rfl, hP, (fun h => q (by rwa [RI.don_other _ _ _ (by decide)] at h)), RI.keep (by decide) p0, RI.keep (by decide) p1, fun _ => rfl, RI.keep (by decide) p3, RI.keep (by decide) p4, RI.keep (by decide) p5, RI.keep (by decide) p6, RI.keep (by decide) p7, RI.keep (by decide) p8, RI.keep (by decide) p9, RI.keep (by decide) px10⟩
    · have hd := hd _ rfl
      simp [Region.binds] at hd
      obtain rfl := p2 (by simp [hd])
      refine RI.wpOp_plain rfl rfl ?_
      go_simp
      exact ⟨u12, u13, _, _, u16, u17, u18, u19, u20, u21, F, v5, v10, v11, v22, v23, rfl, hP, (fun h => q (by rwa [RI.don_other _ _ _ (by decide)] at h)), RI.keep (by decide) p0, RI.keep (by decide) p1, RI.keep (by decide) p2, fun _ => rfl, RI.keep (by decide) p4, RI.keep (by decide) p5, RI.keep (by decide) p6, RI.keep (by decide) p7, RI.keep (by decide) p8, RI.keep (by decide) p9, RI.keep (by decide) px10⟩
    · have hd := hd _ rfl
      simp [Region.binds] at hd
      obtain rfl := p3 (by simp [hd])
      refine RI.wpOp_plain rfl rfl ?_
      have c0 : wx.cell? ⟨w.heap.size, 1, none⟩ = some (.int .u64 (dg a 1)) := hP.v0.c 1 (by decide)
      go_simp
      exact ⟨u12, u13, u14, _, _, u17, u18, u19, u20, u21, F, v5, v10, v11, v22, v23, rfl, hP, (fun h => q (by rwa [RI.don_other _ _ _ (by decide)] at h)), RI.keep (by decide) p0, RI.keep (by decide) p1, RI.keep (by decide) p2, RI.keep (by decide) p3, fun _ => rfl, RI.keep (by decide) p5, RI.keep (by decide) p6, RI.keep (by decide) p7, RI.keep (by decide) p8, RI.keep (by decide) p9, RI.keep (by decide) px10⟩
    · refine RI.wpOp_plain rfl rfl ?_
      go_simp
      exact ⟨u12, u13, u14, u15, u16, _, u18, u19, u20, u21, F, v5, v10, v11, v22, v23, rfl, hP, (fun h => q (by rwa [RI.don_other _ _ _ (by decide)] at h)), RI.keep (by decide) p0, RI.keep (by decide) p1, RI.keep (by decide) p2, RI.keep (by decide) p3, RI.keep (by decide) p4, fun _ => rfl, RI.keep (by decide) p6, RI.keep (by decide) p7, RI.keep (by decide) p8, RI.keep (by decide) p9, RI.keep (by decide) px10⟩
    · have hd := hd _ rfl
      simp [Region.binds] at hd
      obtain rfl := p5 (by simp [hd])
      refine RI.wpOp_plain rfl rfl ?_
      go_simp
      exact ⟨u12, u13, u14, u15, u16, _, _, u19, u20, u21, F, v5, v10, v11, v22, v23, rfl, hP, (fun h => q (by rwa [RI.don_other _ _ _ (by decide)] at h)), RI.keep (by decide) p0, RI.keep (by decide) p1, RI.keep (by decide) p2, RI.keep (by decide) p3, RI.keep (by decide) p4, RI.keep (by decide) p5, fun _ => rfl, RI.keep (by decide) p7, RI.keep (by decide) p8, RI.keep (by decide) p9, RI.keep (by decide) px10⟩
    · have hd := hd _ rfl
      simp [Region.binds] at hd
      obtain rfl := p6 (by simp [hd])
      refine RI.wpOp_plain rfl rfl ?_
      have c0 : wx.cell? ⟨w.heap.size + 1, 1, none⟩ = some (.int .u64 (dg b 1)) := hP.v1.c 1 (by decide)
      go_simp
      exact ⟨u12, u13, u14, u15, u16, u17, _, _, u20, u21, F, v5, v10, v11, v22, v23, rfl, hP, (fun h => q (by rwa [RI.don_other _ _ _ (by decide)] at h)), RI.keep (by decide) p0, RI.keep (by decide) p1, RI.keep (by decide) p2, RI.keep (by decide) p3, RI.keep (by decide) p4, RI.keep (by decide) p5, RI.keep (by decide) p6, fun _ => rfl, RI.keep (by decide) p8, RI.keep (by decide) p9, RI.keep (by decide) px10⟩
    · have hd := hd _ rfl
      simp [Region.binds] at hd
      obtain rfl := p1 (by simp [hd])
      obtain rfl := p4 (by simp [hd])
      obtain rfl := p7 (by simp [hd])
      refine RI.wpOp_plain rfl rfl ?_
      go_simp
      refine (KF.out _ _ _).mono ?_
      rintro e w1 ⟨rfl, hb1⟩
      exact ⟨u12, _, u14, u15, _, u17, u18, _, _, u21, F, v5, v10, v11, v22, v23, rfl, P4_below hP hb1, (fun h => q (by rwa [RI.don_other _ _ _ (by decide)] at h)), RI.keep (by decide) p0, RI.keep (by decide) p1, RI.keep (by decide) p2, RI.keep (by decide) p3, RI.keep (by decide) p4, RI.keep (by decide) p5, RI.keep (by decide) p6, RI.keep (by decide) p7, fun _ => rfl, RI.keep (by decide) p9, RI.keep (by decide) (px10)⟩
    · have hd := hd _ rfl
      simp [Region.binds] at hd
      obtain rfl := p0 (by simp [hd])
      obtain rfl := p1 (by simp [hd])
      obtain rfl := p2 (by simp [hd])
      obtain rfl := p3 (by simp [hd])
      obtain rfl := p4 (by simp [hd])
      obtain rfl := p5 (by simp [hd])
      obtain rfl := p6 (by simp [hd])
      obtain rfl := p7 (by simp [hd])
      obtain rfl := p8 (by simp [hd])
      refine RI.wpOp_plain rfl rfl ?_
      go_simp
      exact ⟨_, _, _, _, _, _, _, _, _, _, F, v5, v10, v11, v22, v23, rfl, hP, (fun h => q (by rwa [RI.don_other _ _ _ (by decide)] at h)), RI.keep (by decide) p0, RI.keep (by decide) p1, RI.keep (by decide) p2, RI.keep (by decide) p3, RI.keep (by decide) p4, RI.keep (by decide) p5, RI.keep (by decide) p6, RI.keep (by decide) p7, RI.keep (by decide) p8, fun _ => rfl, RI.keep (by decide) px10⟩
    · have hd := hd _ rfl
      simp [Region.binds] at hd
      obtain rfl := p0 (by simp [hd])
      obtain rfl := p1 (by simp [hd])
      obtain rfl := p2 (by simp [hd])
      obtain rfl := p3 (by simp [hd])
      obtain rfl := p4 (by simp [hd])
      obtain rfl := p5 (by simp [hd])
      obtain rfl := p6 (by simp [hd])
      obtain rfl := p7 (by simp [hd])
      obtain rfl := p8 (by simp [hd])
      obtain rfl := p9 (by simp [hd])
      refine RI.wpOp_plain rfl rfl ?_
      obtain rfl := q hf
      have c3 := hP.v3.c 1 (by decide)
      have f3 : ∀ o, wx.frozen? ⟨w.heap.size + 1 + 1 + 1, o, none⟩ = false := hP.v3.f
      go_simp
      exact ⟨_, _, _, _, _, _, _, _, _, _, _, v5, v10, v11, v22, v23, rfl, P4_set hP (by decide), (fun h => absurd h (by simp [RI.don])), RI.keep (by decide) p0, RI.keep (by decide) p1, RI.keep (by decide) p2, RI.keep (by decide) p3, RI.keep (by decide) p4, RI.keep (by decide) p5, RI.keep (by decide) p6, RI.keep (by decide) p7, RI.keep (by decide) p8, RI.keep (by decide) p9, fun _ => rfl⟩
  clear m0
  intro d x wx hI hd
  obtain ⟨u12, u13, u14, u15, u16, u17, u18, u19, u20, u21, F, v5, v10, v11, v22, v23, rfl, hP, q, p0, p1, p2, p3, p4, p5, p6, p7, p8, p9, px10⟩ := hI
  obtain rfl := p0 (hd 0 (by decide))
  obtain rfl := p1 (hd 1 (by decide))
  obtain rfl := p2 (hd 2 (by decide))
  obtain rfl := p3 (hd 3 (by decide))
  obtain rfl := p4 (hd 4 (by decide))
  obtain rfl := p5 (hd 5 (by decide))
  obtain rfl := p6 (hd 6 (by decide))
  obtain rfl := p7 (hd 7 (by decide))
  obtain rfl := p8 (hd 8 (by decide))
  obtain rfl := p9 (hd 9 (by decide))
  rw [px10 (hd 10 (by decide))] at hP
  have m0 := hP
  clear p0 p1 p2 p3 p4 p5 p6 p7 p8 p9 px10 q hd hP
  go_wp2_with fail
  rw [rounds_succ]
  go_upto_region 5 with fail
  refine RI.wp_region_inv (PB2 w a b f (.func (Fn.func 34) #[] #[]) (upd (upd (dg 0) 0 (f (dg a 0) (dg b 0))) 1 (f (dg a 1) (dg b 1)))) (by kernel_rfl) (by kernel_rfl) ?_ ?_ ?_
  · exact ⟨_, _, _, _, _, _, _, _, _, _, upd (upd (dg 0) 0 (f (dg a 0) (dg b 0))) 1 (f (dg a 1) (dg b 1)), _, _, _, _, _, rfl, P4_drew m0, fun _ => rfl, nofun, nofun, nofun, nofun, nofun, nofun, nofun, nofun, nofun, nofun, nofun⟩
  · clear m0
    intro d x wx i hI hi hm
    obtain ⟨u12, u13, u14, u15, u16, u17, u18, u19, u20, u21, F, v5, v10, v11, v22, v23, rfl, hP, q, p0, p1, p2, p3, p4, p5, p6, p7, p8, p9, px10⟩ := hI
    have hi' : i = 0 ∨ i = 1 ∨ i = 2 ∨ i = 3 ∨ i = 4 ∨ i = 5 ∨ i = 6 ∨ i = 7 ∨ i = 8 ∨ i = 9 ∨ i = 10 := by simp at hi; omega
    have hd := hm.2
    have hf := hm.1
    clear hm hi
    rcases hi' with rfl | rfl | rfl | rfl | rfl | rfl | rfl | rfl | rfl | rfl | rfl
    · refine RI.wpOp_plain rfl rfl ?_
      go_simp
      exact ⟨_, u13, u14, u15, u16, u17, u18, u19, u20, u21, F, v5, v10, v11, v22, v23, rfl, hP, (fun h => q (by rwa [RI.don_other _ _ _ (by decide)] at h)), fun _ => rfl, RI.keep (by decide) p1, RI.keep (by decide) p2, RI.keep (by decide) p3, RI.keep (by decide) p4, RI.keep (by decide) p5, RI.keep (by decide) p6, RI.keep (by decide) p7, RI.keep (by decide) p8, RI.keep (by decide) p9, RI.keep (by decide) px10⟩
    · refine RI.wpOp_plain rfl rfl ?_
      go_simp
      exact ⟨u12, _, u14, u15, u16, u17, u18, u19, u20, u21, F, v5, v10, v11, v22, v23, rfl, hP, (fun h => q (by rwa [RI.don_other _ _ _ (by decide)] at h)), RI.keep (by decide) p0, fun _ => rfl, RI.keep (by decide) p2, RI.keep (by decide) p3, RI.keep (by decide) p4, RI.keep (by decide) p5, RI.keep (by decide) p6, RI.keep (by decide) p7, RI.keep (by decide) p8, RI.keep (by decide) p9, RI.keep (by decide) px10⟩
    · refine RI.wpOp_plain rfl rfl ?_
      go_simp
      exact ⟨u12, u13, _, u15, u16, u17, u18, u19, u20, u21, F, v5, v10, v11, v22, v23, rfl, hP, (fun h => q (by rwa [RI.don_other _ _ _ (by decide)] at h)), RI.keep (by decide) p0, RI.keep (by decide) p1, fun _ => rfl, RI.keep (by decide) p3, RI.keep (by decide) p4, RI.keep (by decide) p5, RI.keep (by decide) p6, RI.keep (by decide) p7, RI.keep (by decide) p8, RI.keep (by decide) p9, RI.keep (by decide) px10⟩
    · have hd := hd _ rfl
      simp [Region.binds] at hd
      obtain rfl := p2 (by simp [hd])
      refine RI.wpOp_plain rfl rfl ?_
      go_simp
      exact ⟨u12, u13, _, _, u16, u17, u18, u19, u20, u21, F, v5, v10, v11, v22, v23, rfl, hP, (fun h => q (by rwa [RI.don_other _ _ _ (by decide)] at h)), RI.keep (by decide) p0, RI.keep (by decide) p1, RI.keep (by decide) p2, fun _ => rfl, RI.keep (by decide) p4, RI.keep (by decide) p5, RI.keep (by decide) p6, RI.keep (by decide) p7, RI.keep (by decide) p8, RI.keep (by decide) p9, RI.keep (by decide) px10⟩
    · have hd := hd _ rfl
      simp [Region.binds] at hd
      obtain rfl := p3 (by simp [hd])
      refine RI.wpOp_plain rfl rfl ?_
      have c0 : wx.cell? ⟨w.heap.size, 2, none⟩ = some (.int .u64 (dg a 2)) := hP.v0.c 2 (by decide)
      go_simp
      exact ⟨u12, u13, u14, _, _, u17, u18, u19, u20, u21, F, v5, v10, v11, v22, v23, rfl, hP, (fun h => q (by rwa [RI.don_other _ _ _ (by decide)] at h)), RI.keep (by decide) p0, RI.keep (by decide) p1, RI.keep (by decide) p2, RI.keep (by decide) p3, fun _ => rfl, RI.keep (by decide) p5, RI.keep (by decide) p6, RI.keep (by decide) p7, RI.keep (by decide) p8, RI.keep (by decide) p9, RI.keep (by decide) px10⟩
    · refine RI.wpOp_plain rfl rfl ?_
      go_simp
      exact ⟨u12, u13, u14, u15, u16, _, u18, u19, u20, u21, F, v5, v10, v11, v22, v23, rfl, hP, (fun h => q (by rwa [RI.don_other _ _ _ (by decide)] at h)), RI.keep (by decide) p0, RI.keep (by decide) p1, RI.keep (by decide) p2, RI.keep (by decide) p3, RI.keep (by decide) p4, fun _ => rfl, RI.keep (by decide) p6, RI.keep (by decide) p7, RI.keep (by decide) p8, RI.keep (by decide) p9, RI.keep (by decide) px10⟩
    · have hd := hd _ rfl
      simp [Region.binds] at hd
      obtain rfl := p5 (by simp [hd])
      refine RI.wpOp_plain rfl rfl ?_
      go_simp
      exact ⟨u12, u13, u14, u15, u16, _, _, u19, u20, u21, F, v5, v10, v11, v22, v23, rfl, hP, (fun h => q (by rwa [RI.don_other _ _ _ (by decide)] at h)), RI.keep (by decide) p0, RI.keep (by decide) p1, RI.keep (by decide) p2, RI.keep (by decide) p3, RI.keep (by decide) p4, RI.keep (by decide) p5, fun _ => rfl, RI.keep (by decide) p7, RI.keep (by decide) p8, RI.keep (by decide) p9, RI.keep (by decide) px10⟩
    · have hd := hd _ rfl
      simp [Region.binds] at hd
      obtain rfl := p6 (by simp [hd])
      refine RI.wpOp_plain rfl rfl ?_
      have c0 : wx.cell? ⟨w.heap.size + 1, 2, none⟩ = some (.int .u64 (dg b 2)) := hP.v1.c 2 (by decide)
      go_simp
      exact ⟨u12, u13, u14, u15, u16, u17, _, _, u20, u21, F, v5, v10, v11, v22, v23, rfl, hP, (fun h => q (by rwa [RI.don_other _ _ _ (by decide)] at h)), RI.keep (by decide) p0, RI.keep (by decide) p1, RI.keep (by decide) p2, RI.keep (by decide) p3, RI.keep (by decide) p4, RI.keep (by decide) p5, RI.keep (by decide) p6, fun _ => rfl, RI.keep (by decide) p8, RI.keep (by decide) p9, RI.keep (by decide) px10⟩
    · have hd := hd _ rfl
      simp [Region.binds] at hd
      obtain rfl := p1 (by simp [hd])
      obtain rfl := p4 (by simp [hd])
      obtain rfl := p7 (by simp [hd])
      refine RI.wpOp_plain rfl rfl ?_
      go_simp
      refine (KF.out _ _ _).mono ?_
      rintro e w1 ⟨rfl, hb1⟩
      exact ⟨u12, _, u14, u15, _, u17, u18, _, _, u21, F, v5, v10, v11, v22, v23, rfl, P4_below hP hb1, (fun h => q (by rwa [RI.don_other _ _ _ (by decide)] at h)), RI.keep (by decide) p0, RI.keep (by decide) p1, RI.keep (by decide) p2, RI.keep (by decide) p3, RI.keep (by decide) p4, RI.keep (by decide) p5, RI.keep (by decide) p6, RI.keep (by decide) p7, fun _ => rfl, RI.keep (by decide) p9, RI.keep (by decide) (px10)⟩
    · have hd := hd _ rfl
      simp [Region.binds] at hd
      obtain rfl := p0 (by simp [hd])
      obtain rfl := p1 (by simp [hd])
      obtain rfl := p2 (by simp [hd])
      obtain rfl := p3 (by simp [hd])
      obtain rfl := p4 (by simp [hd])
      obtain rfl := p5 (by simp [hd])
      obtain rfl := p6 (by simp [hd])
      obtain rfl := p7 (by simp [hd])
      obtain rfl := p8 (by simp [hd])
      refine RI.wpOp_plain rfl rfl ?_
      go_simp
      exact ⟨_, _, _, _, _, _, _, _, _, _, F, v5, v10, v11, v22, v23, rfl, hP, (fun h => q (by rwa [RI.don_other _ _ _ (by decide)] at h)), RI.keep (by decide) p0, RI.keep (by decide) p1, RI.keep (by decide) p2, RI.keep (by decide) p3, RI.keep (by decide) p4, RI.keep (by decide) p5, RI.keep (by decide) p6, RI.keep (by decide) p7, RI.keep (by decide) p8, fun _ => rfl, RI.keep (by decide) px10⟩
    · have hd := hd _ rfl
      simp [Region.binds] at hd
      obtain rfl := p0 (by simp [hd])
      obtain rfl := p1 (by simp [hd])
      obtain rfl := p2 (by simp [hd])
      obtain rfl := p3 (by simp [hd])
      obtain rfl := p4 (by simp [hd])
      obtain rfl := p5 (by simp [hd])
      obtain rfl := p6 (by simp [hd])
      obtain rfl := p7 (by simp [hd])
      obtain rfl := p8 (by simp [hd])
      obtain rfl := p9 (by simp [hd])
      refine RI.wpOp_plain rfl rfl ?_
      obtain rfl := q hf
      have c3 := hP.v3.c 2 (by decide)
      have f3 : ∀ o, wx.frozen? ⟨w.heap.size + 1 + 1 + 1, o, none⟩ = false := hP.v3.f
      go_simp
      exact ⟨_, _, _, _, _, _, _, _, _, _, _, v5, v10, v11, v22, v23, rfl, P4_set hP (by decide), (fun h => absurd h (by simp [RI.don])), RI.keep (by decide) p0, RI.keep (by decide) p1, RI.keep (by decide) p2, RI.keep (by decide) p3, RI.keep (by decide) p4, RI.keep (by decide) p5, RI.keep (by decide) p6, RI.keep (by decide) p7, RI.keep (by decide) p8, RI.keep (by decide) p9, fun _ => rfl⟩
  clear m0
  intro d x wx hI hd
  obtain ⟨u12, u13, u14, u15, u16, u17, u18, u19, u20, u21, F, v5, v10, v11, v22, v23, rfl, hP, q, p0, p1, p2, p3, p4, p5, p6, p7, p8, p9, px10⟩ := hI
  obtain rfl := p0 (hd 0 (by decide))
  obtain rfl := p1 (hd 1 (by decide))
  obtain rfl := p2 (hd 2 (by decide))
  obtain rfl := p3 (hd 3 (by decide))
  obtain rfl := p4 (hd 4 (by decide))
  obtain rfl := p5 (hd 5 (by decide))
  obtain rfl := p6 (hd 6 (by decide))
  obtain rfl := p7 (hd 7 (by decide))
  obtain rfl := p8 (hd 8 (by decide))
  obtain rfl := p9 (hd 9 (by decide))
  rw [px10 (hd 10 (by decide))] at hP
  have m0 := hP
  clear p0 p1 p2 p3 p4 p5 p6 p7 p8 p9 px10 q hd hP
  go_wp2_with fail
  rw [rounds_succ]
  go_upto_region 5 with fail
  refine RI.wp_region_inv (PB3 w a b f (.func (Fn.func 34) #[] #[]) (upd (upd (upd (dg 0) 0 (f (dg a 0) (dg b 0))) 1 (f (dg a 1) (dg b 1))) 2 (f (dg a 2) (dg b 2)))) (by kernel_rfl) (by kernel_rfl) ?_ ?_ ?_
  · exact ⟨_, _, _, _, _, _, _, _, _, _, upd (upd (upd (dg 0) 0 (f (dg a 0) (dg b 0))) 1 (f (dg a 1) (dg b 1))) 2 (f (dg a 2) (dg b 2)), _, _, _, _, _, rfl, P4_drew m0, fun _ => rfl, nofun, nofun, nofun, nofun, nofun, nofun, nofun, nofun, nofun, nofun, nofun⟩
  · clear m0
    intro d x wx i hI hi hm
    obtain ⟨u12, u13, u14, u15, u16, u17, u18, u19, u20, u21, F, v5, v10, v11, v22, v23, rfl, hP, q, p0, p1, p2, p3, p4, p5, p6, p7, p8, p9, px10⟩ := hI
    have hi' : i = 0 ∨ i = 1 ∨ i = 2 ∨ i = 3 ∨ i = 4 ∨ i = 5 ∨ i = 6 ∨ i = 7 ∨ i = 8 ∨ i = 9 ∨ i = 10 := by simp at hi; omega
    have hd := hm.2
    have hf := hm.1
    clear hm hi
    rcases hi' with rfl | rfl | rfl | rfl | rfl | rfl | rfl | rfl | rfl | rfl | rfl
    · refine RI.wpOp_plain rfl rfl ?_
      go_simp
      exact ⟨_, u13, u14, u15, u16, u17, u18, u19, u20, u21, F, v5, v10, v11, v22, v23, rfl, hP, (fun h => q (by rwa [RI.don_other _ _ _ (by decide)] at h)), fun _ => rfl, RI.keep (by decide) p1, RI.keep (by decide) p2, RI.keep (by decide) p3, RI.keep (by decide) p4, RI.keep (by decide) p5, RI.keep (by decide) p6, RI.keep (by decide) p7, RI.keep (by decide) p8, RI.keep (by decide) p9, RI.keep (by decide) px10⟩
    · refine RI.wpOp_plain rfl rfl ?_
      go_simp
      exact ⟨u12, _, u14, u15, u16, u17, u18, u19, u20, u21, F, v5, v10, v11, v22, v23, rfl, hP, (fun h => q (by rwa [RI.don_other _ _ _ (by decide)] at h)), RI.keep (by decide) p0, fun _ => rfl, RI.keep (by decide) p2, RI.keep (by decide) p3, RI.keep (by decide) p4, RI.keep (by decide) p5, RI.keep (by decide) p6, RI.keep (by decide) p7, RI.keep (by decide) p8, RI.keep (by decide) p9, RI.keep (by decide) px10⟩
    · refine RI.wpOp_plain rfl rfl ?_
      go_simp
      exact ⟨u12, u13, _, u15, u16, u17, u18, u19, u20, u21, F, v5, v10, v11, v22, v23, rfl, hP, (fun h => q (by rwa [RI.don_other _ _ _ (by decide)] at h)), RI.keep (by decide) p0, RI.keep (by decide) p1, fun _ => rfl, RI.keep (by decide) p3, RI.keep (by decide) p4, RI.keep (by decide) p5, RI.keep (by decide) p6, RI.keep (by decide) p7, RI.keep (by decide) p8, RI.keep (by decide) p9, RI.keep (by decide) px10⟩
    · have hd := hd _ rfl
      simp [Region.binds] at hd
      obtain rfl := p2 (by simp [hd])
      refine RI.wpOp_plain rfl rfl ?_
      go_simp
      exact ⟨u12, u13, _, _, u16, u17, u18, u19, u20, u21, F, v5, v10, v11, v22, v23, rfl, hP, (fun h => q (by rwa [RI.don_other _ _ _ (by decide)] at h)), RI.keep (by decide) p0, RI.keep (by decide) p1, RI.keep (by decide) p2, fun _ => rfl, RI.keep (by decide) p4, RI.keep (by decide) p5, RI.keep (by decide) p6, RI.keep (by decide) p7, RI.keep (by decide) p8, RI.keep (by decide) p9, RI.keep (by decide) px10⟩
    · have hd := hd _ rfl
      simp [Region.binds] at hd
      obtain rfl := p3 (by simp [hd])
      refine RI.wpOp_plain rfl rfl ?_
      have c0 : wx.cell? ⟨w.heap.size, 3, none⟩ = some (.int .u64 (dg a 3)) := hP.v0.c 3 (by decide)
      go_simp
      exact ⟨u12, u13, u14, _, _, u17, u18, u19, u20, u21, F, v5, v10, v11, v22, v23, rfl, hP, (fun h => q (by rwa [RI.don_other _ _ _ (by decide)] at h)), RI.keep (by decide) p0, RI.keep (by decide) p1, RI.keep (by decide) p2, RI.keep (by decide) p3, fun _ => rfl, RI.keep (by decide) p5, RI.keep (by decide) p6, RI.keep (by decide) p7, RI.keep (by decide) p8, RI.keep (by decide) p9, RI.keep (by decide) px10⟩
    · refine RI.wpOp_plain rfl rfl ?_
      go_simp
      exact ⟨u12, u13, u14, u15, u16, _, u18, u19, u20, u21, F, v5, v10, v11, v22, v23, rfl, hP, (fun h => q (by rwa [RI.don_other _ _ _ (by decide)] at h)), RI.keep (by decide) p0, RI.keep (by decide) p1, RI.keep (by decide) p2, RI.keep (by decide) p3, RI.keep (by decide) p4, fun _ => rfl, RI.keep (by decide) p6, RI.keep (by decide) p7, RI.keep (by decide) p8, RI.keep (by decide) p9, RI.keep (by decide) px10⟩
    · have hd := hd _ rfl
      simp [Region.binds] at hd
      obtain rfl := p5 (by simp [hd])
      refine RI.wpOp_plain rfl rfl ?_
      go_simp
      exact ⟨u12, u13, u14, u15, u16, _, _, u19, u20, u21, F, v5, v10, v11, v22, v23, rfl, hP, (fun h => q (by rwa [RI.don_other _ _ _ (by decide)] at h)), RI.keep (by decide) p0, RI.keep (by decide) p1, RI.keep (by decide) p2, RI.keep (by decide) p3, RI.keep (by decide) p4, RI.keep (by decide) p5, fun _ => rfl, RI.keep (by decide) p7, RI.keep (by decide) p8, RI.keep (by decide) p9, RI.keep (by decide) px10⟩
    · have hd := hd _ rfl
      simp [Region.binds] at hd
      obtain rfl := p6 (by simp [hd])
      refine RI.wpOp_plain rfl rfl ?_
      have c0 : wx.cell? ⟨w.heap.size + 1, 3, none⟩ = some (.int .u64 (dg b 3)) := hP.v1.c 3 (by decide)
      go_simp
      exact ⟨u12, u13, u14, u15, u16, u17, _, _, u20, u21, F, v5, v10, v11, v22, v23, rfl, hP, (fun h => q (by rwa [RI.don_other _ _ _ (by decide)] at h)), RI.keep (by decide) p0, RI.keep (by decide) p1, RI.keep (by decide) p2, RI.keep (by decide) p3, RI.keep (by decide) p4, RI.keep (by decide) p5, RI.keep (by decide) p6, fun _ => rfl, RI.keep (by decide) p8, RI.keep (by decide) p9, RI.keep (by decide) px10⟩
    · have hd := hd _ rfl
      simp [Region.binds] at hd
      obtain rfl := p1 (by simp [hd])
      obtain rfl := p4 (by simp [hd])
      obtain rfl := p7 (by simp [hd])
      refine RI.wpOp_plain rfl rfl ?_
      go_simp
      refine (KF.out _ _ _).mono ?_
      rintro e w1 ⟨rfl, hb1⟩
      exact ⟨u12, _, u14, u15, _, u17, u18, _, _, u21, F, v5, v10, v11, v22, v23, rfl, P4_below hP hb1, (fun h => q (by rwa [RI.don_other _ _ _ (by decide)] at h)), RI.keep (by decide) p0, RI.keep (by decide) p1, RI.keep (by decide) p2, RI.keep (by decide) p3, RI.keep (by decide) p4, RI.keep (by decide) p5, RI.keep (by decide) p6, RI.keep (by decide) p7, fun _ => rfl, RI.keep (by decide) p9, RI.keep (by decide) (px10)⟩
    · have hd := hd _ rfl
      simp [Region.binds] at hd
      obtain rfl := p0 (by simp [hd])
      obtain rfl := p1 (by simp [hd])
      obtain rfl := p2 (by simp [hd])
      obtain rfl := p3 (by simp [hd])
      obtain rfl := p4 (by simp [hd])
      obtain rfl := p5 (by simp [hd])
      obtain rfl := p6 (by simp [hd])
      obtain rfl := p7 (by simp [hd])
      obtain rfl := p8 (by simp [hd])
      refine RI.wpOp_plain rfl rfl ?_
      go_simp
      exact ⟨_, _, _, _, _, _, _, _, _, _, F, v5, v10, v11, v22, v23, rfl, hP, (fun h => q (by rwa [RI.don_other _ _ _ (by decide)] at h)), RI.keep (by decide) p0, RI.keep (by decide) p1, RI.keep (by decide) p2, RI.keep (by decide) p3, RI.keep (by decide) p4, RI.keep (by decide) p5, RI.keep (by decide) p6, RI.keep (by decide) p7, RI.keep (by decide) p8, fun _ => rfl, RI.keep (by decide) px10⟩
    · have hd := hd _ rfl
      simp [Region.binds] at hd
      obtain rfl := p0 (by simp [hd])
      obtain rfl := p1 (by simp [hd])
      obtain rfl := p2 (by simp [hd])
      obtain rfl := p3 (by simp [hd])
      obtain rfl := p4 (by simp [hd])
      obtain rfl := p5 (by simp [hd])
      obtain rfl := p6 (by simp [hd])
      obtain rfl := p7 (by simp [hd])
      obtain rfl := p8 (by simp [hd])
      obtain rfl := p9 (by simp [hd])
      refine RI.wpOp_plain rfl rfl ?_
      obtain rfl := q hf
      have c3 := hP.v3.c 3 (by decide)
      have f3 : ∀ o, wx.frozen? ⟨w.heap.size + 1 + 1 + 1, o, none⟩ = false := hP.v3.f
      go_simp
      exact ⟨_, _, _, _, _, _, _, _, _, _, _, v5, v10, v11, v22, v23, rfl, P4_set hP (by decide), (fun h => absurd h (by simp [RI.don])), RI.keep (by decide) p0, RI.keep (by decide) p1, RI.keep (by decide) p2, RI.keep (by decide) p3, RI.keep (by decide) p4, RI.keep (by decide) p5, RI.keep (by decide) p6, RI.keep (by decide) p7, RI.keep (by decide) p8, RI.keep (by decide) p9, fun _ => rfl⟩
  clear m0
  intro d x wx hI hd
  obtain ⟨u12, u13, u14, u15, u16, u17, u18, u19, u20, u21, F, v5, v10, v11, v22, v23, rfl, hP, q, p0, p1, p2, p3, p4, p5, p6, p7, p8, p9, px10⟩ := hI
  obtain rfl := p0 (hd 0 (by decide))
  obtain rfl := p1 (hd 1 (by decide))
  obtain rfl := p2 (hd 2 (by decide))
  obtain rfl := p3 (hd 3 (by decide))
  obtain rfl := p4 (hd 4 (by decide))
  obtain rfl := p5 (hd 5 (by decide))
  obtain rfl := p6 (hd 6 (by decide))
  obtain rfl := p7 (hd 7 (by decide))
  obtain rfl := p8 (hd 8 (by decide))
  obtain rfl := p9 (hd 9 (by decide))
  rw [px10 (hd 10 (by decide))] at hP
  have m0 := hP
  clear p0 p1 p2 p3 p4 p5 p6 p7 p8 p9 px10 q hd hP
  go_wp2_with fail
  rw [rounds_succ]
  have c3 : ∀ o, o < 4 → wx.cell? ⟨w.heap.size + 1 + 1 + 1, o, none⟩ = some (.int .u64 (dg N o)) := fun o ho => by
    rw [← HN.out o ho, m0.v3.c o ho]
    have : o = 0 ∨ o = 1 ∨ o = 2 ∨ o = 3 := by omega
    rcases this with rfl | rfl | rfl | rfl <;> rfl
  have c2 : ∀ o, o < 4 → wx.cell? ⟨w.heap.size + 1 + 1, o, none⟩ = some (.int .u64 (dg 0 o)) := m0.v2.c
  have f2 : ∀ o, wx.frozen? ⟨w.heap.size + 1 + 1, o, none⟩ = false := m0.v2.f
  have z2 := m0.v2.hi
  have HV : Hid (Vb w.heap.size (w.heap.size + 1 + 1) 4 (dg N) _) := Vb_set4 m0.v2
  have HB : Hid (Below w.heap.size w _) := Bel_set4 (h := w.heap.size + 1 + 1) (m := N) m0.bel (by omega)
  clear m0
  go_wp2_with fail
  exact bodyPost_ret (v := Wd N) (resultTw _ _ _ (w.heap.size + 1 + 1) N 6 rfl rfl HV.out.c) rfl ⟨rfl, HB.out⟩
set_option maxHeartbeats 4000000 in
set_option maxRecDepth 100000 in
theorem pbp_not (a b N : Nat) (f : Int → Int → Int) (KF : Hid (∀ (x y : Int) (w : World), Calls Try.prog 31 #[.int .u64 x, .int .u64 y] w fun e w' => e = .returned (.int .u64 (f x y)) ∧ Below w.heap.size w w')) (HN : Hid (∀ o, o < 4 → f (dg a o) (dg b o) = dg N o)) (w : World) :
    Calls Try.prog 30 #[Wd a, Wd b, .func (Fn.func 31) #[] #[]] w fun e w' => e = .returned (Wd N) ∧ Below w.heap.size w w' := by
  have m0 : P4 w a b (dg 0) ((((w.alloc (.cells #[.int .u64 (dg a 0), .int .u64 (dg a 1), .int .u64 (dg a 2), .int .u64 (dg a 3)] 24)).alloc (.cells #[.int .u64 (dg b 0), .int .u64 (dg b 1), .int .u64 (dg b 2), .int .u64 (dg b 3)] 24)).alloc (.cells #[.int .u64 0, .int .u64 0, .int .u64 0, .int .u64 0] 24)).alloc (.cells #[.int .u64 0, .int .u64 0, .int .u64 0, .int .u64 0] 24)) := by
    have k := M4_start w a b 24
    exact ⟨k.v0, k.v1, k.v2, k.v3, k.bel⟩
  conv => arg 3; unfold Wd
  go_enter Try.func30, Try.ntmps30
  go_wp2_with fail
  generalize (((w.alloc (.cells #[.int .u64 (dg a 0), .int .u64 (dg a 1), .int .u64 (dg a 2), .int .u64 (dg a 3)] 24)).alloc (.cells #[.int .u64 (dg b 0), .int .u64 (dg b 1), .int .u64 (dg b 2), .int .u64 (dg b 3)] 24)).alloc (.cells #[.int .u64 0, .int .u64 0, .int .u64 0, .int .u64 0] 24)).alloc (.cells #[.int .u64 0, .int .u64 0, .int .u64 0, .int .u64 0] 24) = W0 at m0 ⊢
  refine wp_loop_rounds 5 ?_
  rw [rounds_succ]
  go_upto_region 5 with fail
  refine RI.wp_region_inv (PB0 w a b f (.func (Fn.func 31) #[] #[]) (dg 0)) (by kernel_rfl) (by kernel_rfl) ?_ ?_ ?_
  · exact ⟨undef, undef, undef, undef, undef, undef, undef, undef, undef, undef, dg 0, _, _, _, _, _, rfl, P4_drew m0, fun _ => rfl, nofun, nofun, nofun, nofun, nofun, nofun, nofun, nofun, nofun, nofun, nofun⟩
  · clear m0
    intro d x wx i hI hi hm
    obtain ⟨u12, u13, u14, u15, u16, u17, u18, u19, u20, u21, F, v5, v10, v11, v22, v23, rfl, hP, q, p0, p1, p2, p3, p4, p5, p6, p7, p8, p9, px10⟩ := hI
    have hi' : i = 0 ∨ i = 1 ∨ i = 2 ∨ i = 3 ∨ i = 4 ∨ i = 5 ∨ i = 6 ∨ i = 7 ∨ i = 8 ∨ i = 9 ∨ i = 10 := by simp at hi; omega
    have hd := hm.2
    have hf := hm.1
    clear hm hi
    rcases hi' with rfl | rfl | rfl | rfl | rfl | rfl | rfl | rfl | rfl | rfl | rfl
    · refine RI.wpOp_plain rfl rfl ?_
      go_simp
      exact ⟨_, u13, u14, u15, u16, u17, u18, u19, u20, u21, F, v5, v10, v11, v22, v23, rfl, hP, (fun h => q (by rwa [RI.don_other _ _ _ (by decide)] at h)), fun _ => rfl, RI.keep (by decide) p1, RI.keep (by decide) p2, RI.keep (by decide) p3, RI.keep (by decide) p4, RI.keep (by decide) p5, RI.keep (by decide) p6, RI.keep (by decide) p7, RI.keep (by decide) p8, RI.keep (by decide) p9, RI.keep (by decide) px10⟩
    · refine RI.wpOp_plain rfl rfl ?_
      go_simp
      exact ⟨u12, _, u14, u15, u16, u17, u18, u19, u20, u21, F, v5, v10, v11, v22, v23, rfl, hP, (fun h => q (by rwa [RI.don_other _ _ _ (by decide)] at h)), RI.keep (by decide) p0, fun _ => rfl, RI.keep (by decide) p2, RI.keep (by decide) p3, RI.keep (by decide) p4, RI.keep (by decide) p5, RI.keep (by decide) p6, RI.keep (by decide) p7, RI.keep (by decide) p8, RI.keep (by decide) p9, RI.keep (by decide) px10⟩
    · refine RI.wpOp_plain rfl rfl ?_
      go_simp
      exact ⟨u12, u13, _, u15, u16, u17, u18, u19, u20, u21, F, v5, v10, v11, v22, v23, rfl, hP, (fun h => q (by rwa [RI.don_other _ _ _ (by decide)] at h)), RI.keep (by decide) p0, RI.keep (by decide) p1, fun _ => rfl, RI.keep (by decide) p3, RI.keep (by decide) p4, RI.keep (by decide) p5, RI.keep (by decide) p6, RI.keep (by decide) p7, RI.keep (by decide) p8, RI.keep (by decide) p9, RI.keep (by decide) px10⟩
    · have hd := hd _ rfl
      simp [Region.binds] at hd
      obtain rfl := p2 (by simp [hd])
      refine RI.wpOp_plain rfl rfl ?_
      go_simp
      exact ⟨u12, u13, _, _, u16, u17, u18, u19, u20, u21, F, v5, v10, v11, v22, v23, rfl, hP, (fun h => q (by rwa [RI.don_other _ _ _ (by decide)] at h)), RI.keep (by decide) p0, RI.keep (by decide) p1, RI.keep (by decide) p2, fun _ => rfl, RI.keep (by decide) p4, RI.keep (by decide) p5, RI.keep (by decide) p6, RI.keep (by decide) p7, RI.keep (by decide) p8, RI.keep (by decide) p9, RI.keep (by decide) px10⟩
    · have hd := hd _ rfl
      simp [Region.binds] at hd
      obtain rfl := p3 (by simp [hd])
      refine RI.wpOp_plain rfl rfl ?_
      have c0 : wx.cell? ⟨w.heap.size, 0, none⟩ = some (.int .u64 (dg a 0)) := hP.v0.c 0 (by decide)
      go_simp
      exact ⟨u12, u13, u14, _, _, u17, u18, u19, u20, u21, F, v5, v10, v11, v22, v23, rfl, hP, (fun h => q (by rwa [RI.don_other _ _ _ (by decide)] at h)), RI.keep (by decide) p0, RI.keep (by decide) p1, RI.keep (by decide) p2, RI.keep (by decide) p3, fun _ => rfl, RI.keep (by decide) p5, RI.keep (by decide) p6, RI.keep (by decide) p7, RI.keep (by decide) p8, RI.keep (by decide) p9, RI.keep (by decide) px10⟩
    · refine RI.wpOp_plain rfl rfl ?_
      go_simp
      exact ⟨u12, u13, u14, u15, u16, _, u18, u19, u20, u21, F, v5, v10, v11, v22, v23, rfl, hP, (fun h => q (by rwa [RI.don_other _ _ _ (by decide)] at h)), RI.keep (by decide) p0, RI.keep (by decide) p1, RI.keep (by decide) p2, RI.keep (by decide) p3, RI.keep (by decide) p4, fun _ => rfl, RI.keep (by decide) p6, RI.keep (by decide) p7, RI.keep (by decide) p8, RI.keep (by decide) p9, RI.keep (by decide) px10⟩
    · have hd := hd _ rfl
      simp [Region.binds] at hd
      obtain rfl := p5 (by simp [hd])
      refine RI.wpOp_plain rfl rfl ?_
      go_simp
      exact ⟨u12, u13, u14, u15, u16, _, _, u19, u20, u21, F, v5, v10, v11, v22, v23, rfl, hP, (fun h => q (by rwa [RI.don_other _ _ _ (by decide)] at h)), RI.keep (by decide) p0, RI.keep (by decide) p1, RI.keep (by decide) p2, RI.keep (by decide) p3, RI.keep (by decide) p4, RI.keep (by decide) p5, fun _ => rfl, RI.keep (by decide) p7, RI.keep (by decide) p8, RI.keep (by decide) p9, RI.keep (by decide) px10⟩
    · have hd := hd _ rfl
      simp [Region.binds] at hd
      obtain rfl := p6 (by simp [hd])
      refine RI.wpOp_plain rfl rfl ?_
      have c0 : wx.cell? ⟨w.heap.size + 1, 0, none⟩ = some (.int .u64 (dg b 0)) := hP.v1.c 0 (by decide)
      go_simp
      exact ⟨u12, u13, u14, u15, u16, u17, _, _, u20, u21, F, v5, v10, v11, v22, v23, rfl, hP, (fun h => q (by rwa [RI.don_other _ _ _ (by decide)] at h)), RI.keep (by decide) p0, RI.keep (by decide) p1, RI.keep (by decide) p2, RI.keep (by decide) p3, RI.keep (by decide) p4, RI.keep (by decide) p5, RI.keep (by decide) p6, fun _ => rfl, RI.keep (by decide) p8, RI.keep (by decide) p9, RI.keep (by decide) px10⟩
    · have hd := hd _ rfl
      simp [Region.binds] at hd
      obtain rfl := p1 (by simp [hd])
      obtain rfl := p4 (by simp [hd])
      obtain rfl := p7 (by simp [hd])
      refine RI.wpOp_plain rfl rfl ?_
      go_simp
      refine (KF.out _ _ _).mono ?_
      rintro e w1 ⟨rfl, hb1⟩
      exact ⟨u12, _, u14, u15, _, u17, u18, _, _, u21, F, v5, v10, v11, v22, v23, rfl, P4_below hP hb1, (fun h => q (by rwa [RI.don_other _ _ _ (by decide)] at h)), RI.keep (by decide) p0, RI.keep (by decide) p1, RI.keep (by decide) p2, RI.keep (by decide) p3, RI.keep (by decide) p4, RI.keep (by decide) p5, RI.keep (by decide) p6, RI.keep (by decide) p7, fun _ => rfl, RI.keep (by decide) p9, RI.keep (by decide) (px10)⟩
    · have hd := hd _ rfl
      simp [Region.binds] at hd
      obtain rfl := p0 (by simp [hd])
      obtain rfl := p1 (by simp [hd])
      obtain rfl := p2 (by simp [hd])
      obtain rfl := p3 (by simp [hd])
      obtain rfl := p4 (by simp [hd])
      obtain rfl := p5 (by simp [hd])
      obtain rfl := p6 (by simp [hd])
      obtain rfl := p7 (by simp [hd])
      obtain rfl := p8 (by simp [hd])
      refine RI.wpOp_plain rfl rfl ?_
      go_simp
      exact ⟨_, _, _, _, _, _, _, _, _, _, F, v5, v10, v11, v22, v23, rfl, hP, (fun h => q (by rwa [RI.don_other _ _ _ (by decide)] at h)), RI.keep (by decide) p0, RI.keep (by decide) p1, RI.keep (by decide) p2, RI.keep (by decide) p3, RI.keep (by decide) p4, RI.keep (by decide) p5, RI.keep (by decide) p6, RI.keep (by decide) p7, RI.keep (by decide) p8, fun _ => rfl, RI.keep (by decide) px10⟩
    · have hd := hd _ rfl
      simp [Region.binds] at hd
      obtain rfl := p0 (by simp [hd])
      obtain rfl := p1 (by simp [hd])
      obtain rfl := p2 (by simp [hd])
      obtain rfl := p3 (by simp [hd])
      obtain rfl := p4 (by simp [hd])
      obtain rfl := p5 (by simp [hd])
      obtain rfl := p6 (by simp [hd])
      obtain rfl := p7 (by simp [hd])
      obtain rfl := p8 (by simp [hd])
      obtain rfl := p9 (by simp [hd])
      refine RI.wpOp_plain rfl rfl ?_
      obtain rfl := q hf
      have c3 := hP.v3.c 0 (by decide)
      have f3 : ∀ o, wx.frozen? ⟨w.heap.size + 1 + 1 + 1, o, none⟩ = false := hP.v3.f
      go_simp
      exact ⟨_, _, _, _, _, _, _, _, _, _, _, v5, v10, v11, v22, v23, rfl, P4_set hP (by decide), (fun h => absurd h (by simp [RI.don])), RI.keep (by decide) p0, RI.keep (by decide) p1, RI.keep (by decide) p2, RI.keep (by decide) p3, RI.keep (by decide) p4, RI.keep (by decide) p5, RI.keep (by decide) p6, RI.keep (by decide) p7, RI.keep (by decide) p8, RI.keep (by decide) p9, fun _ => rfl⟩
  clear m0
  intro d x wx hI hd
  obtain ⟨u12, u13, u14, u15, u16, u17, u18, u19, u20, u21, F, v5, v10, v11, v22, v23, rfl, hP, q, p0, p1, p2, p3, p4, p5, p6, p7, p8, p9, px10⟩ := hI
  obtain rfl := p0 (hd 0 (by decide))
  obtain rfl := p1 (hd 1 (by decide))
  obtain rfl := p2 (hd 2 (by decide))
  obtain rfl := p3 (hd 3 (by decide))
  obtain rfl := p4 (hd 4 (by decide))
  obtain rfl := p5 (hd 5 (by decide))
  obtain rfl := p6 (hd 6 (by decide))
  obtain rfl := p7 (hd 7 (by decide))
  obtain rfl := p8 (hd 8 (by decide))
  obtain rfl := p9 (hd 9 (by decide))
  rw [px10 (hd 10 (by decide))] at hP
  have m0 := hP
  clear p0 p1 p2 p3 p4 p5 p6 p7 p8 p9 px10 q hd hP
  go_wp2_with fail
  rw [rounds_succ]
  go_upto_region 5 with fail
  refine RI.wp_region_inv (PB1 w a b f (.func (Fn.func 31) #[] #[]) (upd (dg 0) 0 (f (dg a 0) (dg b 0)))) (by kernel_rfl) (by kernel_rfl) ?_ ?_ ?_
  · exact ⟨_, _, _, _, _, _, _, _, _, _, upd (dg 0) 0 (f (dg a 0) (dg b 0)), _, _, _, _, _, rfl, P4_drew m0, fun _ => rfl, nofun, nofun, nofun, nofun, nofun, nofun, nofun, nofun, nofun, nofun, nofun⟩
  · clear m0
    intro d x wx i hI hi hm
    obtain ⟨u12, u13, u14, u15, u16, u17, u18, u19, u20, u21, F, v5, v10, v11, v22, v23, rfl, hP, q, p0, p1, p2, p3, p4, p5, p6, p7, p8, p9, px10⟩ := hI
    have hi' : i = 0 ∨ i = 1 ∨ i = 2 ∨ i = 3 ∨ i = 4 ∨ i = 5 ∨ i = 6 ∨ i = 7 ∨ i = 8 ∨ i = 9 ∨ i = 10 := by simp at hi; omega
    have hd := hm.2
    have hf := hm.1
    clear hm hi
    rcases hi' with rfl | rfl | rfl | rfl | rfl | rfl | rfl | rfl | rfl | rfl | rfl
    · refine RI.wpOp_plain rfl rfl ?_
      go_simp
      exact ⟨_, u13, u14, u15, u16, u17, u18, u19, u20, u21, F, v5, v10, v11, v22, v23, rfl, hP, (fun h => q (by rwa [RI.don_other _ _ _ (by decide)] at h)), fun _ => rfl, RI.keep (by decide) p1, RI.keep (by decide) p2, RI.keep (by decide) p3, RI.keep (by decide) p4, RI.keep (by decide) p5, RI.keep (by decide) p6, RI.keep (by decide) p7, RI.keep (by decide) p8, RI.keep (by decide) p9, RI.keep (by decide) px10⟩
    · refine RI.wpOp_plain rfl rfl ?_
      go_simp
      exact ⟨u12, _, u14, u15, u16, u17, u18, u19, u20, u21, F, v5, v10, v11, v22, v23, rfl, hP, (fun h => q (by rwa [RI.don_other _ _ _ (by decide)] at h)), RI.keep (by decide) p0, fun _ => rfl, RI.keep (by decide) p2, RI.keep (by decide) p3, RI.keep (by decide) p4, RI.keep (by decide) p5, RI.keep (by decide) p6, RI.keep (by decide) p7, RI.keep (by decide) p8, RI.keep (by decide) p9, RI.keep (by decide) px10⟩
    · refine RI.wpOp_plain rfl rfl ?_
      go_simp
      exact ⟨u12, u13, _, u15, u16, u17, u18, u19, u20, u21, F, v5, v10, v11, v22, v23, rfl, hP, (fun h => q (by rwa [RI.don_other _ _ _ (by decide)] at h)), RI.keep (by decide) p0, RI.keep (by decide) p1, fun _ => rfl, RI.keep (by decide) p3, RI.keep (by decide) p4, RI.keep (by decide) p5, RI.keep (by decide) p6, RI.keep (by decide) p7, RI.keep (by decide) p8, RI.keep (by decide) p9, RI.keep (by decide) px10⟩
    · have hd := hd _ rfl
      simp [Region.binds] at hd
      obtain rfl := p2 (by simp [hd])
      refine RI.wpOp_plain rfl rfl ?_
      go_simp
      exact ⟨u12, u13, _, _, u16, u17, u18, u19, u20, u21, F, v5, v10, v11, v22, v23, rfl, hP, (fun h => q (by rwa [RI.don_other _ _ _ (by decide)] at h)), RI.keep (by decide) p0, RI.keep (by decide) p1, RI.keep (by decide) p2, fun _ => rfl, RI.keep (by decide) p4, RI.keep (by decide) p5, RI.keep (by decide) p6, RI.keep (by decide) p7, RI.keep (by decide) p8, RI.keep (by decide) p9, RI.keep (by decide) px10⟩
    · have hd := hd _ rfl
      simp [Region.binds] at hd
      obtain rfl := p3 (by simp [hd])
      refine RI.wpOp_plain rfl rfl ?_
      have c0 : wx.cell? ⟨w.heap.size, 1, none⟩ = some (.int .u64 (dg a 1)) := hP.v0.c 1 (by decide)
      go_simp
      exact ⟨u12, u13, u14, _, _, u17, u18, u19, u20, u21, F, v5, v10, v11, v22, v23, rfl, hP, (fun h => q (by rwa [RI.don_other _ _ _ (by decide)] at h)), RI.keep (by decide) p0, RI.keep (by decide) p1, RI.keep (by decide) p2, RI.keep (by decide) p3, fun _ => rfl, RI.keep (by decide) p5, RI.keep (by decide) p6, RI.keep (by decide) p7, RI.keep (by decide) p8, RI.keep (by decide) p9, RI.keep (by decide) px10⟩
    · refine RI.wpOp_plain rfl rfl ?_
      go_simp
      exact ⟨u12, u13, u14, u15, u16, _, u18, u19, u20, u21, F, v5, v10, v11, v22, v23, rfl, hP, (fun h => q (by rwa [RI.don_other _ _ _ (by decide)] at h)), RI.keep (by decide) p0, RI.keep (by decide) p1, RI.keep (by decide) p2, RI.keep (by decide) p3, RI.keep (by decide) p4, fun _ => rfl, RI.keep (by decide) p6, RI.keep (by decide) p7, RI.keep (by decide) p8, RI.keep (by decide) p9, RI.keep (by decide) px10⟩
    · have hd := hd _ rfl
      simp [Region.binds] at hd
      obtain rfl := p5 (by simp [hd])
      refine RI.wpOp_plain rfl rfl ?_
      go_simp
      exact ⟨u12, u13, u14, u15, u16, _, _, u19, u20, u21, F, v5, v10, v11, v22, v23, rfl, hP, (fun h => q (by rwa [RI.don_other _ _ _ (by decide)] at h)), RI.keep (by decide) p0, RI.keep (by decide) p1, RI.keep (by decide) p2, RI.keep (by decide) p3, RI.keep (by decide) p4, RI.keep (by decide) p5, fun _ => rfl, RI.keep (by decide) p7, RI.keep (by decide) p8, RI.keep (by decide) p9, RI.keep (by decide) px10⟩
    · have hd := hd _ rfl
      simp [Region.binds] at hd
      obtain rfl := p6 (by simp [hd])
      refine RI.wpOp_plain rfl rfl ?_
      have c0 : wx.cell? ⟨w.heap.size + 1, 1, none⟩ = some (.int .u64 (dg b 1)) := hP.v1.c 1 (by decide)
      go_simp
      exact ⟨u12, u13, u14, u15, u16, u17, _, _, u20, u21, F, v5, v10, v11, v22, v23, rfl, hP, (fun h => q (by rwa [RI.don_other _ _ _ (by decide)] at h)), RI.keep (by decide) p0, RI.keep (by decide) p1, RI.keep (by decide) p2, RI.keep (by decide) p3, RI.keep (by decide) p4, RI.keep (by decide) p5, RI.keep (by decide) p6, fun _ => rfl, RI.keep (by decide) p8, RI.keep (by decide) p9, RI.keep (by decide) px10⟩
    · have hd := hd _ rfl
      simp [Region.binds] at hd
      obtain rfl := p1 (by simp [hd])
      obtain rfl := p4 (by simp [hd])
      obtain rfl := p7 (by simp [hd])
      refine RI.wpOp_plain rfl rfl ?_
      go_simp
      refine (KF.out _ _ _).mono ?_
      rintro e w1 ⟨rfl, hb1⟩
      exact ⟨u12, _, u14, u15, _, u17, u18, _, _, u21, F, v5, v10, v11, v22, v23, rfl, P4_below hP hb1, (fun h => q (by rwa [RI.don_other _ _ _ (by decide)] at h)), RI.keep (by decide) p0, RI.keep (by decide) p1, RI.keep (by decide) p2, RI.keep (by decide) p3, RI.keep (by decide) p4, RI.keep (by decide) p5, RI.keep (by decide) p6, RI.keep (by decide) p7, fun _ => rfl, RI.keep (by decide) p9, RI.keep (by decide) (px10)⟩
    · have hd := hd _ rfl
      simp [Region.binds] at hd
      obtain rfl := p0 (by simp [hd])
      obtain rfl := p1 (by simp [hd])
      obtain rfl := p2 (by simp [hd])
      obtain rfl := p3 (by simp [hd])
      obtain rfl := p4 (by simp [hd])
      obtain rfl := p5 (by simp [hd])
      obtain rfl := p6 (by simp [hd])
      obtain rfl := p7 (by simp [hd])
      obtain rfl := p8 (by simp [hd])
      refine RI.wpOp_plain rfl rfl ?_
      go_simp
      exact ⟨_, _, _, _, _, _, _, _, _, _, F, v5, v10, v11, v22, v23, rfl, hP, (fun h => q (by rwa [RI.don_other _ _ _ (by decide)] at h)), RI.keep (by decide) p0, RI.keep (by decide) p1, RI.keep (by decide) p2, RI.keep (by decide) p3, RI.keep (by decide) p4, RI.keep (by decide) p5, RI.keep (by decide) p6, RI.keep (by decide) p7, RI.keep (by decide) p8, fun _ => rfl, RI.keep (by decide) px10⟩
    · have hd := hd _ rfl
      simp [Region.binds] at hd
      obtain rfl := p0 (by simp [hd])
      obtain rfl := p1 (by simp [hd])
      obtain rfl := p2 (by simp [hd])
      obtain rfl := p3 (by simp [hd])
      obtain rfl := p4 (by simp [hd])
      obtain rfl := p5 (by simp [hd])
      obtain rfl := p6 (by simp [hd])
      obtain rfl := p7 (by simp [hd])
      obtain rfl := p8 (by simp [hd])
      obtain rfl := p9 (by simp [hd])
      refine RI.wpOp_plain rfl rfl ?_
      obtain rfl := q hf
      have c3 := hP.v3.c 1 (by decide)
      have f3 : ∀ o, wx.frozen? ⟨w.heap.size + 1 + 1 + 1, o, none⟩ = false := hP.v3.f
      go_simp
      exact ⟨_, _, _, _, _, _, _, _, _, _, _, v5, v10, v11, v22, v23, rfl, P4_set hP (by decide), (fun h => absurd h (by simp [RI.don])), RI.keep (by decide) p0, RI.keep (by decide) p1, RI.keep (by decide) p2, RI.keep (by decide) p3, RI.keep (by decide) p4, RI.keep (by decide) p5, RI.keep (by decide) p6, RI.keep (by decide) p7, RI.keep (by decide) p8, RI.keep (by decide) p9, fun _ => rfl⟩
  clear m0
  intro d x wx hI hd
  obtain ⟨u12, u13, u14, u15, u16, u17, u18, u19, u20, u21, F, v5, v10, v11, v22, v23, rfl, hP, q, p0, p1, p2, p3, p4, p5, p6, p7, p8, p9, px10⟩ := hI
  obtain rfl := p0 (hd 0 (by decide))
  obtain rfl := p1 (hd 1 (by decide))
  obtain rfl := p2 (hd 2 (by decide))
  obtain rfl := p3 (hd 3 (by decide))
  obtain rfl := p4 (hd 4 (by decide))
  obtain rfl := p5 (hd 5 (by decide))
  obtain rfl := p6 (hd 6 (by decide))
  obtain rfl := p7 (hd 7 (by decide))
  obtain rfl := p8 (hd 8 (by decide))
  obtain rfl := p9 (hd 9 (by decide))
  rw [px10 (hd 10 (by decide))] at hP
  have m0 := hP
  clear p0 p1 p2 p3 p4 p5 p6 p7 p8 p9 px10 q hd hP
  go_wp2_with fail
  rw [rounds_succ]
  go_upto_region 5 with fail
  refine RI.wp_region_inv (PB2 w a b f (.func (Fn.func 31) #[] #[]) (upd (upd (dg 0) 0 (f (dg a 0) (dg b 0))) 1 (f (dg a 1) (dg b 1)))) (by kernel_rfl) (by kernel_rfl) ?_ ?_ ?_
  · exact ⟨_, _, _, _, _, _, _, _, _, _, upd (upd (dg 0) 0 (f (dg a 0) (dg b 0))) 1 (f (dg a 1) (dg b 1)), _, _, _, _, _, rfl, P4_drew m0, fun _ => rfl, nofun, nofun, nofun, nofun, nofun, nofun, nofun, nofun, nofun, nofun, nofun⟩
  · clear m0
    intro d x wx i hI hi hm
    obtain ⟨u12, u13, u14, u15, u16, u17, u18, u19, u20, u21, F, v5, v10, v11, v22, v23, rfl, hP, q, p0, p1, p2, p3, p4, p5, p6, p7, p8, p9, px10⟩ := hI
    have hi' : i = 0 ∨ i = 1 ∨ i = 2 ∨ i = 3 ∨ i = 4 ∨ i = 5 ∨ i = 6 ∨ i = 7 ∨ i = 8 ∨ i = 9 ∨ i = 10 := by simp at hi; omega
    have hd := hm.2
    have hf := hm.1
    clear hm hi
    rcases hi' with rfl | rfl | rfl | rfl | rfl | rfl | rfl | rfl | rfl | rfl | rfl
    · refine RI.wpOp_plain rfl rfl ?_
      go_simp
      exact ⟨_, u13, u14, u15, u16, u17, u18, u19, u20, u21, F, v5, v10, v11, v22, v23, rfl, hP, (fun h => q (by rwa [RI.don_other _ _ _ (by decide)] at h)), fun _ => rfl, RI.keep (by decide) p1, RI.keep (by decide) p2, RI.keep (by decide) p3, RI.keep (by decide) p4, RI.keep (by decide) p5, RI.keep (by decide) p6, RI.keep (by decide) p7, RI.keep (by decide) p8, RI.keep (by decide) p9, RI.keep (by decide) px10⟩
    · refine RI.wpOp_plain rfl rfl ?_
      go_simp
      exact ⟨u12, _, u14, u15, u16, u17, u18, u19, u20, u21, F, v5, v10, v11, v22, v23, rfl, hP, (fun h => q (by rwa [RI.don_other _ _ _ (by decide)] at h)), RI.keep (by decide) p0, fun _ => rfl, RI.keep (by decide) p2, RI.keep (by decide) p3, RI.keep (by decide) p4, RI.keep (by decide) p5, RI.keep (by decide) p6, RI.keep (by decide) p7, RI.keep (by decide) p8, RI.keep (by decide) p9, RI.keep (by decide) px10⟩
    · refine RI.wpOp_plain rfl rfl ?_
      go_simp
      exact ⟨u12, u13, _, u15, u16, u17, u18, u19, u20, u21, F, v5, v10, v11, v22, v23, rfl, hP, (fun h => q (by rwa [RI.don_other _ _ _ (by decide)] at h)), RI.keep (by decide) p0, RI.keep (by decide) p1, fun _ => rfl, RI.keep (by decide) p3, RI.keep (by decide) p4, RI.keep (by decide) p5, RI.keep (by decide) p6, RI.keep (by decide) p7, RI.keep (by decide) p8, RI.keep (by decide) p9, RI.keep (by decide) px10⟩
    · have hd := hd _ rfl
      simp [Region.binds] at hd
      obtain rfl := p2 (by simp [hd])
      refine RI.wpOp_plain rfl rfl ?_
      go_simp
      exact ⟨u12, u13, _, _, u16, u17, u18, u19, u20, u21, F, v5, v10, v11, v22, v23, rfl, hP, (fun h => q (by rwa [RI.don_other _ _ _ (by decide)] at h)), RI.keep (by decide) p0, RI.keep (by decide) p1, RI.keep (by decide) p2, fun _ => rfl, RI.keep (by decide) p4, RI.keep (by decide) p5, RI.keep (by decide) p6, RI.keep (by decide) p7, RI.keep (by decide) p8, RI.keep (by decide) p9, RI.keep (by decide) px10⟩
    · have hd := hd _ rfl
      simp [Region.binds] at hd
      obtain rfl := p3 (by simp [hd])
      refine RI.wpOp_plain rfl rfl ?_
      have c0 : wx.cell? ⟨w.heap.size, 2, none⟩ = some (.int .u64 (dg a 2)) := hP.v0.c 2 (by decide)
      go_simp
      exact ⟨u12, u13, u14, _, _, u17, u18, u19, u20, u21, F, v5, v10, v11, v22, v23, rfl, hP, (fun h => q (by rwa [RI.don_other _ _ _ (by decide)] at h)), RI.keep (by decide) p0, RI.keep (by decide) p1, RI.keep (by decide) p2, RI.keep (by decide) p3, fun _ => rfl, RI.keep (by decide) p5, RI.keep (by decide) p6, RI.keep (by decide) p7, RI.keep (by decide) p8, RI.keep (by decide) p9, RI.keep (by decide) px10⟩
    · refine RI.wpOp_plain rfl rfl ?_
      go_simp
      exact ⟨u12, u13, u14, u15, u16, _, u18, u19, u20, u21, F, v5, v10, v11, v22, v23, rfl, hP, (fun h => q (by rwa [RI.don_other _ _ _ (by decide)] at h)), RI.keep (by decide) p0, RI.keep (by decide) p1, RI.keep (by decide) p2, RI.keep (by decide) p3, RI.keep (by decide) p4, fun _ => rfl, RI.keep (by decide) p6, RI.keep (by decide) p7, RI.keep (by decide) p8, RI.keep (by decide) p9, RI.keep (by decide) px10⟩
    · have hd := hd _ rfl
      simp [Region.binds] at hd
      obtain rfl := p5 (by simp [hd])
      refine RI.wpOp_plain rfl rfl ?_
      go_simp
      exact ⟨u12, u13, u14, u15, u16, _, _, u19, u20, u21, F, v5, v10, v11, v22, v23, rfl, hP, (fun h => q (by rwa [RI.don_other _ _ _ (by decide)] at h)), RI.keep (by decide) p0, RI.keep (by decide) p1, RI.keep (by decide) p2, RI.keep (by decide) p3, RI.keep (by decide) p4, RI.keep (by decide) p5, fun _ => rfl, RI.keep (by decide) p7, RI.keep (by decide) p8, RI.keep (by decide) p9, RI.keep (by decide) px10⟩
    · have hd := hd _ rfl
      simp [Region.binds] at hd
      obtain rfl := p6 (by simp [hd])
      refine RI.wpOp_plain rfl rfl ?_
      have c0 : wx.cell? ⟨w.heap.size + 1, 2, none⟩ = some (.int .u64 (dg b 2)) := hP.v1.c 2 (by decide)
      go_simp
      exact ⟨u12, u13, u14, u15, u16, u17, _, _, u20, u21, F, v5, v10, v11, v22, v23, rfl, hP, (fun h => q (by rwa [RI.don_other _ _ _ (by decide)] at h)), RI.keep (by decide) p0, RI.keep (by decide) p1, RI.keep (by decide) p2, RI.keep (by decide) p3, RI.keep (by decide) p4, RI.keep (by decide) p5, RI.keep (by decide) p6, fun _ => rfl, RI.keep (by decide) p8, RI.keep (by decide) p9, RI.keep (by decide) px10⟩
    · have hd := hd _ rfl
      simp [Region.binds] at hd
      obtain rfl := p1 (by simp [hd])
      obtain rfl := p4 (by simp [hd])
      obtain rfl := p7 (by simp [hd])
      refine RI.wpOp_plain rfl rfl ?_
      go_simp
      refine (KF.out _ _ _).mono ?_
      rintro e w1 ⟨rfl, hb1⟩
      exact ⟨u12, _, u14, u15, _, u17, u18, _, _, u21, F, v5, v10, v11, v22, v23, rfl, P4_below hP hb1, (fun h => q (by rwa [RI.don_other _ _ _ (by decide)] at h)), RI.keep (by decide) p0, RI.keep (by decide) p1, RI.keep (by decide) p2, RI.keep (by decide) p3, RI.keep (by decide) p4, RI.keep (by decide) p5, RI.keep (by decide) p6, RI.keep (by decide) p7, fun _ => rfl, RI.keep (by decide) p9, RI.keep (by decide) (px10)⟩
    · have hd := hd _ rfl
      simp [Region.binds] at hd
      obtain rfl := p0 (by simp [hd])
      obtain rfl := p1 (by simp [hd])
      obtain rfl := p2 (by simp [hd])
      obtain rfl := p3 (by simp [hd])
      obtain rfl := p4 (by simp [hd])
      obtain rfl := p5 (by simp [hd])
      obtain rfl := p6 (by simp [hd])
      obtain rfl := p7 (by simp [hd])
      obtain rfl := p8 (by simp [hd])
      refine RI.wpOp_plain rfl rfl ?_
      go_simp
      exact ⟨_, _, _, _, _, _, _, _, _, _, F, v5, v10, v11, v22, v23, rfl, hP, (fun h => q (by rwa [RI.don_other _ _ _ (by decide)] at h)), RI.keep (by decide) p0, RI.keep (by decide) p1, RI.keep (by decide) p2, RI.keep (by decide) p3, RI.keep (by decide) p4, RI.keep (by decide) p5, RI.keep (by decide) p6, RI.keep (by decide) p7, RI.keep (by decide) p8, fun _ => rfl, RI.keep (by decide) px10⟩
    · have hd := hd _ rfl
      simp [Region.binds] at hd
      obtain rfl := p0 (by simp [hd])
      obtain rfl := p1 (by simp [hd])
      obtain rfl := p2 (by simp [hd])
      obtain rfl := p3 (by simp [hd])
      obtain rfl := p4 (by simp [hd])
      obtain rfl := p5 (by simp [hd])
      obtain rfl := p6 (by simp [hd])
      obtain rfl := p7 (by simp [hd])
      obtain rfl := p8 (by simp [hd])
      obtain rfl := p9 (by simp [hd])
      refine RI.wpOp_plain rfl rfl ?_
      obtain rfl := q hf
      have c3 := hP.v3.c 2 (by decide)
      have f3 : ∀ o, wx.frozen? ⟨w.heap.size + 1 + 1 + 1, o, none⟩ = false := hP.v3.f
      go_simp
      exact ⟨_, _, _, _, _, _, _, _, _, _, _, v5, v10, v11, v22, v23, rfl, P4_set hP (by decide), (fun h => absurd h (by simp [RI.don])), RI.keep (by decide) p0, RI.keep (by decide) p1, RI.keep (by decide) p2, RI.keep (by decide) p3, RI.keep (by decide) p4, RI.keep (by decide) p5, RI.keep (by decide) p6, RI.keep (by decide) p7, RI.keep (by decide) p8, RI.keep (by decide) p9, fun _ => rfl⟩
  clear m0
  intro d x wx hI hd
  obtain ⟨u12, u13, u14, u15, u16, u17, u18, u19, u20, u21, F, v5, v10, v11, v22, v23, rfl, hP, q, p0, p1, p2, p3, p4, p5, p6, p7, p8, p9, px10⟩ := hI
  obtain rfl := p0 (hd 0 (by decide))
  obtain rfl := p1 (hd 1 (by decide))
  obtain rfl := p2 (hd 2 (by decide))
  obtain rfl := p3 (hd 3 (by decide))
  obtain rfl := p4 (hd 4 (by decide))
  obtain rfl := p5 (hd 5 (by decide))
  obtain rfl := p6 (hd 6 (by decide))
  obtain rfl := p7 (hd 7 (by decide))
  obtain rfl := p8 (hd 8 (by decide))
  obtain rfl := p9 (hd 9 (by decide))
  rw [px10 (hd 10 (by decide))] at hP
  have m0 := hP
  clear p0 p1 p2 p3 p4 p5 p6 p7 p8 p9 px10 q hd hP
  go_wp2_with fail
  rw [rounds_succ]
  go_upto_region 5 with fail
  refine RI.wp_region_inv (PB3 w a b f (.func (Fn.func 31) #[] #[]) (upd (upd (upd (dg 0) 0 (f (dg a 0) (dg b 0))) 1 (f (dg a 1) (dg b 1))) 2 (f (dg a 2) (dg b 2)))) (by kernel_rfl) (by kernel_rfl) ?_ ?_ ?_
  · exact ⟨_, _, _, _, _, _, _, _, _, _, upd (upd (upd (dg 0) 0 (f (dg a 0) (dg b 0))) 1 (f (dg a 1) (dg b 1))) 2 (f (dg a 2) (dg b 2)), _, _, _, _, _, rfl, P4_drew m0, fun _ => rfl, nofun, nofun, nofun, nofun, nofun, nofun, nofun, nofun, nofun, nofun, nofun⟩
  · clear m0
    intro d x wx i hI hi hm
    obtain ⟨u12, u13, u14, u15, u16, u17, u18, u19, u20, u21, F, v5, v10, v11, v22, v23, rfl, hP, q, p0, p1, p2, p3, p4, p5, p6, p7, p8, p9, px10⟩ := hI
    have hi' : i = 0 ∨ i = 1 ∨ i = 2 ∨ i = 3 ∨ i = 4 ∨ i = 5 ∨ i = 6 ∨ i = 7 ∨ i = 8 ∨ i = 9 ∨ i = 10 := by simp at hi; omega
    have hd := hm.2
    have hf := hm.1
    clear hm hi
    rcases hi' with rfl | rfl | rfl | rfl | rfl | rfl | rfl | rfl | rfl | rfl | rfl
    · refine RI.wpOp_plain rfl rfl ?_
      go_simp
      exact ⟨_, u13, u14, u15, u16, u17, u18, u19, u20, u21, F, v5, v10, v11, v22, v23, rfl, hP, (fun h => q (by rwa [RI.don_other _ _ _ (by decide)] at h)), fun _ => rfl, RI.keep (by decide) p1, RI.keep (by decide) p2, RI.keep (by decide) p3, RI.keep (by decide) p4, RI.keep (by decide) p5, RI.keep (by decide) p6, RI.keep (by decide) p7, RI.keep (by decide) p8, RI.keep (by decide) p9, RI.keep (by decide) px10⟩
    · refine RI.wpOp_plain rfl rfl ?_
      go_simp
      exact ⟨u12, _, u14, u15, u16, u17, u18, u19, u20, u21, F, v5, v10, v11, v22, v23, rfl, hP, (fun h => q (by rwa [RI.don_other _ _ _ (by decide)] at h)), RI.keep (by decide) p0, fun _ => rfl, RI.keep (by decide) p2, RI.keep (by decide) p3, RI.keep (by decide) p4, RI.keep (by decide) p5, RI.keep (by decide) p6, RI.keep (by decide) p7, RI.keep (by decide) p8, RI.keep (by decide) p9, RI.keep (by decide) px10⟩
    · refine RI.wpOp_plain rfl rfl ?_
      go_simp
      exact ⟨u12, u13, _, u15, u16, u17, u18, u19, u20, u21, F, v5, v10, v11, v22, v23, rfl, hP, (fun h => q (by rwa [RI.don_other _ _ _ (by decide)] at h)), RI.keep (by decide) p0, RI.keep (by decide) p1, fun _ => rfl, RI.keep (by decide) p3, RI.keep (by decide) p4, RI.keep (by decide) p5, RI.keep (by decide) p6, RI.keep (by decide) p7, RI.keep (by decide) p8, RI.keep (by decide) p9, RI.keep (by decide) px10⟩
    · have hd := hd _ rfl
      simp [Region.binds] at hd
      obtain rfl := p2 (by simp [hd])
      refine RI.wpOp_plain rfl rfl ?_
      go_simp
      exact ⟨u12, u13, _, _, u16, u17, u18, u19, u20, u21, F, v5, v10, v11, v22, v23, rfl, hP, (fun h => q (by rwa [RI.don_other _ _ _ (by decide)] at h)), RI.keep (by decide) p0, RI.keep (by decide) p1, RI.keep (by decide) p2, fun _ => rfl, RI.keep (by decide) p4, RI.keep (by decide) p5, RI.keep (by decide) p6, RI.keep (by decide) p7, RI.keep (by decide) p8, RI.keep (by decide) p9, RI.keep (by decide) px10⟩
    · have hd := hd _ rfl
      simp [Region.binds] at hd
      obtain rfl := p3 (by simp [hd])
      refine RI.wpOp_plain rfl rfl ?_
      have c0 : wx.cell? ⟨w.heap.size, 3, none⟩ = some (.int .u64 (dg a 3)) := hP.v0.c 3 (by decide)
      go_simp
      exact ⟨u12, u13, u14, _, _, u17, u18, u19, u20, u21, F, v5, v10, v11, v22, v23, rfl, hP, (fun h => q (by rwa [RI.don_other _ _ _ (by decide)] at h)), RI.keep (by decide) p0, RI.keep (by decide) p1, RI.keep (by decide) p2, RI.keep (by decide) p3, fun _ => rfl, RI.keep (by decide) p5, RI.keep (by decide) p6, RI.keep (by decide) p7, RI.keep (by decide) p8, RI.keep (by decide) p9, RI.keep (by decide) px10⟩
    · refine RI.wpOp_plain rfl rfl ?_
      go_simp
      exact ⟨u12, u13, u14, u15, u16, _, u18, u19, u20, u21, F, v5, v10, v11, v22, v23, rfl, hP, (fun h => q (by rwa [RI.don_other _ _ _ (by decide)] at h)), RI.keep (by decide) p0, RI.keep (by decide) p1, RI.keep (by decide) p2, RI.keep (by decide) p3, RI.keep (by decide) p4, fun _ => rfl, RI.keep (by decide) p6, RI.keep (by decide) p7, RI.keep (by decide) p8, RI.keep (by decide) p9, RI.keep (by decide) px10⟩
    · have hd := hd _ rfl
      simp [Region.binds] at hd
      obtain rfl := p5 (by simp [hd])
      refine RI.wpOp_plain rfl rfl ?_
      go_simp
      exact ⟨u12, u13, u14, u15, u16, _, _, u19, u20, u21, F, v5, v10, v11, v22, v23, rfl, hP, (fun h => q (by rwa [RI.don_other _ _ _ (by decide)] at h)), RI.keep (by decide) p0, RI.keep (by decide) p1, RI.keep (by decide) p2, RI.keep (by decide) p3, RI.keep (by decide) p4, RI.keep (by decide) p5, fun _ => rfl, RI.keep (by decide) p7, RI.keep (by decide) p8, RI.keep (by decide) p9, RI.keep (by decide) px10⟩
    · have hd := hd _ rfl
      simp [Region.binds] at hd
      obtain rfl := p6 (by simp [hd])
      refine RI.wpOp_plain rfl rfl ?_
      have c0 : wx.cell? ⟨w.heap.size + 1, 3, none⟩ = some (.int .u64 (dg b 3)) := hP.v1.c 3 (by decide)
      go_simp
      exact ⟨u12, u13, u14, u15, u16, u17, _, _, u20, u21, F, v5, v10, v11, v22, v23, rfl, hP, (fun h => q (by rwa [RI.don_other _ _ _ (by decide)] at h)), RI.keep (by decide) p0, RI.keep (by decide) p1, RI.keep (by decide) p2, RI.keep (by decide) p3, RI.keep (by decide) p4, RI.keep (by decide) p5, RI.keep (by decide) p6, fun _ => rfl, RI.keep (by decide) p8, RI.keep (by decide) p9, RI.keep (by decide) px10⟩
    · have hd := hd _ rfl
      simp [Region.binds] at hd
      obtain rfl := p1 (by simp [hd])
      obtain rfl := p4 (by simp [hd])
      obtain rfl := p7 (by simp [hd])
      refine RI.wpOp_plain rfl rfl ?_
      go_simp
      refine (KF.out _ _ _).mono ?_
      rintro e w1 ⟨rfl, hb1⟩
      exact ⟨u12, _, u14, u15, _, u17, u18, _, _, u21, F, v5, v10, v11, v22, v23, rfl, P4_below hP hb1, (fun h => q (by rwa [RI.don_other _ _ _ (by decide)] at h)), RI.keep (by decide) p0, RI.keep (by decide) p1, RI.keep (by decide) p2, RI.keep (by decide) p3, RI.keep (by decide) p4, RI.keep (by decide) p5, RI.keep (by decide) p6, RI.keep (by decide) p7, fun _ => rfl, RI.keep (by decide) p9, RI.keep (by decide) (px10)⟩
    · have hd := hd _ rfl
      simp [Region.binds] at hd
      obtain rfl := p0 (by simp [hd])
      obtain rfl := p1 (by simp [hd])
      obtain rfl := p2 (by simp [hd])
      obtain rfl := p3 (by simp [hd])
      obtain rfl := p4 (by simp [hd])
      obtain rfl := p5 (by simp [hd])
      obtain rfl := p6 (by simp [hd])
      obtain rfl := p7 (by simp [hd])
      obtain rfl := p8 (by simp [hd])
      refine RI.wpOp_plain rfl rfl ?_
      go_simp
      exact ⟨_, _, _, _, _, _, _, _, _, _, F, v5, v10, v11, v22, v23, rfl, hP, (fun h => q (by rwa [RI.don_other _ _ _ (by decide)] at h)), RI.keep (by decide) p0, RI.keep (by decide) p1, RI.keep (by decide) p2, RI.keep (by decide) p3, RI.keep (by decide) p4, RI.keep (by decide) p5, RI.keep (by decide) p6, RI.keep (by decide) p7, RI.keep (by decide) p8, fun _ => rfl, RI.keep (by decide) px10⟩
    · have hd := hd _ rfl
      simp [Region.binds] at hd
      obtain rfl := p0 (by simp [hd])
      obtain rfl := p1 (by simp [hd])
      obtain rfl := p2 (by simp [hd])
      obtain rfl := p3 (by simp [hd])
      obtain rfl := p4 (by simp [hd])
      obtain rfl := p5 (by simp [hd])
      obtain rfl := p6 (by simp [hd])
      obtain rfl := p7 (by simp [hd])
      obtain rfl := p8 (by simp [hd])
      obtain rfl := p9 (by simp [hd])
      refine RI.wpOp_plain rfl rfl ?_
      obtain rfl := q hf
      have c3 := hP.v3.c 3 (by decide)
      have f3 : ∀ o, wx.frozen? ⟨w.heap.size + 1 + 1 + 1, o, none⟩ = false := hP.v3.f
      go_simp
      exact ⟨_, _, _, _, _, _, _, _, _, _, _, v5, v10, v11, v22, v23, rfl, P4_set hP (by decide), (fun h => absurd h (by simp [RI.don])), RI.keep (by decide) p0, RI.keep (by decide) p1, RI.keep (by decide) p2, RI.keep (by decide) p3, RI.keep (by decide) p4, RI.keep (by decide) p5, RI.keep (by decide) p6, RI.keep (by decide) p7, RI.keep (by decide) p8, RI.keep (by decide) p9, fun _ => rfl⟩
  clear m0
  intro d x wx hI hd
  obtain ⟨u12, u13, u14, u15, u16, u17, u18, u19, u20, u21, F, v5, v10, v11, v22, v23, rfl, hP, q, p0, p1, p2, p3, p4, p5, p6, p7, p8, p9, px10⟩ := hI
  obtain rfl := p0 (hd 0 (by decide))
  obtain rfl := p1 (hd 1 (by decide))
  obtain rfl := p2 (hd 2 (by decide))
  obtain rfl := p3 (hd 3 (by decide))
  obtain rfl := p4 (hd 4 (by decide))
  obtain rfl := p5 (hd 5 (by decide))
  obtain rfl := p6 (hd 6 (by decide))
  obtain rfl := p7 (hd 7 (by decide))
  obtain rfl := p8 (hd 8 (by decide))
  obtain rfl := p9 (hd 9 (by decide))
  rw [px10 (hd 10 (by decide))] at hP
  have m0 := hP
  clear p0 p1 p2 p3 p4 p5 p6 p7 p8 p9 px10 q hd hP
  go_wp2_with fail
  rw [rounds_succ]
  have c3 : ∀ o, o < 4 → wx.cell? ⟨w.heap.size + 1 + 1 + 1, o, none⟩ = some (.int .u64 (dg N o)) := fun o ho => by
    rw [← HN.out o ho, m0.v3.c o ho]
    have : o = 0 ∨ o = 1 ∨ o = 2 ∨ o = 3 := by omega
    rcases this with rfl | rfl | rfl | rfl <;> rfl
  have c2 : ∀ o, o < 4 → wx.cell? ⟨w.heap.size + 1 + 1, o, none⟩ = some (.int .u64 (dg 0 o)) := m0.v2.c
  have f2 : ∀ o, wx.frozen? ⟨w.heap.size + 1 + 1, o, none⟩ = false := m0.v2.f
  have z2 := m0.v2.hi
  have HV : Hid (Vb w.heap.size (w.heap.size + 1 + 1) 4 (dg N) _) := Vb_set4 m0.v2
  have HB : Hid (Below w.heap.size w _) := Bel_set4 (h := w.heap.size + 1 + 1) (m := N) m0.bel (by omega)
  clear m0
  go_wp2_with fail
  exact bodyPost_ret (v := Wd N) (resultTw _ _ _ (w.heap.size + 1 + 1) N 6 rfl rfl HV.out.c) rfl ⟨rfl, HB.out⟩
end Go.Proofs.Ytblodmjnhmfjeaa
/- twos.And, Or, Xor, Not: the bits of words. -/
namespace Go.Proofs.Ytblodmjnhmfjeaa
open Go.RowKit Go.Shelf
/-- The bits that a word has not. -/
def nt (a : Nat) : Nat := 2 ^ 256 - 1 - a % 2 ^ 256
theorem nt_lt (a : Nat) : nt a < 2 ^ 256 := by unfold nt; omega
theorem dg_and (a b o : Nat) : bits .and .u64 (dg a o) (dg b o) = dg (a &&& b) o := by
  unfold dg
  rw [u64_and_nat _ _ (Nat.mod_lt _ (by decide)) (Nat.mod_lt _ (by decide))]
  congr 1
  rw [show (18446744073709551616 : Nat) = 2 ^ 64 from rfl, ← Nat.and_mod_two_pow, ← Nat.shiftRight_eq_div_pow, ← Nat.shiftRight_eq_div_pow, ← Nat.shiftRight_eq_div_pow, Nat.shiftRight_and_distrib]
theorem dg_or (a b o : Nat) : bits .or .u64 (dg a o) (dg b o) = dg (a ||| b) o := by
  unfold dg
  rw [u64_or_nat _ _ (Nat.mod_lt _ (by decide)) (Nat.mod_lt _ (by decide))]
  congr 1
  rw [show (18446744073709551616 : Nat) = 2 ^ 64 from rfl, ← Nat.or_mod_two_pow, ← Nat.shiftRight_eq_div_pow, ← Nat.shiftRight_eq_div_pow, ← Nat.shiftRight_eq_div_pow, Nat.shiftRight_or_distrib]
theorem dg_xor (a b o : Nat) : bits .xor .u64 (dg a o) (dg b o) = dg (a ^^^ b) o := by
  unfold dg
  rw [u64_xor_nat _ _ (Nat.mod_lt _ (by decide)) (Nat.mod_lt _ (by decide))]
  congr 1
  rw [show (18446744073709551616 : Nat) = 2 ^ 64 from rfl, ← Nat.xor_mod_two_pow, ← Nat.shiftRight_eq_div_pow, ← Nat.shiftRight_eq_div_pow, ← Nat.shiftRight_eq_div_pow, Nat.shiftRight_xor_distrib]
theorem xor_ones (x : Nat) (h : x < 2 ^ 64) : (2 ^ 64 - 1) ^^^ x = 2 ^ 64 - (x + 1) := by
  apply Nat.eq_of_testBit_eq
  intro i
  rw [Nat.testBit_xor, Nat.testBit_two_pow_sub_one, Nat.testBit_two_pow_sub_succ h]
  by_cases hi : i < 64
  · rw [decide_eq_true hi]; simp
  · rw [decide_eq_false hi, Nat.testBit_lt_two_pow (Nat.lt_of_lt_of_le h (Nat.pow_le_pow_right (by decide) (by omega)))]; rfl
theorem dg_not (a o : Nat) (ho : o < 4) : bits .xor .u64 IntKind.u64.max (dg a o) = dg (nt a) o := by
  have e : IntKind.u64.max = ((2 ^ 64 - 1 : Nat) : Int) := by decide
  rw [e]
  unfold dg
  rw [u64_xor_nat _ _ (by decide) (Nat.mod_lt _ (by decide)), xor_ones _ (Nat.mod_lt _ (by decide))]
  unfold nt
  have : o = 0 ∨ o = 1 ∨ o = 2 ∨ o = 3 := by omega
  rcases this with rfl | rfl | rfl | rfl <;> omega
theorem and_clo (x y : Int) (w : World) :
    Calls Try.prog 32 #[.int .u64 x, .int .u64 y] w fun e w' => e = .returned (.int .u64 (bits .and .u64 x y)) ∧ Below w.heap.size w w' := by
  go_enter Try.func32, Try.ntmps32
  go_wp2_with fail
  go_ret
  exact ⟨rfl, Below.refl _ _⟩
theorem and_any (a b : Nat) (w : World) :
    Calls Try.prog 11 #[Wd a, Wd b] w fun e w' => e = .returned (Wd (a &&& b)) ∧ Below w.heap.size w w' := by
  have K : Hid (∀ w : World, Calls Try.prog 30 #[Wd a, Wd b, .func (Fn.func 32) #[] #[]] w fun e w' => e = .returned (Wd (a &&& b)) ∧ Below w.heap.size w w') := fun w => pbp_and a b _ (bits .and .u64) (fun x y w => and_clo x y w) (fun o _ => dg_and a b o) w
  generalize a &&& b = n at *
  have v0 : Vb w.heap.size (w.heap.size + 1 + 1) 4 (dg 0) (((w.alloc (.cells #[.int .u64 (dg a 0), .int .u64 (dg a 1), .int .u64 (dg a 2), .int .u64 (dg a 3)] 24)).alloc (.cells #[.int .u64 (dg b 0), .int .u64 (dg b 1), .int .u64 (dg b 2), .int .u64 (dg b 3)] 24)).alloc (.cells #[.int .u64 0, .int .u64 0, .int .u64 0, .int .u64 0] 24)) := Vb_new0e (by simp) (by omega)
  have b0 : Below w.heap.size w (((w.alloc (.cells #[.int .u64 (dg a 0), .int .u64 (dg a 1), .int .u64 (dg a 2), .int .u64 (dg a 3)] 24)).alloc (.cells #[.int .u64 (dg b 0), .int .u64 (dg b 1), .int .u64 (dg b 2), .int .u64 (dg b 3)] 24)).alloc (.cells #[.int .u64 0, .int .u64 0, .int .u64 0, .int .u64 0] 24)) := (((Below.refl _ _).alloc (Nat.le_refl _) _).alloc (by simp) _).alloc (by simp <;> omega) _
  conv => arg 3; unfold Wd
  go_enter Try.func11, Try.ntmps11
  go_wp2_with fail
  generalize ((w.alloc (.cells #[.int .u64 (dg a 0), .int .u64 (dg a 1), .int .u64 (dg a 2), .int .u64 (dg a 3)] 24)).alloc (.cells #[.int .u64 (dg b 0), .int .u64 (dg b 1), .int .u64 (dg b 2), .int .u64 (dg b 3)] 24)).alloc (.cells #[.int .u64 0, .int .u64 0, .int .u64 0, .int .u64 0] 24) = W0 at v0 b0 ⊢
  refine (K.out _).mono ?_
  rintro e w1 ⟨rfl, hb⟩
  have v1 := Vb_below v0 hb
  have b1 := b0.trans (hb.mono (Nat.le_trans (by omega) (Nat.le_of_lt v0.hi)))
  clear hb v0 b0
  have c1 : ∀ o, o < 4 → w1.cell? ⟨w.heap.size + 1 + 1, o, none⟩ = some (.int .u64 (dg 0 o)) := v1.c
  have f1 : ∀ o, w1.frozen? ⟨w.heap.size + 1 + 1, o, none⟩ = false := v1.f
  have z1 := v1.hi
  have HV : Hid (Vb w.heap.size (w.heap.size + 1 + 1) 4 (dg n) _) := Vb_set4 v1
  have HB : Hid (Below w.heap.size w _) := Bel_set4 (h := w.heap.size + 1 + 1) (m := n) b1 (by omega)
  clear v1 b1
  unfold Wd
  go_wp2_with fail
  exact bodyPost_ret (v := Wd n) (resultTw _ _ _ (w.heap.size + 1 + 1) n 4 rfl rfl HV.out.c) rfl ⟨rfl, HB.out⟩
theorem or_clo (x y : Int) (w : World) :
    Calls Try.prog 33 #[.int .u64 x, .int .u64 y] w fun e w' => e = .returned (.int .u64 (bits .or .u64 x y)) ∧ Below w.heap.size w w' := by
  go_enter Try.func33, Try.ntmps33
  go_wp2_with fail
  go_ret
  exact ⟨rfl, Below.refl _ _⟩
theorem or_any (a b : Nat) (w : World) :
    Calls Try.prog 12 #[Wd a, Wd b] w fun e w' => e = .returned (Wd (a ||| b)) ∧ Below w.heap.size w w' := by
  have K : Hid (∀ w : World, Calls Try.prog 30 #[Wd a, Wd b, .func (Fn.func 33) #[] #[]] w fun e w' => e = .returned (Wd (a ||| b)) ∧ Below w.heap.size w w') := fun w => pbp_or a b _ (bits .or .u64) (fun x y w => or_clo x y w) (fun o _ => dg_or a b o) w
  generalize a ||| b = n at *
  have v0 : Vb w.heap.size (w.heap.size + 1 + 1) 4 (dg 0) (((w.alloc (.cells #[.int .u64 (dg a 0), .int .u64 (dg a 1), .int .u64 (dg a 2), .int .u64 (dg a 3)] 24)).alloc (.cells #[.int .u64 (dg b 0), .int .u64 (dg b 1), .int .u64 (dg b 2), .int .u64 (dg b 3)] 24)).alloc (.cells #[.int .u64 0, .int .u64 0, .int .u64 0, .int .u64 0] 24)) := Vb_new0e (by simp) (by omega)
  have b0 : Below w.heap.size w (((w.alloc (.cells #[.int .u64 (dg a 0), .int .u64 (dg a 1), .int .u64 (dg a 2), .int .u64 (dg a 3)] 24)).alloc (.cells #[.int .u64 (dg b 0), .int .u64 (dg b 1), .int .u64 (dg b 2), .int .u64 (dg b 3)] 24)).alloc (.cells #[.int .u64 0, .int .u64 0, .int .u64 0, .int .u64 0] 24)) := (((Below.refl _ _).alloc (Nat.le_refl _) _).alloc (by simp) _).alloc (by simp <;> omega) _
  conv => arg 3; unfold Wd
  go_enter Try.func12, Try.ntmps12
  go_wp2_with fail
  generalize ((w.alloc (.cells #[.int .u64 (dg a 0), .int .u64 (dg a 1), .int .u64 (dg a 2), .int .u64 (dg a 3)] 24)).alloc (.cells #[.int .u64 (dg b 0), .int .u64 (dg b 1), .int .u64 (dg b 2), .int .u64 (dg b 3)] 24)).alloc (.cells #[.int .u64 0, .int .u64 0, .int .u64 0, .int .u64 0] 24) = W0 at v0 b0 ⊢
  refine (K.out _).mono ?_
  rintro e w1 ⟨rfl, hb⟩
  have v1 := Vb_below v0 hb
  have b1 := b0.trans (hb.mono (Nat.le_trans (by omega) (Nat.le_of_lt v0.hi)))
  clear hb v0 b0
  have c1 : ∀ o, o < 4 → w1.cell? ⟨w.heap.size + 1 + 1, o, none⟩ = some (.int .u64 (dg 0 o)) := v1.c
  have f1 : ∀ o, w1.frozen? ⟨w.heap.size + 1 + 1, o, none⟩ = false := v1.f
  have z1 := v1.hi
  have HV : Hid (Vb w.heap.size (w.heap.size + 1 + 1) 4 (dg n) _) := Vb_set4 v1
  have HB : Hid (Below w.heap.size w _) := Bel_set4 (h := w.heap.size + 1 + 1) (m := n) b1 (by omega)
  clear v1 b1
  unfold Wd
  go_wp2_with fail
  exact bodyPost_ret (v := Wd n) (resultTw _ _ _ (w.heap.size + 1 + 1) n 4 rfl rfl HV.out.c) rfl ⟨rfl, HB.out⟩
theorem xor_clo (x y : Int) (w : World) :
    Calls Try.prog 34 #[.int .u64 x, .int .u64 y] w fun e w' => e = .returned (.int .u64 (bits .xor .u64 x y)) ∧ Below w.heap.size w w' := by
  go_enter Try.func34, Try.ntmps34
  go_wp2_with fail
  go_ret
  exact ⟨rfl, Below.refl _ _⟩
theorem xor_any (a b : Nat) (w : World) :
    Calls Try.prog 13 #[Wd a, Wd b] w fun e w' => e = .returned (Wd (a ^^^ b)) ∧ Below w.heap.size w w' := by
  have K : Hid (∀ w : World, Calls Try.prog 30 #[Wd a, Wd b, .func (Fn.func 34) #[] #[]] w fun e w' => e = .returned (Wd (a ^^^ b)) ∧ Below w.heap.size w w') := fun w => pbp_xor a b _ (bits .xor .u64) (fun x y w => xor_clo x y w) (fun o _ => dg_xor a b o) w
  generalize a ^^^ b = n at *
  have v0 : Vb w.heap.size (w.heap.size + 1 + 1) 4 (dg 0) (((w.alloc (.cells #[.int .u64 (dg a 0), .int .u64 (dg a 1), .int .u64 (dg a 2), .int .u64 (dg a 3)] 24)).alloc (.cells #[.int .u64 (dg b 0), .int .u64 (dg b 1), .int .u64 (dg b 2), .int .u64 (dg b 3)] 24)).alloc (.cells #[.int .u64 0, .int .u64 0, .int .u64 0, .int .u64 0] 24)) := Vb_new0e (by simp) (by omega)
  have b0 : Below w.heap.size w (((w.alloc (.cells #[.int .u64 (dg a 0), .int .u64 (dg a 1), .int .u64 (dg a 2), .int .u64 (dg a 3)] 24)).alloc (.cells #[.int .u64 (dg b 0), .int .u64 (dg b 1), .int .u64 (dg b 2), .int .u64 (dg b 3)] 24)).alloc (.cells #[.int .u64 0, .int .u64 0, .int .u64 0, .int .u64 0] 24)) := (((Below.refl _ _).alloc (Nat.le_refl _) _).alloc (by simp) _).alloc (by simp <;> omega) _
  conv => arg 3; unfold Wd
  go_enter Try.func13, Try.ntmps13
  go_wp2_with fail
  generalize ((w.alloc (.cells #[.int .u64 (dg a 0), .int .u64 (dg a 1), .int .u64 (dg a 2), .int .u64 (dg a 3)] 24)).alloc (.cells #[.int .u64 (dg b 0), .int .u64 (dg b 1), .int .u64 (dg b 2), .int .u64 (dg b 3)] 24)).alloc (.cells #[.int .u64 0, .int .u64 0, .int .u64 0, .int .u64 0] 24) = W0 at v0 b0 ⊢
  refine (K.out _).mono ?_
  rintro e w1 ⟨rfl, hb⟩
  have v1 := Vb_below v0 hb
  have b1 := b0.trans (hb.mono (Nat.le_trans (by omega) (Nat.le_of_lt v0.hi)))
  clear hb v0 b0
  have c1 : ∀ o, o < 4 → w1.cell? ⟨w.heap.size + 1 + 1, o, none⟩ = some (.int .u64 (dg 0 o)) := v1.c
  have f1 : ∀ o, w1.frozen? ⟨w.heap.size + 1 + 1, o, none⟩ = false := v1.f
  have z1 := v1.hi
  have HV : Hid (Vb w.heap.size (w.heap.size + 1 + 1) 4 (dg n) _) := Vb_set4 v1
  have HB : Hid (Below w.heap.size w _) := Bel_set4 (h := w.heap.size + 1 + 1) (m := n) b1 (by omega)
  clear v1 b1
  unfold Wd
  go_wp2_with fail
  exact bodyPost_ret (v := Wd n) (resultTw _ _ _ (w.heap.size + 1 + 1) n 4 rfl rfl HV.out.c) rfl ⟨rfl, HB.out⟩
theorem not_clo (x y : Int) (w : World) :
    Calls Try.prog 31 #[.int .u64 x, .int .u64 y] w fun e w' => e = .returned (.int .u64 (bits .xor .u64 IntKind.u64.max x)) ∧ Below w.heap.size w w' := by
  go_enter Try.func31, Try.ntmps31
  go_wp2_with fail
  go_ret
  exact ⟨rfl, Below.refl _ _⟩
theorem not_any (a : Nat) (w : World) :
    Calls Try.prog 10 #[Wd a] w fun e w' => e = .returned (Wd (nt a)) ∧ Below w.heap.size w w' := by
  have K : Hid (∀ w : World, Calls Try.prog 30 #[Wd a, Wd a, .func (Fn.func 31) #[] #[]] w fun e w' => e = .returned (Wd (nt a)) ∧ Below w.heap.size w w') := fun w => pbp_not a a _ (fun x _ => bits .xor .u64 IntKind.u64.max x) (fun x y w => not_clo x y w) (fun o ho => dg_not a o ho) w
  generalize nt a = n at *
  have m0 := M2_start w a
  conv => arg 3; unfold Wd
  go_enter Try.func10, Try.ntmps10
  go_wp2_with fail
  generalize (w.alloc (.cells #[.int .u64 (dg a 0), .int .u64 (dg a 1), .int .u64 (dg a 2), .int .u64 (dg a 3)] 24)).alloc (.cells #[.int .u64 0, .int .u64 0, .int .u64 0, .int .u64 0] 24) = W0 at m0 ⊢
  refine (K.out _).mono ?_
  rintro e w1 ⟨rfl, hb⟩
  have HM : Hid (M2 w a 0 w1) := M2_below m0 hb
  clear hb m0
  have c1 : ∀ o, o < 4 → w1.cell? ⟨w.heap.size + 1, o, none⟩ = some (.int .u64 (dg 0 o)) := HM.out.v1.c
  have f1 : ∀ o, w1.frozen? ⟨w.heap.size + 1, o, none⟩ = false := HM.out.v1.f
  have z1 := HM.out.v1.hi
  unfold Wd
  go_wp2_with fail
  have m1 := M2_set1 (m := n) HM.out
  exact bodyPost_ret (v := Wd n) (resultTw _ _ _ (w.heap.size + 1) n 2 rfl rfl m1.v1.c) rfl ⟨rfl, m1.bel⟩
end Go.Proofs.Ytblodmjnhmfjeaa
/- twos.part, atMost, split: what a shift goes by. -/
namespace Go.Proofs.Ytblodmjnhmfjeaa
open Go.RowKit Go.Shelf
theorem part_out (a : Nat) (i : Int) (h : i < 0 ∨ 4 ≤ i) (w : World) :
    Calls Try.prog 41 #[Wd a, .int .i64 i] w fun e w' => e = .returned (.int .u64 0) ∧ Below w.heap.size w w' := by
  conv => arg 3; unfold Wd
  by_cases h0 : i < 0
  · go_enter Try.func41, Try.ntmps41
    go_wp2_with fail
    go_ret
    exact ⟨rfl, (Below.refl _ _).alloc (Nat.le_refl _) _⟩
  · have h1 : 4 ≤ i := by omega
    clear h
    go_enter Try.func41, Try.ntmps41
    go_wp2_with fail
    go_ret
    exact ⟨rfl, (Below.refl _ _).alloc (Nat.le_refl _) _⟩
theorem part_in (a i : Nat) (h : i < 4) (w : World) :
    Calls Try.prog 41 #[Wd a, .int .i64 (i : Int)] w fun e w' => e = .returned (.int .u64 (dg a i)) ∧ Below w.heap.size w w' := by
  conv => arg 3; unfold Wd
  have : i = 0 ∨ i = 1 ∨ i = 2 ∨ i = 3 := by omega
  clear h
  rcases this with rfl | rfl | rfl | rfl
  all_goals
    go_enter Try.func41, Try.ntmps41
    go_wp2_with fail
    go_ret
    exact ⟨rfl, (Below.refl _ _).alloc (Nat.le_refl _) _⟩
theorem dg_low (n m : Nat) (hm : m < 18446744073709551616) (h : n ≤ m) : dg n 0 = (n : Int) := by
  unfold dg
  rw [Nat.mul_zero, Nat.pow_zero, Nat.div_one, Nat.mod_eq_of_lt (by omega)]
theorem cm_pos (a b : Nat) : decide (0 < cm (a : Int) (b : Int)) = decide (b < a) := by
  rw [decide_eq_decide]; unfold cm
  split
  · constructor <;> intro _ <;> omega
  · split <;> constructor <;> intro _ <;> omega
/-- What holds while the two are held against each other. -/
def AM1 (w : World) (n m : Nat) (C : Int) (v : Bool) (d : Nat → Bool) (x : Act) (wx : World) : Prop :=
  ∃ (u5 u6 u7 u8 u9 : Value),
    x = { tmps := #[.agg #[.int .u64 (dg n 0), .int .u64 (dg n 1), .int .u64 (dg n 2), .int .u64 (dg n 3)], .int .u64 (m : Int), .pointer (some ⟨w.heap.size, 0, none⟩), undef, .int .u64 0, u5, u6, u7, u8, u9, undef, undef, undef], defers := [] } ∧
    (S1 w n wx) ∧
    (d 0 = true → u5 = Wd n) ∧ (d 1 = true → u6 = .int .u64 (m : Int)) ∧ (d 2 = true → u7 = Wd m) ∧ (d 3 = true → u8 = .int .i64 C) ∧ (d 4 = true → u9 = .bool v)
set_option maxRecDepth 100000 in
theorem atmost_any (n m : Nat) (hn : n < 2 ^ 256) (hm : m < 18446744073709551616) (w : World) :
    Calls Try.prog 47 #[Wd n, .int .u64 (m : Int)] w fun e w' => e = .returned (.int .u64 ((min n m : Nat) : Int)) ∧ Below w.heap.size w w' := by
  have KI : Hid (∀ w : World, Calls Try.prog 16 #[.int .u64 (m : Int)] w fun e w' => e = .returned (Wd m) ∧ Below w.heap.size w w') := fun w => int_any m hm w
  have KC : Hid (∀ w : World, Calls Try.prog 19 #[Wd n, Wd m] w fun e w' => e = .returned (.int .i64 (cm (n : Int) (m : Int))) ∧ Below w.heap.size w w') := fun w => cmp_any n m hn (by omega) w
  have R1 : Hid (decide (0 < cm (n : Int) (m : Int)) = decide (m < n)) := cm_pos n m
  have E : Hid (if decide (m < n) = true then min n m = m else (min n m = n ∧ dg n 0 = (n : Int))) := by
    by_cases h : m < n
    · rw [decide_eq_true h]; exact (if_pos rfl).mpr (by omega)
    · rw [decide_eq_false h]; exact ⟨by omega, dg_low n m hm (by omega)⟩
  clear hn hm
  have m0 := S1_start w n
  generalize cm (n : Int) (m : Int) = C at *
  generalize decide (m < n) = v at *
  generalize min n m = z at *
  conv => arg 3; unfold Wd
  go_enter Try.func47, Try.ntmps47
  go_upto_region 1 with fail
  generalize w.alloc (.cells #[.int .u64 (dg n 0), .int .u64 (dg n 1), .int .u64 (dg n 2), .int .u64 (dg n 3)] 24) = W0 at m0 ⊢
  refine RI.wp_region_inv (AM1 w n m C v) (by kernel_rfl) (by kernel_rfl) ?_ ?_ ?_
  · exact ⟨undef, undef, undef, undef, undef, rfl, S1_drew m0, nofun, nofun, nofun, nofun, nofun⟩
  · clear m0
    intro d x wx i hI hi hm
    obtain ⟨u5, u6, u7, u8, u9, rfl, hS, p0, p1, p2, p3, p4⟩ := hI
    have hi' : i = 0 ∨ i = 1 ∨ i = 2 ∨ i = 3 ∨ i = 4 := by simp at hi; omega
    have hd := hm.2
    clear hm hi
    rcases hi' with rfl | rfl | rfl | rfl | rfl
    · refine RI.wpOp_plain rfl rfl ?_
      have c0 : ∀ o, o < 4 → wx.cell? ⟨w.heap.size, o, none⟩ = some (.int .u64 (dg n o)) := hS.c0
      go_simp
      exact ⟨_, u6, u7, u8, u9, rfl, hS, fun _ => rfl, RI.keep (by decide) p1, RI.keep (by decide) p2, RI.keep (by decide) p3, RI.keep (by decide) p4⟩
    · refine RI.wpOp_plain rfl rfl ?_
      go_simp
      exact ⟨u5, _, u7, u8, u9, rfl, hS, RI.keep (by decide) p0, fun _ => rfl, RI.keep (by decide) p2, RI.keep (by decide) p3, RI.keep (by decide) p4⟩
    · have hd := hd _ rfl
      simp [Region.binds] at hd
      obtain rfl := p1 (by simp [hd])
      refine RI.wpOp_plain rfl rfl ?_
      go_simp
      refine (KI.out _).mono ?_
      rintro e w1 ⟨rfl, hb1⟩
      exact ⟨u5, _, _, u8, u9, rfl, S1_below hS hb1, RI.keep (by decide) p0, RI.keep (by decide) p1, fun _ => rfl, RI.keep (by decide) p3, RI.keep (by decide) p4⟩
    · have hd := hd _ rfl
      simp [Region.binds] at hd
      obtain rfl := p0 (by simp [hd])
      obtain rfl := p2 (by simp [hd])
      refine RI.wpOp_plain rfl rfl ?_
      go_simp
      refine (KC.out _).mono ?_
      rintro e w1 ⟨rfl, hb1⟩
      exact ⟨_, u6, _, _, u9, rfl, S1_below hS hb1, RI.keep (by decide) p0, RI.keep (by decide) p1, RI.keep (by decide) p2, fun _ => rfl, RI.keep (by decide) p4⟩
    · have hd := hd _ rfl
      simp [Region.binds] at hd
      obtain rfl := p3 (by simp [hd])
      refine RI.wpOp_plain rfl rfl ?_
      have r1 := R1.out
      go_simp
      exact ⟨u5, u6, u7, _, _, rfl, hS, RI.keep (by decide) p0, RI.keep (by decide) p1, RI.keep (by decide) p2, RI.keep (by decide) p3, fun _ => rfl⟩
  · clear m0
    intro d x wx hI hd
    obtain ⟨u5, u6, u7, u8, u9, rfl, hS, p0, p1, p2, p3, p4⟩ := hI
    obtain rfl := p0 (hd 0 (by decide))
    obtain rfl := p1 (hd 1 (by decide))
    obtain rfl := p2 (hd 2 (by decide))
    obtain rfl := p3 (hd 3 (by decide))
    obtain rfl := p4 (hd 4 (by decide))
    have HB : Hid (Below w.heap.size w wx) := hS.bel
    have c0 : ∀ o, o < 4 → wx.cell? ⟨w.heap.size, o, none⟩ = some (.int .u64 (dg n o)) := hS.c0
    clear p0 p1 p2 p3 p4 hd hS R1
    cases v
    · obtain ⟨e1, e2⟩ : z = n ∧ dg n 0 = (n : Int) := E.out
      clear E
      go_wp2_with fail
      go_ret
      exact ⟨by rw [e1]; rfl, HB.out⟩
    · have e1 : z = m := E.out
      clear E c0
      go_wp2_with fail
      go_ret
      exact ⟨by rw [e1]; rfl, HB.out⟩
theorem split_any (n : Nat) (hn : n < 2 ^ 256) (w : World) :
    Calls Try.prog 40 #[Wd n] w fun e w' => e = .returned (.tuple #[.int .i64 ((min n 256 / 64 : Nat) : Int), .int .u64 ((min n 256 % 64 : Nat) : Int)]) ∧ Below w.heap.size w w' := by
  have K : Hid (∀ w : World, Calls Try.prog 47 #[Wd n, .int .u64 256] w fun e w' => e = .returned (.int .u64 ((min n 256 : Nat) : Int)) ∧ Below w.heap.size w w') := fun w => atmost_any n 256 hn (by decide) w
  have hz : min n 256 ≤ 256 := Nat.min_le_right _ _
  clear hn
  generalize min n 256 = z at *
  have m0 := S1_start w n
  conv => arg 3; unfold Wd
  go_enter Try.func40, Try.ntmps40
  go_wp2_with fail
  generalize w.alloc (.cells #[.int .u64 (dg n 0), .int .u64 (dg n 1), .int .u64 (dg n 2), .int .u64 (dg n 3)] 24) = W0 at m0 ⊢
  refine (K.out _).mono ?_
  rintro e w1 ⟨rfl, hb⟩
  have HB : Hid (Below w.heap.size w w1) := (S1_below m0 hb).bel
  clear hb m0
  go_wp2_with fail
  refine bodyPost_ret (v := .tuple #[.int .i64 ((z / 64 : Nat) : Int), .int .u64 ((z % 64 : Nat) : Int)]) ?_ rfl ⟨rfl, HB.out⟩
  simp [results, Try.results40, go_sem]
end Go.Proofs.Ytblodmjnhmfjeaa
/- A region that draws its order, walked in the order of its text: where each operation looks only at slots that stand fast by then, and gives one value whatever the order. -/
namespace Go.Proofs.Ytblodmjnhmfjeaa
namespace RS
open RI
/-- What an operation comes to, by its value alone. -/
def upv (P : Program) (K : Value → World → Prop) : Result Next → Prop
  | .ok (.value v) w => K v w
  | .ok .skip w => K undef w
  | .ok (.enter f args) w => Calls P f args w fun e w' => ∃ v, e = .returned v ∧ K v w'
  | .ok (.row row args) w => Rows P row args w K
  | _ => False
@[simp] theorem upv_value (P : Program) (K : Value → World → Prop) (v : Value) (w : World) : upv P K (.ok (.value v) w) = K v w := rfl
@[simp] theorem upv_skip (P : Program) (K : Value → World → Prop) (w : World) : upv P K (.ok .skip w) = K undef w := rfl
@[simp] theorem upv_enter (P : Program) (K : Value → World → Prop) (f : FuncId) (args : Array Value) (w : World) : upv P K (.ok (.enter f args) w) = Calls P f args w fun e w' => ∃ v, e = .returned v ∧ K v w' := rfl
/-- What operation i, at frame a, must do: come to v, and keep the world well. -/
def Step (P : Program) (ops : Array Oper) (I : (Nat → Bool) → World → Prop) (i : Nat) (o : Oper) (v : Value) (a : Act) : Prop :=
  (Region.wanted o (yielded ops a.tmps) = true ∧ ∀ (K : Value → World → Prop) d w, I d w → may ops d i → (∀ w', I (don d i) w' → K v w') → upv P K ((execOp a.eval o).run P w)) ∨
  (Region.wanted o (yielded ops a.tmps) = false ∧ v = undef ∧ ∀ d w, I d w → may ops d i → I (don d i) w)
/-- The walk in the text's order. -/
def Seq (P : Program) (ops : Array Oper) (I : (Nat → Bool) → World → Prop) (E : Act → Prop) : Nat → List Oper → Act → Prop
  | _, [], a => E a
  | i, o :: r, a => ∃ v, Step P ops I i o v a ∧ Seq P ops I E (i + 1) r (a.put o.dst v)
def bindsOn (o : Oper) (j : Nat) : Bool := o.after.any fun e => Region.binds .any e && e.on == j
def isSel : Op → Bool
  | .select _ _ => true
  | _ => false
/-- Of two operations: unlike slots are written; and one that looks at what the other writes is bound to it. -/
def pairOk (ops : Array Oper) (i j : Nat) : Bool :=
  match ops[i]?, ops[j]? with
  | some x, some y =>
    match y.dst with
    | none => true
    | some t => (x.dst != some t || i == j) && (!(x.looksAt ops).contains t || (decide (j < i) && bindsOn x j) || (decide (i < j) && bindsOn y i))
  | _, _ => true
def okOps (ops : Array Oper) : Bool :=
  RI.early ops && (List.range ops.size).all fun i => ((ops[i]?).map fun o => !isSel o.op).getD true && (List.range ops.size).all fun j => pairOk ops i j
/-- The frame behind those of the first k operations that are done. -/
def fr (ops : Array Oper) (V : Nat → Value) (d : Nat → Bool) (a : Act) : Nat → Act
  | 0 => a
  | k + 1 => if d k then (fr ops V d a k).put ((ops[k]?).bind (·.dst)) (V k) else fr ops V d a k
def tt : Nat → Bool := fun _ => true
variable {P : Program} {ops : Array Oper} {Q : Exit → Act → World → Prop}
theorem put_get (a : Act) (x : Option Tmp) (v : Value) (t : Nat) : (a.put x v).tmps[t]? = if x = some t then (if t < a.tmps.size then some v else none) else a.tmps[t]? := by
  cases x with
  | none => simp [Act.put]
  | some d =>
    simp only [Act.put, Array.getElem?_setIfInBounds]
    by_cases e : d = t
    · subst e; simp
    · simp [e]
theorem get_size {a b : Act} {t : Nat} (h : a.tmps[t]? = b.tmps[t]?) : (t < a.tmps.size) = (t < b.tmps.size) := by
  apply propext
  have ha := Array.getElem?_eq_none_iff (xs := a.tmps) (i := t)
  have hb := Array.getElem?_eq_none_iff (xs := b.tmps) (i := t)
  rw [h] at ha
  have := ha.symm.trans hb
  omega
theorem fr_congr (V : Nat → Value) (a : Act) (d e : Nat → Bool) : ∀ k, (∀ j, j < k → d j = e j) → fr ops V d a k = fr ops V e a k
  | 0, _ => rfl
  | k + 1, h => by rw [fr, fr, fr_congr V a d e k (fun j hj => h j (by omega)), h k (by omega)]
/-- What a slot holds, where its writer stands fast. -/
theorem fr_get (V : Nat → Value) (a : Act) (d : Nat → Bool) (i t : Nat) : ∀ k, (∀ j, j < k → (ops[j]?).bind (·.dst) = some t → (j < i ∧ d j = true) ∨ (i < j ∧ d j = false)) → (fr ops V d a k).tmps[t]? = (fr ops V tt a (min k i)).tmps[t]?
  | 0, _ => by simp [fr]
  | k + 1, h => by
    have ih := fr_get V a d i t k (fun j hj => h j (by omega))
    have hk := h k (by omega)
    by_cases hi : k < i
    · rw [show min (k + 1) i = k + 1 by omega, fr, fr]
      rw [show min k i = k by omega] at ih
      simp only [tt, if_true]
      cases hd : d k with
      | true => simp only [if_true]; rw [put_get, put_get]; simp only [get_size ih, ih]
      | false =>
        simp only [Bool.false_eq_true, if_false]
        rw [put_get, ih]
        by_cases e : (ops[k]?).bind (·.dst) = some t
        · rcases hk e with ⟨_, h2⟩ | ⟨h1, _⟩
          · rw [hd] at h2; cases h2
          · omega
        · rw [if_neg e]
    · rw [show min (k + 1) i = i by omega, fr]
      rw [show min k i = i by omega] at ih
      cases hd : d k with
      | false => simp only [Bool.false_eq_true, if_false]; exact ih
      | true =>
        simp only [if_true]
        rw [put_get, ih]
        by_cases e : (ops[k]?).bind (·.dst) = some t
        · rcases hk e with ⟨h1, _⟩ | ⟨_, h2⟩
          · omega
          · rw [hd] at h2; cases h2
        · rw [if_neg e]
theorem fr_put (V : Nat → Value) (a : Act) (d : Nat → Bool) (i : Nat) (hd : d i = false) : ∀ k, (∀ j, j < k → j ≠ i → ∀ t, (ops[i]?).bind (·.dst) = some t → (ops[j]?).bind (·.dst) ≠ some t) →
    fr ops V (don d i) a k = if i < k then (fr ops V d a k).put ((ops[i]?).bind (·.dst)) (V i) else fr ops V d a k
  | 0, _ => by simp [fr]
  | k + 1, h => by
    have ih := fr_put V a d i hd k (fun j hj => h j (by omega))
    rw [fr, fr]
    by_cases e : k = i
    · subst e
      rw [don_same, hd, ih, if_neg (show ¬ k < k by omega), if_pos (show k < k + 1 by omega)]
      simp
    · rw [don_other _ _ _ e, ih]
      by_cases h1 : i < k
      · rw [if_pos h1, if_pos (show i < k + 1 by omega)]
        cases hk : d k with
        | false => simp
        | true =>
          simp only [if_true]
          exact Act.put_comm _ _ _ (fun t ht => h k (by omega) e t ht)
      · rw [if_neg h1, if_neg (show ¬ i < k + 1 by omega)]
theorem seq_vals {I : (Nat → Bool) → World → Prop} {E : Act → Prop} (a : Act) : ∀ (l : List Oper) (k : Nat) (V : Nat → Value), (∀ j, l[j]? = ops[k + j]?) → Seq P ops I E k l (fr ops V tt a k) →
    ∃ V', (∀ j, j < k → V' j = V j) ∧ (∀ j o, l[j]? = some o → Step P ops I (k + j) o (V' (k + j)) (fr ops V' tt a (k + j))) ∧ E (fr ops V' tt a (k + l.length))
  | [], k, V, _, h => ⟨V, fun _ _ => rfl, fun j o hj => by simp at hj, by simpa [Seq] using h⟩
  | o :: r, k, V, hl, h => by
    obtain ⟨v, h1, h2⟩ := h
    have hk : ops[k]? = some o := by simpa using (hl 0).symm
    have frV : ∀ V1 V2 : Nat → Value, ∀ n, (∀ j, j < n → V1 j = V2 j) → fr ops V1 tt a n = fr ops V2 tt a n := by
      intro V1 V2 n
      induction n with
      | zero => intro _; rfl
      | succ n ih => intro hv; rw [fr, fr, ih (fun j hj => hv j (by omega)), hv n (by omega)]
    let W : Nat → Value := fun j => if j = k then v else V j
    have hW : fr ops W tt a (k + 1) = (fr ops V tt a k).put o.dst v := by
      rw [fr, frV W V k (fun j hj => by simp only [W]; rw [if_neg (by omega)])]
      simp [tt, hk, W]
    rw [← hW] at h2
    obtain ⟨V', e1, e2, e3⟩ := seq_vals a r (k + 1) W (fun j => by have := hl (j + 1); rw [show k + (j + 1) = k + 1 + j by omega] at this; simpa using this) h2
    refine ⟨V', fun j hj => ?_, fun j o' hj => ?_, ?_⟩
    · rw [e1 j (by omega)]; simp only [W]; rw [if_neg (by omega)]
    · cases j with
      | zero =>
        have : o' = o := by simpa using hj.symm
        subst this
        rw [Nat.add_zero, e1 k (by omega), frV V' V k (fun j hj => by rw [e1 j (by omega)]; simp only [W]; rw [if_neg (by omega)])]
        simpa [W] using h1
      | succ j => rw [show k + (j + 1) = k + 1 + j by omega]; exact e2 j o' (by simpa using hj)
    · rw [show k + (o :: r).length = k + 1 + r.length by simp; omega]; exact e3
theorem upv_upon {o : Oper} {a : Act} {K : Act → World → Prop} : ∀ {r : Result Next}, upv P (fun v w => K (a.put o.dst v) w) r → o.upon P a K Q r
  | .ok (.value _) _, h => h
  | .ok .skip _, h => h
  | .ok (.enter _ _) _, h => Calls.mono h fun e w' he => by obtain ⟨v, rfl, hk⟩ := he; exact hk
  | .ok (.row _ _) _, h => h
  | .ok (.defer _) _, h => h.elim
  | .ok (.round ..) _, h => h.elim
  | .ok .recover _, h => h.elim
  | .ok (.spawn _) _, h => h.elim
  | .halt _ _, h => h.elim
theorem mem_looks {x : Oper} {t : Nat} (h : .tmp t ∈ x.op.operands) : t ∈ x.looksAt ops := List.mem_append_left _ (List.mem_filterMap.2 ⟨.tmp t, by simpa using h, rfl⟩)
theorem eval_get {a b : Act} {t : Nat} (h : a.tmps[t]? = b.tmps[t]?) : a.eval (.tmp t) = b.eval (.tmp t) := by simp only [Act.eval, Array.getD_eq_getD_getElem?, h]
theorem wanted_get {a b : Act} {o : Oper} (h : ∀ t, t ∈ o.looksAt ops → a.tmps[t]? = b.tmps[t]?) : Region.wanted o (yielded ops a.tmps) = Region.wanted o (yielded ops b.tmps) := by
  unfold Region.wanted
  cases hg : o.guard with
  | none => rfl
  | some gw =>
    obtain ⟨g, want⟩ := gw
    have : yielded ops a.tmps g = yielded ops b.tmps g := by
      unfold yielded
      cases ht : (ops[g]?).bind (·.dst) with
      | none => rfl
      | some t => simp only [Option.bind_some]; rw [h t (by simp [Oper.looksAt, hg, ht])]
    simp only [this]
theorem wp_region_seq {id : Nat} {a : Act} {w : World} (I : (Nat → Bool) → World → Prop) (hm : P.follows .mixedOrders = true) (hok : okOps ops = true) (h0 : I (fun _ => false) w.drew)
    (hs : Seq P ops I (fun a' => ∀ d w', I d w' → (∀ i, i < ops.size → d i = true) → Q .normal a' w') 0 ops.toList a) : (Code.region id ops true).wp P Q a w := by
  have hok' := hok
  unfold okOps at hok'
  rw [Bool.and_eq_true] at hok'
  obtain ⟨he, hp⟩ := hok'
  obtain ⟨V, _, hst, hE⟩ := seq_vals (P := P) (ops := ops) (I := I) a ops.toList 0 (fun _ => undef) (fun j => by simp) hs
  simp only [Nat.zero_add] at hst hE
  have pair : ∀ (i j : Nat) (x y : Oper) (t : Nat), ops[i]? = some x → ops[j]? = some y → y.dst = some t → (x.dst = some t → i = j) ∧ (t ∈ x.looksAt ops → (j < i ∧ bindsOn x j = true) ∨ (i < j ∧ bindsOn y i = true)) := by
    intro i j x y t hx hy ht
    have hi : i < ops.size := (Array.getElem?_eq_some_iff.1 hx).1
    have hj : j < ops.size := (Array.getElem?_eq_some_iff.1 hy).1
    have h1 := List.all_eq_true.1 hp i (List.mem_range.2 hi)
    rw [Bool.and_eq_true] at h1
    have h2 := List.all_eq_true.1 h1.2 j (List.mem_range.2 hj)
    unfold pairOk at h2
    simp only [hx, hy, ht] at h2
    simp at h2
    refine ⟨fun e => h2.1.resolve_left (fun h => h e), fun hm => ?_⟩
    rcases h2.2 with (h | h) | h
    · exact absurd hm h
    · exact .inl h
    · exact .inr h
  have nosel : ∀ (i : Nat) (x : Oper) cs b, ops[i]? = some x → x.op ≠ .select cs b := by
    intro i x cs b hx hc
    have hi : i < ops.size := (Array.getElem?_eq_some_iff.1 hx).1
    have h1 := List.all_eq_true.1 hp i (List.mem_range.2 hi)
    rw [Bool.and_eq_true, hx] at h1
    simp [hc, isSel] at h1
  have bon : ∀ {x : Oper} {j : Nat}, bindsOn x j = true → ∃ e, e ∈ x.after ∧ Region.binds .any e = true ∧ e.on = j := by
    intro x j h
    unfold bindsOn at h
    rw [Array.any_eq_true'] at h
    obtain ⟨e, h1, h2⟩ := h
    rw [Bool.and_eq_true, beq_iff_eq] at h2
    exact ⟨e, h1, h2.1, h2.2⟩
  refine wp_region_inv (fun d x wx => x = fr ops V d a ops.size ∧ I d wx ∧ ∀ j o, ops[j]? = some o → d j = true → ∀ e, e ∈ o.after → Region.binds .any e = true → d e.on = true) hm he ?_ ?_ ?_
  · refine ⟨?_, h0, fun _ _ _ h => by cases h⟩
    have : ∀ k, fr ops V (fun _ => false) a k = a := by
      intro k
      induction k with
      | zero => rfl
      | succ k ih => rw [fr, ih]; simp
    exact (this _).symm
  · rintro d x wx i ⟨rfl, hI, hcl⟩ hi hmay
    obtain ⟨o, ho⟩ : ∃ o, ops[i]? = some o := ⟨ops[i], Array.getElem?_eq_getElem hi⟩
    have hdeps : ∀ e, e ∈ o.after → Region.binds .any e = true → d e.on = true := by
      intro e h1 h2
      have := hmay.2 o ho
      rw [Array.all_eq_true_iff_forall_mem] at this
      have := this e h1
      rw [h2] at this
      simpa using this
    have hsame : ∀ t, t ∈ o.looksAt ops → (fr ops V d a ops.size).tmps[t]? = (fr ops V tt a i).tmps[t]? := by
      intro t ht
      have := fr_get (ops := ops) V a d i t ops.size (fun j hj hjt => by
        obtain ⟨y, hy⟩ : ∃ y, ops[j]? = some y := ⟨ops[j], Array.getElem?_eq_getElem hj⟩
        rw [hy] at hjt
        rcases (pair i j o y t ho hy hjt).2 ht with ⟨h1, h2⟩ | ⟨h1, h2⟩
        · obtain ⟨e, e1, e2, e3⟩ := bon h2
          exact .inl ⟨h1, e3 ▸ hdeps e e1 e2⟩
        · refine .inr ⟨h1, ?_⟩
          cases hdj : d j with
          | false => rfl
          | true =>
            obtain ⟨e, e1, e2, e3⟩ := bon h2
            have := hcl j y hy hdj e e1 e2
            rw [e3, hmay.1] at this; cases this)
      rw [this, show min ops.size i = i by omega]
    have hex : execOp (fr ops V d a ops.size).eval o = execOp (fr ops V tt a i).eval o := by
      refine execOp_congr o (fun cs b => nosel i o cs b ho) (fun x hx => ?_)
      cases x with
      | tmp t => exact eval_get (hsame t (mem_looks hx))
      | _ => rfl
    have hwa := wanted_get hsame
    have hput : ∀ v, v = V i → (fr ops V d a ops.size).put o.dst v = fr ops V (don d i) a ops.size := by
      rintro v rfl
      rw [fr_put V a d i hmay.1 ops.size (fun j hj hne t ht => fun hjt => ?_), if_pos hi, ho]
      · rfl
      · obtain ⟨y, hy⟩ : ∃ y, ops[j]? = some y := ⟨ops[j], Array.getElem?_eq_getElem hj⟩
        rw [hy] at hjt
        rw [ho] at ht
        exact hne ((pair i j o y t ho hy hjt).1 ht).symm
    have hclo : ∀ j o', ops[j]? = some o' → don d i j = true → ∀ e, e ∈ o'.after → Region.binds .any e = true → don d i e.on = true := by
      intro j o' hj hdj e e1 e2
      have : d e.on = true := by
        by_cases hji : j = i
        · subst hji
          rw [ho] at hj
          cases hj
          exact hdeps e e1 e2
        · rw [don_other _ _ _ hji] at hdj
          exact hcl j o' hj hdj e e1 e2
      unfold don; split
      · rfl
      · exact this
    unfold wpOp
    rw [ho]
    simp only
    rcases hst i o (by simpa using ho) with ⟨h1, h2⟩ | ⟨h1, h2, h3⟩
    · rw [hwa, h1, if_pos rfl]
      refine .inl ?_
      unfold Oper.wp
      rw [hex]
      exact upv_upon (h2 _ d wx hI hmay (fun w' hI' => ⟨hput _ rfl, hI', hclo⟩))
    · rw [hwa, h1]
      simp only [Bool.false_eq_true, if_false]
      exact ⟨hput _ h2.symm, h3 d wx hI hmay, hclo⟩
  · rintro d x wx ⟨rfl, hI, _⟩ hall
    rw [fr_congr V a d tt ops.size (fun j hj => hall j hj)]
    exact hE d wx hI hall
/-- One step, where the world keeps S. -/
theorem go1 {S : World → Prop} {E : Act → Prop} {i : Nat} {o : Oper} {r : List Oper} {a a' : Act} {v : Value} (hg : o.guard = none)
    (h : ∀ (K : Value → World → Prop) w, S w → (∀ w', S w' → K v w') → upv P K ((execOp a.eval o).run P w)) (he : a.put o.dst v = a')
    (hr : Seq P ops (fun _ => S) E (i + 1) r a') : Seq P ops (fun _ => S) E i (o :: r) a :=
  ⟨v, .inl ⟨by simp [Region.wanted, hg], fun K _ w hS _ hK => h K w hS hK⟩, he ▸ hr⟩
/-- The same, of an operation under a guard that is met. -/
theorem go1g {S : World → Prop} {E : Act → Prop} {i : Nat} {o : Oper} {r : List Oper} {a a' : Act} {v : Value} (hg : Region.wanted o (yielded ops a.tmps) = true)
    (h : ∀ (K : Value → World → Prop) w, S w → (∀ w', S w' → K v w') → upv P K ((execOp a.eval o).run P w)) (he : a.put o.dst v = a')
    (hr : Seq P ops (fun _ => S) E (i + 1) r a') : Seq P ops (fun _ => S) E i (o :: r) a :=
  ⟨v, .inl ⟨hg, fun K _ w hS _ hK => h K w hS hK⟩, he ▸ hr⟩
/-- One that its guard leaves out. -/
theorem go0 {S : World → Prop} {E : Act → Prop} {i : Nat} {o : Oper} {r : List Oper} {a a' : Act} (hg : Region.wanted o (yielded ops a.tmps) = false) (he : a.put o.dst undef = a')
    (hr : Seq P ops (fun _ => S) E (i + 1) r a') : Seq P ops (fun _ => S) E i (o :: r) a :=
  ⟨undef, .inr ⟨hg, rfl, fun _ _ h _ => h⟩, he ▸ hr⟩
theorem go_end {I : (Nat → Bool) → World → Prop} {E : Act → Prop} {i : Nat} {a : Act} (h : E a) : Seq P ops I E i [] a := h
end RS
end Go.Proofs.Ytblodmjnhmfjeaa
