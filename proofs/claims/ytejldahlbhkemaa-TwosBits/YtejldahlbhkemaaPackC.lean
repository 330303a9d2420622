/- twos.partByPart, handed a closure: part by part; and twos.And, Or, Xor. -/
import Derived.Test.YtejldahlbhkemaaPackB
import Derived.Laws.BitsAllLaws
import Derived.Test.YtejldahlbhkemaaPackA
namespace Go.Proofs.Ytejldahlbhkemaa
open Go.RowKit Go.Shelf
/-- Two words handed in, one that goes out, and one under way. -/
structure P4 (w : World) (a b : Nat) (F : Nat → Int) (wx : World) : Prop where
  v0 : Vb w.heap.size w.heap.size 4 (dg a) wx
  v1 : Vb w.heap.size (w.heap.size + 1) 4 (dg b) wx
  v2 : Vb w.heap.size (w.heap.size + 1 + 1) 4 (dg 0) wx
  v3 : Vb w.heap.size (w.heap.size + 1 + 1 + 1) 4 F wx
  bel : Below w.heap.size w wx
theorem P4_below {w : World} {a b : Nat} {F : Nat → Int} {w1 w2 : World} (h : P4 w a b F w1) (k : Below w1.heap.size w1 w2) : P4 w a b F w2 := ⟨Vb_below h.v0 k, Vb_below h.v1 k, Vb_below h.v2 k, Vb_below h.v3 k, h.bel.trans (k.mono (Nat.le_of_lt h.v0.hi))⟩
theorem P4_drew {w : World} {a b : Nat} {F : Nat → Int} {w1 : World} (h : P4 w a b F w1) : P4 w a b F w1.drew := P4_below h (Below.refl _ _).drew
theorem P4_set {w : World} {a b i : Nat} {F : Nat → Int} {v : Int} {w1 : World} (h : P4 w a b F w1) (hi : i < 4) : P4 w a b (upd F i v) (w1.setCell ⟨w.heap.size + 1 + 1 + 1, i, none⟩ (.int .u64 v)) :=
  ⟨Vb_other h.v0 (show w.heap.size + 1 + 1 + 1 ≠ w.heap.size by omega), Vb_other h.v1 (show w.heap.size + 1 + 1 + 1 ≠ w.heap.size + 1 by omega), Vb_other h.v2 (show w.heap.size + 1 + 1 + 1 ≠ w.heap.size + 1 + 1 by omega), Vb_set h.v3 hi, h.bel.setCell (show w.heap.size ≤ (⟨w.heap.size + 1 + 1 + 1, i, none⟩ : Addr).block by show w.heap.size ≤ w.heap.size + 1 + 1 + 1; omega) _⟩
/-- What holds while a part is joined. -/
def PB0 (w : World) (a b : Nat) (f : Int → Int → Int) (fv : Value) (F0 : Nat → Int) (d : Nat → Bool) (x : Act) (wx : World) : Prop :=
  ∃ (u12 u13 u14 u15 u16 u17 u18 u19 u20 u21 : Value) (F : Nat → Int) (v5 : Value) (v10 : Value) (v11 : Value) (v22 : Value) (v23 : Value),
    x = { tmps := #[.agg #[.int .u64 (dg a 0), .int .u64 (dg a 1), .int .u64 (dg a 2), .int .u64 (dg a 3)], .agg #[.int .u64 (dg b 0), .int .u64 (dg b 1), .int .u64 (dg b 2), .int .u64 (dg b 3)], fv, .pointer (some ⟨w.heap.size, 0, none⟩), .pointer (some ⟨w.heap.size + 1, 0, none⟩), v5, .pointer (some ⟨w.heap.size + 1 + 1, 0, none⟩), .pointer (some ⟨w.heap.size + 1 + 1 + 1, 0, none⟩), .int .i64 0, .int .i64 0, v10, v11, u12, u13, u14, u15, u16, u17, u18, u19, u20, u21, v22, v23], defers := [] } ∧
    (P4 w a b F wx) ∧ (d 10 = false → F = F0) ∧
    (d 0 = true → u12 = .int .i64 0) ∧ (d 1 = true → u13 = fv) ∧ (d 2 = true → u14 = .int .i64 0) ∧ (d 3 = true → u15 = .pointer (some ⟨w.heap.size, 0, none⟩)) ∧ (d 4 = true → u16 = .int .u64 (dg a 0)) ∧ (d 5 = true → u17 = .int .i64 0) ∧ (d 6 = true → u18 = .pointer (some ⟨w.heap.size + 1, 0, none⟩)) ∧ (d 7 = true → u19 = .int .u64 (dg b 0)) ∧ (d 8 = true → u20 = .int .u64 (f (dg a 0) (dg b 0))) ∧ (d 9 = true → u21 = .pointer (some ⟨w.heap.size + 1 + 1 + 1, 0, none⟩)) ∧ (d 10 = true → F = upd F0 0 (f (dg a 0) (dg b 0)))
/-- The same, a part on. -/
def PB1 (w : World) (a b : Nat) (f : Int → Int → Int) (fv : Value) (F0 : Nat → Int) (d : Nat → Bool) (x : Act) (wx : World) : Prop :=
  ∃ (u12 u13 u14 u15 u16 u17 u18 u19 u20 u21 : Value) (F : Nat → Int) (v5 : Value) (v10 : Value) (v11 : Value) (v22 : Value) (v23 : Value),
    x = { tmps := #[.agg #[.int .u64 (dg a 0), .int .u64 (dg a 1), .int .u64 (dg a 2), .int .u64 (dg a 3)], .agg #[.int .u64 (dg b 0), .int .u64 (dg b 1), .int .u64 (dg b 2), .int .u64 (dg b 3)], fv, .pointer (some ⟨w.heap.size, 0, none⟩), .pointer (some ⟨w.heap.size + 1, 0, none⟩), v5, .pointer (some ⟨w.heap.size + 1 + 1, 0, none⟩), .pointer (some ⟨w.heap.size + 1 + 1 + 1, 0, none⟩), .int .i64 1, .int .i64 1, v10, v11, u12, u13, u14, u15, u16, u17, u18, u19, u20, u21, v22, v23], defers := [] } ∧
    (P4 w a b F wx) ∧ (d 10 = false → F = F0) ∧
    (d 0 = true → u12 = .int .i64 1) ∧ (d 1 = true → u13 = fv) ∧ (d 2 = true → u14 = .int .i64 1) ∧ (d 3 = true → u15 = .pointer (some ⟨w.heap.size, 1, none⟩)) ∧ (d 4 = true → u16 = .int .u64 (dg a 1)) ∧ (d 5 = true → u17 = .int .i64 1) ∧ (d 6 = true → u18 = .pointer (some ⟨w.heap.size + 1, 1, none⟩)) ∧ (d 7 = true → u19 = .int .u64 (dg b 1)) ∧ (d 8 = true → u20 = .int .u64 (f (dg a 1) (dg b 1))) ∧ (d 9 = true → u21 = .pointer (some ⟨w.heap.size + 1 + 1 + 1, 1, none⟩)) ∧ (d 10 = true → F = upd F0 1 (f (dg a 1) (dg b 1)))
/-- The same, a part on. -/
def PB2 (w : World) (a b : Nat) (f : Int → Int → Int) (fv : Value) (F0 : Nat → Int) (d : Nat → Bool) (x : Act) (wx : World) : Prop :=
  ∃ (u12 u13 u14 u15 u16 u17 u18 u19 u20 u21 : Value) (F : Nat → Int) (v5 : Value) (v10 : Value) (v11 : Value) (v22 : Value) (v23 : Value),
    x = { tmps := #[.agg #[.int .u64 (dg a 0), .int .u64 (dg a 1), .int .u64 (dg a 2), .int .u64 (dg a 3)], .agg #[.int .u64 (dg b 0), .int .u64 (dg b 1), .int .u64 (dg b 2), .int .u64 (dg b 3)], fv, .pointer (some ⟨w.heap.size, 0, none⟩), .pointer (some ⟨w.heap.size + 1, 0, none⟩), v5, .pointer (some ⟨w.heap.size + 1 + 1, 0, none⟩), .pointer (some ⟨w.heap.size + 1 + 1 + 1, 0, none⟩), .int .i64 2, .int .i64 2, v10, v11, u12, u13, u14, u15, u16, u17, u18, u19, u20, u21, v22, v23], defers := [] } ∧
    (P4 w a b F wx) ∧ (d 10 = false → F = F0) ∧
    (d 0 = true → u12 = .int .i64 2) ∧ (d 1 = true → u13 = fv) ∧ (d 2 = true → u14 = .int .i64 2) ∧ (d 3 = true → u15 = .pointer (some ⟨w.heap.size, 2, none⟩)) ∧ (d 4 = true → u16 = .int .u64 (dg a 2)) ∧ (d 5 = true → u17 = .int .i64 2) ∧ (d 6 = true → u18 = .pointer (some ⟨w.heap.size + 1, 2, none⟩)) ∧ (d 7 = true → u19 = .int .u64 (dg b 2)) ∧ (d 8 = true → u20 = .int .u64 (f (dg a 2) (dg b 2))) ∧ (d 9 = true → u21 = .pointer (some ⟨w.heap.size + 1 + 1 + 1, 2, none⟩)) ∧ (d 10 = true → F = upd F0 2 (f (dg a 2) (dg b 2)))
/-- The same, a part on. -/
def PB3 (w : World) (a b : Nat) (f : Int → Int → Int) (fv : Value) (F0 : Nat → Int) (d : Nat → Bool) (x : Act) (wx : World) : Prop :=
  ∃ (u12 u13 u14 u15 u16 u17 u18 u19 u20 u21 : Value) (F : Nat → Int) (v5 : Value) (v10 : Value) (v11 : Value) (v22 : Value) (v23 : Value),
    x = { tmps := #[.agg #[.int .u64 (dg a 0), .int .u64 (dg a 1), .int .u64 (dg a 2), .int .u64 (dg a 3)], .agg #[.int .u64 (dg b 0), .int .u64 (dg b 1), .int .u64 (dg b 2), .int .u64 (dg b 3)], fv, .pointer (some ⟨w.heap.size, 0, none⟩), .pointer (some ⟨w.heap.size + 1, 0, none⟩), v5, .pointer (some ⟨w.heap.size + 1 + 1, 0, none⟩), .pointer (some ⟨w.heap.size + 1 + 1 + 1, 0, none⟩), .int .i64 3, .int .i64 3, v10, v11, u12, u13, u14, u15, u16, u17, u18, u19, u20, u21, v22, v23], defers := [] } ∧
    (P4 w a b F wx) ∧ (d 10 = false → F = F0) ∧
    (d 0 = true → u12 = .int .i64 3) ∧ (d 1 = true → u13 = fv) ∧ (d 2 = true → u14 = .int .i64 3) ∧ (d 3 = true → u15 = .pointer (some ⟨w.heap.size, 3, none⟩)) ∧ (d 4 = true → u16 = .int .u64 (dg a 3)) ∧ (d 5 = true → u17 = .int .i64 3) ∧ (d 6 = true → u18 = .pointer (some ⟨w.heap.size + 1, 3, none⟩)) ∧ (d 7 = true → u19 = .int .u64 (dg b 3)) ∧ (d 8 = true → u20 = .int .u64 (f (dg a 3) (dg b 3))) ∧ (d 9 = true → u21 = .pointer (some ⟨w.heap.size + 1 + 1 + 1, 3, none⟩)) ∧ (d 10 = true → F = upd F0 3 (f (dg a 3) (dg b 3)))
set_option maxHeartbeats 4000000 in
set_option maxRecDepth 100000 in
theorem pbp_and (a b N : Nat) (f : Int → Int → Int) (KF : Hid (∀ (x y : Int) (w : World), Calls Try.prog 26 #[.int .u64 x, .int .u64 y] w fun e w' => e = .returned (.int .u64 (f x y)) ∧ Below w.heap.size w w')) (HN : Hid (∀ o, o < 4 → f (dg a o) (dg b o) = dg N o)) (w : World) :
    Calls Try.prog 25 #[Wd a, Wd b, .func (Fn.func 26) #[] #[]] w fun e w' => e = .returned (Wd N) ∧ Below w.heap.size w w' := by
  have m0 : P4 w a b (dg 0) ((((w.alloc (.cells #[.int .u64 (dg a 0), .int .u64 (dg a 1), .int .u64 (dg a 2), .int .u64 (dg a 3)] 24)).alloc (.cells #[.int .u64 (dg b 0), .int .u64 (dg b 1), .int .u64 (dg b 2), .int .u64 (dg b 3)] 24)).alloc (.cells #[.int .u64 0, .int .u64 0, .int .u64 0, .int .u64 0] 24)).alloc (.cells #[.int .u64 0, .int .u64 0, .int .u64 0, .int .u64 0] 24)) := by
    have k := M4_start w a b 24
    exact ⟨k.v0, k.v1, k.v2, k.v3, k.bel⟩
  conv => arg 3; unfold Wd
  go_enter Try.func25, Try.ntmps25
  go_wp2_with fail
  generalize (((w.alloc (.cells #[.int .u64 (dg a 0), .int .u64 (dg a 1), .int .u64 (dg a 2), .int .u64 (dg a 3)] 24)).alloc (.cells #[.int .u64 (dg b 0), .int .u64 (dg b 1), .int .u64 (dg b 2), .int .u64 (dg b 3)] 24)).alloc (.cells #[.int .u64 0, .int .u64 0, .int .u64 0, .int .u64 0] 24)).alloc (.cells #[.int .u64 0, .int .u64 0, .int .u64 0, .int .u64 0] 24) = W0 at m0 ⊢
  refine wp_loop_rounds 5 ?_
  rw [rounds_succ]
  go_upto_region 5 with fail
  refine RI.wp_region_inv (PB0 w a b f (.func (Fn.func 26) #[] #[]) (dg 0)) (by kernel_rfl) (by kernel_rfl) ?_ ?_ ?_
  · exact ⟨undef, undef, undef, undef, undef, undef, undef, undef, undef, undef, dg 0, _, _, _, _, _, rfl, P4_drew m0, fun _ => rfl, nofun, nofun, nofun, nofun, nofun, nofun, nofun, nofun, nofun, nofun, nofun⟩
  · clear m0
    intro d x wx i hI hi hm
    obtain ⟨u12, u13, u14, u15, u16, u17, u18, u19, u20, u21, F, v5, v10, v11, v22, v23, rfl, hP, q, p0, p1, p2, p3, p4, p5, p6, p7, p8, p9, px10⟩ := hI
    have hi' : i = 0 ∨ i = 1 ∨ i = 2 ∨ i = 3 ∨ i = 4 ∨ i = 5 ∨ i = 6 ∨ i = 7 ∨ i = 8 ∨ i = 9 ∨ i = 10 := by simp at hi; omega
    have hd := hm.2
    have hf := hm.1
    clear hm hi
    rcases hi' with rfl | rfl | rfl | rfl | rfl | rfl | rfl | rfl | rfl | rfl | rfl
    · refine RI.wpOp_plain rfl rfl ?_
      go_simp
      exact ⟨_, u13, u14, u15, u16, u17, u18, u19, u20, u21, F, v5, v10, v11, v22, v23, rfl, hP, (fun h => q (by rwa [RI.don_other _ _ _ (by decide)] at h)), fun _ => rfl, RI.keep (by decide) p1, RI.keep (by decide) p2, RI.keep (by decide) p3, RI.keep (by decide) p4, RI.keep (by decide) p5, RI.keep (by decide) p6, RI.keep (by decide) p7, RI.keep (by decide) p8, RI.keep (by decide) p9, RI.keep (by decide) px10⟩
    · refine RI.wpOp_plain rfl rfl ?_
      go_simp
      exact ⟨u12, _, u14, u15, u16, u17, u18, u19, u20, u21, F, v5, v10, v11, v22, v23, rfl, hP, (fun h => q (by rwa [RI.don_other _ _ _ (by decide)] at h)), RI.keep (by decide) p0, fun _ => rfl, RI.keep (by decide) p2, RI.keep (by decide) p3, RI.keep (by decide) p4, RI.keep (by decide) p5, RI.keep (by decide) p6, RI.keep (by decide) p7, RI.keep (by decide) p8, RI.keep (by decide) p9, RI.keep (by decide) px10⟩
    · refine RI.wpOp_plain rfl rfl ?_
      go_simp
      exact ⟨u12, u13, _, u15, u16, u17, u18, u19, u20, u21, F, v5, v10, v11, v22, v23, rfl, hP, (fun h => q (by rwa [RI.don_other _ _ _ (by decide)] at h)), RI.keep (by decide) p0, RI.keep (by decide) p1, fun _ => rfl, RI.keep (by decide) p3, RI.keep (by decide) p4, RI.keep (by decide) p5, RI.keep (by decide) p6, RI.keep (by decide) p7, RI.keep (by decide) p8, RI.keep (by decide) p9, RI.keep (by decide) px10⟩
    · have hd := hd _ rfl
      simp [Region.binds] at hd
      obtain rfl := p2 (by simp [hd])
      refine RI.wpOp_plain rfl rfl ?_
      go_simp
      exact ⟨u12, u13, _, _, u16, u17, u18, u19, u20, u21, F, v5, v10, v11, v22, v23, rfl, hP, (fun h => q (by rwa [RI.don_other _ _ _ (by decide)] at h)), RI.keep (by decide) p0, RI.keep (by decide) p1, RI.keep (by decide) p2, fun _ => rfl, RI.keep (by decide) p4, RI.keep (by decide) p5, RI.keep (by decide) p6, RI.keep (by decide) p7, RI.keep (by decide) p8, RI.keep (by decide) p9, RI.keep (by decide) px10⟩
    · have hd := hd _ rfl
      simp [Region.binds] at hd
      obtain rfl := p3 (by simp [hd])
      refine RI.wpOp_plain rfl rfl ?_
      have c0 : wx.cell? ⟨w.heap.size, 0, none⟩ = some (.int .u64 (dg a 0)) := hP.v0.c 0 (by decide)
      go_simp
      exact ⟨u12, u13, u14, _, _, u17, u18, u19, u20, u21, F, v5, v10, v11, v22, v23, rfl, hP, (fun h => q (by rwa [RI.don_other _ _ _ (by decide)] at h)), RI.keep (by decide) p0, RI.keep (by decide) p1, RI.keep (by decide) p2, RI.keep (by decide) p3, fun _ => rfl, RI.keep (by decide) p5, RI.keep (by decide) p6, RI.keep (by decide) p7, RI.keep (by decide) p8, RI.keep (by decide) p9, RI.keep (by decide) px10⟩
    · refine RI.wpOp_plain rfl rfl ?_
      go_simp
      exact ⟨u12, u13, u14, u15, u16, _, u18, u19, u20, u21, F, v5, v10, v11, v22, v23, rfl, hP, (fun h => q (by rwa [RI.don_other _ _ _ (by decide)] at h)), RI.keep (by decide) p0, RI.keep (by decide) p1, RI.keep (by decide) p2, RI.keep (by decide) p3, RI.keep (by decide) p4, fun _ => rfl, RI.keep (by decide) p6, RI.keep (by decide) p7, RI.keep (by decide) p8, RI.keep (by decide) p9, RI.keep (by decide) px10⟩
    · have hd := hd _ rfl
      simp [Region.binds] at hd
      obtain rfl := p5 (by simp [hd])
      refine RI.wpOp_plain rfl rfl ?_
      go_simp
      exact ⟨u12, u13, u14, u15, u16, _, _, u19, u20, u21, F, v5, v10, v11, v22, v23, rfl, hP, (fun h => q (by rwa [RI.don_other _ _ _ (by decide)] at h)), RI.keep (by decide) p0, RI.keep (by decide) p1, RI.keep (by decide) p2, RI.keep (by decide) p3, RI.keep (by decide) p4, RI.keep (by decide) p5, fun _ => rfl, RI.keep (by decide) p7, RI.keep (by decide) p8, RI.keep (by decide) p9, RI.keep (by decide) px10⟩
    · have hd := hd _ rfl
      simp [Region.binds] at hd
      obtain rfl := p6 (by simp [hd])
      refine RI.wpOp_plain rfl rfl ?_
      have c0 : wx.cell? ⟨w.heap.size + 1, 0, none⟩ = some (.int .u64 (dg b 0)) := hP.v1.c 0 (by decide)
      go_simp
      exact ⟨u12, u13, u14, u15, u16, u17, _, _, u20, u21, F, v5, v10, v11, v22, v23, rfl, hP, (fun h => q (by rwa [RI.don_other _ _ _ (by decide)] at h)), RI.keep (by decide) p0, RI.keep (by decide) p1, RI.keep (by decide) p2, RI.keep (by decide) p3, RI.keep (by decide) p4, RI.keep (by decide) p5, RI.keep (by decide) p6, fun _ => rfl, RI.keep (by decide) p8, RI.keep (by decide) p9, RI.keep (by decide) px10⟩
    · have hd := hd _ rfl
      simp [Region.binds] at hd
      obtain rfl := p1 (by simp [hd])
      obtain rfl := p4 (by simp [hd])
      obtain rfl := p7 (by simp [hd])
      refine RI.wpOp_plain rfl rfl ?_
      go_simp
      refine (KF.out _ _ _).mono ?_
      rintro e w1 ⟨rfl, hb1⟩
      exact ⟨u12, _, u14, u15, _, u17, u18, _, _, u21, F, v5, v10, v11, v22, v23, rfl, P4_below hP hb1, (fun h => q (by rwa [RI.don_other _ _ _ (by decide)] at h)), RI.keep (by decide) p0, RI.keep (by decide) p1, RI.keep (by decide) p2, RI.keep (by decide) p3, RI.keep (by decide) p4, RI.keep (by decide) p5, RI.keep (by decide) p6, RI.keep (by decide) p7, fun _ => rfl, RI.keep (by decide) p9, RI.keep (by decide) (px10)⟩
    · have hd := hd _ rfl
      simp [Region.binds] at hd
      obtain rfl := p0 (by simp [hd])
      obtain rfl := p1 (by simp [hd])
      obtain rfl := p2 (by simp [hd])
      obtain rfl := p3 (by simp [hd])
      obtain rfl := p4 (by simp [hd])
      obtain rfl := p5 (by simp [hd])
      obtain rfl := p6 (by simp [hd])
      obtain rfl := p7 (by simp [hd])
      obtain rfl := p8 (by simp [hd])
      refine RI.wpOp_plain rfl rfl ?_
      go_simp
      exact ⟨_, _, _, _, _, _, _, _, _, _, F, v5, v10, v11, v22, v23, rfl, hP, (fun h => q (by rwa [RI.don_other _ _ _ (by decide)] at h)), RI.keep (by decide) p0, RI.keep (by decide) p1, RI.keep (by decide) p2, RI.keep (by decide) p3, RI.keep (by decide) p4, RI.keep (by decide) p5, RI.keep (by decide) p6, RI.keep (by decide) p7, RI.keep (by decide) p8, fun _ => rfl, RI.keep (by decide) px10⟩
    · have hd := hd _ rfl
      simp [Region.binds] at hd
      obtain rfl := p0 (by simp [hd])
      obtain rfl := p1 (by simp [hd])
      obtain rfl := p2 (by simp [hd])
      obtain rfl := p3 (by simp [hd])
      obtain rfl := p4 (by simp [hd])
      obtain rfl := p5 (by simp [hd])
      obtain rfl := p6 (by simp [hd])
      obtain rfl := p7 (by simp [hd])
      obtain rfl := p8 (by simp [hd])
      obtain rfl := p9 (by simp [hd])
      refine RI.wpOp_plain rfl rfl ?_
      obtain rfl := q hf
      have c3 := hP.v3.c 0 (by decide)
      have f3 : ∀ o, wx.frozen? ⟨w.heap.size + 1 + 1 + 1, o, none⟩ = false := hP.v3.f
      go_simp
      exact ⟨_, _, _, _, _, _, _, _, _, _, _, v5, v10, v11, v22, v23, rfl, P4_set hP (by decide), (fun h => absurd h (by simp [RI.don])), RI.keep (by decide) p0, RI.keep (by decide) p1, RI.keep (by decide) p2, RI.keep (by decide) p3, RI.keep (by decide) p4, RI.keep (by decide) p5, RI.keep (by decide) p6, RI.keep (by decide) p7, RI.keep (by decide) p8, RI.keep (by decide) p9, fun _ => rfl⟩
  clear m0
  intro d x wx hI hd
  obtain ⟨u12, u13, u14, u15, u16, u17, u18, u19, u20, u21, F, v5, v10, v11, v22, v23, rfl, hP, q, p0, p1, p2, p3, p4, p5, p6, p7, p8, p9, px10⟩ := hI
  obtain rfl := p0 (hd 0 (by decide))
  obtain rfl := p1 (hd 1 (by decide))
  obtain rfl := p2 (hd 2 (by decide))
  obtain rfl := p3 (hd 3 (by decide))
  obtain rfl := p4 (hd 4 (by decide))
  obtain rfl := p5 (hd 5 (by decide))
  obtain rfl := p6 (hd 6 (by decide))
  obtain rfl := p7 (hd 7 (by decide))
  obtain rfl := p8 (hd 8 (by decide))
  obtain rfl := p9 (hd 9 (by decide))
  rw [px10 (hd 10 (by decide))] at hP
  have m0 := hP
  clear p0 p1 p2 p3 p4 p5 p6 p7 p8 p9 px10 q hd hP
  go_wp2_with fail
  rw [rounds_succ]
  go_upto_region 5 with fail
  refine RI.wp_region_inv (PB1 w a b f (.func (Fn.func 26) #[] #[]) (upd (dg 0) 0 (f (dg a 0) (dg b 0)))) (by kernel_rfl) (by kernel_rfl) ?_ ?_ ?_
  · exact ⟨_, _, _, _, _, _, _, _, _, _, upd (dg 0) 0 (f (dg a 0) (dg b 0)), _, _, _, _, _, rfl, P4_drew m0, fun _ => rfl, nofun, nofun, nofun, nofun, nofun, nofun, nofun, nofun, nofun, nofun, nofun⟩
  · clear m0
    intro d x wx i hI hi hm
    obtain ⟨u12, u13, u14, u15, u16, u17, u18, u19, u20, u21, F, v5, v10, v11, v22, v23, rfl, hP, q, p0, p1, p2, p3, p4, p5, p6, p7, p8, p9, px10⟩ := hI
    have hi' : i = 0 ∨ i = 1 ∨ i = 2 ∨ i = 3 ∨ i = 4 ∨ i = 5 ∨ i = 6 ∨ i = 7 ∨ i = 8 ∨ i = 9 ∨ i = 10 := by simp at hi; omega
    have hd := hm.2
    have hf := hm.1
    clear hm hi
    rcases hi' with rfl | rfl | rfl | rfl | rfl | rfl | rfl | rfl | rfl | rfl | rfl
    · refine RI.wpOp_plain rfl rfl ?_
      go_simp
      exact ⟨_, u13, u14, u15, u16, u17, u18, u19, u20, u21, F, v5, v10, v11, v22, v23, rfl, hP, (fun h => q (by rwa [RI.don_other _ _ _ (by decide)] at h)), fun _ => rfl, RI.keep (by decide) p1, RI.keep (by decide) p2, RI.keep (by decide) p3, RI.keep (by decide) p4, RI.keep (by decide) p5, RI.keep (by decide) p6, RI.keep (by decide) p7, RI.keep (by decide) p8, RI.keep (by decide) p9, RI.keep (by decide) px10⟩
    · refine RI.wpOp_plain rfl rfl ?_
      go_simp
      exact ⟨u12, _, u14, u15, u16, u17, u18, u19, u20, u21, F, v5, v10, v11, v22, v23, rfl, hP, (fun h => q (by rwa [RI.don_other _ _ _ (by decide)] at h)), RI.keep (by decide) p0, fun _ => rfl, RI.keep (by decide) p2, RI.keep (by decide) p3, RI.keep (by decide) p4, RI.keep (by decide) p5, RI.keep (by decide) p6, RI.keep (by decide) p7, RI.keep (by decide) p8, RI.keep (by decide) p9, RI.keep (by decide) px10⟩
    · refine RI.wpOp_plain rfl rfl ?_
      go_simp
      exact ⟨u12, u13, _, u15, u16, u17, u18, u19, u20, u21, F, v5, v10, v11, v22, v23, rfl, hP, (fun h => q (by rwa [RI.don_other _ _ _ (by decide)] at h)), RI.keep (by decide) p0, RI.keep (by decide) p1, fun _ => rfl, RI.keep (by decide) p3, RI.keep (by decide) p4, RI.keep (by decide) p5, RI.keep (by decide) p6, RI.keep (by decide) p7, RI.keep (by decide) p8, RI.keep (by decide) p9, RI.keep (by decide) px10⟩
    · have hd := hd _ rfl
      simp [Region.binds] at hd
      obtain rfl := p2 (by simp [hd])
      refine RI.wpOp_plain rfl rfl ?_
      go_simp
      exact ⟨u12, u13, _, _, u16, u17, u18, u19, u20, u21, F, v5, v10, v11, v22, v23, rfl, hP, (fun h => q (by rwa [RI.don_other _ _ _ (by decide)] at h)), RI.keep (by decide) p0, RI.keep (by decide) p1, RI.keep (by decide) p2, fun _ => rfl, RI.keep (by decide) p4, RI.keep (by decide) p5, RI.keep (by decide) p6, RI.keep (by decide) p7, RI.keep (by decide) p8, RI.keep (by decide) p9, RI.keep (by decide) px10⟩
    · have hd := hd _ rfl
      simp [Region.binds] at hd
      obtain rfl := p3 (by simp [hd])
      refine RI.wpOp_plain rfl rfl ?_
      have c0 : wx.cell? ⟨w.heap.size, 1, none⟩ = some (.int .u64 (dg a 1)) := hP.v0.c 1 (by decide)
      go_simp
      exact ⟨u12, u13, u14, _, _, u17, u18, u19, u20, u21, F, v5, v10, v11, v22, v23, rfl, hP, (fun h => q (by rwa [RI.don_other _ _ _ (by decide)] at h)), RI.keep (by decide) p0, RI.keep (by decide) p1, RI.keep (by decide) p2, RI.keep (by decide) p3, fun _ => rfl, RI.keep (by decide) p5, RI.keep (by decide) p6, RI.keep (by decide) p7, RI.keep (by decide) p8, RI.keep (by decide) p9, RI.keep (by decide) px10⟩
    · refine RI.wpOp_plain rfl rfl ?_
      go_simp
      exact ⟨u12, u13, u14, u15, u16, _, u18, u19, u20, u21, F, v5, v10, v11, v22, v23, rfl, hP, (fun h => q (by rwa [RI.don_other _ _ _ (by decide)] at h)), RI.keep (by decide) p0, RI.keep (by decide) p1, RI.keep (by decide) p2, RI.keep (by decide) p3, RI.keep (by decide) p4, fun _ => rfl, RI.keep (by decide) p6, RI.keep (by decide) p7, RI.keep (by decide) p8, RI.keep (by decide) p9, RI.keep (by decide) px10⟩
    · have hd := hd _ rfl
      simp [Region.binds] at hd
      obtain rfl := p5 (by simp [hd])
      refine RI.wpOp_plain rfl rfl ?_
      go_simp
      exact ⟨u12, u13, u14, u15, u16, _, _, u19, u20, u21, F, v5, v10, v11, v22, v23, rfl, hP, (fun h => q (by rwa [RI.don_other _ _ _ (by decide)] at h)), RI.keep (by decide) p0, RI.keep (by decide) p1, RI.keep (by decide) p2, RI.keep (by decide) p3, RI.keep (by decide) p4, RI.keep (by decide) p5, fun _ => rfl, RI.keep (by decide) p7, RI.keep (by decide) p8, RI.keep (by decide) p9, RI.keep (by decide) px10⟩
    · have hd := hd _ rfl
      simp [Region.binds] at hd
      obtain rfl := p6 (by simp [hd])
      refine RI.wpOp_plain rfl rfl ?_
      have c0 : wx.cell? ⟨w.heap.size + 1, 1, none⟩ = some (.int .u64 (dg b 1)) := hP.v1.c 1 (by decide)
      go_simp
      exact ⟨u12, u13, u14, u15, u16, u17, _, _, u20, u21, F, v5, v10, v11, v22, v23, rfl, hP, (fun h => q (by rwa [RI.don_other _ _ _ (by decide)] at h)), RI.keep (by decide) p0, RI.keep (by decide) p1, RI.keep (by decide) p2, RI.keep (by decide) p3, RI.keep (by decide) p4, RI.keep (by decide) p5, RI.keep (by decide) p6, fun _ => rfl, RI.keep (by decide) p8, RI.keep (by decide) p9, RI.keep (by decide) px10⟩
    · have hd := hd _ rfl
      simp [Region.binds] at hd
      obtain rfl := p1 (by simp [hd])
      obtain rfl := p4 (by simp [hd])
      obtain rfl := p7 (by simp [hd])
      refine RI.wpOp_plain rfl rfl ?_
      go_simp
      refine (KF.out _ _ _).mono ?_
      rintro e w1 ⟨rfl, hb1⟩
      exact ⟨u12, _, u14, u15, _, u17, u18, _, _, u21, F, v5, v10, v11, v22, v23, rfl, P4_below hP hb1, (fun h => q (by rwa [RI.don_other _ _ _ (by decide)] at h)), RI.keep (by decide) p0, RI.keep (by decide) p1, RI.keep (by decide) p2, RI.keep (by decide) p3, RI.keep (by decide) p4, RI.keep (by decide) p5, RI.keep (by decide) p6, RI.keep (by decide) p7, fun _ => rfl, RI.keep (by decide) p9, RI.keep (by decide) (px10)⟩
    · have hd := hd _ rfl
      simp [Region.binds] at hd
      obtain rfl := p0 (by simp [hd])
      obtain rfl := p1 (by simp [hd])
      obtain rfl := p2 (by simp [hd])
      obtain rfl := p3 (by simp [hd])
      obtain rfl := p4 (by simp [hd])
      obtain rfl := p5 (by simp [hd])
      obtain rfl := p6 (by simp [hd])
      obtain rfl := p7 (by simp [hd])
      obtain rfl := p8 (by simp [hd])
      refine RI.wpOp_plain rfl rfl ?_
      go_simp
      exact ⟨_, _, _, _, _, _, _, _, _, _, F, v5, v10, v11, v22, v23, rfl, hP, (fun h => q (by rwa [RI.don_other _ _ _ (by decide)] at h)), RI.keep (by decide) p0, RI.keep (by decide) p1, RI.keep (by decide) p2, RI.keep (by decide) p3, RI.keep (by decide) p4, RI.keep (by decide) p5, RI.keep (by decide) p6, RI.keep (by decide) p7, RI.keep (by decide) p8, fun _ => rfl, RI.keep (by decide) px10⟩
    · have hd := hd _ rfl
      simp [Region.binds] at hd
      obtain rfl := p0 (by simp [hd])
      obtain rfl := p1 (by simp [hd])
      obtain rfl := p2 (by simp [hd])
      obtain rfl := p3 (by simp [hd])
      obtain rfl := p4 (by simp [hd])
      obtain rfl := p5 (by simp [hd])
      obtain rfl := p6 (by simp [hd])
      obtain rfl := p7 (by simp [hd])
      obtain rfl := p8 (by simp [hd])
      obtain rfl := p9 (by simp [hd])
      refine RI.wpOp_plain rfl rfl ?_
      obtain rfl := q hf
      have c3 := hP.v3.c 1 (by decide)
      have f3 : ∀ o, wx.frozen? ⟨w.heap.size + 1 + 1 + 1, o, none⟩ = false := hP.v3.f
      go_simp
      exact ⟨_, _, _, _, _, _, _, _, _, _, _, v5, v10, v11, v22, v23, rfl, P4_set hP (by decide), (fun h => absurd h (by simp [RI.don])), RI.keep (by decide) p0, RI.keep (by decide) p1, RI.keep (by decide) p2, RI.keep (by decide) p3, RI.keep (by decide) p4, RI.keep (by decide) p5, RI.keep (by decide) p6, RI.keep (by decide) p7, RI.keep (by decide) p8, RI.keep (by decide) p9, fun _ => rfl⟩
  clear m0
  intro d x wx hI hd
  obtain ⟨u12, u13, u14, u15, u16, u17, u18, u19, u20, u21, F, v5, v10, v11, v22, v23, rfl, hP, q, p0, p1, p2, p3, p4, p5, p6, p7, p8, p9, px10⟩ := hI
  obtain rfl := p0 (hd 0 (by decide))
  obtain rfl := p1 (hd 1 (by decide))
  obtain rfl := p2 (hd 2 (by decide))
  obtain rfl := p3 (hd 3 (by decide))
  obtain rfl := p4 (hd 4 (by decide))
  obtain rfl := p5 (hd 5 (by decide))
  obtain rfl := p6 (hd 6 (by decide))
  obtain rfl := p7 (hd 7 (by decide))
  obtain rfl := p8 (hd 8 (by decide))
  obtain rfl := p9 (hd 9 (by decide))
  rw [px10 (hd 10 (by decide))] at hP
  have m0 := hP
  clear p0 p1 p2 p3 p4 p5 p6 p7 p8 p9 px10 q hd hP
  go_wp2_with fail
  rw [rounds_succ]
  go_upto_region 5 with fail
  refine RI.wp_region_inv (PB2 w a b f (.func (Fn.func 26) #[] #[]) (upd (upd (dg 0) 0 (f (dg a 0) (dg b 0))) 1 (f (dg a 1) (dg b 1)))) (by kernel_rfl) (by kernel_rfl) ?_ ?_ ?_
  · exact ⟨_, _, _, _, _, _, _, _, _, _, upd (upd (dg 0) 0 (f (dg a 0) (dg b 0))) 1 (f (dg a 1) (dg b 1)), _, _, _, _, _, rfl, P4_drew m0, fun _ => rfl, nofun, nofun, nofun, nofun, nofun, nofun, nofun, nofun, nofun, nofun, nofun⟩
  · clear m0
    intro d x wx i hI hi hm
    obtain ⟨u12, u13, u14, u15, u16, u17, u18, u19, u20, u21, F, v5, v10, v11, v22, v23, rfl, hP, q, p0, p1, p2, p3, p4, p5, p6, p7, p8, p9, px10⟩ := hI
    have hi' : i = 0 ∨ i = 1 ∨ i = 2 ∨ i = 3 ∨ i = 4 ∨ i = 5 ∨ i = 6 ∨ i = 7 ∨ i = 8 ∨ i = 9 ∨ i = 10 := by simp at hi; omega
    have hd := hm.2
    have hf := hm.1
    clear hm hi
    rcases hi' with rfl | rfl | rfl | rfl | rfl | rfl | rfl | rfl | rfl | rfl | rfl
    · refine RI.wpOp_plain rfl rfl ?_
      go_simp
      exact ⟨_, u13, u14, u15, u16, u17, u18, u19, u20, u21, F, v5, v10, v11, v22, v23, rfl, hP, (fun h => q (by rwa [RI.don_other _ _ _ (by decide)] at h)), fun _ => rfl, RI.keep (by decide) p1, RI.keep (by decide) p2, RI.keep (by decide) p3, RI.keep (by decide) p4, RI.keep (by decide) p5, RI.keep (by decide) p6, RI.keep (by decide) p7, RI.keep (by decide) p8, RI.keep (by decide) p9, RI.keep (by decide) px10⟩
    · refine RI.wpOp_plain rfl rfl ?_
      go_simp
      exact ⟨u12, _, u14, u15, u16, u17, u18, u19, u20, u21, F, v5, v10, v11, v22, v23, rfl, hP, (fun h => q (by rwa [RI.don_other _ _ _ (by decide)] at h)), RI.keep (by decide) p0, fun _ => rfl, RI.keep (by decide) p2, RI.keep (by decide) p3, RI.keep (by decide) p4, RI.keep (by decide) p5, RI.keep (by decide) p6, RI.keep (by decide) p7, RI.keep (by decide) p8, RI.keep (by decide) p9, RI.keep (by decide) px10⟩
    · refine RI.wpOp_plain rfl rfl ?_
      go_simp
      exact ⟨u12, u13, _, u15, u16, u17, u18, u19, u20, u21, F, v5, v10, v11, v22, v23, rfl, hP, (fun h => q (by rwa [RI.don_other _ _ _ (by decide)] at h)), RI.keep (by decide) p0, RI.keep (by decide) p1, fun _ => rfl, RI.keep (by decide) p3, RI.keep (by decide) p4, RI.keep (by decide) p5, RI.keep (by decide) p6, RI.keep (by decide) p7, RI.keep (by decide) p8, RI.keep (by decide) p9, RI.keep (by decide) px10⟩
    · have hd := hd _ rfl
      simp [Region.binds] at hd
      obtain rfl := p2 (by simp [hd])
      refine RI.wpOp_plain rfl rfl ?_
      go_simp
      exact ⟨u12, u13, _, _, u16, u17, u18, u19, u20, u21, F, v5, v10, v11, v22, v23, rfl, hP, (fun h => q (by rwa [RI.don_other _ _ _ (by decide)] at h)), RI.keep (by decide) p0, RI.keep (by decide) p1, RI.keep (by decide) p2, fun _ => rfl, RI.keep (by decide) p4, RI.keep (by decide) p5, RI.keep (by decide) p6, RI.keep (by decide) p7, RI.keep (by decide) p8, RI.keep (by decide) p9, RI.keep (by decide) px10⟩
    · have hd := hd _ rfl
      simp [Region.binds] at hd
      obtain rfl := p3 (by simp [hd])
      refine RI.wpOp_plain rfl rfl ?_
      have c0 : wx.cell? ⟨w.heap.size, 2, none⟩ = some (.int .u64 (dg a 2)) := hP.v0.c 2 (by decide)
      go_simp
      exact ⟨u12, u13, u14, _, _, u17, u18, u19, u20, u21, F, v5, v10, v11, v22, v23, rfl, hP, (fun h => q (by rwa [RI.don_other _ _ _ (by decide)] at h)), RI.keep (by decide) p0, RI.keep (by decide) p1, RI.keep (by decide) p2, RI.keep (by decide) p3, fun _ => rfl, RI.keep (by decide) p5, RI.keep (by decide) p6, RI.keep (by decide) p7, RI.keep (by decide) p8, RI.keep (by decide) p9, RI.keep (by decide) px10⟩
    · refine RI.wpOp_plain rfl rfl ?_
      go_simp
      exact ⟨u12, u13, u14, u15, u16, _, u18, u19, u20, u21, F, v5, v10, v11, v22, v23, rfl, hP, (fun h => q (by rwa [RI.don_other _ _ _ (by decide)] at h)), RI.keep (by decide) p0, RI.keep (by decide) p1, RI.keep (by decide) p2, RI.keep (by decide) p3, RI.keep (by decide) p4, fun _ => rfl, RI.keep (by decide) p6, RI.keep (by decide) p7, RI.keep (by decide) p8, RI.keep (by decide) p9, RI.keep (by decide) px10⟩
    · have hd := hd _ rfl
      simp [Region.binds] at hd
      obtain rfl := p5 (by simp [hd])
      refine RI.wpOp_plain rfl rfl ?_
      go_simp
      exact ⟨u12, u13, u14, u15, u16, _, _, u19, u20, u21, F, v5, v10, v11, v22, v23, rfl, hP, (fun h => q (by rwa [RI.don_other _ _ _ (by decide)] at h)), RI.keep (by decide) p0, RI.keep (by decide) p1, RI.keep (by decide) p2, RI.keep (by decide) p3, RI.keep (by decide) p4, RI.keep (by decide) p5, fun _ => rfl, RI.keep (by decide) p7, RI.keep (by decide) p8, RI.keep (by decide) p9, RI.keep (by decide) px10⟩
    · have hd := hd _ rfl
      simp [Region.binds] at hd
      obtain rfl := p6 (by simp [hd])
      refine RI.wpOp_plain rfl rfl ?_
      have c0 : wx.cell? ⟨w.heap.size + 1, 2, none⟩ = some (.int .u64 (dg b 2)) := hP.v1.c 2 (by decide)
      go_simp
      exact ⟨u12, u13, u14, u15, u16, u17, _, _, u20, u21, F, v5, v10, v11, v22, v23, rfl, hP, (fun h => q (by rwa [RI.don_other _ _ _ (by decide)] at h)), RI.keep (by decide) p0, RI.keep (by decide) p1, RI.keep (by decide) p2, RI.keep (by decide) p3, RI.keep (by decide) p4, RI.keep (by decide) p5, RI.keep (by decide) p6, fun _ => rfl, RI.keep (by decide) p8, RI.keep (by decide) p9, RI.keep (by decide) px10⟩
    · have hd := hd _ rfl
      simp [Region.binds] at hd
      obtain rfl := p1 (by simp [hd])
      obtain rfl := p4 (by simp [hd])
      obtain rfl := p7 (by simp [hd])
      refine RI.wpOp_plain rfl rfl ?_
      go_simp
      refine (KF.out _ _ _).mono ?_
      rintro e w1 ⟨rfl, hb1⟩
      exact ⟨u12, _, u14, u15, _, u17, u18, _, _, u21, F, v5, v10, v11, v22, v23, rfl, P4_below hP hb1, (fun h => q (by rwa [RI.don_other _ _ _ (by decide)] at h)), RI.keep (by decide) p0, RI.keep (by decide) p1, RI.keep (by decide) p2, RI.keep (by decide) p3, RI.keep (by decide) p4, RI.keep (by decide) p5, RI.keep (by decide) p6, RI.keep (by decide) p7, fun _ => rfl, RI.keep (by decide) p9, RI.keep (by decide) (px10)⟩
    · have hd := hd _ rfl
      simp [Region.binds] at hd
      obtain rfl := p0 (by simp [hd])
      obtain rfl := p1 (by simp [hd])
      obtain rfl := p2 (by simp [hd])
      obtain rfl := p3 (by simp [hd])
      obtain rfl := p4 (by simp [hd])
      obtain rfl := p5 (by simp [hd])
      obtain rfl := p6 (by simp [hd])
      obtain rfl := p7 (by simp [hd])
      obtain rfl := p8 (by simp [hd])
      refine RI.wpOp_plain rfl rfl ?_
      go_simp
      exact ⟨_, _, _, _, _, _, _, _, _, _, F, v5, v10, v11, v22, v23, rfl, hP, (fun h => q (by rwa [RI.don_other _ _ _ (by decide)] at h)), RI.keep (by decide) p0, RI.keep (by decide) p1, RI.keep (by decide) p2, RI.keep (by decide) p3, RI.keep (by decide) p4, RI.keep (by decide) p5, RI.keep (by decide) p6, RI.keep (by decide) p7, RI.keep (by decide) p8, fun _ => rfl, RI.keep (by decide) px10⟩
    · have hd := hd _ rfl
      simp [Region.binds] at hd
      obtain rfl := p0 (by simp [hd])
      obtain rfl := p1 (by simp [hd])
      obtain rfl := p2 (by simp [hd])
      obtain rfl := p3 (by simp [hd])
      obtain rfl := p4 (by simp [hd])
      obtain rfl := p5 (by simp [hd])
      obtain rfl := p6 (by simp [hd])
      obtain rfl := p7 (by simp [hd])
      obtain rfl := p8 (by simp [hd])
      obtain rfl := p9 (by simp [hd])
      refine RI.wpOp_plain rfl rfl ?_
      obtain rfl := q hf
      have c3 := hP.v3.c 2 (by decide)
      have f3 : ∀ o, wx.frozen? ⟨w.heap.size + 1 + 1 + 1, o, none⟩ = false := hP.v3.f
      go_simp
      exact ⟨_, _, _, _, _, _, _, _, _, _, _, v5, v10, v11, v22, v23, rfl, P4_set hP (by decide), (fun h => absurd h (by simp [RI.don])), RI.keep (by decide) p0, RI.keep (by decide) p1, RI.keep (by decide) p2, RI.keep (by decide) p3, RI.keep (by decide) p4, RI.keep (by decide) p5, RI.keep (by decide) p6, RI.keep (by decide) p7, RI.keep (by decide) p8, RI.keep (by decide) p9, fun _ => rfl⟩
  clear m0
  intro d x wx hI hd
  obtain ⟨u12, u13, u14, u15, u16, u17, u18, u19, u20, u21, F, v5, v10, v11, v22, v23, rfl, hP, q, p0, p1, p2, p3, p4, p5, p6, p7, p8, p9, px10⟩ := hI
  obtain rfl := p0 (hd 0 (by decide))
  obtain rfl := p1 (hd 1 (by decide))
  obtain rfl := p2 (hd 2 (by decide))
  obtain rfl := p3 (hd 3 (by decide))
  obtain rfl := p4 (hd 4 (by decide))
  obtain rfl := p5 (hd 5 (by decide))
  obtain rfl := p6 (hd 6 (by decide))
  obtain rfl := p7 (hd 7 (by decide))
  obtain rfl := p8 (hd 8 (by decide))
  obtain rfl := p9 (hd 9 (by decide))
  rw [px10 (hd 10 (by decide))] at hP
  have m0 := hP
  clear p0 p1 p2 p3 p4 p5 p6 p7 p8 p9 px10 q hd hP
  go_wp2_with fail
  rw [rounds_succ]
  go_upto_region 5 with fail
  refine RI.wp_region_inv (PB3 w a b f (.func (Fn.func 26) #[] #[]) (upd (upd (upd (dg 0) 0 (f (dg a 0) (dg b 0))) 1 (f (dg a 1) (dg b 1))) 2 (f (dg a 2) (dg b 2)))) (by kernel_rfl) (by kernel_rfl) ?_ ?_ ?_
  · exact ⟨_, _, _, _, _, _, _, _, _, _, upd (upd (upd (dg 0) 0 (f (dg a 0) (dg b 0))) 1 (f (dg a 1) (dg b 1))) 2 (f (dg a 2) (dg b 2)), _, _, _, _, _, rfl, P4_drew m0, fun _ => rfl, nofun, nofun, nofun, nofun, nofun, nofun, nofun, nofun, nofun, nofun, nofun⟩
  · clear m0
    intro d x wx i hI hi hm
    obtain ⟨u12, u13, u14, u15, u16, u17, u18, u19, u20, u21, F, v5, v10, v11, v22, v23, rfl, hP, q, p0, p1, p2, p3, p4, p5, p6, p7, p8, p9, px10⟩ := hI
    have hi' : i = 0 ∨ i = 1 ∨ i = 2 ∨ i = 3 ∨ i = 4 ∨ i = 5 ∨ i = 6 ∨ i = 7 ∨ i = 8 ∨ i = 9 ∨ i = 10 := by simp at hi; omega
    have hd := hm.2
    have hf := hm.1
    clear hm hi
    rcases hi' with rfl | rfl | rfl | rfl | rfl | rfl | rfl | rfl | rfl | rfl | rfl
    · refine RI.wpOp_plain rfl rfl ?_
      go_simp
      exact ⟨_, u13, u14, u15, u16, u17, u18, u19, u20, u21, F, v5, v10, v11, v22, v23, rfl, hP, (fun h => q (by rwa [RI.don_other _ _ _ (by decide)] at h)), fun _ => rfl, RI.keep (by decide) p1, RI.keep (by decide) p2, RI.keep (by decide) p3, RI.keep (by decide) p4, RI.keep (by decide) p5, RI.keep (by decide) p6, RI.keep (by decide) p7, RI.keep (by decide) p8, RI.keep (by decide) p9, RI.keep (by decide) px10⟩
    · refine RI.wpOp_plain rfl rfl ?_
      go_simp
      exact ⟨u12, _, u14, u15, u16, u17, u18, u19, u20, u21, F, v5, v10, v11, v22, v23, rfl, hP, (fun h => q (by rwa [RI.don_other _ _ _ (by decide)] at h)), RI.keep (by decide) p0, fun _ => rfl, RI.keep (by decide) p2, RI.keep (by decide) p3, RI.keep (by decide) p4, RI.keep (by decide) p5, RI.keep (by decide) p6, RI.keep (by decide) p7, RI.keep (by decide) p8, RI.keep (by decide) p9, RI.keep (by decide) px10⟩
    · refine RI.wpOp_plain rfl rfl ?_
      go_simp
      exact ⟨u12, u13, _, u15, u16, u17, u18, u19, u20, u21, F, v5, v10, v11, v22, v23, rfl, hP, (fun h => q (by rwa [RI.don_other _ _ _ (by decide)] at h)), RI.keep (by decide) p0, RI.keep (by decide) p1, fun _ => rfl, RI.keep (by decide) p3, RI.keep (by decide) p4, RI.keep (by decide) p5, RI.keep (by decide) p6, RI.keep (by decide) p7, RI.keep (by decide) p8, RI.keep (by decide) p9, RI.keep (by decide) px10⟩
    · have hd := hd _ rfl
      simp [Region.binds] at hd
      obtain rfl := p2 (by simp [hd])
      refine RI.wpOp_plain rfl rfl ?_
      go_simp
      exact ⟨u12, u13, _, _, u16, u17, u18, u19, u20, u21, F, v5, v10, v11, v22, v23, rfl, hP, (fun h => q (by rwa [RI.don_other _ _ _ (by decide)] at h)), RI.keep (by decide) p0, RI.keep (by decide) p1, RI.keep (by decide) p2, fun _ => rfl, RI.keep (by decide) p4, RI.keep (by decide) p5, RI.keep (by decide) p6, RI.keep (by decide) p7, RI.keep (by decide) p8, RI.keep (by decide) p9, RI.keep (by decide) px10⟩
    · have hd := hd _ rfl
      simp [Region.binds] at hd
      obtain rfl := p3 (by simp [hd])
      refine RI.wpOp_plain rfl rfl ?_
      have c0 : wx.cell? ⟨w.heap.size, 3, none⟩ = some (.int .u64 (dg a 3)) := hP.v0.c 3 (by decide)
      go_simp
      exact ⟨u12, u13, u14, _, _, u17, u18, u19, u20, u21, F, v5, v10, v11, v22, v23, rfl, hP, (fun h => q (by rwa [RI.don_other _ _ _ (by decide)] at h)), RI.keep (by decide) p0, RI.keep (by decide) p1, RI.keep (by decide) p2, RI.keep (by decide) p3, fun _ => rfl, RI.keep (by decide) p5, RI.keep (by decide) p6, RI.keep (by decide) p7, RI.keep (by decide) p8, RI.keep (by decide) p9, RI.keep (by decide) px10⟩
    · refine RI.wpOp_plain rfl rfl ?_
      go_simp
      exact ⟨u12, u13, u14, u15, u16, _, u18, u19, u20, u21, F, v5, v10, v11, v22, v23, rfl, hP, (fun h => q (by rwa [RI.don_other _ _ _ (by decide)] at h)), RI.keep (by decide) p0, RI.keep (by decide) p1, RI.keep (by decide) p2, RI.keep (by decide) p3, RI.keep (by decide) p4, fun _ => rfl, RI.keep (by decide) p6, RI.keep (by decide) p7, RI.keep (by decide) p8, RI.keep (by decide) p9, RI.keep (by decide) px10⟩
    · have hd := hd _ rfl
      simp [Region.binds] at hd
      obtain rfl := p5 (by simp [hd])
      refine RI.wpOp_plain rfl rfl ?_
      go_simp
      exact ⟨u12, u13, u14, u15, u16, _, _, u19, u20, u21, F, v5, v10, v11, v22, v23, rfl, hP, (fun h => q (by rwa [RI.don_other _ _ _ (by decide)] at h)), RI.keep (by decide) p0, RI.keep (by decide) p1, RI.keep (by decide) p2, RI.keep (by decide) p3, RI.keep (by decide) p4, RI.keep (by decide) p5, fun _ => rfl, RI.keep (by decide) p7, RI.keep (by decide) p8, RI.keep (by decide) p9, RI.keep (by decide) px10⟩
    · have hd := hd _ rfl
      simp [Region.binds] at hd
      obtain rfl := p6 (by simp [hd])
      refine RI.wpOp_plain rfl rfl ?_
      have c0 : wx.cell? ⟨w.heap.size + 1, 3, none⟩ = some (.int .u64 (dg b 3)) := hP.v1.c 3 (by decide)
      go_simp
      exact ⟨u12, u13, u14, u15, u16, u17, _, _, u20, u21, F, v5, v10, v11, v22, v23, rfl, hP, (fun h => q (by rwa [RI.don_other _ _ _ (by decide)] at h)), RI.keep (by decide) p0, RI.keep (by decide) p1, RI.keep (by decide) p2, RI.keep (by decide) p3, RI.keep (by decide) p4, RI.keep (by decide) p5, RI.keep (by decide) p6, fun _ => rfl, RI.keep (by decide) p8, RI.keep (by decide) p9, RI.keep (by decide) px10⟩
    · have hd := hd _ rfl
      simp [Region.binds] at hd
      obtain rfl := p1 (by simp [hd])
      obtain rfl := p4 (by simp [hd])
      obtain rfl := p7 (by simp [hd])
      refine RI.wpOp_plain rfl rfl ?_
      go_simp
      refine (KF.out _ _ _).mono ?_
      rintro e w1 ⟨rfl, hb1⟩
      exact ⟨u12, _, u14, u15, _, u17, u18, _, _, u21, F, v5, v10, v11, v22, v23, rfl, P4_below hP hb1, (fun h => q (by rwa [RI.don_other _ _ _ (by decide)] at h)), RI.keep (by decide) p0, RI.keep (by decide) p1, RI.keep (by decide) p2, RI.keep (by decide) p3, RI.keep (by decide) p4, RI.keep (by decide) p5, RI.keep (by decide) p6, RI.keep (by decide) p7, fun _ => rfl, RI.keep (by decide) p9, RI.keep (by decide) (px10)⟩
    · have hd := hd _ rfl
      simp [Region.binds] at hd
      obtain rfl := p0 (by simp [hd])
      obtain rfl := p1 (by simp [hd])
      obtain rfl := p2 (by simp [hd])
      obtain rfl := p3 (by simp [hd])
      obtain rfl := p4 (by simp [hd])
      obtain rfl := p5 (by simp [hd])
      obtain rfl := p6 (by simp [hd])
      obtain rfl := p7 (by simp [hd])
      obtain rfl := p8 (by simp [hd])
      refine RI.wpOp_plain rfl rfl ?_
      go_simp
      exact ⟨_, _, _, _, _, _, _, _, _, _, F, v5, v10, v11, v22, v23, rfl, hP, (fun h => q (by rwa [RI.don_other _ _ _ (by decide)] at h)), RI.keep (by decide) p0, RI.keep (by decide) p1, RI.keep (by decide) p2, RI.keep (by decide) p3, RI.keep (by decide) p4, RI.keep (by decide) p5, RI.keep (by decide) p6, RI.keep (by decide) p7, RI.keep (by decide) p8, fun _ => rfl, RI.keep (by decide) px10⟩
    · have hd := hd _ rfl
      simp [Region.binds] at hd
      obtain rfl := p0 (by simp [hd])
      obtain rfl := p1 (by simp [hd])
      obtain rfl := p2 (by simp [hd])
      obtain rfl := p3 (by simp [hd])
      obtain rfl := p4 (by simp [hd])
      obtain rfl := p5 (by simp [hd])
      obtain rfl := p6 (by simp [hd])
      obtain rfl := p7 (by simp [hd])
      obtain rfl := p8 (by simp [hd])
      obtain rfl := p9 (by simp [hd])
      refine RI.wpOp_plain rfl rfl ?_
      obtain rfl := q hf
      have c3 := hP.v3.c 3 (by decide)
      have f3 : ∀ o, wx.frozen? ⟨w.heap.size + 1 + 1 + 1, o, none⟩ = false := hP.v3.f
      go_simp
      exact ⟨_, _, _, _, _, _, _, _, _, _, _, v5, v10, v11, v22, v23, rfl, P4_set hP (by decide), (fun h => absurd h (by simp [RI.don])), RI.keep (by decide) p0, RI.keep (by decide) p1, RI.keep (by decide) p2, RI.keep (by decide) p3, RI.keep (by decide) p4, RI.keep (by decide) p5, RI.keep (by decide) p6, RI.keep (by decide) p7, RI.keep (by decide) p8, RI.keep (by decide) p9, fun _ => rfl⟩
  clear m0
  intro d x wx hI hd
  obtain ⟨u12, u13, u14, u15, u16, u17, u18, u19, u20, u21, F, v5, v10, v11, v22, v23, rfl, hP, q, p0, p1, p2, p3, p4, p5, p6, p7, p8, p9, px10⟩ := hI
  obtain rfl := p0 (hd 0 (by decide))
  obtain rfl := p1 (hd 1 (by decide))
  obtain rfl := p2 (hd 2 (by decide))
  obtain rfl := p3 (hd 3 (by decide))
  obtain rfl := p4 (hd 4 (by decide))
  obtain rfl := p5 (hd 5 (by decide))
  obtain rfl := p6 (hd 6 (by decide))
  obtain rfl := p7 (hd 7 (by decide))
  obtain rfl := p8 (hd 8 (by decide))
  obtain rfl := p9 (hd 9 (by decide))
  rw [px10 (hd 10 (by decide))] at hP
  have m0 := hP
  clear p0 p1 p2 p3 p4 p5 p6 p7 p8 p9 px10 q hd hP
  go_wp2_with fail
  rw [rounds_succ]
  have c3 : ∀ o, o < 4 → wx.cell? ⟨w.heap.size + 1 + 1 + 1, o, none⟩ = some (.int .u64 (dg N o)) := fun o ho => by
    rw [← HN.out o ho, m0.v3.c o ho]
    have : o = 0 ∨ o = 1 ∨ o = 2 ∨ o = 3 := by omega
    rcases this with rfl | rfl | rfl | rfl <;> rfl
  have c2 : ∀ o, o < 4 → wx.cell? ⟨w.heap.size + 1 + 1, o, none⟩ = some (.int .u64 (dg 0 o)) := m0.v2.c
  have f2 : ∀ o, wx.frozen? ⟨w.heap.size + 1 + 1, o, none⟩ = false := m0.v2.f
  have z2 := m0.v2.hi
  have HV : Hid (Vb w.heap.size (w.heap.size + 1 + 1) 4 (dg N) _) := Vb_set4 m0.v2
  have HB : Hid (Below w.heap.size w _) := Bel_set4 (h := w.heap.size + 1 + 1) (m := N) m0.bel (by omega)
  clear m0
  go_wp2_with fail
  exact bodyPost_ret (v := Wd N) (resultTw _ _ _ (w.heap.size + 1 + 1) N 6 rfl rfl HV.out.c) rfl ⟨rfl, HB.out⟩
set_option maxHeartbeats 4000000 in
set_option maxRecDepth 100000 in
theorem pbp_or (a b N : Nat) (f : Int → Int → Int) (KF : Hid (∀ (x y : Int) (w : World), Calls Try.prog 27 #[.int .u64 x, .int .u64 y] w fun e w' => e = .returned (.int .u64 (f x y)) ∧ Below w.heap.size w w')) (HN : Hid (∀ o, o < 4 → f (dg a o) (dg b o) = dg N o)) (w : World) :
    Calls Try.prog 25 #[Wd a, Wd b, .func (Fn.func 27) #[] #[]] w fun e w' => e = .returned (Wd N) ∧ Below w.heap.size w w' := by
  have m0 : P4 w a b (dg 0) ((((w.alloc (.cells #[.int .u64 (dg a 0), .int .u64 (dg a 1), .int .u64 (dg a 2), .int .u64 (dg a 3)] 24)).alloc (.cells #[.int .u64 (dg b 0), .int .u64 (dg b 1), .int .u64 (dg b 2), .int .u64 (dg b 3)] 24)).alloc (.cells #[.int .u64 0, .int .u64 0, .int .u64 0, .int .u64 0] 24)).alloc (.cells #[.int .u64 0, .int .u64 0, .int .u64 0, .int .u64 0] 24)) := by
    have k := M4_start w a b 24
    exact ⟨k.v0, k.v1, k.v2, k.v3, k.bel⟩
  conv => arg 3; unfold Wd
  go_enter Try.func25, Try.ntmps25
  go_wp2_with fail
  generalize (((w.alloc (.cells #[.int .u64 (dg a 0), .int .u64 (dg a 1), .int .u64 (dg a 2), .int .u64 (dg a 3)] 24)).alloc (.cells #[.int .u64 (dg b 0), .int .u64 (dg b 1), .int .u64 (dg b 2), .int .u64 (dg b 3)] 24)).alloc (.cells #[.int .u64 0, .int .u64 0, .int .u64 0, .int .u64 0] 24)).alloc (.cells #[.int .u64 0, .int .u64 0, .int .u64 0, .int .u64 0] 24) = W0 at m0 ⊢
  refine wp_loop_rounds 5 ?_
  rw [rounds_succ]
  go_upto_region 5 with fail
  refine RI.wp_region_inv (PB0 w a b f (.func (Fn.func 27) #[] #[]) (dg 0)) (by kernel_rfl) (by kernel_rfl) ?_ ?_ ?_
  · exact ⟨undef, undef, undef, undef, undef, undef, undef, undef, undef, undef, dg 0, _, _, _, _, _, rfl, P4_drew m0, fun _ => rfl, nofun, nofun, nofun, nofun, nofun, nofun, nofun, nofun, nofun, nofun, nofun⟩
  · clear m0
    intro d x wx i hI hi hm
    obtain ⟨u12, u13, u14, u15, u16, u17, u18, u19, u20, u21, F, v5, v10, v11, v22, v23, rfl, hP, q, p0, p1, p2, p3, p4, p5, p6, p7, p8, p9, px10⟩ := hI
    have hi' : i = 0 ∨ i = 1 ∨ i = 2 ∨ i = 3 ∨ i = 4 ∨ i = 5 ∨ i = 6 ∨ i = 7 ∨ i = 8 ∨ i = 9 ∨ i = 10 := by simp at hi; omega
    have hd := hm.2
    have hf := hm.1
    clear hm hi
    rcases hi' with rfl | rfl | rfl | rfl | rfl | rfl | rfl | rfl | rfl | rfl | rfl
    · refine RI.wpOp_plain rfl rfl ?_
      go_simp
      exact ⟨_, u13, u14, u15, u16, u17, u18, u19, u20, u21, F, v5, v10, v11, v22, v23, rfl, hP, (fun h => q (by rwa [RI.don_other _ _ _ (by decide)] at h)), fun _ => rfl, RI.keep (by decide) p1, RI.keep (by decide) p2, RI.keep (by decide) p3, RI.keep (by decide) p4, RI.keep (by decide) p5, RI.keep (by decide) p6, RI.keep (by decide) p7, RI.keep (by decide) p8, RI.keep (by decide) p9, RI.keep (by decide) px10⟩
    · refine RI.wpOp_plain rfl rfl ?_
      go_simp
      exact ⟨u12, _, u14, u15, u16, u17, u18, u19, u20, u21, F, v5, v10, v11, v22, v23, rfl, hP, (fun h => q (by rwa [RI.don_other _ _ _ (by decide)] at h)), RI.keep (by decide) p0, fun _ => rfl, RI.keep (by decide) p2, RI.keep (by decide) p3, RI.keep (by decide) p4, RI.keep (by decide) p5, RI.keep (by decide) p6, RI.keep (by decide) p7, RI.keep (by decide) p8, RI.keep (by decide) p9, RI.keep (by decide) px10⟩
    · refine RI.wpOp_plain rfl rfl ?_
      go_simp
      exact ⟨u12, u13, _, u15, u16, u17, u18, u19, u20, u21, F, v5, v10, v11, v22, v23, rfl, hP, (fun h => q (by rwa [RI.don_other _ _ _ (by decide)] at h)), RI.keep (by decide) p0, RI.keep (by decide) p1, fun _ => rfl, RI.keep (by decide) p3, RI.keep (by decide) p4, RI.keep (by decide) p5, RI.keep (by decide) p6, RI.keep (by decide) p7, RI.keep (by decide) p8, RI.keep (by decide) p9, RI.keep (by decide) px10⟩
    · have hd := hd _ rfl
      simp [Region.binds] at hd
      obtain rfl := p2 (by simp [hd])
      refine RI.wpOp_plain rfl rfl ?_
      go_simp
      exact ⟨u12, u13, _, _, u16, u17, u18, u19, u20, u21, F, v5, v10, v11, v22, v23, rfl, hP, (fun h => q (by rwa [RI.don_other _ _ _ (by decide)] at h)), RI.keep (by decide) p0, RI.keep (by decide) p1, RI.keep (by decide) p2, fun _ => rfl, RI.keep (by decide) p4, RI.keep (by decide) p5, RI.keep (by decide) p6, RI.keep (by decide) p7, RI.keep (by decide) p8, RI.keep (by decide) p9, RI.keep (by decide) px10⟩
    · have hd := hd _ rfl
      simp [Region.binds] at hd
      obtain rfl := p3 (by simp [hd])
      refine RI.wpOp_plain rfl rfl ?_
      have c0 : wx.cell? ⟨w.heap.size, 0, none⟩ = some (.int .u64 (dg a 0)) := hP.v0.c 0 (by decide)
      go_simp
      exact ⟨u12, u13, u14, _, _, u17, u18, u19, u20, u21, F, v5, v10, v11, v22, v23, rfl, hP, (fun h => q (by rwa [RI.don_other _ _ _ (by decide)] at h)), RI.keep (by decide) p0, RI.keep (by decide) p1, RI.keep (by decide) p2, RI.keep (by decide) p3, fun _ => rfl, RI.keep (by decide) p5, RI.keep (by decide) p6, RI.keep (by decide) p7, RI.keep (by decide) p8, RI.keep (by decide) p9, RI.keep (by decide) px10⟩
    · refine RI.wpOp_plain rfl rfl ?_
      go_simp
      exact ⟨u12, u13, u14, u15, u16, _, u18, u19, u20, u21, F, v5, v10, v11, v22, v23, rfl, hP, (fun h => q (by rwa [RI.don_other _ _ _ (by decide)] at h)), RI.keep (by decide) p0, RI.keep (by decide) p1, RI.keep (by decide) p2, RI.keep (by decide) p3, RI.keep (by decide) p4, fun _ => rfl, RI.keep (by decide) p6, RI.keep (by decide) p7, RI.keep (by decide) p8, RI.keep (by decide) p9, RI.keep (by decide) px10⟩
    · have hd := hd _ rfl
      simp [Region.binds] at hd
      obtain rfl := p5 (by simp [hd])
      refine RI.wpOp_plain rfl rfl ?_
      go_simp
      exact ⟨u12, u13, u14, u15, u16, _, _, u19, u20, u21, F, v5, v10, v11, v22, v23, rfl, hP, (fun h => q (by rwa [RI.don_other _ _ _ (by decide)] at h)), RI.keep (by decide) p0, RI.keep (by decide) p1, RI.keep (by decide) p2, RI.keep (by decide) p3, RI.keep (by decide) p4, RI.keep (by decide) p5, fun _ => rfl, RI.keep (by decide) p7, RI.keep (by decide) p8, RI.keep (by decide) p9, RI.keep (by decide) px10⟩
    · have hd := hd _ rfl
      simp [Region.binds] at hd
      obtain rfl := p6 (by simp [hd])
      refine RI.wpOp_plain rfl rfl ?_
      have c0 : wx.cell? ⟨w.heap.size + 1, 0, none⟩ = some (.int .u64 (dg b 0)) := hP.v1.c 0 (by decide)
      go_simp
      exact ⟨u12, u13, u14, u15, u16, u17, _, _, u20, u21, F, v5, v10, v11, v22, v23, rfl, hP, (fun h => q (by rwa [RI.don_other _ _ _ (by decide)] at h)), RI.keep (by decide) p0, RI.keep (by decide) p1, RI.keep (by decide) p2, RI.keep (by decide) p3, RI.keep (by decide) p4, RI.keep (by decide) p5, RI.keep (by decide) p6, fun _ => rfl, RI.keep (by decide) p8, RI.keep (by decide) p9, RI.keep (by decide) px10⟩
    · have hd := hd _ rfl
      simp [Region.binds] at hd
      obtain rfl := p1 (by simp [hd])
      obtain rfl := p4 (by simp [hd])
      obtain rfl := p7 (by simp [hd])
      refine RI.wpOp_plain rfl rfl ?_
      go_simp
      refine (KF.out _ _ _).mono ?_
      rintro e w1 ⟨rfl, hb1⟩
      exact ⟨u12, _, u14, u15, _, u17, u18, _, _, u21, F, v5, v10, v11, v22, v23, rfl, P4_below hP hb1, (fun h => q (by rwa [RI.don_other _ _ _ (by decide)] at h)), RI.keep (by decide) p0, RI.keep (by decide) p1, RI.keep (by decide) p2, RI.keep (by decide) p3, RI.keep (by decide) p4, RI.keep (by decide) p5, RI.keep (by decide) p6, RI.keep (by decide) p7, fun _ => rfl, RI.keep (by decide) p9, RI.keep (by decide) (px10)⟩
    · have hd := hd _ rfl
      simp [Region.binds] at hd
      obtain rfl := p0 (by simp [hd])
      obtain rfl := p1 (by simp [hd])
      obtain rfl := p2 (by simp [hd])
      obtain rfl := p3 (by simp [hd])
      obtain rfl := p4 (by simp [hd])
      obtain rfl := p5 (by simp [hd])
      obtain rfl := p6 (by simp [hd])
      obtain rfl := p7 (by simp [hd])
      obtain rfl := p8 (by simp [hd])
      refine RI.wpOp_plain rfl rfl ?_
      go_simp
      exact ⟨_, _, _, _, _, _, _, _, _, _, F, v5, v10, v11, v22, v23, rfl, hP, (fun h => q (by rwa [RI.don_other _ _ _ (by decide)] at h)), RI.keep (by decide) p0, RI.keep (by decide) p1, RI.keep (by decide) p2, RI.keep (by decide) p3, RI.keep (by decide) p4, RI.keep (by decide) p5, RI.keep (by decide) p6, RI.keep (by decide) p7, RI.keep (by decide) p8, fun _ => rfl, RI.keep (by decide) px10⟩
    · have hd := hd _ rfl
      simp [Region.binds] at hd
      obtain rfl := p0 (by simp [hd])
      obtain rfl := p1 (by simp [hd])
      obtain rfl := p2 (by simp [hd])
      obtain rfl := p3 (by simp [hd])
      obtain rfl := p4 (by simp [hd])
      obtain rfl := p5 (by simp [hd])
      obtain rfl := p6 (by simp [hd])
      obtain rfl := p7 (by simp [hd])
      obtain rfl := p8 (by simp [hd])
      obtain rfl := p9 (by simp [hd])
      refine RI.wpOp_plain rfl rfl ?_
      obtain rfl := q hf
      have c3 := hP.v3.c 0 (by decide)
      have f3 : ∀ o, wx.frozen? ⟨w.heap.size + 1 + 1 + 1, o, none⟩ = false := hP.v3.f
      go_simp
      exact ⟨_, _, _, _, _, _, _, _, _, _, _, v5, v10, v11, v22, v23, rfl, P4_set hP (by decide), (fun h => absurd h (by simp [RI.don])), RI.keep (by decide) p0, RI.keep (by decide) p1, RI.keep (by decide) p2, RI.keep (by decide) p3, RI.keep (by decide) p4, RI.keep (by decide) p5, RI.keep (by decide) p6, RI.keep (by decide) p7, RI.keep (by decide) p8, RI.keep (by decide) p9, fun _ => rfl⟩
  clear m0
  intro d x wx hI hd
  obtain ⟨u12, u13, u14, u15, u16, u17, u18, u19, u20, u21, F, v5, v10, v11, v22, v23, rfl, hP, q, p0, p1, p2, p3, p4, p5, p6, p7, p8, p9, px10⟩ := hI
  obtain rfl := p0 (hd 0 (by decide))
  obtain rfl := p1 (hd 1 (by decide))
  obtain rfl := p2 (hd 2 (by decide))
  obtain rfl := p3 (hd 3 (by decide))
  obtain rfl := p4 (hd 4 (by decide))
  obtain rfl := p5 (hd 5 (by decide))
  obtain rfl := p6 (hd 6 (by decide))
  obtain rfl := p7 (hd 7 (by decide))
  obtain rfl := p8 (hd 8 (by decide))
  obtain rfl := p9 (hd 9 (by decide))
  rw [px10 (hd 10 (by decide))] at hP
  have m0 := hP
  clear p0 p1 p2 p3 p4 p5 p6 p7 p8 p9 px10 q hd hP
  go_wp2_with fail
  rw [rounds_succ]
  go_upto_region 5 with fail
  refine RI.wp_region_inv (PB1 w a b f (.func (Fn.func 27) #[] #[]) (upd (dg 0) 0 (f (dg a 0) (dg b 0)))) (by kernel_rfl) (by kernel_rfl) ?_ ?_ ?_
  · exact ⟨_, _, _, _, _, _, _, _, _, _, upd (dg 0) 0 (f (dg a 0) (dg b 0)), _, _, _, _, _, rfl, P4_drew m0, fun _ => rfl, nofun, nofun, nofun, nofun, nofun, nofun, nofun, nofun, nofun, nofun, nofun⟩
  · clear m0
    intro d x wx i hI hi hm
    obtain ⟨u12, u13, u14, u15, u16, u17, u18, u19, u20, u21, F, v5, v10, v11, v22, v23, rfl, hP, q, p0, p1, p2, p3, p4, p5, p6, p7, p8, p9, px10⟩ := hI
    have hi' : i = 0 ∨ i = 1 ∨ i = 2 ∨ i = 3 ∨ i = 4 ∨ i = 5 ∨ i = 6 ∨ i = 7 ∨ i = 8 ∨ i = 9 ∨ i = 10 := by simp at hi; omega
    have hd := hm.2
    have hf := hm.1
    clear hm hi
    rcases hi' with rfl | rfl | rfl | rfl | rfl | rfl | rfl | rfl | rfl | rfl | rfl
    · refine RI.wpOp_plain rfl rfl ?_
      go_simp
      exact ⟨_, u13, u14, u15, u16, u17, u18, u19, u20, u21, F, v5, v10, v11, v22, v23, rfl, hP, (fun h => q (by rwa [RI.don_other _ _ _ (by decide)] at h)), fun _ => rfl, RI.keep (by decide) p1, RI.keep (by decide) p2, RI.keep (by decide) p3, RI.keep (by decide) p4, RI.keep (by decide) p5, RI.keep (by decide) p6, RI.keep (by decide) p7, RI.keep (by decide) p8, RI.keep (by decide) p9, RI.keep (by decide) px10⟩
    · refine RI.wpOp_plain rfl rfl ?_
      go_simp
      exact ⟨u12, _, u14, u15, u16, u17, u18, u19, u20, u21, F, v5, v10, v11, v22, v23, rfl, hP, (fun h => q (by rwa [RI.don_other _ _ _ (by decide)] at h)), RI.keep (by decide) p0, fun _ => rfl, RI.keep (by decide) p2, RI.keep (by decide) p3, RI.keep (by decide) p4, RI.keep (by decide) p5, RI.keep (by decide) p6, RI.keep (by decide) p7, RI.keep (by decide) p8, RI.keep (by decide) p9, RI.keep (by decide) px10⟩
    · refine RI.wpOp_plain rfl rfl ?_
      go_simp
      exact ⟨u12, u13, _, u15, u16, u17, u18, u19, u20, u21, F, v5, v10, v11, v22, v23, rfl, hP, (fun h => q (by rwa [RI.don_other _ _ _ (by decide)] at h)), RI.keep (by decide) p0, RI.keep (by decide) p1, fun _ => rfl, RI.keep (by decide) p3, RI.keep (by decide) p4, RI.keep (by decide) p5, RI.keep (by decide) p6, RI.keep (by decide) p7, RI.keep (by decide) p8, RI.keep (by decide) p9, RI.keep (by decide) px10⟩
    · have hd := hd _ rfl
      simp [Region.binds] at hd
      obtain rfl := p2 (by simp [hd])
      refine RI.wpOp_plain rfl rfl ?_
      go_simp
      exact ⟨u12, u13, _, _, u16, u17, u18, u19, u20, u21, F, v5, v10, v11, v22, v23, rfl, hP, (fun h => q (by rwa [RI.don_other _ _ _ (by decide)] at h)), RI.keep (by decide) p0, RI.keep (by decide) p1, RI.keep (by decide) p2, fun _ => rfl, RI.keep (by decide) p4, RI.keep (by decide) p5, RI.keep (by decide) p6, RI.keep (by decide) p7, RI.keep (by decide) p8, RI.keep (by decide) p9, RI.keep (by decide) px10⟩
    · have hd := hd _ rfl
      simp [Region.binds] at hd
      obtain rfl := p3 (by simp [hd])
      refine RI.wpOp_plain rfl rfl ?_
      have c0 : wx.cell? ⟨w.heap.size, 1, none⟩ = some (.int .u64 (dg a 1)) := hP.v0.c 1 (by decide)
      go_simp
      exact ⟨u12, u13, u14, _, _, u17, u18, u19, u20, u21, F, v5, v10, v11, v22, v23, rfl, hP, (fun h => q (by rwa [RI.don_other _ _ _ (by decide)] at h)), RI.keep (by decide) p0, RI.keep (by decide) p1, RI.keep (by decide) p2, RI.keep (by decide) p3, fun _ => rfl, RI.keep (by decide) p5, RI.keep (by decide) p6, RI.keep (by decide) p7, RI.keep (by decide) p8, RI.keep (by decide) p9, RI.keep (by decide) px10⟩
    · refine RI.wpOp_plain rfl rfl ?_
      go_simp
      exact ⟨u12, u13, u14, u15, u16, _, u18, u19, u20, u21, F, v5, v10, v11, v22, v23, rfl, hP, (fun h => q (by rwa [RI.don_other _ _ _ (by decide)] at h)), RI.keep (by decide) p0, RI.keep (by decide) p1, RI.keep (by decide) p2, RI.keep (by decide) p3, RI.keep (by decide) p4, fun _ => rfl, RI.keep (by decide) p6, RI.keep (by decide) p7, RI.keep (by decide) p8, RI.keep (by decide) p9, RI.keep (by decide) px10⟩
    · have hd := hd _ rfl
      simp [Region.binds] at hd
      obtain rfl := p5 (by simp [hd])
      refine RI.wpOp_plain rfl rfl ?_
      go_simp
      exact ⟨u12, u13, u14, u15, u16, _, _, u19, u20, u21, F, v5, v10, v11, v22, v23, rfl, hP, (fun h => q (by rwa [RI.don_other _ _ _ (by decide)] at h)), RI.keep (by decide) p0, RI.keep (by decide) p1, RI.keep (by decide) p2, RI.keep (by decide) p3, RI.keep (by decide) p4, RI.keep (by decide) p5, fun _ => rfl, RI.keep (by decide) p7, RI.keep (by decide) p8, RI.keep (by decide) p9, RI.keep (by decide) px10⟩
    · have hd := hd _ rfl
      simp [Region.binds] at hd
      obtain rfl := p6 (by simp [hd])
      refine RI.wpOp_plain rfl rfl ?_
      have c0 : wx.cell? ⟨w.heap.size + 1, 1, none⟩ = some (.int .u64 (dg b 1)) := hP.v1.c 1 (by decide)
      go_simp
      exact ⟨u12, u13, u14, u15, u16, u17, _, _, u20, u21, F, v5, v10, v11, v22, v23, rfl, hP, (fun h => q (by rwa [RI.don_other _ _ _ (by decide)] at h)), RI.keep (by decide) p0, RI.keep (by decide) p1, RI.keep (by decide) p2, RI.keep (by decide) p3, RI.keep (by decide) p4, RI.keep (by decide) p5, RI.keep (by decide) p6, fun _ => rfl, RI.keep (by decide) p8, RI.keep (by decide) p9, RI.keep (by decide) px10⟩
    · have hd := hd _ rfl
      simp [Region.binds] at hd
      obtain rfl := p1 (by simp [hd])
      obtain rfl := p4 (by simp [hd])
      obtain rfl := p7 (by simp [hd])
      refine RI.wpOp_plain rfl rfl ?_
      go_simp
      refine (KF.out _ _ _).mono ?_
      rintro e w1 ⟨rfl, hb1⟩
      exact ⟨u12, _, u14, u15, _, u17, u18, _, _, u21, F, v5, v10, v11, v22, v23, rfl, P4_below hP hb1, (fun h => q (by rwa [RI.don_other _ _ _ (by decide)] at h)), RI.keep (by decide) p0, RI.keep (by decide) p1, RI.keep (by decide) p2, RI.keep (by decide) p3, RI.keep (by decide) p4, RI.keep (by decide) p5, RI.keep (by decide) p6, RI.keep (by decide) p7, fun _ => rfl, RI.keep (by decide) p9, RI.keep (by decide) (px10)⟩
    · have hd := hd _ rfl
      simp [Region.binds] at hd
      obtain rfl := p0 (by simp [hd])
      obtain rfl := p1 (by simp [hd])
      obtain rfl := p2 (by simp [hd])
      obtain rfl := p3 (by simp [hd])
      obtain rfl := p4 (by simp [hd])
      obtain rfl := p5 (by simp [hd])
      obtain rfl := p6 (by simp [hd])
      obtain rfl := p7 (by simp [hd])
      obtain rfl := p8 (by simp [hd])
      refine RI.wpOp_plain rfl rfl ?_
      go_simp
      exact ⟨_, _, _, _, _, _, _, _, _, _, F, v5, v10, v11, v22, v23, rfl, hP, (fun h => q (by rwa [RI.don_other _ _ _ (by decide)] at h)), RI.keep (by decide) p0, RI.keep (by decide) p1, RI.keep (by decide) p2, RI.keep (by decide) p3, RI.keep (by decide) p4, RI.keep (by decide) p5, RI.keep (by decide) p6, RI.keep (by decide) p7, RI.keep (by decide) p8, fun _ => rfl, RI.keep (by decide) px10⟩
    · have hd := hd _ rfl
      simp [Region.binds] at hd
      obtain rfl := p0 (by simp [hd])
      obtain rfl := p1 (by simp [hd])
      obtain rfl := p2 (by simp [hd])
      obtain rfl := p3 (by simp [hd])
      obtain rfl := p4 (by simp [hd])
      obtain rfl := p5 (by simp [hd])
      obtain rfl := p6 (by simp [hd])
      obtain rfl := p7 (by simp [hd])
      obtain rfl := p8 (by simp [hd])
      obtain rfl := p9 (by simp [hd])
      refine RI.wpOp_plain rfl rfl ?_
      obtain rfl := q hf
      have c3 := hP.v3.c 1 (by decide)
      have f3 : ∀ o, wx.frozen? ⟨w.heap.size + 1 + 1 + 1, o, none⟩ = false := hP.v3.f
      go_simp
      exact ⟨_, _, _, _, _, _, _, _, _, _, _, v5, v10, v11, v22, v23, rfl, P4_set hP (by decide), (fun h => absurd h (by simp [RI.don])), RI.keep (by decide) p0, RI.keep (by decide) p1, RI.keep (by decide) p2, RI.keep (by decide) p3, RI.keep (by decide) p4, RI.keep (by decide) p5, RI.keep (by decide) p6, RI.keep (by decide) p7, RI.keep (by decide) p8, RI.keep (by decide) p9, fun _ => rfl⟩
  clear m0
  intro d x wx hI hd
  obtain ⟨u12, u13, u14, u15, u16, u17, u18, u19, u20, u21, F, v5, v10, v11, v22, v23, rfl, hP, q, p0, p1, p2, p3, p4, p5, p6, p7, p8, p9, px10⟩ := hI
  obtain rfl := p0 (hd 0 (by decide))
  obtain rfl := p1 (hd 1 (by decide))
  obtain rfl := p2 (hd 2 (by decide))
  obtain rfl := p3 (hd 3 (by decide))
  obtain rfl := p4 (hd 4 (by decide))
  obtain rfl := p5 (hd 5 (by decide))
  obtain rfl := p6 (hd 6 (by decide))
  obtain rfl := p7 (hd 7 (by decide))
  obtain rfl := p8 (hd 8 (by decide))
  obtain rfl := p9 (hd 9 (by decide))
  rw [px10 (hd 10 (by decide))] at hP
  have m0 := hP
  clear p0 p1 p2 p3 p4 p5 p6 p7 p8 p9 px10 q hd hP
  go_wp2_with fail
  rw [rounds_succ]
  go_upto_region 5 with fail
  refine RI.wp_region_inv (PB2 w a b f (.func (Fn.func 27) #[] #[]) (upd (upd (dg 0) 0 (f (dg a 0) (dg b 0))) 1 (f (dg a 1) (dg b 1)))) (by kernel_rfl) (by kernel_rfl) ?_ ?_ ?_
  · exact ⟨_, _, _, _, _, _, _, _, _, _, upd (upd (dg 0) 0 (f (dg a 0) (dg b 0))) 1 (f (dg a 1) (dg b 1)), _, _, _, _, _, rfl, P4_drew m0, fun _ => rfl, nofun, nofun, nofun, nofun, nofun, nofun, nofun, nofun, nofun, nofun, nofun⟩
  · clear m0
    intro d x wx i hI hi hm
    obtain ⟨u12, u13, u14, u15, u16, u17, u18, u19, u20, u21, F, v5, v10, v11, v22, v23, rfl, hP, q, p0, p1, p2, p3, p4, p5, p6, p7, p8, p9, px10⟩ := hI
    have hi' : i = 0 ∨ i = 1 ∨ i = 2 ∨ i = 3 ∨ i = 4 ∨ i = 5 ∨ i = 6 ∨ i = 7 ∨ i = 8 ∨ i = 9 ∨ i = 10 := by simp at hi; omega
    have hd := hm.2
    have hf := hm.1
    clear hm hi
    rcases hi' with rfl | rfl | rfl | rfl | rfl | rfl | rfl | rfl | rfl | rfl | rfl
    · refine RI.wpOp_plain rfl rfl ?_
      go_simp
      exact ⟨_, u13, u14, u15, u16, u17, u18, u19, u20, u21, F, v5, v10, v11, v22, v23, rfl, hP, (fun h => q (by rwa [RI.don_other _ _ _ (by decide)] at h)), fun _ => rfl, RI.keep (by decide) p1, RI.keep (by decide) p2, RI.keep (by decide) p3, RI.keep (by decide) p4, RI.keep (by decide) p5, RI.keep (by decide) p6, RI.keep (by decide) p7, RI.keep (by decide) p8, RI.keep (by decide) p9, RI.keep (by decide) px10⟩
    · refine RI.wpOp_plain rfl rfl ?_
      go_simp
      exact ⟨u12, _, u14, u15, u16, u17, u18, u19, u20, u21, F, v5, v10, v11, v22, v23, rfl, hP, (fun h => q (by rwa [RI.don_other _ _ _ (by decide)] at h)), RI.keep (by decide) p0, fun _ => rfl, RI.keep (by decide) p2, RI.keep (by decide) p3, RI.keep (by decide) p4, RI.keep (by decide) p5, RI.keep (by decide) p6, RI.keep (by decide) p7, RI.keep (by decide) p8, RI.keep (by decide) p9, RI.keep (by decide) px10⟩
    · refine RI.wpOp_plain rfl rfl ?_
      go_simp
      exact ⟨u12, u13, _, u15, u16, u17, u18, u19, u20, u21, F, v5, v10, v11, v22, v23, rfl, hP, (fun h => q (by rwa [RI.don_other _ _ _ (by decide)] at h)), RI.keep (by decide) p0, RI.keep (by decide) p1, fun _ => rfl, RI.keep (by decide) p3, RI.keep (by decide) p4, RI.keep (by decide) p5, RI.keep (by decide) p6, RI.keep (by decide) p7, RI.keep (by decide) p8, RI.keep (by decide) p9, RI.keep (by decide) px10⟩
    · have hd := hd _ rfl
      simp [Region.binds] at hd
      obtain rfl := p2 (by simp [hd])
      refine RI.wpOp_plain rfl rfl ?_
      go_simp
      exact ⟨u12, u13, _, _, u16, u17, u18, u19, u20, u21, F, v5, v10, v11, v22, v23, rfl, hP, (fun h => q (by rwa [RI.don_other _ _ _ (by decide)] at h)), RI.keep (by decide) p0, RI.keep (by decide) p1, RI.keep (by decide) p2, fun _ => rfl, RI.keep (by decide) p4, RI.keep (by decide) p5, RI.keep (by decide) p6, RI.keep (by decide) p7, RI.keep (by decide) p8, RI.keep (by decide) p9, RI.keep (by decide) px10⟩
    · have hd := hd _ rfl
      simp [Region.binds] at hd
      obtain rfl := p3 (by simp [hd])
      refine RI.wpOp_plain rfl rfl ?_
      have c0 : wx.cell? ⟨w.heap.size, 2, none⟩ = some (.int .u64 (dg a 2)) := hP.v0.c 2 (by decide)
      go_simp
      exact ⟨u12, u13, u14, _, _, u17, u18, u19, u20, u21, F, v5, v10, v11, v22, v23, rfl, hP, (fun h => q (by rwa [RI.don_other _ _ _ (by decide)] at h)), RI.keep (by decide) p0, RI.keep (by decide) p1, RI.keep (by decide) p2, RI.keep (by decide) p3, fun _ => rfl, RI.keep (by decide) p5, RI.keep (by decide) p6, RI.keep (by decide) p7, RI.keep (by decide) p8, RI.keep (by decide) p9, RI.keep (by decide) px10⟩
    · refine RI.wpOp_plain rfl rfl ?_
      go_simp
      exact ⟨u12, u13, u14, u15, u16, _, u18, u19, u20, u21, F, v5, v10, v11, v22, v23, rfl, hP, (fun h => q (by rwa [RI.don_other _ _ _ (by decide)] at h)), RI.keep (by decide) p0, RI.keep (by decide) p1, RI.keep (by decide) p2, RI.keep (by decide) p3, RI.keep (by decide) p4, fun _ => rfl, RI.keep (by decide) p6, RI.keep (by decide) p7, RI.keep (by decide) p8, RI.keep (by decide) p9, RI.keep (by decide) px10⟩
    · have hd := hd _ rfl
      simp [Region.binds] at hd
      obtain rfl := p5 (by simp [hd])
      refine RI.wpOp_plain rfl rfl ?_
      go_simp
      exact ⟨u12, u13, u14, u15, u16, _, _, u19, u20, u21, F, v5, v10, v11, v22, v23, rfl, hP, (fun h => q (by rwa [RI.don_other _ _ _ (by decide)] at h)), RI.keep (by decide) p0, RI.keep (by decide) p1, RI.keep (by decide) p2, RI.keep (by decide) p3, RI.keep (by decide) p4, RI.keep (by decide) p5, fun _ => rfl, RI.keep (by decide) p7, RI.keep (by decide) p8, RI.keep (by decide) p9, RI.keep (by decide) px10⟩
    · have hd := hd _ rfl
      simp [Region.binds] at hd
      obtain rfl := p6 (by simp [hd])
      refine RI.wpOp_plain rfl rfl ?_
      have c0 : wx.cell? ⟨w.heap.size + 1, 2, none⟩ = some (.int .u64 (dg b 2)) := hP.v1.c 2 (by decide)
      go_simp
      exact ⟨u12, u13, u14, u15, u16, u17, _, _, u20, u21, F, v5, v10, v11, v22, v23, rfl, hP, (fun h => q (by rwa [RI.don_other _ _ _ (by decide)] at h)), RI.keep (by decide) p0, RI.keep (by decide) p1, RI.keep (by decide) p2, RI.keep (by decide) p3, RI.keep (by decide) p4, RI.keep (by decide) p5, RI.keep (by decide) p6, fun _ => rfl, RI.keep (by decide) p8, RI.keep (by decide) p9, RI.keep (by decide) px10⟩
    · have hd := hd _ rfl
      simp [Region.binds] at hd
      obtain rfl := p1 (by simp [hd])
      obtain rfl := p4 (by simp [hd])
      obtain rfl := p7 (by simp [hd])
      refine RI.wpOp_plain rfl rfl ?_
      go_simp
      refine (KF.out _ _ _).mono ?_
      rintro e w1 ⟨rfl, hb1⟩
      exact ⟨u12, _, u14, u15, _, u17, u18, _, _, u21, F, v5, v10, v11, v22, v23, rfl, P4_below hP hb1, (fun h => q (by rwa [RI.don_other _ _ _ (by decide)] at h)), RI.keep (by decide) p0, RI.keep (by decide) p1, RI.keep (by decide) p2, RI.keep (by decide) p3, RI.keep (by decide) p4, RI.keep (by decide) p5, RI.keep (by decide) p6, RI.keep (by decide) p7, fun _ => rfl, RI.keep (by decide) p9, RI.keep (by decide) (px10)⟩
    · have hd := hd _ rfl
      simp [Region.binds] at hd
      obtain rfl := p0 (by simp [hd])
      obtain rfl := p1 (by simp [hd])
      obtain rfl := p2 (by simp [hd])
      obtain rfl := p3 (by simp [hd])
      obtain rfl := p4 (by simp [hd])
      obtain rfl := p5 (by simp [hd])
      obtain rfl := p6 (by simp [hd])
      obtain rfl := p7 (by simp [hd])
      obtain rfl := p8 (by simp [hd])
      refine RI.wpOp_plain rfl rfl ?_
      go_simp
      exact ⟨_, _, _, _, _, _, _, _, _, _, F, v5, v10, v11, v22, v23, rfl, hP, (fun h => q (by rwa [RI.don_other _ _ _ (by decide)] at h)), RI.keep (by decide) p0, RI.keep (by decide) p1, RI.keep (by decide) p2, RI.keep (by decide) p3, RI.keep (by decide) p4, RI.keep (by decide) p5, RI.keep (by decide) p6, RI.keep (by decide) p7, RI.keep (by decide) p8, fun _ => rfl, RI.keep (by decide) px10⟩
    · have hd := hd _ rfl
      simp [Region.binds] at hd
      obtain rfl := p0 (by simp [hd])
      obtain rfl := p1 (by simp [hd])
      obtain rfl := p2 (by simp [hd])
      obtain rfl := p3 (by simp [hd])
      obtain rfl := p4 (by simp [hd])
      obtain rfl := p5 (by simp [hd])
      obtain rfl := p6 (by simp [hd])
      obtain rfl := p7 (by simp [hd])
      obtain rfl := p8 (by simp [hd])
      obtain rfl := p9 (by simp [hd])
      refine RI.wpOp_plain rfl rfl ?_
      obtain rfl := q hf
      have c3 := hP.v3.c 2 (by decide)
      have f3 : ∀ o, wx.frozen? ⟨w.heap.size + 1 + 1 + 1, o, none⟩ = false := hP.v3.f
      go_simp
      exact ⟨_, _, _, _, _, _, _, _, _, _, _, v5, v10, v11, v22, v23, rfl, P4_set hP (by decide), (fun h => absurd h (by simp [RI.don])), RI.keep (by decide) p0, RI.keep (by decide) p1, RI.keep (by decide) p2, RI.keep (by decide) p3, RI.keep (by decide) p4, RI.keep (by decide) p5, RI.keep (by decide) p6, RI.keep (by decide) p7, RI.keep (by decide) p8, RI.keep (by decide) p9, fun _ => rfl⟩
  clear m0
  intro d x wx hI hd
  obtain ⟨u12, u13, u14, u15, u16, u17, u18, u19, u20, u21, F, v5, v10, v11, v22, v23, rfl, hP, q, p0, p1, p2, p3, p4, p5, p6, p7, p8, p9, px10⟩ := hI
  obtain rfl := p0 (hd 0 (by decide))
  obtain rfl := p1 (hd 1 (by decide))
  obtain rfl := p2 (hd 2 (by decide))
  obtain rfl := p3 (hd 3 (by decide))
  obtain rfl := p4 (hd 4 (by decide))
  obtain rfl := p5 (hd 5 (by decide))
  obtain rfl := p6 (hd 6 (by decide))
  obtain rfl := p7 (hd 7 (by decide))
  obtain rfl := p8 (hd 8 (by decide))
  obtain rfl := p9 (hd 9 (by decide))
  rw [px10 (hd 10 (by decide))] at hP
  have m0 := hP
  clear p0 p1 p2 p3 p4 p5 p6 p7 p8 p9 px10 q hd hP
  go_wp2_with fail
  rw [rounds_succ]
  go_upto_region 5 with fail
  refine RI.wp_region_inv (PB3 w a b f (.func (Fn.func 27) #[] #[]) (upd (upd (upd (dg 0) 0 (f (dg a 0) (dg b 0))) 1 (f (dg a 1) (dg b 1))) 2 (f (dg a 2) (dg b 2)))) (by kernel_rfl) (by kernel_rfl) ?_ ?_ ?_
  · exact ⟨_, _, _, _, _, _, _, _, _, _, upd (upd (upd (dg 0) 0 (f (dg a 0) (dg b 0))) 1 (f (dg a 1) (dg b 1))) 2 (f (dg a 2) (dg b 2)), _, _, _, _, _, rfl, P4_drew m0, fun _ => rfl, nofun, nofun, nofun, nofun, nofun, nofun, nofun, nofun, nofun, nofun, nofun⟩
  · clear m0
    intro d x wx i hI hi hm
    obtain ⟨u12, u13, u14, u15, u16, u17, u18, u19, u20, u21, F, v5, v10, v11, v22, v23, rfl, hP, q, p0, p1, p2, p3, p4, p5, p6, p7, p8, p9, px10⟩ := hI
    have hi' : i = 0 ∨ i = 1 ∨ i = 2 ∨ i = 3 ∨ i = 4 ∨ i = 5 ∨ i = 6 ∨ i = 7 ∨ i = 8 ∨ i = 9 ∨ i = 10 := by simp at hi; omega
    have hd := hm.2
    have hf := hm.1
    clear hm hi
    rcases hi' with rfl | rfl | rfl | rfl | rfl | rfl | rfl | rfl | rfl | rfl | rfl
    · refine RI.wpOp_plain rfl rfl ?_
      go_simp
      exact ⟨_, u13, u14, u15, u16, u17, u18, u19, u20, u21, F, v5, v10, v11, v22, v23, rfl, hP, (fun h => q (by rwa [RI.don_other _ _ _ (by decide)] at h)), fun _ => rfl, RI.keep (by decide) p1, RI.keep (by decide) p2, RI.keep (by decide) p3, RI.keep (by decide) p4, RI.keep (by decide) p5, RI.keep (by decide) p6, RI.keep (by decide) p7, RI.keep (by decide) p8, RI.keep (by decide) p9, RI.keep (by decide) px10⟩
    · refine RI.wpOp_plain rfl rfl ?_
      go_simp
      exact ⟨u12, _, u14, u15, u16, u17, u18, u19, u20, u21, F, v5, v10, v11, v22, v23, rfl, hP, (fun h => q (by rwa [RI.don_other _ _ _ (by decide)] at h)), RI.keep (by decide) p0, fun _ => rfl, RI.keep (by decide) p2, RI.keep (by decide) p3, RI.keep (by decide) p4, RI.keep (by decide) p5, RI.keep (by decide) p6, RI.keep (by decide) p7, RI.keep (by decide) p8, RI.keep (by decide) p9, RI.keep (by decide) px10⟩
    · refine RI.wpOp_plain rfl rfl ?_
      go_simp
      exact ⟨u12, u13, _, u15, u16, u17, u18, u19, u20, u21, F, v5, v10, v11, v22, v23, rfl, hP, (fun h => q (by rwa [RI.don_other _ _ _ (by decide)] at h)), RI.keep (by decide) p0, RI.keep (by decide) p1, fun _ => rfl, RI.keep (by decide) p3, RI.keep (by decide) p4, RI.keep (by decide) p5, RI.keep (by decide) p6, RI.keep (by decide) p7, RI.keep (by decide) p8, RI.keep (by decide) p9, RI.keep (by decide) px10⟩
    · have hd := hd _ rfl
      simp [Region.binds] at hd
      obtain rfl := p2 (by simp [hd])
      refine RI.wpOp_plain rfl rfl ?_
      go_simp
      exact ⟨u12, u13, _, _, u16, u17, u18, u19, u20, u21, F, v5, v10, v11, v22, v23, rfl, hP, (fun h => q (by rwa [RI.don_other _ _ _ (by decide)] at h)), RI.keep (by decide) p0, RI.keep (by decide) p1, RI.keep (by decide) p2, fun _ => rfl, RI.keep (by decide) p4, RI.keep (by decide) p5, RI.keep (by decide) p6, RI.keep (by decide) p7, RI.keep (by decide) p8, RI.keep (by decide) p9, RI.keep (by decide) px10⟩
    · have hd := hd _ rfl
      simp [Region.binds] at hd
      obtain rfl := p3 (by simp [hd])
      refine RI.wpOp_plain rfl rfl ?_
      have c0 : wx.cell? ⟨w.heap.size, 3, none⟩ = some (.int .u64 (dg a 3)) := hP.v0.c 3 (by decide)
      go_simp
      exact ⟨u12, u13, u14, _, _, u17, u18, u19, u20, u21, F, v5, v10, v11, v22, v23, rfl, hP, (fun h => q (by rwa [RI.don_other _ _ _ (by decide)] at h)), RI.keep (by decide) p0, RI.keep (by decide) p1, RI.keep (by decide) p2, RI.keep (by decide) p3, fun _ => rfl, RI.keep (by decide) p5, RI.keep (by decide) p6, RI.keep (by decide) p7, RI.keep (by decide) p8, RI.keep (by decide) p9, RI.keep (by decide) px10⟩
    · refine RI.wpOp_plain rfl rfl ?_
      go_simp
      exact ⟨u12, u13, u14, u15, u16, _, u18, u19, u20, u21, F, v5, v10, v11, v22, v23, rfl, hP, (fun h => q (by rwa [RI.don_other _ _ _ (by decide)] at h)), RI.keep (by decide) p0, RI.keep (by decide) p1, RI.keep (by decide) p2, RI.keep (by decide) p3, RI.keep (by decide) p4, fun _ => rfl, RI.keep (by decide) p6, RI.keep (by decide) p7, RI.keep (by decide) p8, RI.keep (by decide) p9, RI.keep (by decide) px10⟩
    · have hd := hd _ rfl
      simp [Region.binds] at hd
      obtain rfl := p5 (by simp [hd])
      refine RI.wpOp_plain rfl rfl ?_
      go_simp
      exact ⟨u12, u13, u14, u15, u16, _, _, u19, u20, u21, F, v5, v10, v11, v22, v23, rfl, hP, (fun h => q (by rwa [RI.don_other _ _ _ (by decide)] at h)), RI.keep (by decide) p0, RI.keep (by decide) p1, RI.keep (by decide) p2, RI.keep (by decide) p3, RI.keep (by decide) p4, RI.keep (by decide) p5, fun _ => rfl, RI.keep (by decide) p7, RI.keep (by decide) p8, RI.keep (by decide) p9, RI.keep (by decide) px10⟩
    · have hd := hd _ rfl
      simp [Region.binds] at hd
      obtain rfl := p6 (by simp [hd])
      refine RI.wpOp_plain rfl rfl ?_
      have c0 : wx.cell? ⟨w.heap.size + 1, 3, none⟩ = some (.int .u64 (dg b 3)) := hP.v1.c 3 (by decide)
      go_simp
      exact ⟨u12, u13, u14, u15, u16, u17, _, _, u20, u21, F, v5, v10, v11, v22, v23, rfl, hP, (fun h => q (by rwa [RI.don_other _ _ _ (by decide)] at h)), RI.keep (by decide) p0, RI.keep (by decide) p1, RI.keep (by decide) p2, RI.keep (by decide) p3, RI.keep (by decide) p4, RI.keep (by decide) p5, RI.keep (by decide) p6, fun _ => rfl, RI.keep (by decide) p8, RI.keep (by decide) p9, RI.keep (by decide) px10⟩
    · have hd := hd _ rfl
      simp [Region.binds] at hd
      obtain rfl := p1 (by simp [hd])
      obtain rfl := p4 (by simp [hd])
      obtain rfl := p7 (by simp [hd])
      refine RI.wpOp_plain rfl rfl ?_
      go_simp
      refine (KF.out _ _ _).mono ?_
      rintro e w1 ⟨rfl, hb1⟩
      exact ⟨u12, _, u14, u15, _, u17, u18, _, _, u21, F, v5, v10, v11, v22, v23, rfl, P4_below hP hb1, (fun h => q (by rwa [RI.don_other _ _ _ (by decide)] at h)), RI.keep (by decide) p0, RI.keep (by decide) p1, RI.keep (by decide) p2, RI.keep (by decide) p3, RI.keep (by decide) p4, RI.keep (by decide) p5, RI.keep (by decide) p6, RI.keep (by decide) p7, fun _ => rfl, RI.keep (by decide) p9, RI.keep (by decide) (px10)⟩
    · have hd := hd _ rfl
      simp [Region.binds] at hd
      obtain rfl := p0 (by simp [hd])
      obtain rfl := p1 (by simp [hd])
      obtain rfl := p2 (by simp [hd])
      obtain rfl := p3 (by simp [hd])
      obtain rfl := p4 (by simp [hd])
      obtain rfl := p5 (by simp [hd])
      obtain rfl := p6 (by simp [hd])
      obtain rfl := p7 (by simp [hd])
      obtain rfl := p8 (by simp [hd])
      refine RI.wpOp_plain rfl rfl ?_
      go_simp
      exact ⟨_, _, _, _, _, _, _, _, _, _, F, v5, v10, v11, v22, v23, rfl, hP, (fun h => q (by rwa [RI.don_other _ _ _ (by decide)] at h)), RI.keep (by decide) p0, RI.keep (by decide) p1, RI.keep (by decide) p2, RI.keep (by decide) p3, RI.keep (by decide) p4, RI.keep (by decide) p5, RI.keep (by decide) p6, RI.keep (by decide) p7, RI.keep (by decide) p8, fun _ => rfl, RI.keep (by decide) px10⟩
    · have hd := hd _ rfl
      simp [Region.binds] at hd
      obtain rfl := p0 (by simp [hd])
      obtain rfl := p1 (by simp [hd])
      obtain rfl := p2 (by simp [hd])
      obtain rfl := p3 (by simp [hd])
      obtain rfl := p4 (by simp [hd])
      obtain rfl := p5 (by simp [hd])
      obtain rfl := p6 (by simp [hd])
      obtain rfl := p7 (by simp [hd])
      obtain rfl := p8 (by simp [hd])
      obtain rfl := p9 (by simp [hd])
      refine RI.wpOp_plain rfl rfl ?_
      obtain rfl := q hf
      have c3 := hP.v3.c 3 (by decide)
      have f3 : ∀ o, wx.frozen? ⟨w.heap.size + 1 + 1 + 1, o, none⟩ = false := hP.v3.f
      go_simp
      exact ⟨_, _, _, _, _, _, _, _, _, _, _, v5, v10, v11, v22, v23, rfl, P4_set hP (by decide), (fun h => absurd h (by simp [RI.don])), RI.keep (by decide) p0, RI.keep (by decide) p1, RI.keep (by decide) p2, RI.keep (by decide) p3, RI.keep (by decide) p4, RI.keep (by decide) p5, RI.keep (by decide) p6, RI.keep (by decide) p7, RI.keep (by decide) p8, RI.keep (by decide) p9, fun _ => rfl⟩
  clear m0
  intro d x wx hI hd
  obtain ⟨u12, u13, u14, u15, u16, u17, u18, u19, u20, u21, F, v5, v10, v11, v22, v23, rfl, hP, q, p0, p1, p2, p3, p4, p5, p6, p7, p8, p9, px10⟩ := hI
  obtain rfl := p0 (hd 0 (by decide))
  obtain rfl := p1 (hd 1 (by decide))
  obtain rfl := p2 (hd 2 (by decide))
  obtain rfl := p3 (hd 3 (by decide))
  obtain rfl := p4 (hd 4 (by decide))
  obtain rfl := p5 (hd 5 (by decide))
  obtain rfl := p6 (hd 6 (by decide))
  obtain rfl := p7 (hd 7 (by decide))
  obtain rfl := p8 (hd 8 (by decide))
  obtain rfl := p9 (hd 9 (by decide))
  rw [px10 (hd 10 (by decide))] at hP
  have m0 := hP
  clear p0 p1 p2 p3 p4 p5 p6 p7 p8 p9 px10 q hd hP
  go_wp2_with fail
  rw [rounds_succ]
  have c3 : ∀ o, o < 4 → wx.cell? ⟨w.heap.size + 1 + 1 + 1, o, none⟩ = some (.int .u64 (dg N o)) := fun o ho => by
    rw [← HN.out o ho, m0.v3.c o ho]
    have : o = 0 ∨ o = 1 ∨ o = 2 ∨ o = 3 := by omega
    rcases this with rfl | rfl | rfl | rfl <;> rfl
  have c2 : ∀ o, o < 4 → wx.cell? ⟨w.heap.size + 1 + 1, o, none⟩ = some (.int .u64 (dg 0 o)) := m0.v2.c
  have f2 : ∀ o, wx.frozen? ⟨w.heap.size + 1 + 1, o, none⟩ = false := m0.v2.f
  have z2 := m0.v2.hi
  have HV : Hid (Vb w.heap.size (w.heap.size + 1 + 1) 4 (dg N) _) := Vb_set4 m0.v2
  have HB : Hid (Below w.heap.size w _) := Bel_set4 (h := w.heap.size + 1 + 1) (m := N) m0.bel (by omega)
  clear m0
  go_wp2_with fail
  exact bodyPost_ret (v := Wd N) (resultTw _ _ _ (w.heap.size + 1 + 1) N 6 rfl rfl HV.out.c) rfl ⟨rfl, HB.out⟩
set_option maxHeartbeats 4000000 in
set_option maxRecDepth 100000 in
theorem pbp_xor (a b N : Nat) (f : Int → Int → Int) (KF : Hid (∀ (x y : Int) (w : World), Calls Try.prog 28 #[.int .u64 x, .int .u64 y] w fun e w' => e = .returned (.int .u64 (f x y)) ∧ Below w.heap.size w w')) (HN : Hid (∀ o, o < 4 → f (dg a o) (dg b o) = dg N o)) (w : World) :
    Calls Try.prog 25 #[Wd a, Wd b, .func (Fn.func 28) #[] #[]] w fun e w' => e = .returned (Wd N) ∧ Below w.heap.size w w' := by
  have m0 : P4 w a b (dg 0) ((((w.alloc (.cells #[.int .u64 (dg a 0), .int .u64 (dg a 1), .int .u64 (dg a 2), .int .u64 (dg a 3)] 24)).alloc (.cells #[.int .u64 (dg b 0), .int .u64 (dg b 1), .int .u64 (dg b 2), .int .u64 (dg b 3)] 24)).alloc (.cells #[.int .u64 0, .int .u64 0, .int .u64 0, .int .u64 0] 24)).alloc (.cells #[.int .u64 0, .int .u64 0, .int .u64 0, .int .u64 0] 24)) := by
    have k := M4_start w a b 24
    exact ⟨k.v0, k.v1, k.v2, k.v3, k.bel⟩
  conv => arg 3; unfold Wd
  go_enter Try.func25, Try.ntmps25
  go_wp2_with fail
  generalize (((w.alloc (.cells #[.int .u64 (dg a 0), .int .u64 (dg a 1), .int .u64 (dg a 2), .int .u64 (dg a 3)] 24)).alloc (.cells #[.int .u64 (dg b 0), .int .u64 (dg b 1), .int .u64 (dg b 2), .int .u64 (dg b 3)] 24)).alloc (.cells #[.int .u64 0, .int .u64 0, .int .u64 0, .int .u64 0] 24)).alloc (.cells #[.int .u64 0, .int .u64 0, .int .u64 0, .int .u64 0] 24) = W0 at m0 ⊢
  refine wp_loop_rounds 5 ?_
  rw [rounds_succ]
  go_upto_region 5 with fail
  refine RI.wp_region_inv (PB0 w a b f (.func (Fn.func 28) #[] #[]) (dg 0)) (by kernel_rfl) (by kernel_rfl) ?_ ?_ ?_
  · exact ⟨undef, undef, undef, undef, undef, undef, undef, undef, undef, undef, dg 0, _, _, _, _, _, rfl, P4_drew m0, fun _ => rfl, nofun, nofun, nofun, nofun, nofun, nofun, nofun, nofun, nofun, nofun, nofun⟩
  · clear m0
    intro d x wx i hI hi hm
    obtain ⟨u12, u13, u14, u15, u16, u17, u18, u19, u20, u21, F, v5, v10, v11, v22, v23, rfl, hP, q, p0, p1, p2, p3, p4, p5, p6, p7, p8, p9, px10⟩ := hI
    have hi' : i = 0 ∨ i = 1 ∨ i = 2 ∨ i = 3 ∨ i = 4 ∨ i = 5 ∨ i = 6 ∨ i = 7 ∨ i = 8 ∨ i = 9 ∨ i = 10 := by simp at hi; omega
    have hd := hm.2
    have hf := hm.1
    clear hm hi
    rcases hi' with rfl | rfl | rfl | rfl | rfl | rfl | rfl | rfl | rfl | rfl | rfl
    · refine RI.wpOp_plain rfl rfl ?_
      go_simp
      exact ⟨_, u13, u14, u15, u16, u17, u18, u19, u20, u21, F, v5, v10, v11, v22, v23, rfl, hP, (fun h => q (by rwa [RI.don_other _ _ _ (by decide)] at h)), fun _ => rfl, RI.keep (by decide) p1, RI.keep (by decide) p2, RI.keep (by decide) p3, RI.keep (by decide) p4, RI.keep (by decide) p5, RI.keep (by decide) p6, RI.keep (by decide) p7, RI.keep (by decide) p8, RI.keep (by decide) p9, RI.keep (by decide) px10⟩
    · refine RI.wpOp_plain rfl rfl ?_
      go_simp
      exact ⟨u12, _, u14, u15, u16, u17, u18, u19, u20, u21, F, v5, v10, v11, v22, v23, rfl, hP, (fun h => q (by rwa [RI.don_other _ _ _ (by decide)] at h)), RI.keep (by decide) p0, fun _ => rfl, RI.keep (by decide) p2, RI.keep (by decide) p3, RI.keep (by decide) p4, RI.keep (by decide) p5, RI.keep (by decide) p6, RI.keep (by decide) p7, RI.keep (by decide) p8, RI.keep (by decide) p9, RI.keep (by decide) px10⟩
    · refine RI.wpOp_plain rfl rfl ?_
      go_simp
      exact ⟨u12, u13, _, u15, u16, u17, u18, u19, u20, u21, F, v5, v10, v11, v22, v23, rfl, hP, (fun h => q (by rwa [RI.don_other _ _ _ (by decide)] at h)), RI.keep (by decide) p0, RI.keep (by decide) p1, fun _ => rfl, RI.keep (by decide) p3, RI.keep (by decide) p4, RI.keep (by decide) p5, RI.keep (by decide) p6, RI.keep (by decide) p7, RI.keep (by decide) p8, RI.keep (by decide) p9, RI.keep (by decide) px10⟩
    · have hd := hd _ rfl
      simp [Region.binds] at hd
      obtain rfl := p2 (by simp [hd])
      refine RI.wpOp_plain rfl rfl ?_
      go_simp
      exact ⟨u12, u13, _, _, u16, u17, u18, u19, u20, u21, F, v5, v10, v11, v22, v23, rfl, hP, (fun h => q (by rwa [RI.don_other _ _ _ (by decide)] at h)), RI.keep (by decide) p0, RI.keep (by decide) p1, RI.keep (by decide) p2, fun _ => rfl, RI.keep (by decide) p4, RI.keep (by decide) p5, RI.keep (by decide) p6, RI.keep (by decide) p7, RI.keep (by decide) p8, RI.keep (by decide) p9, RI.keep (by decide) px10⟩
    · have hd := hd _ rfl
      simp [Region.binds] at hd
      obtain rfl := p3 (by simp [hd])
      refine RI.wpOp_plain rfl rfl ?_
      have c0 : wx.cell? ⟨w.heap.size, 0, none⟩ = some (.int .u64 (dg a 0)) := hP.v0.c 0 (by decide)
      go_simp
      exact ⟨u12, u13, u14, _, _, u17, u18, u19, u20, u21, F, v5, v10, v11, v22, v23, rfl, hP, (fun h => q (by rwa [RI.don_other _ _ _ (by decide)] at h)), RI.keep (by decide) p0, RI.keep (by decide) p1, RI.keep (by decide) p2, RI.keep (by decide) p3, fun _ => rfl, RI.keep (by decide) p5, RI.keep (by decide) p6, RI.keep (by decide) p7, RI.keep (by decide) p8, RI.keep (by decide) p9, RI.keep (by decide) px10⟩
    · refine RI.wpOp_plain rfl rfl ?_
      go_simp
      exact ⟨u12, u13, u14, u15, u16, _, u18, u19, u20, u21, F, v5, v10, v11, v22, v23, rfl, hP, (fun h => q (by rwa [RI.don_other _ _ _ (by decide)] at h)), RI.keep (by decide) p0, RI.keep (by decide) p1, RI.keep (by decide) p2, RI.keep (by decide) p3, RI.keep (by decide) p4, fun _ => rfl, RI.keep (by decide) p6, RI.keep (by decide) p7, RI.keep (by decide) p8, RI.keep (by decide) p9, RI.keep (by decide) px10⟩
    · have hd := hd _ rfl
      simp [Region.binds] at hd
      obtain rfl := p5 (by simp [hd])
      refine RI.wpOp_plain rfl rfl ?_
      go_simp
      exact ⟨u12, u13, u14, u15, u16, _, _, u19, u20, u21, F, v5, v10, v11, v22, v23, rfl, hP, (fun h => q (by rwa [RI.don_other _ _ _ (by decide)] at h)), RI.keep (by decide) p0, RI.keep (by decide) p1, RI.keep (by decide) p2, RI.keep (by decide) p3, RI.keep (by decide) p4, RI.keep (by decide) p5, fun _ => rfl, RI.keep (by decide) p7, RI.keep (by decide) p8, RI.keep (by decide) p9, RI.keep (by decide) px10⟩
    · have hd := hd _ rfl
      simp [Region.binds] at hd
      obtain rfl := p6 (by simp [hd])
      refine RI.wpOp_plain rfl rfl ?_
      have c0 : wx.cell? ⟨w.heap.size + 1, 0, none⟩ = some (.int .u64 (dg b 0)) := hP.v1.c 0 (by decide)
      go_simp
      exact ⟨u12, u13, u14, u15, u16, u17, _, _, u20, u21, F, v5, v10, v11, v22, v23, rfl, hP, (fun h => q (by rwa [RI.don_other _ _ _ (by decide)] at h)), RI.keep (by decide) p0, RI.keep (by decide) p1, RI.keep (by decide) p2, RI.keep (by decide) p3, RI.keep (by decide) p4, RI.keep (by decide) p5, RI.keep (by decide) p6, fun _ => rfl, RI.keep (by decide) p8, RI.keep (by decide) p9, RI.keep (by decide) px10⟩
    · have hd := hd _ rfl
      simp [Region.binds] at hd
      obtain rfl := p1 (by simp [hd])
      obtain rfl := p4 (by simp [hd])
      obtain rfl := p7 (by simp [hd])
      refine RI.wpOp_plain rfl rfl ?_
      go_simp
      refine (KF.out _ _ _).mono ?_
      rintro e w1 ⟨rfl, hb1⟩
      exact ⟨u12, _, u14, u15, _, u17, u18, _, _, u21, F, v5, v10, v11, v22, v23, rfl, P4_below hP hb1, (fun h => q (by rwa [RI.don_other _ _ _ (by decide)] at h)), RI.keep (by decide) p0, RI.keep (by decide) p1, RI.keep (by decide) p2, RI.keep (by decide) p3, RI.keep (by decide) p4, RI.keep (by decide) p5, RI.keep (by decide) p6, RI.keep (by decide) p7, fun _ => rfl, RI.keep (by decide) p9, RI.keep (by decide) (px10)⟩
    · have hd := hd _ rfl
      simp [Region.binds] at hd
      obtain rfl := p0 (by simp [hd])
      obtain rfl := p1 (by simp [hd])
      obtain rfl := p2 (by simp [hd])
      obtain rfl := p3 (by simp [hd])
      obtain rfl := p4 (by simp [hd])
      obtain rfl := p5 (by simp [hd])
      obtain rfl := p6 (by simp [hd])
      obtain rfl := p7 (by simp [hd])
      obtain rfl := p8 (by simp [hd])
      refine RI.wpOp_plain rfl rfl ?_
      go_simp
      exact ⟨_, _, _, _, _, _, _, _, _, _, F, v5, v10, v11, v22, v23, rfl, hP, (fun h => q (by rwa [RI.don_other _ _ _ (by decide)] at h)), RI.keep (by decide) p0, RI.keep (by decide) p1, RI.keep (by decide) p2, RI.keep (by decide) p3, RI.keep (by decide) p4, RI.keep (by decide) p5, RI.keep (by decide) p6, RI.keep (by decide) p7, RI.keep (by decide) p8, fun _ => rfl, RI.keep (by decide) px10⟩
    · have hd := hd _ rfl
      simp [Region.binds] at hd
      obtain rfl := p0 (by simp [hd])
      obtain rfl := p1 (by simp [hd])
      obtain rfl := p2 (by simp [hd])
      obtain rfl := p3 (by simp [hd])
      obtain rfl := p4 (by simp [hd])
      obtain rfl := p5 (by simp [hd])
      obtain rfl := p6 (by simp [hd])
      obtain rfl := p7 (by simp [hd])
      obtain rfl := p8 (by simp [hd])
      obtain rfl := p9 (by simp [hd])
      refine RI.wpOp_plain rfl rfl ?_
      obtain rfl := q hf
      have c3 := hP.v3.c 0 (by decide)
      have f3 : ∀ o, wx.frozen? ⟨w.heap.size + 1 + 1 + 1, o, none⟩ = false := hP.v3.f
      go_simp
      exact ⟨_, _, _, _, _, _, _, _, _, _, _, v5, v10, v11, v22, v23, rfl, P4_set hP (by decide), (fun h => absurd h (by simp [RI.don])), RI.keep (by decide) p0, RI.keep (by decide) p1, RI.keep (by decide) p2, RI.keep (by decide) p3, RI.keep (by decide) p4, RI.keep (by decide) p5, RI.keep (by decide) p6, RI.keep (by decide) p7, RI.keep (by decide) p8, RI.keep (by decide) p9, fun _ => rfl⟩
  clear m0
  intro d x wx hI hd
  obtain ⟨u12, u13, u14, u15, u16, u17, u18, u19, u20, u21, F, v5, v10, v11, v22, v23, rfl, hP, q, p0, p1, p2, p3, p4, p5, p6, p7, p8, p9, px10⟩ := hI
  obtain rfl := p0 (hd 0 (by decide))
  obtain rfl := p1 (hd 1 (by decide))
  obtain rfl := p2 (hd 2 (by decide))
  obtain rfl := p3 (hd 3 (by decide))
  obtain rfl := p4 (hd 4 (by decide))
  obtain rfl := p5 (hd 5 (by decide))
  obtain rfl := p6 (hd 6 (by decide))
  obtain rfl := p7 (hd 7 (by decide))
  obtain rfl := p8 (hd 8 (by decide))
  obtain rfl := p9 (hd 9 (by decide))
  rw [px10 (hd 10 (by decide))] at hP
  have m0 := hP
  clear p0 p1 p2 p3 p4 p5 p6 p7 p8 p9 px10 q hd hP
  go_wp2_with fail
  rw [rounds_succ]
  go_upto_region 5 with fail
  refine RI.wp_region_inv (PB1 w a b f (.func (Fn.func 28) #[] #[]) (upd (dg 0) 0 (f (dg a 0) (dg b 0)))) (by kernel_rfl) (by kernel_rfl) ?_ ?_ ?_
  · exact ⟨_, _, _, _, _, _, _, _, _, _, upd (dg 0) 0 (f (dg a 0) (dg b 0)), _, _, _, _, _, rfl, P4_drew m0, fun _ => rfl, nofun, nofun, nofun, nofun, nofun, nofun, nofun, nofun, nofun, nofun, nofun⟩
  · clear m0
    intro d x wx i hI hi hm
    obtain ⟨u12, u13, u14, u15, u16, u17, u18, u19, u20, u21, F, v5, v10, v11, v22, v23, rfl, hP, q, p0, p1, p2, p3, p4, p5, p6, p7, p8, p9, px10⟩ := hI
    have hi' : i = 0 ∨ i = 1 ∨ i = 2 ∨ i = 3 ∨ i = 4 ∨ i = 5 ∨ i = 6 ∨ i = 7 ∨ i = 8 ∨ i = 9 ∨ i = 10 := by simp at hi; omega
    have hd := hm.2
    have hf := hm.1
    clear hm hi
    rcases hi' with rfl | rfl | rfl | rfl | rfl | rfl | rfl | rfl | rfl | rfl | rfl
    · refine RI.wpOp_plain rfl rfl ?_
      go_simp
      exact ⟨_, u13, u14, u15, u16, u17, u18, u19, u20, u21, F, v5, v10, v11, v22, v23, rfl, hP, (fun h => q (by rwa [RI.don_other _ _ _ (by decide)] at h)), fun _ => rfl, RI.keep (by decide) p1, RI.keep (by decide) p2, RI.keep (by decide) p3, RI.keep (by decide) p4, RI.keep (by decide) p5, RI.keep (by decide) p6, RI.keep (by decide) p7, RI.keep (by decide) p8, RI.keep (by decide) p9, RI.keep (by decide) px10⟩
    · refine RI.wpOp_plain rfl rfl ?_
      go_simp
      exact ⟨u12, _, u14, u15, u16, u17, u18, u19, u20, u21, F, v5, v10, v11, v22, v23, rfl, hP, (fun h => q (by rwa [RI.don_other _ _ _ (by decide)] at h)), RI.keep (by decide) p0, fun _ => rfl, RI.keep (by decide) p2, RI.keep (by decide) p3, RI.keep (by decide) p4, RI.keep (by decide) p5, RI.keep (by decide) p6, RI.keep (by decide) p7, RI.keep (by decide) p8, RI.keep (by decide) p9, RI.keep (by decide) px10⟩
    · refine RI.wpOp_plain rfl rfl ?_
      go_simp
      exact ⟨u12, u13, _, u15, u16, u17, u18, u19, u20, u21, F, v5, v10, v11, v22, v23, rfl, hP, (fun h => q (by rwa [RI.don_other _ _ _ (by decide)] at h)), RI.keep (by decide) p0, RI.keep (by decide) p1, fun _ => rfl, RI.keep (by decide) p3, RI.keep (by decide) p4, RI.keep (by decide) p5, RI.keep (by decide) p6, RI.keep (by decide) p7, RI.keep (by decide) p8, RI.keep (by decide) p9, RI.keep (by decide) px10⟩
    · have hd := hd _ rfl
      simp [Region.binds] at hd
      obtain rfl := p2 (by simp [hd])
      refine RI.wpOp_plain rfl rfl ?_
      go_simp
      exact ⟨u12, u13, _, _, u16, u17, u18, u19, u20, u21, F, v5, v10, v11, v22, v23, rfl, hP, (fun h => q (by rwa [RI.don_other _ _ _ (by decide)] at h)), RI.keep (by decide) p0, RI.keep (by decide) p1, RI.keep (by decide) p2, fun _ => rfl, RI.keep (by decide) p4, RI.keep (by decide) p5, RI.keep (by decide) p6, RI.keep (by decide) p7, RI.keep (by decide) p8, RI.keep (by decide) p9, RI.keep (by decide) px10⟩
    · have hd := hd _ rfl
      simp [Region.binds] at hd
      obtain rfl := p3 (by simp [hd])
      refine RI.wpOp_plain rfl rfl ?_
      have c0 : wx.cell? ⟨w.heap.size, 1, none⟩ = some (.int .u64 (dg a 1)) := hP.v0.c 1 (by decide)
      go_simp
      exact ⟨u12, u13, u14, _, _, u17, u18, u19, u20, u21, F, v5, v10, v11, v22, v23, rfl, hP, (fun h => q (by rwa [RI.don_other _ _ _ (by decide)] at h)), RI.keep (by decide) p0, RI.keep (by decide) p1, RI.keep (by decide) p2, RI.keep (by decide) p3, fun _ => rfl, RI.keep (by decide) p5, RI.keep (by decide) p6, RI.keep (by decide) p7, RI.keep (by decide) p8, RI.keep (by decide) p9, RI.keep (by decide) px10⟩
    · refine RI.wpOp_plain rfl rfl ?_
      go_simp
      exact ⟨u12, u13, u14, u15, u16, _, u18, u19, u20, u21, F, v5, v10, v11, v22, v23, rfl, hP, (fun h => q (by rwa [RI.don_other _ _ _ (by decide)] at h)), RI.keep (by decide) p0, RI.keep (by decide) p1, RI.keep (by decide) p2, RI.keep (by decide) p3, RI.keep (by decide) p4, fun _ => rfl, RI.keep (by decide) p6, RI.keep (by decide) p7, RI.keep (by decide) p8, RI.keep (by decide) p9, RI.keep (by decide) px10⟩
    · have hd := hd _ rfl
      simp [Region.binds] at hd
      obtain rfl := p5 (by simp [hd])
      refine RI.wpOp_plain rfl rfl ?_
      go_simp
      exact ⟨u12, u13, u14, u15, u16, _, _, u19, u20, u21, F, v5, v10, v11, v22, v23, rfl, hP, (fun h => q (by rwa [RI.don_other _ _ _ (by decide)] at h)), RI.keep (by decide) p0, RI.keep (by decide) p1, RI.keep (by decide) p2, RI.keep (by decide) p3, RI.keep (by decide) p4, RI.keep (by decide) p5, fun _ => rfl, RI.keep (by decide) p7, RI.keep (by decide) p8, RI.keep (by decide) p9, RI.keep (by decide) px10⟩
    · have hd := hd _ rfl
      simp [Region.binds] at hd
      obtain rfl := p6 (by simp [hd])
      refine RI.wpOp_plain rfl rfl ?_
      have c0 : wx.cell? ⟨w.heap.size + 1, 1, none⟩ = some (.int .u64 (dg b 1)) := hP.v1.c 1 (by decide)
      go_simp
      exact ⟨u12, u13, u14, u15, u16, u17, _, _, u20, u21, F, v5, v10, v11, v22, v23, rfl, hP, (fun h => q (by rwa [RI.don_other _ _ _ (by decide)] at h)), RI.keep (by decide) p0, RI.keep (by decide) p1, RI.keep (by decide) p2, RI.keep (by decide) p3, RI.keep (by decide) p4, RI.keep (by decide) p5, RI.keep (by decide) p6, fun _ => rfl, RI.keep (by decide) p8, RI.keep (by decide) p9, RI.keep (by decide) px10⟩
    · have hd := hd _ rfl
      simp [Region.binds] at hd
      obtain rfl := p1 (by simp [hd])
      obtain rfl := p4 (by simp [hd])
      obtain rfl := p7 (by simp [hd])
      refine RI.wpOp_plain rfl rfl ?_
      go_simp
      refine (KF.out _ _ _).mono ?_
      rintro e w1 ⟨rfl, hb1⟩
      exact ⟨u12, _, u14, u15, _, u17, u18, _, _, u21, F, v5, v10, v11, v22, v23, rfl, P4_below hP hb1, (fun h => q (by rwa [RI.don_other _ _ _ (by decide)] at h)), RI.keep (by decide) p0, RI.keep (by decide) p1, RI.keep (by decide) p2, RI.keep (by decide) p3, RI.keep (by decide) p4, RI.keep (by decide) p5, RI.keep (by decide) p6, RI.keep (by decide) p7, fun _ => rfl, RI.keep (by decide) p9, RI.keep (by decide) (px10)⟩
    · have hd := hd _ rfl
      simp [Region.binds] at hd
      obtain rfl := p0 (by simp [hd])
      obtain rfl := p1 (by simp [hd])
      obtain rfl := p2 (by simp [hd])
      obtain rfl := p3 (by simp [hd])
      obtain rfl := p4 (by simp [hd])
      obtain rfl := p5 (by simp [hd])
      obtain rfl := p6 (by simp [hd])
      obtain rfl := p7 (by simp [hd])
      obtain rfl := p8 (by simp [hd])
      refine RI.wpOp_plain rfl rfl ?_
      go_simp
      exact ⟨_, _, _, _, _, _, _, _, _, _, F, v5, v10, v11, v22, v23, rfl, hP, (fun h => q (by rwa [RI.don_other _ _ _ (by decide)] at h)), RI.keep (by decide) p0, RI.keep (by decide) p1, RI.keep (by decide) p2, RI.keep (by decide) p3, RI.keep (by decide) p4, RI.keep (by decide) p5, RI.keep (by decide) p6, RI.keep (by decide) p7, RI.keep (by decide) p8, fun _ => rfl, RI.keep (by decide) px10⟩
    · have hd := hd _ rfl
      simp [Region.binds] at hd
      obtain rfl := p0 (by simp [hd])
      obtain rfl := p1 (by simp [hd])
      obtain rfl := p2 (by simp [hd])
      obtain rfl := p3 (by simp [hd])
      obtain rfl := p4 (by simp [hd])
      obtain rfl := p5 (by simp [hd])
      obtain rfl := p6 (by simp [hd])
      obtain rfl := p7 (by simp [hd])
      obtain rfl := p8 (by simp [hd])
      obtain rfl := p9 (by simp [hd])
      refine RI.wpOp_plain rfl rfl ?_
      obtain rfl := q hf
      have c3 := hP.v3.c 1 (by decide)
      have f3 : ∀ o, wx.frozen? ⟨w.heap.size + 1 + 1 + 1, o, none⟩ = false := hP.v3.f
      go_simp
      exact ⟨_, _, _, _, _, _, _, _, _, _, _, v5, v10, v11, v22, v23, rfl, P4_set hP (by decide), (fun h => absurd h (by simp [RI.don])), RI.keep (by decide) p0, RI.keep (by decide) p1, RI.keep (by decide) p2, RI.keep (by decide) p3, RI.keep (by decide) p4, RI.keep (by decide) p5, RI.keep (by decide) p6, RI.keep (by decide) p7, RI.keep (by decide) p8, RI.keep (by decide) p9, fun _ => rfl⟩
  clear m0
  intro d x wx hI hd
  obtain ⟨u12, u13, u14, u15, u16, u17, u18, u19, u20, u21, F, v5, v10, v11, v22, v23, rfl, hP, q, p0, p1, p2, p3, p4, p5, p6, p7, p8, p9, px10⟩ := hI
  obtain rfl := p0 (hd 0 (by decide))
  obtain rfl := p1 (hd 1 (by decide))
  obtain rfl := p2 (hd 2 (by decide))
  obtain rfl := p3 (hd 3 (by decide))
  obtain rfl := p4 (hd 4 (by decide))
  obtain rfl := p5 (hd 5 (by decide))
  obtain rfl := p6 (hd 6 (by decide))
  obtain rfl := p7 (hd 7 (by decide))
  obtain rfl := p8 (hd 8 (by decide))
  obtain rfl := p9 (hd 9 (by decide))
  rw [px10 (hd 10 (by decide))] at hP
  have m0 := hP
  clear p0 p1 p2 p3 p4 p5 p6 p7 p8 p9 px10 q hd hP
  go_wp2_with fail
  rw [rounds_succ]
  go_upto_region 5 with fail
  refine RI.wp_region_inv (PB2 w a b f (.func (Fn.func 28) #[] #[]) (upd (upd (dg 0) 0 (f (dg a 0) (dg b 0))) 1 (f (dg a 1) (dg b 1)))) (by kernel_rfl) (by kernel_rfl) ?_ ?_ ?_
  · exact ⟨_, _, _, _, _, _, _, _, _, _, upd (upd (dg 0) 0 (f (dg a 0) (dg b 0))) 1 (f (dg a 1) (dg b 1)), _, _, _, _, _, rfl, P4_drew m0, fun _ => rfl, nofun, nofun, nofun, nofun, nofun, nofun, nofun, nofun, nofun, nofun, nofun⟩
  · clear m0
    intro d x wx i hI hi hm
    obtain ⟨u12, u13, u14, u15, u16, u17, u18, u19, u20, u21, F, v5, v10, v11, v22, v23, rfl, hP, q, p0, p1, p2, p3, p4, p5, p6, p7, p8, p9, px10⟩ := hI
    have hi' : i = 0 ∨ i = 1 ∨ i = 2 ∨ i = 3 ∨ i = 4 ∨ i = 5 ∨ i = 6 ∨ i = 7 ∨ i = 8 ∨ i = 9 ∨ i = 10 := by simp at hi; omega
    have hd := hm.2
    have hf := hm.1
    clear hm hi
    rcases hi' with rfl | rfl | rfl | rfl | rfl | rfl | rfl | rfl | rfl | rfl | rfl
    · refine RI.wpOp_plain rfl rfl ?_
      go_simp
      exact ⟨_, u13, u14, u15, u16, u17, u18, u19, u20, u21, F, v5, v10, v11, v22, v23, rfl, hP, (fun h => q (by rwa [RI.don_other _ _ _ (by decide)] at h)), fun _ => rfl, RI.keep (by decide) p1, RI.keep (by decide) p2, RI.keep (by decide) p3, RI.keep (by decide) p4, RI.keep (by decide) p5, RI.keep (by decide) p6, RI.keep (by decide) p7, RI.keep (by decide) p8, RI.keep (by decide) p9, RI.keep (by decide) px10⟩
    · refine RI.wpOp_plain rfl rfl ?_
      go_simp
      exact ⟨u12, _, u14, u15, u16, u17, u18, u19, u20, u21, F, v5, v10, v11, v22, v23, rfl, hP, (fun h => q (by rwa [RI.don_other _ _ _ (by decide)] at h)), RI.keep (by decide) p0, fun _ => rfl, RI.keep (by decide) p2, RI.keep (by decide) p3, RI.keep (by decide) p4, RI.keep (by decide) p5, RI.keep (by decide) p6, RI.keep (by decide) p7, RI.keep (by decide) p8, RI.keep (by decide) p9, RI.keep (by decide) px10⟩
    · refine RI.wpOp_plain rfl rfl ?_
      go_simp
      exact ⟨u12, u13, _, u15, u16, u17, u18, u19, u20, u21, F, v5, v10, v11, v22, v23, rfl, hP, (fun h => q (by rwa [RI.don_other _ _ _ (by decide)] at h)), RI.keep (by decide) p0, RI.keep (by decide) p1, fun _ => rfl, RI.keep (by decide) p3, RI.keep (by decide) p4, RI.keep (by decide) p5, RI.keep (by decide) p6, RI.keep (by decide) p7, RI.keep (by decide) p8, RI.keep (by decide) p9, RI.keep (by decide) px10⟩
    · have hd := hd _ rfl
      simp [Region.binds] at hd
      obtain rfl := p2 (by simp [hd])
      refine RI.wpOp_plain rfl rfl ?_
      go_simp
      exact ⟨u12, u13, _, _, u16, u17, u18, u19, u20, u21, F, v5, v10, v11, v22, v23, rfl, hP, (fun h => q (by rwa [RI.don_other _ _ _ (by decide)] at h)), RI.keep (by decide) p0, RI.keep (by decide) p1, RI.keep (by decide) p2, fun _ => rfl, RI.keep (by decide) p4, RI.keep (by decide) p5, RI.keep (by decide) p6, RI.keep (by decide) p7, RI.keep (by decide) p8, RI.keep (by decide) p9, RI.keep (by decide) px10⟩
    · have hd := hd _ rfl
      simp [Region.binds] at hd
      obtain rfl := p3 (by simp [hd])
      refine RI.wpOp_plain rfl rfl ?_
      have c0 : wx.cell? ⟨w.heap.size, 2, none⟩ = some (.int .u64 (dg a 2)) := hP.v0.c 2 (by decide)
      go_simp
      exact ⟨u12, u13, u14, _, _, u17, u18, u19, u20, u21, F, v5, v10, v11, v22, v23, rfl, hP, (fun h => q (by rwa [RI.don_other _ _ _ (by decide)] at h)), RI.keep (by decide) p0, RI.keep (by decide) p1, RI.keep (by decide) p2, RI.keep (by decide) p3, fun _ => rfl, RI.keep (by decide) p5, RI.keep (by decide) p6, RI.keep (by decide) p7, RI.keep (by decide) p8, RI.keep (by decide) p9, RI.keep (by decide) px10⟩
    · refine RI.wpOp_plain rfl rfl ?_
      go_simp
      exact ⟨u12, u13, u14, u15, u16, _, u18, u19, u20, u21, F, v5, v10, v11, v22, v23, rfl, hP, (fun h => q (by rwa [RI.don_other _ _ _ (by decide)] at h)), RI.keep (by decide) p0, RI.keep (by decide) p1, RI.keep (by decide) p2, RI.keep (by decide) p3, RI.keep (by decide) p4, fun _ => rfl, RI.keep (by decide) p6, RI.keep (by decide) p7, RI.keep (by decide) p8, RI.keep (by decide) p9, RI.keep (by decide) px10⟩
    · have hd := hd _ rfl
      simp [Region.binds] at hd
      obtain rfl := p5 (by simp [hd])
      refine RI.wpOp_plain rfl rfl ?_
      go_simp
      exact ⟨u12, u13, u14, u15, u16, _, _, u19, u20, u21, F, v5, v10, v11, v22, v23, rfl, hP, (fun h => q (by rwa [RI.don_other _ _ _ (by decide)] at h)), RI.keep (by decide) p0, RI.keep (by decide) p1, RI.keep (by decide) p2, RI.keep (by decide) p3, RI.keep (by decide) p4, RI.keep (by decide) p5, fun _ => rfl, RI.keep (by decide) p7, RI.keep (by decide) p8, RI.keep (by decide) p9, RI.keep (by decide) px10⟩
    · have hd := hd _ rfl
      simp [Region.binds] at hd
      obtain rfl := p6 (by simp [hd])
      refine RI.wpOp_plain rfl rfl ?_
      have c0 : wx.cell? ⟨w.heap.size + 1, 2, none⟩ = some (.int .u64 (dg b 2)) := hP.v1.c 2 (by decide)
      go_simp
      exact ⟨u12, u13, u14, u15, u16, u17, _, _, u20, u21, F, v5, v10, v11, v22, v23, rfl, hP, (fun h => q (by rwa [RI.don_other _ _ _ (by decide)] at h)), RI.keep (by decide) p0, RI.keep (by decide) p1, RI.keep (by decide) p2, RI.keep (by decide) p3, RI.keep (by decide) p4, RI.keep (by decide) p5, RI.keep (by decide) p6, fun _ => rfl, RI.keep (by decide) p8, RI.keep (by decide) p9, RI.keep (by decide) px10⟩
    · have hd := hd _ rfl
      simp [Region.binds] at hd
      obtain rfl := p1 (by simp [hd])
      obtain rfl := p4 (by simp [hd])
      obtain rfl := p7 (by simp [hd])
      refine RI.wpOp_plain rfl rfl ?_
      go_simp
      refine (KF.out _ _ _).mono ?_
      rintro e w1 ⟨rfl, hb1⟩
      exact ⟨u12, _, u14, u15, _, u17, u18, _, _, u21, F, v5, v10, v11, v22, v23, rfl, P4_below hP hb1, (fun h => q (by rwa [RI.don_other _ _ _ (by decide)] at h)), RI.keep (by decide) p0, RI.keep (by decide) p1, RI.keep (by decide) p2, RI.keep (by decide) p3, RI.keep (by decide) p4, RI.keep (by decide) p5, RI.keep (by decide) p6, RI.keep (by decide) p7, fun _ => rfl, RI.keep (by decide) p9, RI.keep (by decide) (px10)⟩
    · have hd := hd _ rfl
      simp [Region.binds] at hd
      obtain rfl := p0 (by simp [hd])
      obtain rfl := p1 (by simp [hd])
      obtain rfl := p2 (by simp [hd])
      obtain rfl := p3 (by simp [hd])
      obtain rfl := p4 (by simp [hd])
      obtain rfl := p5 (by simp [hd])
      obtain rfl := p6 (by simp [hd])
      obtain rfl := p7 (by simp [hd])
      obtain rfl := p8 (by simp [hd])
      refine RI.wpOp_plain rfl rfl ?_
      go_simp
      exact ⟨_, _, _, _, _, _, _, _, _, _, F, v5, v10, v11, v22, v23, rfl, hP, (fun h => q (by rwa [RI.don_other _ _ _ (by decide)] at h)), RI.keep (by decide) p0, RI.keep (by decide) p1, RI.keep (by decide) p2, RI.keep (by decide) p3, RI.keep (by decide) p4, RI.keep (by decide) p5, RI.keep (by decide) p6, RI.keep (by decide) p7, RI.keep (by decide) p8, fun _ => rfl, RI.keep (by decide) px10⟩
    · have hd := hd _ rfl
      simp [Region.binds] at hd
      obtain rfl := p0 (by simp [hd])
      obtain rfl := p1 (by simp [hd])
      obtain rfl := p2 (by simp [hd])
      obtain rfl := p3 (by simp [hd])
      obtain rfl := p4 (by simp [hd])
      obtain rfl := p5 (by simp [hd])
      obtain rfl := p6 (by simp [hd])
      obtain rfl := p7 (by simp [hd])
      obtain rfl := p8 (by simp [hd])
      obtain rfl := p9 (by simp [hd])
      refine RI.wpOp_plain rfl rfl ?_
      obtain rfl := q hf
      have c3 := hP.v3.c 2 (by decide)
      have f3 : ∀ o, wx.frozen? ⟨w.heap.size + 1 + 1 + 1, o, none⟩ = false := hP.v3.f
      go_simp
      exact ⟨_, _, _, _, _, _, _, _, _, _, _, v5, v10, v11, v22, v23, rfl, P4_set hP (by decide), (fun h => absurd h (by simp [RI.don])), RI.keep (by decide) p0, RI.keep (by decide) p1, RI.keep (by decide) p2, RI.keep (by decide) p3, RI.keep (by decide) p4, RI.keep (by decide) p5, RI.keep (by decide) p6, RI.keep (by decide) p7, RI.keep (by decide) p8, RI.keep (by decide) p9, fun _ => rfl⟩
  clear m0
  intro d x wx hI hd
  obtain ⟨u12, u13, u14, u15, u16, u17, u18, u19, u20, u21, F, v5, v10, v11, v22, v23, rfl, hP, q, p0, p1, p2, p3, p4, p5, p6, p7, p8, p9, px10⟩ := hI
  obtain rfl := p0 (hd 0 (by decide))
  obtain rfl := p1 (hd 1 (by decide))
  obtain rfl := p2 (hd 2 (by decide))
  obtain rfl := p3 (hd 3 (by decide))
  obtain rfl := p4 (hd 4 (by decide))
  obtain rfl := p5 (hd 5 (by decide))
  obtain rfl := p6 (hd 6 (by decide))
  obtain rfl := p7 (hd 7 (by decide))
  obtain rfl := p8 (hd 8 (by decide))
  obtain rfl := p9 (hd 9 (by decide))
  rw [px10 (hd 10 (by decide))] at hP
  have m0 := hP
  clear p0 p1 p2 p3 p4 p5 p6 p7 p8 p9 px10 q hd hP
  go_wp2_with fail
  rw [rounds_succ]
  go_upto_region 5 with fail
  refine RI.wp_region_inv (PB3 w a b f (.func (Fn.func 28) #[] #[]) (upd (upd (upd (dg 0) 0 (f (dg a 0) (dg b 0))) 1 (f (dg a 1) (dg b 1))) 2 (f (dg a 2) (dg b 2)))) (by kernel_rfl) (by kernel_rfl) ?_ ?_ ?_
  · exact ⟨_, _, _, _, _, _, _, _, _, _, upd (upd (upd (dg 0) 0 (f (dg a 0) (dg b 0))) 1 (f (dg a 1) (dg b 1))) 2 (f (dg a 2) (dg b 2)), _, _, _, _, _, rfl, P4_drew m0, fun _ => rfl, nofun, nofun, nofun, nofun, nofun, nofun, nofun, nofun, nofun, nofun, nofun⟩
  · clear m0
    intro d x wx i hI hi hm
    obtain ⟨u12, u13, u14, u15, u16, u17, u18, u19, u20, u21, F, v5, v10, v11, v22, v23, rfl, hP, q, p0, p1, p2, p3, p4, p5, p6, p7, p8, p9, px10⟩ := hI
    have hi' : i = 0 ∨ i = 1 ∨ i = 2 ∨ i = 3 ∨ i = 4 ∨ i = 5 ∨ i = 6 ∨ i = 7 ∨ i = 8 ∨ i = 9 ∨ i = 10 := by simp at hi; omega
    have hd := hm.2
    have hf := hm.1
    clear hm hi
    rcases hi' with rfl | rfl | rfl | rfl | rfl | rfl | rfl | rfl | rfl | rfl | rfl
    · refine RI.wpOp_plain rfl rfl ?_
      go_simp
      exact ⟨_, u13, u14, u15, u16, u17, u18, u19, u20, u21, F, v5, v10, v11, v22, v23, rfl, hP, (fun h => q (by rwa [RI.don_other _ _ _ (by decide)] at h)), fun _ => rfl, RI.keep (by decide) p1, RI.keep (by decide) p2, RI.keep (by decide) p3, RI.keep (by decide) p4, RI.keep (by decide) p5, RI.keep (by decide) p6, RI.keep (by decide) p7, RI.keep (by decide) p8, RI.keep (by decide) p9, RI.keep (by decide) px10⟩
    · refine RI.wpOp_plain rfl rfl ?_
      go_simp
      exact ⟨u12, _, u14, u15, u16, u17, u18, u19, u20, u21, F, v5, v10, v11, v22, v23, rfl, hP, (fun h => q (by rwa [RI.don_other _ _ _ (by decide)] at h)), RI.keep (by decide) p0, fun _ => rfl, RI.keep (by decide) p2, RI.keep (by decide) p3, RI.keep (by decide) p4, RI.keep (by decide) p5, RI.keep (by decide) p6, RI.keep (by decide) p7, RI.keep (by decide) p8, RI.keep (by decide) p9, RI.keep (by decide) px10⟩
    · refine RI.wpOp_plain rfl rfl ?_
      go_simp
      exact ⟨u12, u13, _, u15, u16, u17, u18, u19, u20, u21, F, v5, v10, v11, v22, v23, rfl, hP, (fun h => q (by rwa [RI.don_other _ _ _ (by decide)] at h)), RI.keep (by decide) p0, RI.keep (by decide) p1, fun _ => rfl, RI.keep (by decide) p3, RI.keep (by decide) p4, RI.keep (by decide) p5, RI.keep (by decide) p6, RI.keep (by decide) p7, RI.keep (by decide) p8, RI.keep (by decide) p9, RI.keep (by decide) px10⟩
    · have hd := hd _ rfl
      simp [Region.binds] at hd
      obtain rfl := p2 (by simp [hd])
      refine RI.wpOp_plain rfl rfl ?_
      go_simp
      exact ⟨u12, u13, _, _, u16, u17, u18, u19, u20, u21, F, v5, v10, v11, v22, v23, rfl, hP, (fun h => q (by rwa [RI.don_other _ _ _ (by decide)] at h)), RI.keep (by decide) p0, RI.keep (by decide) p1, RI.keep (by decide) p2, fun _ => rfl, RI.keep (by decide) p4, RI.keep (by decide) p5, RI.keep (by decide) p6, RI.keep (by decide) p7, RI.keep (by decide) p8, RI.keep (by decide) p9, RI.keep (by decide) px10⟩
    · have hd := hd _ rfl
      simp [Region.binds] at hd
      obtain rfl := p3 (by simp [hd])
      refine RI.wpOp_plain rfl rfl ?_
      have c0 : wx.cell? ⟨w.heap.size, 3, none⟩ = some (.int .u64 (dg a 3)) := hP.v0.c 3 (by decide)
      go_simp
      exact ⟨u12, u13, u14, _, _, u17, u18, u19, u20, u21, F, v5, v10, v11, v22, v23, rfl, hP, (fun h => q (by rwa [RI.don_other _ _ _ (by decide)] at h)), RI.keep (by decide) p0, RI.keep (by decide) p1, RI.keep (by decide) p2, RI.keep (by decide) p3, fun _ => rfl, RI.keep (by decide) p5, RI.keep (by decide) p6, RI.keep (by decide) p7, RI.keep (by decide) p8, RI.keep (by decide) p9, RI.keep (by decide) px10⟩
    · refine RI.wpOp_plain rfl rfl ?_
      go_simp
      exact ⟨u12, u13, u14, u15, u16, _, u18, u19, u20, u21, F, v5, v10, v11, v22, v23, rfl, hP, (fun h => q (by rwa [RI.don_other _ _ _ (by decide)] at h)), RI.keep (by decide) p0, RI.keep (by decide) p1, RI.keep (by decide) p2, RI.keep (by decide) p3, RI.keep (by decide) p4, fun _ => rfl, RI.keep (by decide) p6, RI.keep (by decide) p7, RI.keep (by decide) p8, RI.keep (by decide) p9, RI.keep (by decide) px10⟩
    · have hd := hd _ rfl
      simp [Region.binds] at hd
      obtain rfl := p5 (by simp [hd])
      refine RI.wpOp_plain rfl rfl ?_
      go_simp
      exact ⟨u12, u13, u14, u15, u16, _, _, u19, u20, u21, F, v5, v10, v11, v22, v23, rfl, hP, (fun h => q (by rwa [RI.don_other _ _ _ (by decide)] at h)), RI.keep (by decide) p0, RI.keep (by decide) p1, RI.keep (by decide) p2, RI.keep (by decide) p3, RI.keep (by decide) p4, RI.keep (by decide) p5, fun _ => rfl, RI.keep (by decide) p7, RI.keep (by decide) p8, RI.keep (by decide) p9, RI.keep (by decide) px10⟩
    · have hd := hd _ rfl
      simp [Region.binds] at hd
      obtain rfl := p6 (by simp [hd])
      refine RI.wpOp_plain rfl rfl ?_
      have c0 : wx.cell? ⟨w.heap.size + 1, 3, none⟩ = some (.int .u64 (dg b 3)) := hP.v1.c 3 (by decide)
      go_simp
      exact ⟨u12, u13, u14, u15, u16, u17, _, _, u20, u21, F, v5, v10, v11, v22, v23, rfl, hP, (fun h => q (by rwa [RI.don_other _ _ _ (by decide)] at h)), RI.keep (by decide) p0, RI.keep (by decide) p1, RI.keep (by decide) p2, RI.keep (by decide) p3, RI.keep (by decide) p4, RI.keep (by decide) p5, RI.keep (by decide) p6, fun _ => rfl, RI.keep (by decide) p8, RI.keep (by decide) p9, RI.keep (by decide) px10⟩
    · have hd := hd _ rfl
      simp [Region.binds] at hd
      obtain rfl := p1 (by simp [hd])
      obtain rfl := p4 (by simp [hd])
      obtain rfl := p7 (by simp [hd])
      refine RI.wpOp_plain rfl rfl ?_
      go_simp
      refine (KF.out _ _ _).mono ?_
      rintro e w1 ⟨rfl, hb1⟩
      exact ⟨u12, _, u14, u15, _, u17, u18, _, _, u21, F, v5, v10, v11, v22, v23, rfl, P4_below hP hb1, (fun h => q (by rwa [RI.don_other _ _ _ (by decide)] at h)), RI.keep (by decide) p0, RI.keep (by decide) p1, RI.keep (by decide) p2, RI.keep (by decide) p3, RI.keep (by decide) p4, RI.keep (by decide) p5, RI.keep (by decide) p6, RI.keep (by decide) p7, fun _ => rfl, RI.keep (by decide) p9, RI.keep (by decide) (px10)⟩
    · have hd := hd _ rfl
      simp [Region.binds] at hd
      obtain rfl := p0 (by simp [hd])
      obtain rfl := p1 (by simp [hd])
      obtain rfl := p2 (by simp [hd])
      obtain rfl := p3 (by simp [hd])
      obtain rfl := p4 (by simp [hd])
      obtain rfl := p5 (by simp [hd])
      obtain rfl := p6 (by simp [hd])
      obtain rfl := p7 (by simp [hd])
      obtain rfl := p8 (by simp [hd])
      refine RI.wpOp_plain rfl rfl ?_
      go_simp
      exact ⟨_, _, _, _, _, _, _, _, _, _, F, v5, v10, v11, v22, v23, rfl, hP, (fun h => q (by rwa [RI.don_other _ _ _ (by decide)] at h)), RI.keep (by decide) p0, RI.keep (by decide) p1, RI.keep (by decide) p2, RI.keep (by decide) p3, RI.keep (by decide) p4, RI.keep (by decide) p5, RI.keep (by decide) p6, RI.keep (by decide) p7, RI.keep (by decide) p8, fun _ => rfl, RI.keep (by decide) px10⟩
    · have hd := hd _ rfl
      simp [Region.binds] at hd
      obtain rfl := p0 (by simp [hd])
      obtain rfl := p1 (by simp [hd])
      obtain rfl := p2 (by simp [hd])
      obtain rfl := p3 (by simp [hd])
      obtain rfl := p4 (by simp [hd])
      obtain rfl := p5 (by simp [hd])
      obtain rfl := p6 (by simp [hd])
      obtain rfl := p7 (by simp [hd])
      obtain rfl := p8 (by simp [hd])
      obtain rfl := p9 (by simp [hd])
      refine RI.wpOp_plain rfl rfl ?_
      obtain rfl := q hf
      have c3 := hP.v3.c 3 (by decide)
      have f3 : ∀ o, wx.frozen? ⟨w.heap.size + 1 + 1 + 1, o, none⟩ = false := hP.v3.f
      go_simp
      exact ⟨_, _, _, _, _, _, _, _, _, _, _, v5, v10, v11, v22, v23, rfl, P4_set hP (by decide), (fun h => absurd h (by simp [RI.don])), RI.keep (by decide) p0, RI.keep (by decide) p1, RI.keep (by decide) p2, RI.keep (by decide) p3, RI.keep (by decide) p4, RI.keep (by decide) p5, RI.keep (by decide) p6, RI.keep (by decide) p7, RI.keep (by decide) p8, RI.keep (by decide) p9, fun _ => rfl⟩
  clear m0
  intro d x wx hI hd
  obtain ⟨u12, u13, u14, u15, u16, u17, u18, u19, u20, u21, F, v5, v10, v11, v22, v23, rfl, hP, q, p0, p1, p2, p3, p4, p5, p6, p7, p8, p9, px10⟩ := hI
  obtain rfl := p0 (hd 0 (by decide))
  obtain rfl := p1 (hd 1 (by decide))
  obtain rfl := p2 (hd 2 (by decide))
  obtain rfl := p3 (hd 3 (by decide))
  obtain rfl := p4 (hd 4 (by decide))
  obtain rfl := p5 (hd 5 (by decide))
  obtain rfl := p6 (hd 6 (by decide))
  obtain rfl := p7 (hd 7 (by decide))
  obtain rfl := p8 (hd 8 (by decide))
  obtain rfl := p9 (hd 9 (by decide))
  rw [px10 (hd 10 (by decide))] at hP
  have m0 := hP
  clear p0 p1 p2 p3 p4 p5 p6 p7 p8 p9 px10 q hd hP
  go_wp2_with fail
  rw [rounds_succ]
  have c3 : ∀ o, o < 4 → wx.cell? ⟨w.heap.size + 1 + 1 + 1, o, none⟩ = some (.int .u64 (dg N o)) := fun o ho => by
    rw [← HN.out o ho, m0.v3.c o ho]
    have : o = 0 ∨ o = 1 ∨ o = 2 ∨ o = 3 := by omega
    rcases this with rfl | rfl | rfl | rfl <;> rfl
  have c2 : ∀ o, o < 4 → wx.cell? ⟨w.heap.size + 1 + 1, o, none⟩ = some (.int .u64 (dg 0 o)) := m0.v2.c
  have f2 : ∀ o, wx.frozen? ⟨w.heap.size + 1 + 1, o, none⟩ = false := m0.v2.f
  have z2 := m0.v2.hi
  have HV : Hid (Vb w.heap.size (w.heap.size + 1 + 1) 4 (dg N) _) := Vb_set4 m0.v2
  have HB : Hid (Below w.heap.size w _) := Bel_set4 (h := w.heap.size + 1 + 1) (m := N) m0.bel (by omega)
  clear m0
  go_wp2_with fail
  exact bodyPost_ret (v := Wd N) (resultTw _ _ _ (w.heap.size + 1 + 1) N 6 rfl rfl HV.out.c) rfl ⟨rfl, HB.out⟩
set_option maxHeartbeats 4000000 in
set_option maxRecDepth 100000 in
theorem pbp_not (a b N : Nat) (f : Int → Int → Int) (KF : Hid (∀ (x y : Int) (w : World), Calls Try.prog 29 #[.int .u64 x, .int .u64 y] w fun e w' => e = .returned (.int .u64 (f x y)) ∧ Below w.heap.size w w')) (HN : Hid (∀ o, o < 4 → f (dg a o) (dg b o) = dg N o)) (w : World) :
    Calls Try.prog 25 #[Wd a, Wd b, .func (Fn.func 29) #[] #[]] w fun e w' => e = .returned (Wd N) ∧ Below w.heap.size w w' := by
  have m0 : P4 w a b (dg 0) ((((w.alloc (.cells #[.int .u64 (dg a 0), .int .u64 (dg a 1), .int .u64 (dg a 2), .int .u64 (dg a 3)] 24)).alloc (.cells #[.int .u64 (dg b 0), .int .u64 (dg b 1), .int .u64 (dg b 2), .int .u64 (dg b 3)] 24)).alloc (.cells #[.int .u64 0, .int .u64 0, .int .u64 0, .int .u64 0] 24)).alloc (.cells #[.int .u64 0, .int .u64 0, .int .u64 0, .int .u64 0] 24)) := by
    have k := M4_start w a b 24
    exact ⟨k.v0, k.v1, k.v2, k.v3, k.bel⟩
  conv => arg 3; unfold Wd
  go_enter Try.func25, Try.ntmps25
  go_wp2_with fail
  generalize (((w.alloc (.cells #[.int .u64 (dg a 0), .int .u64 (dg a 1), .int .u64 (dg a 2), .int .u64 (dg a 3)] 24)).alloc (.cells #[.int .u64 (dg b 0), .int .u64 (dg b 1), .int .u64 (dg b 2), .int .u64 (dg b 3)] 24)).alloc (.cells #[.int .u64 0, .int .u64 0, .int .u64 0, .int .u64 0] 24)).alloc (.cells #[.int .u64 0, .int .u64 0, .int .u64 0, .int .u64 0] 24) = W0 at m0 ⊢
  refine wp_loop_rounds 5 ?_
  rw [rounds_succ]
  go_upto_region 5 with fail
  refine RI.wp_region_inv (PB0 w a b f (.func (Fn.func 29) #[] #[]) (dg 0)) (by kernel_rfl) (by kernel_rfl) ?_ ?_ ?_
  · exact ⟨undef, undef, undef, undef, undef, undef, undef, undef, undef, undef, dg 0, _, _, _, _, _, rfl, P4_drew m0, fun _ => rfl, nofun, nofun, nofun, nofun, nofun, nofun, nofun, nofun, nofun, nofun, nofun⟩
  · clear m0
    intro d x wx i hI hi hm
    obtain ⟨u12, u13, u14, u15, u16, u17, u18, u19, u20, u21, F, v5, v10, v11, v22, v23, rfl, hP, q, p0, p1, p2, p3, p4, p5, p6, p7, p8, p9, px10⟩ := hI
    have hi' : i = 0 ∨ i = 1 ∨ i = 2 ∨ i = 3 ∨ i = 4 ∨ i = 5 ∨ i = 6 ∨ i = 7 ∨ i = 8 ∨ i = 9 ∨ i = 10 := by simp at hi; omega
    have hd := hm.2
    have hf := hm.1
    clear hm hi
    rcases hi' with rfl | rfl | rfl | rfl | rfl | rfl | rfl | rfl | rfl | rfl | rfl
    · refine RI.wpOp_plain rfl rfl ?_
      go_simp
      exact ⟨_, u13, u14, u15, u16, u17, u18, u19, u20, u21, F, v5, v10, v11, v22, v23, rfl, hP, (fun h => q (by rwa [RI.don_other _ _ _ (by decide)] at h)), fun _ => rfl, RI.keep (by decide) p1, RI.keep (by decide) p2, RI.keep (by decide) p3, RI.keep (by decide) p4, RI.keep (by decide) p5, RI.keep (by decide) p6, RI.keep (by decide) p7, RI.keep (by decide) p8, RI.keep (by decide) p9, RI.keep (by decide) px10⟩
    · refine RI.wpOp_plain rfl rfl ?_
      go_simp
      exact ⟨u12, _, u14, u15, u16, u17, u18, u19, u20, u21, F, v5, v10, v11, v22, v23, rfl, hP, (fun h => q (by rwa [RI.don_other _ _ _ (by decide)] at h)), RI.keep (by decide) p0, fun _ => rfl, RI.keep (by decide) p2, RI.keep (by decide) p3, RI.keep (by decide) p4, RI.keep (by decide) p5, RI.keep (by decide) p6, RI.keep (by decide) p7, RI.keep (by decide) p8, RI.keep (by decide) p9, RI.keep (by decide) px10⟩
    · refine RI.wpOp_plain rfl rfl ?_
      go_simp
      exact ⟨u12, u13, _, u15, u16, u17, u18, u19, u20, u21, F, v5, v10, v11, v22, v23, rfl, hP, (fun h => q (by rwa [RI.don_other _ _ _ (by decide)] at h)), RI.keep (by decide) p0, RI.keep (by decide) p1, fun _ => rfl, RI.keep (by decide) p3, RI.keep (by decide) p4, RI.keep (by decide) p5, RI.keep (by decide) p6, RI.keep (by decide) p7, RI.keep (by decide) p8, RI.keep (by decide) p9, RI.keep (by decide) px10⟩
    · have hd := hd _ rfl
      simp [Region.binds] at hd
      obtain rfl := p2 (by simp [hd])
      refine RI.wpOp_plain rfl rfl ?_
      go_simp
      exact ⟨u12, u13, _, _, u16, u17, u18, u19, u20, u21, F, v5, v10, v11, v22, v23, rfl, hP, (fun h => q (by rwa [RI.don_other _ _ _ (by decide)] at h)), RI.keep (by decide) p0, RI.keep (by decide) p1, RI.keep (by decide) p2, fun _ => rfl, RI.keep (by decide) p4, RI.keep (by decide) p5, RI.keep (by decide) p6, RI.keep (by decide) p7, RI.keep (by decide) p8, RI.keep (by decide) p9, RI.keep (by decide) px10⟩
    · have hd := hd _ rfl
      simp [Region.binds] at hd
      obtain rfl := p3 (by simp [hd])
      refine RI.wpOp_plain rfl rfl ?_
      have c0 : wx.cell? ⟨w.heap.size, 0, none⟩ = some (.int .u64 (dg a 0)) := hP.v0.c 0 (by decide)
      go_simp
      exact ⟨u12, u13, u14, _, _, u17, u18, u19, u20, u21, F, v5, v10, v11, v22, v23, rfl, hP, (fun h => q (by rwa [RI.don_other _ _ _ (by decide)] at h)), RI.keep (by decide) p0, RI.keep (by decide) p1, RI.keep (by decide) p2, RI.keep (by decide) p3, fun _ => rfl, RI.keep (by decide) p5, RI.keep (by decide) p6, RI.keep (by decide) p7, RI.keep (by decide) p8, RI.keep (by decide) p9, RI.keep (by decide) px10⟩
    · refine RI.wpOp_plain rfl rfl ?_
      go_simp
      exact ⟨u12, u13, u14, u15, u16, _, u18, u19, u20, u21, F, v5, v10, v11, v22, v23, rfl, hP, (fun h => q (by rwa [RI.don_other _ _ _ (by decide)] at h)), RI.keep (by decide) p0, RI.keep (by decide) p1, RI.keep (by decide) p2, RI.keep (by decide) p3, RI.keep (by decide) p4, fun _ => rfl, RI.keep (by decide) p6, RI.keep (by decide) p7, RI.keep (by decide) p8, RI.keep (by decide) p9, RI.keep (by decide) px10⟩
    · have hd := hd _ rfl
      simp [Region.binds] at hd
      obtain rfl := p5 (by simp [hd])
      refine RI.wpOp_plain rfl rfl ?_
      go_simp
      exact ⟨u12, u13, u14, u15, u16, _, _, u19, u20, u21, F, v5, v10, v11, v22, v23, rfl, hP, (fun h => q (by rwa [RI.don_other _ _ _ (by decide)] at h)), RI.keep (by decide) p0, RI.keep (by decide) p1, RI.keep (by decide) p2, RI.keep (by decide) p3, RI.keep (by decide) p4, RI.keep (by decide) p5, fun _ => rfl, RI.keep (by decide) p7, RI.keep (by decide) p8, RI.keep (by decide) p9, RI.keep (by decide) px10⟩
    · have hd := hd _ rfl
      simp [Region.binds] at hd
      obtain rfl := p6 (by simp [hd])
      refine RI.wpOp_plain rfl rfl ?_
      have c0 : wx.cell? ⟨w.heap.size + 1, 0, none⟩ = some (.int .u64 (dg b 0)) := hP.v1.c 0 (by decide)
      go_simp
      exact ⟨u12, u13, u14, u15, u16, u17, _, _, u20, u21, F, v5, v10, v11, v22, v23, rfl, hP, (fun h => q (by rwa [RI.don_other _ _ _ (by decide)] at h)), RI.keep (by decide) p0, RI.keep (by decide) p1, RI.keep (by decide) p2, RI.keep (by decide) p3, RI.keep (by decide) p4, RI.keep (by decide) p5, RI.keep (by decide) p6, fun _ => rfl, RI.keep (by decide) p8, RI.keep (by decide) p9, RI.keep (by decide) px10⟩
    · have hd := hd _ rfl
      simp [Region.binds] at hd
      obtain rfl := p1 (by simp [hd])
      obtain rfl := p4 (by simp [hd])
      obtain rfl := p7 (by simp [hd])
      refine RI.wpOp_plain rfl rfl ?_
      go_simp
      refine (KF.out _ _ _).mono ?_
      rintro e w1 ⟨rfl, hb1⟩
      exact ⟨u12, _, u14, u15, _, u17, u18, _, _, u21, F, v5, v10, v11, v22, v23, rfl, P4_below hP hb1, (fun h => q (by rwa [RI.don_other _ _ _ (by decide)] at h)), RI.keep (by decide) p0, RI.keep (by decide) p1, RI.keep (by decide) p2, RI.keep (by decide) p3, RI.keep (by decide) p4, RI.keep (by decide) p5, RI.keep (by decide) p6, RI.keep (by decide) p7, fun _ => rfl, RI.keep (by decide) p9, RI.keep (by decide) (px10)⟩
    · have hd := hd _ rfl
      simp [Region.binds] at hd
      obtain rfl := p0 (by simp [hd])
      obtain rfl := p1 (by simp [hd])
      obtain rfl := p2 (by simp [hd])
      obtain rfl := p3 (by simp [hd])
      obtain rfl := p4 (by simp [hd])
      obtain rfl := p5 (by simp [hd])
      obtain rfl := p6 (by simp [hd])
      obtain rfl := p7 (by simp [hd])
      obtain rfl := p8 (by simp [hd])
      refine RI.wpOp_plain rfl rfl ?_
      go_simp
      exact ⟨_, _, _, _, _, _, _, _, _, _, F, v5, v10, v11, v22, v23, rfl, hP, (fun h => q (by rwa [RI.don_other _ _ _ (by decide)] at h)), RI.keep (by decide) p0, RI.keep (by decide) p1, RI.keep (by decide) p2, RI.keep (by decide) p3, RI.keep (by decide) p4, RI.keep (by decide) p5, RI.keep (by decide) p6, RI.keep (by decide) p7, RI.keep (by decide) p8, fun _ => rfl, RI.keep (by decide) px10⟩
    · have hd := hd _ rfl
      simp [Region.binds] at hd
      obtain rfl := p0 (by simp [hd])
      obtain rfl := p1 (by simp [hd])
      obtain rfl := p2 (by simp [hd])
      obtain rfl := p3 (by simp [hd])
      obtain rfl := p4 (by simp [hd])
      obtain rfl := p5 (by simp [hd])
      obtain rfl := p6 (by simp [hd])
      obtain rfl := p7 (by simp [hd])
      obtain rfl := p8 (by simp [hd])
      obtain rfl := p9 (by simp [hd])
      refine RI.wpOp_plain rfl rfl ?_
      obtain rfl := q hf
      have c3 := hP.v3.c 0 (by decide)
      have f3 : ∀ o, wx.frozen? ⟨w.heap.size + 1 + 1 + 1, o, none⟩ = false := hP.v3.f
      go_simp
      exact ⟨_, _, _, _, _, _, _, _, _, _, _, v5, v10, v11, v22, v23, rfl, P4_set hP (by decide), (fun h => absurd h (by simp [RI.don])), RI.keep (by decide) p0, RI.keep (by decide) p1, RI.keep (by decide) p2, RI.keep (by decide) p3, RI.keep (by decide) p4, RI.keep (by decide) p5, RI.keep (by decide) p6, RI.keep (by decide) p7, RI.keep (by decide) p8, RI.keep (by decide) p9, fun _ => rfl⟩
  clear m0
  intro d x wx hI hd
  obtain ⟨u12, u13, u14, u15, u16, u17, u18, u19, u20, u21, F, v5, v10, v11, v22, v23, rfl, hP, q, p0, p1, p2, p3, p4, p5, p6, p7, p8, p9, px10⟩ := hI
  obtain rfl := p0 (hd 0 (by decide))
  obtain rfl := p1 (hd 1 (by decide))
  obtain rfl := p2 (hd 2 (by decide))
  obtain rfl := p3 (hd 3 (by decide))
  obtain rfl := p4 (hd 4 (by decide))
  obtain rfl := p5 (hd 5 (by decide))
  obtain rfl := p6 (hd 6 (by decide))
  obtain rfl := p7 (hd 7 (by decide))
  obtain rfl := p8 (hd 8 (by decide))
  obtain rfl := p9 (hd 9 (by decide))
  rw [px10 (hd 10 (by decide))] at hP
  have m0 := hP
  clear p0 p1 p2 p3 p4 p5 p6 p7 p8 p9 px10 q hd hP
  go_wp2_with fail
  rw [rounds_succ]
  go_upto_region 5 with fail
  refine RI.wp_region_inv (PB1 w a b f (.func (Fn.func 29) #[] #[]) (upd (dg 0) 0 (f (dg a 0) (dg b 0)))) (by kernel_rfl) (by kernel_rfl) ?_ ?_ ?_
  · exact ⟨_, _, _, _, _, _, _, _, _, _, upd (dg 0) 0 (f (dg a 0) (dg b 0)), _, _, _, _, _, rfl, P4_drew m0, fun _ => rfl, nofun, nofun, nofun, nofun, nofun, nofun, nofun, nofun, nofun, nofun, nofun⟩
  · clear m0
    intro d x wx i hI hi hm
    obtain ⟨u12, u13, u14, u15, u16, u17, u18, u19, u20, u21, F, v5, v10, v11, v22, v23, rfl, hP, q, p0, p1, p2, p3, p4, p5, p6, p7, p8, p9, px10⟩ := hI
    have hi' : i = 0 ∨ i = 1 ∨ i = 2 ∨ i = 3 ∨ i = 4 ∨ i = 5 ∨ i = 6 ∨ i = 7 ∨ i = 8 ∨ i = 9 ∨ i = 10 := by simp at hi; omega
    have hd := hm.2
    have hf := hm.1
    clear hm hi
    rcases hi' with rfl | rfl | rfl | rfl | rfl | rfl | rfl | rfl | rfl | rfl | rfl
    · refine RI.wpOp_plain rfl rfl ?_
      go_simp
      exact ⟨_, u13, u14, u15, u16, u17, u18, u19, u20, u21, F, v5, v10, v11, v22, v23, rfl, hP, (fun h => q (by rwa [RI.don_other _ _ _ (by decide)] at h)), fun _ => rfl, RI.keep (by decide) p1, RI.keep (by decide) p2, RI.keep (by decide) p3, RI.keep (by decide) p4, RI.keep (by decide) p5, RI.keep (by decide) p6, RI.keep (by decide) p7, RI.keep (by decide) p8, RI.keep (by decide) p9, RI.keep (by decide) px10⟩
    · refine RI.wpOp_plain rfl rfl ?_
      go_simp
      exact ⟨u12, _, u14, u15, u16, u17, u18, u19, u20, u21, F, v5, v10, v11, v22, v23, rfl, hP, (fun h => q (by rwa [RI.don_other _ _ _ (by decide)] at h)), RI.keep (by decide) p0, fun _ => rfl, RI.keep (by decide) p2, RI.keep (by decide) p3, RI.keep (by decide) p4, RI.keep (by decide) p5, RI.keep (by decide) p6, RI.keep (by decide) p7, RI.keep (by decide) p8, RI.keep (by decide) p9, RI.keep (by decide) px10⟩
    · refine RI.wpOp_plain rfl rfl ?_
      go_simp
      exact ⟨u12, u13, _, u15, u16, u17, u18, u19, u20, u21, F, v5, v10, v11, v22, v23, rfl, hP, (fun h => q (by rwa [RI.don_other _ _ _ (by decide)] at h)), RI.keep (by decide) p0, RI.keep (by decide) p1, fun _ => rfl, RI.keep (by decide) p3, RI.keep (by decide) p4, RI.keep (by decide) p5, RI.keep (by decide) p6, RI.keep (by decide) p7, RI.keep (by decide) p8, RI.keep (by decide) p9, RI.keep (by decide) px10⟩
    · have hd := hd _ rfl
      simp [Region.binds] at hd
      obtain rfl := p2 (by simp [hd])
      refine RI.wpOp_plain rfl rfl ?_
      go_simp
      exact ⟨u12, u13, _, _, u16, u17, u18, u19, u20, u21, F, v5, v10, v11, v22, v23, rfl, hP, (fun h => q (by rwa [RI.don_other _ _ _ (by decide)] at h)), RI.keep (by decide) p0, RI.keep (by decide) p1, RI.keep (by decide) p2, fun _ => rfl, RI.keep (by decide) p4, RI.keep (by decide) p5, RI.keep (by decide) p6, RI.keep (by decide) p7, RI.keep (by decide) p8, RI.keep (by decide) p9, RI.keep (by decide) px10⟩
    · have hd := hd _ rfl
      simp [Region.binds] at hd
      obtain rfl := p3 (by simp [hd])
      refine RI.wpOp_plain rfl rfl ?_
      have c0 : wx.cell? ⟨w.heap.size, 1, none⟩ = some (.int .u64 (dg a 1)) := hP.v0.c 1 (by decide)
      go_simp
      exact ⟨u12, u13, u14, _, _, u17, u18, u19, u20, u21, F, v5, v10, v11, v22, v23, rfl, hP, (fun h => q (by rwa [RI.don_other _ _ _ (by decide)] at h)), RI.keep (by decide) p0, RI.keep (by decide) p1, RI.keep (by decide) p2, RI.keep (by decide) p3, fun _ => rfl, RI.keep (by decide) p5, RI.keep (by decide) p6, RI.keep (by decide) p7, RI.keep (by decide) p8, RI.keep (by decide) p9, RI.keep (by decide) px10⟩
    · refine RI.wpOp_plain rfl rfl ?_
      go_simp
      exact ⟨u12, u13, u14, u15, u16, _, u18, u19, u20, u21, F, v5, v10, v11, v22, v23, rfl, hP, (fun h => q (by rwa [RI.don_other _ _ _ (by decide)] at h)), RI.keep (by decide) p0, RI.keep (by decide) p1, RI.keep (by decide) p2, RI.keep (by decide) p3, RI.keep (by decide) p4, fun _ => rfl, RI.keep (by decide) p6, RI.keep (by decide) p7, RI.keep (by decide) p8, RI.keep (by decide) p9, RI.keep (by decide) px10⟩
    · have hd := hd _ rfl
      simp [Region.binds] at hd
      obtain rfl := p5 (by simp [hd])
      refine RI.wpOp_plain rfl rfl ?_
      go_simp
      exact ⟨u12, u13, u14, u15, u16, _, _, u19, u20, u21, F, v5, v10, v11, v22, v23, rfl, hP, (fun h => q (by rwa [RI.don_other _ _ _ (by decide)] at h)), RI.keep (by decide) p0, RI.keep (by decide) p1, RI.keep (by decide) p2, RI.keep (by decide) p3, RI.keep (by decide) p4, RI.keep (by decide) p5, fun _ => rfl, RI.keep (by decide) p7, RI.keep (by decide) p8, RI.keep (by decide) p9, RI.keep (by decide) px10⟩
    · have hd := hd _ rfl
      simp [Region.binds] at hd
      obtain rfl := p6 (by simp [hd])
      refine RI.wpOp_plain rfl rfl ?_
      have c0 : wx.cell? ⟨w.heap.size + 1, 1, none⟩ = some (.int .u64 (dg b 1)) := hP.v1.c 1 (by decide)
      go_simp
      exact ⟨u12, u13, u14, u15, u16, u17, _, _, u20, u21, F, v5, v10, v11, v22, v23, rfl, hP, (fun h => q (by rwa [RI.don_other _ _ _ (by decide)] at h)), RI.keep (by decide) p0, RI.keep (by decide) p1, RI.keep (by decide) p2, RI.keep (by decide) p3, RI.keep (by decide) p4, RI.keep (by decide) p5, RI.keep (by decide) p6, fun _ => rfl, RI.keep (by decide) p8, RI.keep (by decide) p9, RI.keep (by decide) px10⟩
    · have hd := hd _ rfl
      simp [Region.binds] at hd
      obtain rfl := p1 (by simp [hd])
      obtain rfl := p4 (by simp [hd])
      obtain rfl := p7 (by simp [hd])
      refine RI.wpOp_plain rfl rfl ?_
      go_simp
      refine (KF.out _ _ _).mono ?_
      rintro e w1 ⟨rfl, hb1⟩
      exact ⟨u12, _, u14, u15, _, u17, u18, _, _, u21, F, v5, v10, v11, v22, v23, rfl, P4_below hP hb1, (fun h => q (by rwa [RI.don_other _ _ _ (by decide)] at h)), RI.keep (by decide) p0, RI.keep (by decide) p1, RI.keep (by decide) p2, RI.keep (by decide) p3, RI.keep (by decide) p4, RI.keep (by decide) p5, RI.keep (by decide) p6, RI.keep (by decide) p7, fun _ => rfl, RI.keep (by decide) p9, RI.keep (by decide) (px10)⟩
    · have hd := hd _ rfl
      simp [Region.binds] at hd
      obtain rfl := p0 (by simp [hd])
      obtain rfl := p1 (by simp [hd])
      obtain rfl := p2 (by simp [hd])
      obtain rfl := p3 (by simp [hd])
      obtain rfl := p4 (by simp [hd])
      obtain rfl := p5 (by simp [hd])
      obtain rfl := p6 (by simp [hd])
      obtain rfl := p7 (by simp [hd])
      obtain rfl := p8 (by simp [hd])
      refine RI.wpOp_plain rfl rfl ?_
      go_simp
      exact ⟨_, _, _, _, _, _, _, _, _, _, F, v5, v10, v11, v22, v23, rfl, hP, (fun h => q (by rwa [RI.don_other _ _ _ (by decide)] at h)), RI.keep (by decide) p0, RI.keep (by decide) p1, RI.keep (by decide) p2, RI.keep (by decide) p3, RI.keep (by decide) p4, RI.keep (by decide) p5, RI.keep (by decide) p6, RI.keep (by decide) p7, RI.keep (by decide) p8, fun _ => rfl, RI.keep (by decide) px10⟩
    · have hd := hd _ rfl
      simp [Region.binds] at hd
      obtain rfl := p0 (by simp [hd])
      obtain rfl := p1 (by simp [hd])
      obtain rfl := p2 (by simp [hd])
      obtain rfl := p3 (by simp [hd])
      obtain rfl := p4 (by simp [hd])
      obtain rfl := p5 (by simp [hd])
      obtain rfl := p6 (by simp [hd])
      obtain rfl := p7 (by simp [hd])
      obtain rfl := p8 (by simp [hd])
      obtain rfl := p9 (by simp [hd])
      refine RI.wpOp_plain rfl rfl ?_
      obtain rfl := q hf
      have c3 := hP.v3.c 1 (by decide)
      have f3 : ∀ o, wx.frozen? ⟨w.heap.size + 1 + 1 + 1, o, none⟩ = false := hP.v3.f
      go_simp
      exact ⟨_, _, _, _, _, _, _, _, _, _, _, v5, v10, v11, v22, v23, rfl, P4_set hP (by decide), (fun h => absurd h (by simp [RI.don])), RI.keep (by decide) p0, RI.keep (by decide) p1, RI.keep (by decide) p2, RI.keep (by decide) p3, RI.keep (by decide) p4, RI.keep (by decide) p5, RI.keep (by decide) p6, RI.keep (by decide) p7, RI.keep (by decide) p8, RI.keep (by decide) p9, fun _ => rfl⟩
  clear m0
  intro d x wx hI hd
  obtain ⟨u12, u13, u14, u15, u16, u17, u18, u19, u20, u21, F, v5, v10, v11, v22, v23, rfl, hP, q, p0, p1, p2, p3, p4, p5, p6, p7, p8, p9, px10⟩ := hI
  obtain rfl := p0 (hd 0 (by decide))
  obtain rfl := p1 (hd 1 (by decide))
  obtain rfl := p2 (hd 2 (by decide))
  obtain rfl := p3 (hd 3 (by decide))
  obtain rfl := p4 (hd 4 (by decide))
  obtain rfl := p5 (hd 5 (by decide))
  obtain rfl := p6 (hd 6 (by decide))
  obtain rfl := p7 (hd 7 (by decide))
  obtain rfl := p8 (hd 8 (by decide))
  obtain rfl := p9 (hd 9 (by decide))
  rw [px10 (hd 10 (by decide))] at hP
  have m0 := hP
  clear p0 p1 p2 p3 p4 p5 p6 p7 p8 p9 px10 q hd hP
  go_wp2_with fail
  rw [rounds_succ]
  go_upto_region 5 with fail
  refine RI.wp_region_inv (PB2 w a b f (.func (Fn.func 29) #[] #[]) (upd (upd (dg 0) 0 (f (dg a 0) (dg b 0))) 1 (f (dg a 1) (dg b 1)))) (by kernel_rfl) (by kernel_rfl) ?_ ?_ ?_
  · exact ⟨_, _, _, _, _, _, _, _, _, _, upd (upd (dg 0) 0 (f (dg a 0) (dg b 0))) 1 (f (dg a 1) (dg b 1)), _, _, _, _, _, rfl, P4_drew m0, fun _ => rfl, nofun, nofun, nofun, nofun, nofun, nofun, nofun, nofun, nofun, nofun, nofun⟩
  · clear m0
    intro d x wx i hI hi hm
    obtain ⟨u12, u13, u14, u15, u16, u17, u18, u19, u20, u21, F, v5, v10, v11, v22, v23, rfl, hP, q, p0, p1, p2, p3, p4, p5, p6, p7, p8, p9, px10⟩ := hI
    have hi' : i = 0 ∨ i = 1 ∨ i = 2 ∨ i = 3 ∨ i = 4 ∨ i = 5 ∨ i = 6 ∨ i = 7 ∨ i = 8 ∨ i = 9 ∨ i = 10 := by simp at hi; omega
    have hd := hm.2
    have hf := hm.1
    clear hm hi
    rcases hi' with rfl | rfl | rfl | rfl | rfl | rfl | rfl | rfl | rfl | rfl | rfl
    · refine RI.wpOp_plain rfl rfl ?_
      go_simp
      exact ⟨_, u13, u14, u15, u16, u17, u18, u19, u20, u21, F, v5, v10, v11, v22, v23, rfl, hP, (fun h => q (by rwa [RI.don_other _ _ _ (by decide)] at h)), fun _ => rfl, RI.keep (by decide) p1, RI.keep (by decide) p2, RI.keep (by decide) p3, RI.keep (by decide) p4, RI.keep (by decide) p5, RI.keep (by decide) p6, RI.keep (by decide) p7, RI.keep (by decide) p8, RI.keep (by decide) p9, RI.keep (by decide) px10⟩
    · refine RI.wpOp_plain rfl rfl ?_
      go_simp
      exact ⟨u12, _, u14, u15, u16, u17, u18, u19, u20, u21, F, v5, v10, v11, v22, v23, rfl, hP, (fun h => q (by rwa [RI.don_other _ _ _ (by decide)] at h)), RI.keep (by decide) p0, fun _ => rfl, RI.keep (by decide) p2, RI.keep (by decide) p3, RI.keep (by decide) p4, RI.keep (by decide) p5, RI.keep (by decide) p6, RI.keep (by decide) p7, RI.keep (by decide) p8, RI.keep (by decide) p9, RI.keep (by decide) px10⟩
    · refine RI.wpOp_plain rfl rfl ?_
      go_simp
      exact ⟨u12, u13, _, u15, u16, u17, u18, u19, u20, u21, F, v5, v10, v11, v22, v23, rfl, hP, (fun h => q (by rwa [RI.don_other _ _ _ (by decide)] at h)), RI.keep (by decide) p0, RI.keep (by decide) p1, fun _ => rfl, RI.keep (by decide) p3, RI.keep (by decide) p4, RI.keep (by decide) p5, RI.keep (by decide) p6, RI.keep (by decide) p7, RI.keep (by decide) p8, RI.keep (by decide) p9, RI.keep (by decide) px10⟩
    · have hd := hd _ rfl
      simp [Region.binds] at hd
      obtain rfl := p2 (by simp [hd])
      refine RI.wpOp_plain rfl rfl ?_
      go_simp
      exact ⟨u12, u13, _, _, u16, u17, u18, u19, u20, u21, F, v5, v10, v11, v22, v23, rfl, hP, (fun h => q (by rwa [RI.don_other _ _ _ (by decide)] at h)), RI.keep (by decide) p0, RI.keep (by decide) p1, RI.keep (by decide) p2, fun _ => rfl, RI.keep (by decide) p4, RI.keep (by decide) p5, RI.keep (by decide) p6, RI.keep (by decide) p7, RI.keep (by decide) p8, RI.keep (by decide) p9, RI.keep (by decide) px10⟩
    · have hd := hd _ rfl
      simp [Region.binds] at hd
      obtain rfl := p3 (by simp [hd])
      refine RI.wpOp_plain rfl rfl ?_
      have c0 : wx.cell? ⟨w.heap.size, 2, none⟩ = some (.int .u64 (dg a 2)) := hP.v0.c 2 (by decide)
      go_simp
      exact ⟨u12, u13, u14, _, _, u17, u18, u19, u20, u21, F, v5, v10, v11, v22, v23, rfl, hP, (fun h => q (by rwa [RI.don_other _ _ _ (by decide)] at h)), RI.keep (by decide) p0, RI.keep (by decide) p1, RI.keep (by decide) p2, RI.keep (by decide) p3, fun _ => rfl, RI.keep (by decide) p5, RI.keep (by decide) p6, RI.keep (by decide) p7, RI.keep (by decide) p8, RI.keep (by decide) p9, RI.keep (by decide) px10⟩
    · refine RI.wpOp_plain rfl rfl ?_
      go_simp
      exact ⟨u12, u13, u14, u15, u16, _, u18, u19, u20, u21, F, v5, v10, v11, v22, v23, rfl, hP, (fun h => q (by rwa [RI.don_other _ _ _ (by decide)] at h)), RI.keep (by decide) p0, RI.keep (by decide) p1, RI.keep (by decide) p2, RI.keep (by decide) p3, RI.keep (by decide) p4, fun _ => rfl, RI.keep (by decide) p6, RI.keep (by decide) p7, RI.keep (by decide) p8, RI.keep (by decide) p9, RI.keep (by decide) px10⟩
    · have hd := hd _ rfl
      simp [Region.binds] at hd
      obtain rfl := p5 (by simp [hd])
      refine RI.wpOp_plain rfl rfl ?_
      go_simp
      exact ⟨u12, u13, u14, u15, u16, _, _, u19, u20, u21, F, v5, v10, v11, v22, v23, rfl, hP, (fun h => q (by rwa [RI.don_other _ _ _ (by decide)] at h)), RI.keep (by decide) p0, RI.keep (by decide) p1, RI.keep (by decide) p2, RI.keep (by decide) p3, RI.keep (by decide) p4, RI.keep (by decide) p5, fun _ => rfl, RI.keep (by decide) p7, RI.keep (by decide) p8, RI.keep (by decide) p9, RI.keep (by decide) px10⟩
    · have hd := hd _ rfl
      simp [Region.binds] at hd
      obtain rfl := p6 (by simp [hd])
      refine RI.wpOp_plain rfl rfl ?_
      have c0 : wx.cell? ⟨w.heap.size + 1, 2, none⟩ = some (.int .u64 (dg b 2)) := hP.v1.c 2 (by decide)
      go_simp
      exact ⟨u12, u13, u14, u15, u16, u17, _, _, u20, u21, F, v5, v10, v11, v22, v23, rfl, hP, (fun h => q (by rwa [RI.don_other _ _ _ (by decide)] at h)), RI.keep (by decide) p0, RI.keep (by decide) p1, RI.keep (by decide) p2, RI.keep (by decide) p3, RI.keep (by decide) p4, RI.keep (by decide) p5, RI.keep (by decide) p6, fun _ => rfl, RI.keep (by decide) p8, RI.keep (by decide) p9, RI.keep (by decide) px10⟩
    · have hd := hd _ rfl
      simp [Region.binds] at hd
      obtain rfl := p1 (by simp [hd])
      obtain rfl := p4 (by simp [hd])
      obtain rfl := p7 (by simp [hd])
      refine RI.wpOp_plain rfl rfl ?_
      go_simp
      refine (KF.out _ _ _).mono ?_
      rintro e w1 ⟨rfl, hb1⟩
      exact ⟨u12, _, u14, u15, _, u17, u18, _, _, u21, F, v5, v10, v11, v22, v23, rfl, P4_below hP hb1, (fun h => q (by rwa [RI.don_other _ _ _ (by decide)] at h)), RI.keep (by decide) p0, RI.keep (by decide) p1, RI.keep (by decide) p2, RI.keep (by decide) p3, RI.keep (by decide) p4, RI.keep (by decide) p5, RI.keep (by decide) p6, RI.keep (by decide) p7, fun _ => rfl, RI.keep (by decide) p9, RI.keep (by decide) (px10)⟩
    · have hd := hd _ rfl
      simp [Region.binds] at hd
      obtain rfl := p0 (by simp [hd])
      obtain rfl := p1 (by simp [hd])
      obtain rfl := p2 (by simp [hd])
      obtain rfl := p3 (by simp [hd])
      obtain rfl := p4 (by simp [hd])
      obtain rfl := p5 (by simp [hd])
      obtain rfl := p6 (by simp [hd])
      obtain rfl := p7 (by simp [hd])
      obtain rfl := p8 (by simp [hd])
      refine RI.wpOp_plain rfl rfl ?_
      go_simp
      exact ⟨_, _, _, _, _, _, _, _, _, _, F, v5, v10, v11, v22, v23, rfl, hP, (fun h => q (by rwa [RI.don_other _ _ _ (by decide)] at h)), RI.keep (by decide) p0, RI.keep (by decide) p1, RI.keep (by decide) p2, RI.keep (by decide) p3, RI.keep (by decide) p4, RI.keep (by decide) p5, RI.keep (by decide) p6, RI.keep (by decide) p7, RI.keep (by decide) p8, fun _ => rfl, RI.keep (by decide) px10⟩
    · have hd := hd _ rfl
      simp [Region.binds] at hd
      obtain rfl := p0 (by simp [hd])
      obtain rfl := p1 (by simp [hd])
      obtain rfl := p2 (by simp [hd])
      obtain rfl := p3 (by simp [hd])
      obtain rfl := p4 (by simp [hd])
      obtain rfl := p5 (by simp [hd])
      obtain rfl := p6 (by simp [hd])
      obtain rfl := p7 (by simp [hd])
      obtain rfl := p8 (by simp [hd])
      obtain rfl := p9 (by simp [hd])
      refine RI.wpOp_plain rfl rfl ?_
      obtain rfl := q hf
      have c3 := hP.v3.c 2 (by decide)
      have f3 : ∀ o, wx.frozen? ⟨w.heap.size + 1 + 1 + 1, o, none⟩ = false := hP.v3.f
      go_simp
      exact ⟨_, _, _, _, _, _, _, _, _, _, _, v5, v10, v11, v22, v23, rfl, P4_set hP (by decide), (fun h => absurd h (by simp [RI.don])), RI.keep (by decide) p0, RI.keep (by decide) p1, RI.keep (by decide) p2, RI.keep (by decide) p3, RI.keep (by decide) p4, RI.keep (by decide) p5, RI.keep (by decide) p6, RI.keep (by decide) p7, RI.keep (by decide) p8, RI.keep (by decide) p9, fun _ => rfl⟩
  clear m0
  intro d x wx hI hd
  obtain ⟨u12, u13, u14, u15, u16, u17, u18, u19, u20, u21, F, v5, v10, v11, v22, v23, rfl, hP, q, p0, p1, p2, p3, p4, p5, p6, p7, p8, p9, px10⟩ := hI
  obtain rfl := p0 (hd 0 (by decide))
  obtain rfl := p1 (hd 1 (by decide))
  obtain rfl := p2 (hd 2 (by decide))
  obtain rfl := p3 (hd 3 (by decide))
  obtain rfl := p4 (hd 4 (by decide))
  obtain rfl := p5 (hd 5 (by decide))
  obtain rfl := p6 (hd 6 (by decide))
  obtain rfl := p7 (hd 7 (by decide))
  obtain rfl := p8 (hd 8 (by decide))
  obtain rfl := p9 (hd 9 (by decide))
  rw [px10 (hd 10 (by decide))] at hP
  have m0 := hP
  clear p0 p1 p2 p3 p4 p5 p6 p7 p8 p9 px10 q hd hP
  go_wp2_with fail
  rw [rounds_succ]
  go_upto_region 5 with fail
  refine RI.wp_region_inv (PB3 w a b f (.func (Fn.func 29) #[] #[]) (upd (upd (upd (dg 0) 0 (f (dg a 0) (dg b 0))) 1 (f (dg a 1) (dg b 1))) 2 (f (dg a 2) (dg b 2)))) (by kernel_rfl) (by kernel_rfl) ?_ ?_ ?_
  · exact ⟨_, _, _, _, _, _, _, _, _, _, upd (upd (upd (dg 0) 0 (f (dg a 0) (dg b 0))) 1 (f (dg a 1) (dg b 1))) 2 (f (dg a 2) (dg b 2)), _, _, _, _, _, rfl, P4_drew m0, fun _ => rfl, nofun, nofun, nofun, nofun, nofun, nofun, nofun, nofun, nofun, nofun, nofun⟩
  · clear m0
    intro d x wx i hI hi hm
    obtain ⟨u12, u13, u14, u15, u16, u17, u18, u19, u20, u21, F, v5, v10, v11, v22, v23, rfl, hP, q, p0, p1, p2, p3, p4, p5, p6, p7, p8, p9, px10⟩ := hI
    have hi' : i = 0 ∨ i = 1 ∨ i = 2 ∨ i = 3 ∨ i = 4 ∨ i = 5 ∨ i = 6 ∨ i = 7 ∨ i = 8 ∨ i = 9 ∨ i = 10 := by simp at hi; omega
    have hd := hm.2
    have hf := hm.1
    clear hm hi
    rcases hi' with rfl | rfl | rfl | rfl | rfl | rfl | rfl | rfl | rfl | rfl | rfl
    · refine RI.wpOp_plain rfl rfl ?_
      go_simp
      exact ⟨_, u13, u14, u15, u16, u17, u18, u19, u20, u21, F, v5, v10, v11, v22, v23, rfl, hP, (fun h => q (by rwa [RI.don_other _ _ _ (by decide)] at h)), fun _ => rfl, RI.keep (by decide) p1, RI.keep (by decide) p2, RI.keep (by decide) p3, RI.keep (by decide) p4, RI.keep (by decide) p5, RI.keep (by decide) p6, RI.keep (by decide) p7, RI.keep (by decide) p8, RI.keep (by decide) p9, RI.keep (by decide) px10⟩
    · refine RI.wpOp_plain rfl rfl ?_
      go_simp
      exact ⟨u12, _, u14, u15, u16, u17, u18, u19, u20, u21, F, v5, v10, v11, v22, v23, rfl, hP, (fun h => q (by rwa [RI.don_other _ _ _ (by decide)] at h)), RI.keep (by decide) p0, fun _ => rfl, RI.keep (by decide) p2, RI.keep (by decide) p3, RI.keep (by decide) p4, RI.keep (by decide) p5, RI.keep (by decide) p6, RI.keep (by decide) p7, RI.keep (by decide) p8, RI.keep (by decide) p9, RI.keep (by decide) px10⟩
    · refine RI.wpOp_plain rfl rfl ?_
      go_simp
      exact ⟨u12, u13, _, u15, u16, u17, u18, u19, u20, u21, F, v5, v10, v11, v22, v23, rfl, hP, (fun h => q (by rwa [RI.don_other _ _ _ (by decide)] at h)), RI.keep (by decide) p0, RI.keep (by decide) p1, fun _ => rfl, RI.keep (by decide) p3, RI.keep (by decide) p4, RI.keep (by decide) p5, RI.keep (by decide) p6, RI.keep (by decide) p7, RI.keep (by decide) p8, RI.keep (by decide) p9, RI.keep (by decide) px10⟩
    · have hd := hd _ rfl
      simp [Region.binds] at hd
      obtain rfl := p2 (by simp [hd])
      refine RI.wpOp_plain rfl rfl ?_
      go_simp
      exact ⟨u12, u13, _, _, u16, u17, u18, u19, u20, u21, F, v5, v10, v11, v22, v23, rfl, hP, (fun h => q (by rwa [RI.don_other _ _ _ (by decide)] at h)), RI.keep (by decide) p0, RI.keep (by decide) p1, RI.keep (by decide) p2, fun _ => rfl, RI.keep (by decide) p4, RI.keep (by decide) p5, RI.keep (by decide) p6, RI.keep (by decide) p7, RI.keep (by decide) p8, RI.keep (by decide) p9, RI.keep (by decide) px10⟩
    · have hd := hd _ rfl
      simp [Region.binds] at hd
      obtain rfl := p3 (by simp [hd])
      refine RI.wpOp_plain rfl rfl ?_
      have c0 : wx.cell? ⟨w.heap.size, 3, none⟩ = some (.int .u64 (dg a 3)) := hP.v0.c 3 (by decide)
      go_simp
      exact ⟨u12, u13, u14, _, _, u17, u18, u19, u20, u21, F, v5, v10, v11, v22, v23, rfl, hP, (fun h => q (by rwa [RI.don_other _ _ _ (by decide)] at h)), RI.keep (by decide) p0, RI.keep (by decide) p1, RI.keep (by decide) p2, RI.keep (by decide) p3, fun _ => rfl, RI.keep (by decide) p5, RI.keep (by decide) p6, RI.keep (by decide) p7, RI.keep (by decide) p8, RI.keep (by decide) p9, RI.keep (by decide) px10⟩
    · refine RI.wpOp_plain rfl rfl ?_
      go_simp
      exact ⟨u12, u13, u14, u15, u16, _, u18, u19, u20, u21, F, v5, v10, v11, v22, v23, rfl, hP, (fun h => q (by rwa [RI.don_other _ _ _ (by decide)] at h)), RI.keep (by decide) p0, RI.keep (by decide) p1, RI.keep (by decide) p2, RI.keep (by decide) p3, RI.keep (by decide) p4, fun _ => rfl, RI.keep (by decide) p6, RI.keep (by decide) p7, RI.keep (by decide) p8, RI.keep (by decide) p9, RI.keep (by decide) px10⟩
    · have hd := hd _ rfl
      simp [Region.binds] at hd
      obtain rfl := p5 (by simp [hd])
      refine RI.wpOp_plain rfl rfl ?_
      go_simp
      exact ⟨u12, u13, u14, u15, u16, _, _, u19, u20, u21, F, v5, v10, v11, v22, v23, rfl, hP, (fun h => q (by rwa [RI.don_other _ _ _ (by decide)] at h)), RI.keep (by decide) p0, RI.keep (by decide) p1, RI.keep (by decide) p2, RI.keep (by decide) p3, RI.keep (by decide) p4, RI.keep (by decide) p5, fun _ => rfl, RI.keep (by decide) p7, RI.keep (by decide) p8, RI.keep (by decide) p9, RI.keep (by decide) px10⟩
    · have hd := hd _ rfl
      simp [Region.binds] at hd
      obtain rfl := p6 (by simp [hd])
      refine RI.wpOp_plain rfl rfl ?_
      have c0 : wx.cell? ⟨w.heap.size + 1, 3, none⟩ = some (.int .u64 (dg b 3)) := hP.v1.c 3 (by decide)
      go_simp
      exact ⟨u12, u13, u14, u15, u16, u17, _, _, u20, u21, F, v5, v10, v11, v22, v23, rfl, hP, (fun h => q (by rwa [RI.don_other _ _ _ (by decide)] at h)), RI.keep (by decide) p0, RI.keep (by decide) p1, RI.keep (by decide) p2, RI.keep (by decide) p3, RI.keep (by decide) p4, RI.keep (by decide) p5, RI.keep (by decide) p6, fun _ => rfl, RI.keep (by decide) p8, RI.keep (by decide) p9, RI.keep (by decide) px10⟩
    · have hd := hd _ rfl
      simp [Region.binds] at hd
      obtain rfl := p1 (by simp [hd])
      obtain rfl := p4 (by simp [hd])
      obtain rfl := p7 (by simp [hd])
      refine RI.wpOp_plain rfl rfl ?_
      go_simp
      refine (KF.out _ _ _).mono ?_
      rintro e w1 ⟨rfl, hb1⟩
      exact ⟨u12, _, u14, u15, _, u17, u18, _, _, u21, F, v5, v10, v11, v22, v23, rfl, P4_below hP hb1, (fun h => q (by rwa [RI.don_other _ _ _ (by decide)] at h)), RI.keep (by decide) p0, RI.keep (by decide) p1, RI.keep (by decide) p2, RI.keep (by decide) p3, RI.keep (by decide) p4, RI.keep (by decide) p5, RI.keep (by decide) p6, RI.keep (by decide) p7, fun _ => rfl, RI.keep (by decide) p9, RI.keep (by decide) (px10)⟩
    · have hd := hd _ rfl
      simp [Region.binds] at hd
      obtain rfl := p0 (by simp [hd])
      obtain rfl := p1 (by simp [hd])
      obtain rfl := p2 (by simp [hd])
      obtain rfl := p3 (by simp [hd])
      obtain rfl := p4 (by simp [hd])
      obtain rfl := p5 (by simp [hd])
      obtain rfl := p6 (by simp [hd])
      obtain rfl := p7 (by simp [hd])
      obtain rfl := p8 (by simp [hd])
      refine RI.wpOp_plain rfl rfl ?_
      go_simp
      exact ⟨_, _, _, _, _, _, _, _, _, _, F, v5, v10, v11, v22, v23, rfl, hP, (fun h => q (by rwa [RI.don_other _ _ _ (by decide)] at h)), RI.keep (by decide) p0, RI.keep (by decide) p1, RI.keep (by decide) p2, RI.keep (by decide) p3, RI.keep (by decide) p4, RI.keep (by decide) p5, RI.keep (by decide) p6, RI.keep (by decide) p7, RI.keep (by decide) p8, fun _ => rfl, RI.keep (by decide) px10⟩
    · have hd := hd _ rfl
      simp [Region.binds] at hd
      obtain rfl := p0 (by simp [hd])
      obtain rfl := p1 (by simp [hd])
      obtain rfl := p2 (by simp [hd])
      obtain rfl := p3 (by simp [hd])
      obtain rfl := p4 (by simp [hd])
      obtain rfl := p5 (by simp [hd])
      obtain rfl := p6 (by simp [hd])
      obtain rfl := p7 (by simp [hd])
      obtain rfl := p8 (by simp [hd])
      obtain rfl := p9 (by simp [hd])
      refine RI.wpOp_plain rfl rfl ?_
      obtain rfl := q hf
      have c3 := hP.v3.c 3 (by decide)
      have f3 : ∀ o, wx.frozen? ⟨w.heap.size + 1 + 1 + 1, o, none⟩ = false := hP.v3.f
      go_simp
      exact ⟨_, _, _, _, _, _, _, _, _, _, _, v5, v10, v11, v22, v23, rfl, P4_set hP (by decide), (fun h => absurd h (by simp [RI.don])), RI.keep (by decide) p0, RI.keep (by decide) p1, RI.keep (by decide) p2, RI.keep (by decide) p3, RI.keep (by decide) p4, RI.keep (by decide) p5, RI.keep (by decide) p6, RI.keep (by decide) p7, RI.keep (by decide) p8, RI.keep (by decide) p9, fun _ => rfl⟩
  clear m0
  intro d x wx hI hd
  obtain ⟨u12, u13, u14, u15, u16, u17, u18, u19, u20, u21, F, v5, v10, v11, v22, v23, rfl, hP, q, p0, p1, p2, p3, p4, p5, p6, p7, p8, p9, px10⟩ := hI
  obtain rfl := p0 (hd 0 (by decide))
  obtain rfl := p1 (hd 1 (by decide))
  obtain rfl := p2 (hd 2 (by decide))
  obtain rfl := p3 (hd 3 (by decide))
  obtain rfl := p4 (hd 4 (by decide))
  obtain rfl := p5 (hd 5 (by decide))
  obtain rfl := p6 (hd 6 (by decide))
  obtain rfl := p7 (hd 7 (by decide))
  obtain rfl := p8 (hd 8 (by decide))
  obtain rfl := p9 (hd 9 (by decide))
  rw [px10 (hd 10 (by decide))] at hP
  have m0 := hP
  clear p0 p1 p2 p3 p4 p5 p6 p7 p8 p9 px10 q hd hP
  go_wp2_with fail
  rw [rounds_succ]
  have c3 : ∀ o, o < 4 → wx.cell? ⟨w.heap.size + 1 + 1 + 1, o, none⟩ = some (.int .u64 (dg N o)) := fun o ho => by
    rw [← HN.out o ho, m0.v3.c o ho]
    have : o = 0 ∨ o = 1 ∨ o = 2 ∨ o = 3 := by omega
    rcases this with rfl | rfl | rfl | rfl <;> rfl
  have c2 : ∀ o, o < 4 → wx.cell? ⟨w.heap.size + 1 + 1, o, none⟩ = some (.int .u64 (dg 0 o)) := m0.v2.c
  have f2 : ∀ o, wx.frozen? ⟨w.heap.size + 1 + 1, o, none⟩ = false := m0.v2.f
  have z2 := m0.v2.hi
  have HV : Hid (Vb w.heap.size (w.heap.size + 1 + 1) 4 (dg N) _) := Vb_set4 m0.v2
  have HB : Hid (Below w.heap.size w _) := Bel_set4 (h := w.heap.size + 1 + 1) (m := N) m0.bel (by omega)
  clear m0
  go_wp2_with fail
  exact bodyPost_ret (v := Wd N) (resultTw _ _ _ (w.heap.size + 1 + 1) N 6 rfl rfl HV.out.c) rfl ⟨rfl, HB.out⟩
end Go.Proofs.Ytejldahlbhkemaa
/- twos.And, Or, Xor, Not: the bits of words. -/
namespace Go.Proofs.Ytejldahlbhkemaa
open Go.RowKit Go.Shelf
/-- The bits that a word has not. -/
def nt (a : Nat) : Nat := 2 ^ 256 - 1 - a % 2 ^ 256
theorem nt_lt (a : Nat) : nt a < 2 ^ 256 := by unfold nt; omega
theorem dg_and (a b o : Nat) : bits .and .u64 (dg a o) (dg b o) = dg (a &&& b) o := by
  unfold dg
  rw [u64_and_nat _ _ (Nat.mod_lt _ (by decide)) (Nat.mod_lt _ (by decide))]
  congr 1
  rw [show (18446744073709551616 : Nat) = 2 ^ 64 from rfl, ← Nat.and_mod_two_pow, ← Nat.shiftRight_eq_div_pow, ← Nat.shiftRight_eq_div_pow, ← Nat.shiftRight_eq_div_pow, Nat.shiftRight_and_distrib]
theorem dg_or (a b o : Nat) : bits .or .u64 (dg a o) (dg b o) = dg (a ||| b) o := by
  unfold dg
  rw [u64_or_nat _ _ (Nat.mod_lt _ (by decide)) (Nat.mod_lt _ (by decide))]
  congr 1
  rw [show (18446744073709551616 : Nat) = 2 ^ 64 from rfl, ← Nat.or_mod_two_pow, ← Nat.shiftRight_eq_div_pow, ← Nat.shiftRight_eq_div_pow, ← Nat.shiftRight_eq_div_pow, Nat.shiftRight_or_distrib]
theorem dg_xor (a b o : Nat) : bits .xor .u64 (dg a o) (dg b o) = dg (a ^^^ b) o := by
  unfold dg
  rw [u64_xor_nat _ _ (Nat.mod_lt _ (by decide)) (Nat.mod_lt _ (by decide))]
  congr 1
  rw [show (18446744073709551616 : Nat) = 2 ^ 64 from rfl, ← Nat.xor_mod_two_pow, ← Nat.shiftRight_eq_div_pow, ← Nat.shiftRight_eq_div_pow, ← Nat.shiftRight_eq_div_pow, Nat.shiftRight_xor_distrib]
theorem xor_ones (x : Nat) (h : x < 2 ^ 64) : (2 ^ 64 - 1) ^^^ x = 2 ^ 64 - (x + 1) := by
  apply Nat.eq_of_testBit_eq
  intro i
  rw [Nat.testBit_xor, Nat.testBit_two_pow_sub_one, Nat.testBit_two_pow_sub_succ h]
  by_cases hi : i < 64
  · rw [decide_eq_true hi]; simp
  · rw [decide_eq_false hi, Nat.testBit_lt_two_pow (Nat.lt_of_lt_of_le h (Nat.pow_le_pow_right (by decide) (by omega)))]; rfl
theorem dg_not (a o : Nat) (ho : o < 4) : bits .xor .u64 IntKind.u64.max (dg a o) = dg (nt a) o := by
  have e : IntKind.u64.max = ((2 ^ 64 - 1 : Nat) : Int) := by decide
  rw [e]
  unfold dg
  rw [u64_xor_nat _ _ (by decide) (Nat.mod_lt _ (by decide)), xor_ones _ (Nat.mod_lt _ (by decide))]
  unfold nt
  have : o = 0 ∨ o = 1 ∨ o = 2 ∨ o = 3 := by omega
  rcases this with rfl | rfl | rfl | rfl <;> omega
theorem and_clo (x y : Int) (w : World) :
    Calls Try.prog 26 #[.int .u64 x, .int .u64 y] w fun e w' => e = .returned (.int .u64 (bits .and .u64 x y)) ∧ Below w.heap.size w w' := by
  go_enter Try.func26, Try.ntmps26
  go_wp2_with fail
  go_ret
  exact ⟨rfl, Below.refl _ _⟩
theorem and_any (a b : Nat) (w : World) :
    Calls Try.prog 7 #[Wd a, Wd b] w fun e w' => e = .returned (Wd (a &&& b)) ∧ Below w.heap.size w w' := by
  have K : Hid (∀ w : World, Calls Try.prog 25 #[Wd a, Wd b, .func (Fn.func 26) #[] #[]] w fun e w' => e = .returned (Wd (a &&& b)) ∧ Below w.heap.size w w') := fun w => pbp_and a b _ (bits .and .u64) (fun x y w => and_clo x y w) (fun o _ => dg_and a b o) w
  generalize a &&& b = n at *
  have v0 : Vb w.heap.size (w.heap.size + 1 + 1) 4 (dg 0) (((w.alloc (.cells #[.int .u64 (dg a 0), .int .u64 (dg a 1), .int .u64 (dg a 2), .int .u64 (dg a 3)] 24)).alloc (.cells #[.int .u64 (dg b 0), .int .u64 (dg b 1), .int .u64 (dg b 2), .int .u64 (dg b 3)] 24)).alloc (.cells #[.int .u64 0, .int .u64 0, .int .u64 0, .int .u64 0] 24)) := Vb_new0e (by simp) (by omega)
  have b0 : Below w.heap.size w (((w.alloc (.cells #[.int .u64 (dg a 0), .int .u64 (dg a 1), .int .u64 (dg a 2), .int .u64 (dg a 3)] 24)).alloc (.cells #[.int .u64 (dg b 0), .int .u64 (dg b 1), .int .u64 (dg b 2), .int .u64 (dg b 3)] 24)).alloc (.cells #[.int .u64 0, .int .u64 0, .int .u64 0, .int .u64 0] 24)) := (((Below.refl _ _).alloc (Nat.le_refl _) _).alloc (by simp) _).alloc (by simp <;> omega) _
  conv => arg 3; unfold Wd
  go_enter Try.func7, Try.ntmps7
  go_wp2_with fail
  generalize ((w.alloc (.cells #[.int .u64 (dg a 0), .int .u64 (dg a 1), .int .u64 (dg a 2), .int .u64 (dg a 3)] 24)).alloc (.cells #[.int .u64 (dg b 0), .int .u64 (dg b 1), .int .u64 (dg b 2), .int .u64 (dg b 3)] 24)).alloc (.cells #[.int .u64 0, .int .u64 0, .int .u64 0, .int .u64 0] 24) = W0 at v0 b0 ⊢
  refine (K.out _).mono ?_
  rintro e w1 ⟨rfl, hb⟩
  have v1 := Vb_below v0 hb
  have b1 := b0.trans (hb.mono (Nat.le_trans (by omega) (Nat.le_of_lt v0.hi)))
  clear hb v0 b0
  have c1 : ∀ o, o < 4 → w1.cell? ⟨w.heap.size + 1 + 1, o, none⟩ = some (.int .u64 (dg 0 o)) := v1.c
  have f1 : ∀ o, w1.frozen? ⟨w.heap.size + 1 + 1, o, none⟩ = false := v1.f
  have z1 := v1.hi
  have HV : Hid (Vb w.heap.size (w.heap.size + 1 + 1) 4 (dg n) _) := Vb_set4 v1
  have HB : Hid (Below w.heap.size w _) := Bel_set4 (h := w.heap.size + 1 + 1) (m := n) b1 (by omega)
  clear v1 b1
  unfold Wd
  go_wp2_with fail
  exact bodyPost_ret (v := Wd n) (resultTw _ _ _ (w.heap.size + 1 + 1) n 4 rfl rfl HV.out.c) rfl ⟨rfl, HB.out⟩
theorem or_clo (x y : Int) (w : World) :
    Calls Try.prog 27 #[.int .u64 x, .int .u64 y] w fun e w' => e = .returned (.int .u64 (bits .or .u64 x y)) ∧ Below w.heap.size w w' := by
  go_enter Try.func27, Try.ntmps27
  go_wp2_with fail
  go_ret
  exact ⟨rfl, Below.refl _ _⟩
theorem or_any (a b : Nat) (w : World) :
    Calls Try.prog 8 #[Wd a, Wd b] w fun e w' => e = .returned (Wd (a ||| b)) ∧ Below w.heap.size w w' := by
  have K : Hid (∀ w : World, Calls Try.prog 25 #[Wd a, Wd b, .func (Fn.func 27) #[] #[]] w fun e w' => e = .returned (Wd (a ||| b)) ∧ Below w.heap.size w w') := fun w => pbp_or a b _ (bits .or .u64) (fun x y w => or_clo x y w) (fun o _ => dg_or a b o) w
  generalize a ||| b = n at *
  have v0 : Vb w.heap.size (w.heap.size + 1 + 1) 4 (dg 0) (((w.alloc (.cells #[.int .u64 (dg a 0), .int .u64 (dg a 1), .int .u64 (dg a 2), .int .u64 (dg a 3)] 24)).alloc (.cells #[.int .u64 (dg b 0), .int .u64 (dg b 1), .int .u64 (dg b 2), .int .u64 (dg b 3)] 24)).alloc (.cells #[.int .u64 0, .int .u64 0, .int .u64 0, .int .u64 0] 24)) := Vb_new0e (by simp) (by omega)
  have b0 : Below w.heap.size w (((w.alloc (.cells #[.int .u64 (dg a 0), .int .u64 (dg a 1), .int .u64 (dg a 2), .int .u64 (dg a 3)] 24)).alloc (.cells #[.int .u64 (dg b 0), .int .u64 (dg b 1), .int .u64 (dg b 2), .int .u64 (dg b 3)] 24)).alloc (.cells #[.int .u64 0, .int .u64 0, .int .u64 0, .int .u64 0] 24)) := (((Below.refl _ _).alloc (Nat.le_refl _) _).alloc (by simp) _).alloc (by simp <;> omega) _
  conv => arg 3; unfold Wd
  go_enter Try.func8, Try.ntmps8
  go_wp2_with fail
  generalize ((w.alloc (.cells #[.int .u64 (dg a 0), .int .u64 (dg a 1), .int .u64 (dg a 2), .int .u64 (dg a 3)] 24)).alloc (.cells #[.int .u64 (dg b 0), .int .u64 (dg b 1), .int .u64 (dg b 2), .int .u64 (dg b 3)] 24)).alloc (.cells #[.int .u64 0, .int .u64 0, .int .u64 0, .int .u64 0] 24) = W0 at v0 b0 ⊢
  refine (K.out _).mono ?_
  rintro e w1 ⟨rfl, hb⟩
  have v1 := Vb_below v0 hb
  have b1 := b0.trans (hb.mono (Nat.le_trans (by omega) (Nat.le_of_lt v0.hi)))
  clear hb v0 b0
  have c1 : ∀ o, o < 4 → w1.cell? ⟨w.heap.size + 1 + 1, o, none⟩ = some (.int .u64 (dg 0 o)) := v1.c
  have f1 : ∀ o, w1.frozen? ⟨w.heap.size + 1 + 1, o, none⟩ = false := v1.f
  have z1 := v1.hi
  have HV : Hid (Vb w.heap.size (w.heap.size + 1 + 1) 4 (dg n) _) := Vb_set4 v1
  have HB : Hid (Below w.heap.size w _) := Bel_set4 (h := w.heap.size + 1 + 1) (m := n) b1 (by omega)
  clear v1 b1
  unfold Wd
  go_wp2_with fail
  exact bodyPost_ret (v := Wd n) (resultTw _ _ _ (w.heap.size + 1 + 1) n 4 rfl rfl HV.out.c) rfl ⟨rfl, HB.out⟩
theorem xor_clo (x y : Int) (w : World) :
    Calls Try.prog 28 #[.int .u64 x, .int .u64 y] w fun e w' => e = .returned (.int .u64 (bits .xor .u64 x y)) ∧ Below w.heap.size w w' := by
  go_enter Try.func28, Try.ntmps28
  go_wp2_with fail
  go_ret
  exact ⟨rfl, Below.refl _ _⟩
theorem xor_any (a b : Nat) (w : World) :
    Calls Try.prog 9 #[Wd a, Wd b] w fun e w' => e = .returned (Wd (a ^^^ b)) ∧ Below w.heap.size w w' := by
  have K : Hid (∀ w : World, Calls Try.prog 25 #[Wd a, Wd b, .func (Fn.func 28) #[] #[]] w fun e w' => e = .returned (Wd (a ^^^ b)) ∧ Below w.heap.size w w') := fun w => pbp_xor a b _ (bits .xor .u64) (fun x y w => xor_clo x y w) (fun o _ => dg_xor a b o) w
  generalize a ^^^ b = n at *
  have v0 : Vb w.heap.size (w.heap.size + 1 + 1) 4 (dg 0) (((w.alloc (.cells #[.int .u64 (dg a 0), .int .u64 (dg a 1), .int .u64 (dg a 2), .int .u64 (dg a 3)] 24)).alloc (.cells #[.int .u64 (dg b 0), .int .u64 (dg b 1), .int .u64 (dg b 2), .int .u64 (dg b 3)] 24)).alloc (.cells #[.int .u64 0, .int .u64 0, .int .u64 0, .int .u64 0] 24)) := Vb_new0e (by simp) (by omega)
  have b0 : Below w.heap.size w (((w.alloc (.cells #[.int .u64 (dg a 0), .int .u64 (dg a 1), .int .u64 (dg a 2), .int .u64 (dg a 3)] 24)).alloc (.cells #[.int .u64 (dg b 0), .int .u64 (dg b 1), .int .u64 (dg b 2), .int .u64 (dg b 3)] 24)).alloc (.cells #[.int .u64 0, .int .u64 0, .int .u64 0, .int .u64 0] 24)) := (((Below.refl _ _).alloc (Nat.le_refl _) _).alloc (by simp) _).alloc (by simp <;> omega) _
  conv => arg 3; unfold Wd
  go_enter Try.func9, Try.ntmps9
  go_wp2_with fail
  generalize ((w.alloc (.cells #[.int .u64 (dg a 0), .int .u64 (dg a 1), .int .u64 (dg a 2), .int .u64 (dg a 3)] 24)).alloc (.cells #[.int .u64 (dg b 0), .int .u64 (dg b 1), .int .u64 (dg b 2), .int .u64 (dg b 3)] 24)).alloc (.cells #[.int .u64 0, .int .u64 0, .int .u64 0, .int .u64 0] 24) = W0 at v0 b0 ⊢
  refine (K.out _).mono ?_
  rintro e w1 ⟨rfl, hb⟩
  have v1 := Vb_below v0 hb
  have b1 := b0.trans (hb.mono (Nat.le_trans (by omega) (Nat.le_of_lt v0.hi)))
  clear hb v0 b0
  have c1 : ∀ o, o < 4 → w1.cell? ⟨w.heap.size + 1 + 1, o, none⟩ = some (.int .u64 (dg 0 o)) := v1.c
  have f1 : ∀ o, w1.frozen? ⟨w.heap.size + 1 + 1, o, none⟩ = false := v1.f
  have z1 := v1.hi
  have HV : Hid (Vb w.heap.size (w.heap.size + 1 + 1) 4 (dg n) _) := Vb_set4 v1
  have HB : Hid (Below w.heap.size w _) := Bel_set4 (h := w.heap.size + 1 + 1) (m := n) b1 (by omega)
  clear v1 b1
  unfold Wd
  go_wp2_with fail
  exact bodyPost_ret (v := Wd n) (resultTw _ _ _ (w.heap.size + 1 + 1) n 4 rfl rfl HV.out.c) rfl ⟨rfl, HB.out⟩
theorem not_clo (x y : Int) (w : World) :
    Calls Try.prog 29 #[.int .u64 x, .int .u64 y] w fun e w' => e = .returned (.int .u64 (bits .xor .u64 IntKind.u64.max x)) ∧ Below w.heap.size w w' := by
  go_enter Try.func29, Try.ntmps29
  go_wp2_with fail
  go_ret
  exact ⟨rfl, Below.refl _ _⟩
theorem not_any (a : Nat) (w : World) :
    Calls Try.prog 10 #[Wd a] w fun e w' => e = .returned (Wd (nt a)) ∧ Below w.heap.size w w' := by
  have K : Hid (∀ w : World, Calls Try.prog 25 #[Wd a, Wd a, .func (Fn.func 29) #[] #[]] w fun e w' => e = .returned (Wd (nt a)) ∧ Below w.heap.size w w') := fun w => pbp_not a a _ (fun x _ => bits .xor .u64 IntKind.u64.max x) (fun x y w => not_clo x y w) (fun o ho => dg_not a o ho) w
  generalize nt a = n at *
  have m0 := M2_start w a
  conv => arg 3; unfold Wd
  go_enter Try.func10, Try.ntmps10
  go_wp2_with fail
  generalize (w.alloc (.cells #[.int .u64 (dg a 0), .int .u64 (dg a 1), .int .u64 (dg a 2), .int .u64 (dg a 3)] 24)).alloc (.cells #[.int .u64 0, .int .u64 0, .int .u64 0, .int .u64 0] 24) = W0 at m0 ⊢
  refine (K.out _).mono ?_
  rintro e w1 ⟨rfl, hb⟩
  have HM : Hid (M2 w a 0 w1) := M2_below m0 hb
  clear hb m0
  have c1 : ∀ o, o < 4 → w1.cell? ⟨w.heap.size + 1, o, none⟩ = some (.int .u64 (dg 0 o)) := HM.out.v1.c
  have f1 : ∀ o, w1.frozen? ⟨w.heap.size + 1, o, none⟩ = false := HM.out.v1.f
  have z1 := HM.out.v1.hi
  unfold Wd
  go_wp2_with fail
  have m1 := M2_set1 (m := n) HM.out
  exact bodyPost_ret (v := Wd n) (resultTw _ _ _ (w.heap.size + 1) n 2 rfl rfl m1.v1.c) rfl ⟨rfl, m1.bel⟩
end Go.Proofs.Ytejldahlbhkemaa
/- twos.part, atMost, split: what a shift goes by. -/
namespace Go.Proofs.Ytejldahlbhkemaa
open Go.RowKit Go.Shelf
theorem part_out (a : Nat) (i : Int) (h : i < 0 ∨ 4 ≤ i) (w : World) :
    Calls Try.prog 33 #[Wd a, .int .i64 i] w fun e w' => e = .returned (.int .u64 0) ∧ Below w.heap.size w w' := by
  conv => arg 3; unfold Wd
  by_cases h0 : i < 0
  · go_enter Try.func33, Try.ntmps33
    go_wp2_with fail
    go_ret
    exact ⟨rfl, (Below.refl _ _).alloc (Nat.le_refl _) _⟩
  · have h1 : 4 ≤ i := by omega
    clear h
    go_enter Try.func33, Try.ntmps33
    go_wp2_with fail
    go_ret
    exact ⟨rfl, (Below.refl _ _).alloc (Nat.le_refl _) _⟩
theorem part_in (a i : Nat) (h : i < 4) (w : World) :
    Calls Try.prog 33 #[Wd a, .int .i64 (i : Int)] w fun e w' => e = .returned (.int .u64 (dg a i)) ∧ Below w.heap.size w w' := by
  conv => arg 3; unfold Wd
  have : i = 0 ∨ i = 1 ∨ i = 2 ∨ i = 3 := by omega
  clear h
  rcases this with rfl | rfl | rfl | rfl
  all_goals
    go_enter Try.func33, Try.ntmps33
    go_wp2_with fail
    go_ret
    exact ⟨rfl, (Below.refl _ _).alloc (Nat.le_refl _) _⟩
theorem dg_low (n m : Nat) (hm : m < 18446744073709551616) (h : n ≤ m) : dg n 0 = (n : Int) := by
  unfold dg
  rw [Nat.mul_zero, Nat.pow_zero, Nat.div_one, Nat.mod_eq_of_lt (by omega)]
theorem cm_pos (a b : Nat) : decide (0 < cm (a : Int) (b : Int)) = decide (b < a) := by
  rw [decide_eq_decide]; unfold cm
  split
  · constructor <;> intro _ <;> omega
  · split <;> constructor <;> intro _ <;> omega
/-- What holds while the two are held against each other. -/
def AM1 (w : World) (n m : Nat) (C : Int) (v : Bool) (d : Nat → Bool) (x : Act) (wx : World) : Prop :=
  ∃ (u5 u6 u7 u8 u9 : Value),
    x = { tmps := #[.agg #[.int .u64 (dg n 0), .int .u64 (dg n 1), .int .u64 (dg n 2), .int .u64 (dg n 3)], .int .u64 (m : Int), .pointer (some ⟨w.heap.size, 0, none⟩), undef, .int .u64 0, u5, u6, u7, u8, u9, undef, undef, undef], defers := [] } ∧
    (S1 w n wx) ∧
    (d 0 = true → u5 = Wd n) ∧ (d 1 = true → u6 = .int .u64 (m : Int)) ∧ (d 2 = true → u7 = Wd m) ∧ (d 3 = true → u8 = .int .i64 C) ∧ (d 4 = true → u9 = .bool v)
set_option maxRecDepth 100000 in
theorem atmost_any (n m : Nat) (hn : n < 2 ^ 256) (hm : m < 18446744073709551616) (w : World) :
    Calls Try.prog 36 #[Wd n, .int .u64 (m : Int)] w fun e w' => e = .returned (.int .u64 ((min n m : Nat) : Int)) ∧ Below w.heap.size w w' := by
  have KI : Hid (∀ w : World, Calls Try.prog 37 #[.int .u64 (m : Int)] w fun e w' => e = .returned (Wd m) ∧ Below w.heap.size w w') := fun w => int_any m hm w
  have KC : Hid (∀ w : World, Calls Try.prog 44 #[Wd n, Wd m] w fun e w' => e = .returned (.int .i64 (cm (n : Int) (m : Int))) ∧ Below w.heap.size w w') := fun w => cmp_any n m hn (by omega) w
  have R1 : Hid (decide (0 < cm (n : Int) (m : Int)) = decide (m < n)) := cm_pos n m
  have E : Hid (if decide (m < n) = true then min n m = m else (min n m = n ∧ dg n 0 = (n : Int))) := by
    by_cases h : m < n
    · rw [decide_eq_true h]; exact (if_pos rfl).mpr (by omega)
    · rw [decide_eq_false h]; exact ⟨by omega, dg_low n m hm (by omega)⟩
  clear hn hm
  have m0 := S1_start w n
  generalize cm (n : Int) (m : Int) = C at *
  generalize decide (m < n) = v at *
  generalize min n m = z at *
  conv => arg 3; unfold Wd
  go_enter Try.func36, Try.ntmps36
  go_upto_region 1 with fail
  generalize w.alloc (.cells #[.int .u64 (dg n 0), .int .u64 (dg n 1), .int .u64 (dg n 2), .int .u64 (dg n 3)] 24) = W0 at m0 ⊢
  refine RI.wp_region_inv (AM1 w n m C v) (by kernel_rfl) (by kernel_rfl) ?_ ?_ ?_
  · exact ⟨undef, undef, undef, undef, undef, rfl, S1_drew m0, nofun, nofun, nofun, nofun, nofun⟩
  · clear m0
    intro d x wx i hI hi hm
    obtain ⟨u5, u6, u7, u8, u9, rfl, hS, p0, p1, p2, p3, p4⟩ := hI
    have hi' : i = 0 ∨ i = 1 ∨ i = 2 ∨ i = 3 ∨ i = 4 := by simp at hi; omega
    have hd := hm.2
    clear hm hi
    rcases hi' with rfl | rfl | rfl | rfl | rfl
    · refine RI.wpOp_plain rfl rfl ?_
      have c0 : ∀ o, o < 4 → wx.cell? ⟨w.heap.size, o, none⟩ = some (.int .u64 (dg n o)) := hS.c0
      go_simp
      exact ⟨_, u6, u7, u8, u9, rfl, hS, fun _ => rfl, RI.keep (by decide) p1, RI.keep (by decide) p2, RI.keep (by decide) p3, RI.keep (by decide) p4⟩
    · refine RI.wpOp_plain rfl rfl ?_
      go_simp
      exact ⟨u5, _, u7, u8, u9, rfl, hS, RI.keep (by decide) p0, fun _ => rfl, RI.keep (by decide) p2, RI.keep (by decide) p3, RI.keep (by decide) p4⟩
    · have hd := hd _ rfl
      simp [Region.binds] at hd
      obtain rfl := p1 (by simp [hd])
      refine RI.wpOp_plain rfl rfl ?_
      go_simp
      refine (KI.out _).mono ?_
      rintro e w1 ⟨rfl, hb1⟩
      exact ⟨u5, _, _, u8, u9, rfl, S1_below hS hb1, RI.keep (by decide) p0, RI.keep (by decide) p1, fun _ => rfl, RI.keep (by decide) p3, RI.keep (by decide) p4⟩
    · have hd := hd _ rfl
      simp [Region.binds] at hd
      obtain rfl := p0 (by simp [hd])
      obtain rfl := p2 (by simp [hd])
      refine RI.wpOp_plain rfl rfl ?_
      go_simp
      refine (KC.out _).mono ?_
      rintro e w1 ⟨rfl, hb1⟩
      exact ⟨_, u6, _, _, u9, rfl, S1_below hS hb1, RI.keep (by decide) p0, RI.keep (by decide) p1, RI.keep (by decide) p2, fun _ => rfl, RI.keep (by decide) p4⟩
    · have hd := hd _ rfl
      simp [Region.binds] at hd
      obtain rfl := p3 (by simp [hd])
      refine RI.wpOp_plain rfl rfl ?_
      have r1 := R1.out
      go_simp
      exact ⟨u5, u6, u7, _, _, rfl, hS, RI.keep (by decide) p0, RI.keep (by decide) p1, RI.keep (by decide) p2, RI.keep (by decide) p3, fun _ => rfl⟩
  · clear m0
    intro d x wx hI hd
    obtain ⟨u5, u6, u7, u8, u9, rfl, hS, p0, p1, p2, p3, p4⟩ := hI
    obtain rfl := p0 (hd 0 (by decide))
    obtain rfl := p1 (hd 1 (by decide))
    obtain rfl := p2 (hd 2 (by decide))
    obtain rfl := p3 (hd 3 (by decide))
    obtain rfl := p4 (hd 4 (by decide))
    have HB : Hid (Below w.heap.size w wx) := hS.bel
    have c0 : ∀ o, o < 4 → wx.cell? ⟨w.heap.size, o, none⟩ = some (.int .u64 (dg n o)) := hS.c0
    clear p0 p1 p2 p3 p4 hd hS R1
    cases v
    · obtain ⟨e1, e2⟩ : z = n ∧ dg n 0 = (n : Int) := E.out
      clear E
      go_wp2_with fail
      go_ret
      exact ⟨by rw [e1]; rfl, HB.out⟩
    · have e1 : z = m := E.out
      clear E c0
      go_wp2_with fail
      go_ret
      exact ⟨by rw [e1]; rfl, HB.out⟩
theorem split_any (n : Nat) (hn : n < 2 ^ 256) (w : World) :
    Calls Try.prog 32 #[Wd n] w fun e w' => e = .returned (.tuple #[.int .i64 ((min n 256 / 64 : Nat) : Int), .int .u64 ((min n 256 % 64 : Nat) : Int)]) ∧ Below w.heap.size w w' := by
  have K : Hid (∀ w : World, Calls Try.prog 36 #[Wd n, .int .u64 256] w fun e w' => e = .returned (.int .u64 ((min n 256 : Nat) : Int)) ∧ Below w.heap.size w w') := fun w => atmost_any n 256 hn (by decide) w
  have hz : min n 256 ≤ 256 := Nat.min_le_right _ _
  clear hn
  generalize min n 256 = z at *
  have m0 := S1_start w n
  conv => arg 3; unfold Wd
  go_enter Try.func32, Try.ntmps32
  go_wp2_with fail
  generalize w.alloc (.cells #[.int .u64 (dg n 0), .int .u64 (dg n 1), .int .u64 (dg n 2), .int .u64 (dg n 3)] 24) = W0 at m0 ⊢
  refine (K.out _).mono ?_
  rintro e w1 ⟨rfl, hb⟩
  have HB : Hid (Below w.heap.size w w1) := (S1_below m0 hb).bel
  clear hb m0
  go_wp2_with fail
  refine bodyPost_ret (v := .tuple #[.int .i64 ((z / 64 : Nat) : Int), .int .u64 ((z % 64 : Nat) : Int)]) ?_ rfl ⟨rfl, HB.out⟩
  simp [results, Try.results32, go_sem]
end Go.Proofs.Ytejldahlbhkemaa
/- twos.Shl, Shr: bits moved up and down. -/
namespace Go.Proofs.Ytejldahlbhkemaa
open Go.RowKit Go.Shelf
/-- Part k of a, where there is one. -/
def ptn (a : Nat) (k : Int) : Nat := if 0 ≤ k then a / 2 ^ (64 * k.toNat) % 18446744073709551616 else 0
theorem ptn_bit (a : Nat) (k : Int) (j : Nat) : (ptn a k).testBit j = (decide (j < 64) && decide (0 ≤ k) && a.testBit (64 * k.toNat + j)) := by
  unfold ptn
  split
  · rename_i h
    rw [show (18446744073709551616 : Nat) = 2 ^ 64 from rfl, Nat.testBit_mod_two_pow, Nat.testBit_div_two_pow, decide_eq_true h, Bool.and_true, Nat.add_comm]
  · rename_i h; rw [decide_eq_false h]; simp
theorem ptn_lt (a : Nat) (k : Int) : ptn a k < 18446744073709551616 := by
  unfold ptn; split
  · exact Nat.mod_lt _ (by decide)
  · decide
theorem part_any (a : Nat) (ha : a < 2 ^ 256) (k : Int) (w : World) :
    Calls Try.prog 33 #[Wd a, .int .i64 k] w fun e w' => e = .returned (.int .u64 (ptn a k : Nat)) ∧ Below w.heap.size w w' := by
  by_cases h : k < 0 ∨ 4 ≤ k
  · have e : ptn a k = 0 := by
      unfold ptn; split
      · have h4 : 4 ≤ k := by omega
        rw [Nat.div_eq_of_lt (Nat.lt_of_lt_of_le ha (Nat.pow_le_pow_right (by decide) (by omega))), Nat.zero_mod]
      · rfl
    rw [e]; exact part_out a k h w
  · obtain ⟨i, rfl⟩ : ∃ i : Nat, k = i := ⟨k.toNat, by omega⟩
    have : ptn a i = a / 2 ^ (64 * i) % 18446744073709551616 := by unfold ptn; rw [if_pos (by omega)]; rfl
    rw [this]; exact part_in a i (by omega) w
set_option linter.unusedSimpArgs false in
theorem shl_dg (a P L i : Nat) (hL : L < 64) (hi : i < 4) : (ptn a ((i : Int) - P) * 2 ^ L % 18446744073709551616) ||| (ptn a ((i : Int) - P - 1) / 2 ^ (64 - L)) = a * 2 ^ (64 * P + L) % 2 ^ 256 / 2 ^ (64 * i) % 18446744073709551616 := by
  apply Nat.eq_of_testBit_eq
  intro j
  rw [show (18446744073709551616 : Nat) = 2 ^ 64 from rfl, Nat.testBit_or, Nat.testBit_mod_two_pow, Nat.testBit_mod_two_pow, Nat.testBit_div_two_pow, Nat.testBit_div_two_pow, Nat.testBit_mod_two_pow, Nat.testBit_mul_two_pow, Nat.testBit_mul_two_pow, ptn_bit, ptn_bit]
  by_cases hj : j < 64
  · by_cases hjl : L ≤ j
    · by_cases hp : P ≤ i
      · simp only [decide_eq_true hj, decide_eq_true (show L ≤ j from hjl), decide_eq_true (show j - L < 64 by omega), decide_eq_true (show (0 : Int) ≤ (i : Int) - P by omega), decide_eq_false (show ¬ (j + (64 - L) < 64) by omega), decide_eq_true (show j + 64 * i < 256 by omega), decide_eq_true (show 64 * P + L ≤ j + 64 * i by omega), Bool.true_and, Bool.and_true, Bool.false_and, Bool.and_false, Bool.or_false, Bool.false_or]
        congr 1; omega
      · simp only [decide_eq_true hj, decide_eq_false (show ¬ ((0 : Int) ≤ (i : Int) - P) by omega), decide_eq_false (show ¬ (j + (64 - L) < 64) by omega), decide_eq_false (show ¬ (64 * P + L ≤ j + 64 * i) by omega), Bool.true_and, Bool.and_true, Bool.false_and, Bool.and_false, Bool.or_false, Bool.false_or]
    · by_cases hp : P + 1 ≤ i
      · simp only [decide_eq_true hj, decide_eq_false (show ¬ (L ≤ j) from hjl), decide_eq_true (show (0 : Int) ≤ (i : Int) - P - 1 by omega), decide_eq_true (show (j + (64 - L) < 64) by omega), decide_eq_true (show j + 64 * i < 256 by omega), decide_eq_true (show 64 * P + L ≤ j + 64 * i by omega), Bool.true_and, Bool.and_true, Bool.false_and, Bool.and_false, Bool.or_false, Bool.false_or]
        congr 1; omega
      · simp only [decide_eq_true hj, decide_eq_false (show ¬ (L ≤ j) from hjl), decide_eq_false (show ¬ ((0 : Int) ≤ (i : Int) - P - 1) by omega), decide_eq_false (show ¬ (64 * P + L ≤ j + 64 * i) by omega), Bool.true_and, Bool.and_true, Bool.false_and, Bool.and_false, Bool.or_false, Bool.false_or]
  · simp only [decide_eq_false hj, decide_eq_false (show ¬ (j + (64 - L) < 64) by omega), Bool.true_and, Bool.and_true, Bool.false_and, Bool.and_false, Bool.or_false, Bool.false_or]
set_option linter.unusedSimpArgs false in
theorem shr_dg (a P L i : Nat) (hL : L < 64) : (ptn a ((i : Int) + P) / 2 ^ L) ||| (ptn a ((i : Int) + P + 1) * 2 ^ (64 - L) % 18446744073709551616) = a / 2 ^ (64 * P + L) / 2 ^ (64 * i) % 18446744073709551616 := by
  apply Nat.eq_of_testBit_eq
  intro j
  rw [show (18446744073709551616 : Nat) = 2 ^ 64 from rfl, Nat.testBit_or, Nat.testBit_mod_two_pow, Nat.testBit_mod_two_pow, Nat.testBit_div_two_pow, Nat.testBit_div_two_pow, Nat.testBit_div_two_pow, Nat.testBit_mul_two_pow, ptn_bit, ptn_bit]
  have n1 : (0 : Int) ≤ (i : Int) + P := by omega
  have n2 : (0 : Int) ≤ (i : Int) + P + 1 := by omega
  by_cases hj : j < 64
  · by_cases hjl : j + L < 64
    · simp only [decide_eq_true hj, decide_eq_true hjl, decide_eq_true n1, decide_eq_false (show ¬ (64 - L ≤ j) by omega), Bool.true_and, Bool.and_true, Bool.false_and, Bool.and_false, Bool.or_false, Bool.false_or]
      congr 1; omega
    · simp only [decide_eq_true hj, decide_eq_false hjl, decide_eq_true n2, decide_eq_true (show 64 - L ≤ j by omega), decide_eq_true (show j - (64 - L) < 64 by omega), Bool.true_and, Bool.and_true, Bool.false_and, Bool.and_false, Bool.or_false, Bool.false_or]
      congr 1; omega
  · simp only [decide_eq_false hj, decide_eq_false (show ¬ (j + L < 64) by omega), Bool.true_and, Bool.and_true, Bool.false_and, Bool.and_false, Bool.or_false, Bool.false_or]
end Go.Proofs.Ytejldahlbhkemaa
