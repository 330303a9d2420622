/- lampbearerlaw.TwosQuotients: the quotient and the rest with signs, and the order with signs, are the reference's. -/
import Derived.Test.YtcoljaogemgnnabTwR
import Derived.Test.YtcoljaogemgnnabTwX
namespace Go.Proofs.Ytcoljaogemgnnab
open Go.RowKit Go.Shelf
/-- What holds while the law's test goes on. -/
def LQ3 (w w1 w3 : World) (a b Q R : Nat) (C : Int) (d : Nat → Bool) (x : Act) (wx : World) : Prop :=
  ∃ (u4 u21 u22 u23 u24 u25 u26 u27 u28 u29 u30 u31 u32 u33 u34 u35 u36 u37 : Value) (v9 : Value) (v10 : Value) (v11 : Value) (v12 : Value) (v13 : Value) (v14 : Value) (v15 : Value) (v16 : Value) (v17 : Value) (v18 : Value) (v19 : Value) (v20 : Value),
    x = { tmps := #[.agg #[.int .u64 (dg a 0), .int .u64 (dg a 1), .int .u64 (dg a 2), .int .u64 (dg a 3)], .agg #[.int .u64 (dg b 0), .int .u64 (dg b 1), .int .u64 (dg b 2), .int .u64 (dg b 3)], .pointer (some ⟨w.heap.size, 0, none⟩), .pointer (some ⟨w.heap.size + 1, 0, none⟩), u4, .pointer (some ⟨w1.heap.size, 0, none⟩), .pointer (some ⟨w1.heap.size + 1, 0, none⟩), .pointer (some ⟨w3.heap.size, 0, none⟩), .pointer (some ⟨w3.heap.size + 1, 0, none⟩), v9, v10, v11, v12, v13, v14, v15, v16, v17, v18, v19, v20, u21, u22, u23, u24, u25, u26, u27, u28, u29, u30, u31, u32, u33, u34, u35, u36, u37], defers := [] } ∧
    (S2 w a b wx) ∧ (S2 w1 Q R wx) ∧ (S2 w3 Q R wx) ∧
    (d 0 = true → u21 = Wd Q) ∧ (d 1 = true → u22 = Wd Q) ∧ (d 2 = true → u23 = .bool true) ∧ (d 3 = true → u24 = .bool true) ∧ (d 4 = true → u25 = Wd R) ∧ (d 5 = true → u26 = Wd R) ∧ (d 6 = true → u27 = .bool true) ∧ (d 7 = true → u28 = .bool true) ∧ (d 8 = true → u29 = .bool true) ∧ (d 9 = true → u30 = Wd a) ∧ (d 10 = true → u31 = Wd b) ∧ (d 11 = true → u32 = .int .i64 C) ∧ (d 12 = true → u33 = Wd a) ∧ (d 13 = true → u34 = Wd b) ∧ (d 14 = true → u35 = .int .i64 C) ∧ (d 15 = true → u36 = .bool true) ∧ (d 16 = true → u37 = .bool true) ∧ (d 17 = true → u4 = .bool true)
set_option maxHeartbeats 4000000 in
set_option maxRecDepth 100000 in
theorem law_twq (a b : Nat) (ha : a < 2 ^ 256) (hb : b < 2 ^ 256) (w : World) :
    Calls Try.prog 4 #[Wd a, Wd b] w fun e w' => e = .returned (.bool true) ∧ Below w.heap.size w w' := by
  have KD : Hid (∀ w : World, Calls Try.prog 13 #[Wd a, Wd b] w fun e w' => e = .returned (.tuple #[Wd (sq a b), Wd (sr a b)]) ∧ Below w.heap.size w w') := fun w => sdivmod_any a b ha hb w
  have KT : Hid (∀ w : World, Calls Try.prog 14 #[Wd a, Wd b] w fun e w' => e = .returned (.tuple #[Wd (sq a b), Wd (sr a b)]) ∧ Below w.heap.size w w') := fun w => tsdivmod_any a b ha hb w
  have KC : Hid (∀ w : World, Calls Try.prog 15 #[Wd a, Wd b] w fun e w' => e = .returned (.int .i64 (cm (hf a : Int) (hf b : Int))) ∧ Below w.heap.size w w') := fun w => scmp_any a b ha hb w
  have KE : Hid (∀ w : World, Calls Try.prog 16 #[Wd a, Wd b] w fun e w' => e = .returned (.int .i64 (cm (hf a : Int) (hf b : Int))) ∧ Below w.heap.size w w') := fun w => tscmp_any a b w
  clear ha hb
  generalize sq a b = Q at *
  generalize sr a b = R at *
  generalize cm (hf a : Int) (hf b : Int) = C at *
  have m0 := S2_start w a b
  conv => arg 3; unfold Wd
  go_enter Try.func4, Try.ntmps4
  go_wp2_with fail
  generalize (w.alloc (.cells #[.int .u64 (dg a 0), .int .u64 (dg a 1), .int .u64 (dg a 2), .int .u64 (dg a 3)] 24)).alloc (.cells #[.int .u64 (dg b 0), .int .u64 (dg b 1), .int .u64 (dg b 2), .int .u64 (dg b 3)] 24) = W0 at m0 ⊢
  refine (KD.out _).mono ?_
  rintro e y1 ⟨rfl, hb1⟩
  have m1 := S2_below m0 hb1
  clear hb1 m0
  have n2 := S2_start y1 Q R
  have m2 := S2_alx (S2_alx m1 (.cells #[.int .u64 (dg Q 0), .int .u64 (dg Q 1), .int .u64 (dg Q 2), .int .u64 (dg Q 3)] 24)) (.cells #[.int .u64 (dg R 0), .int .u64 (dg R 1), .int .u64 (dg R 2), .int .u64 (dg R 3)] 24)
  clear m1
  unfold Wd
  go_upto_region 2 with fail
  generalize (y1.alloc (.cells #[.int .u64 (dg Q 0), .int .u64 (dg Q 1), .int .u64 (dg Q 2), .int .u64 (dg Q 3)] 24)).alloc (.cells #[.int .u64 (dg R 0), .int .u64 (dg R 1), .int .u64 (dg R 2), .int .u64 (dg R 3)] 24) = W2 at n2 m2 ⊢
  have c0 : ∀ o, o < 4 → W2.cell? ⟨w.heap.size, o, none⟩ = some (.int .u64 (dg a o)) := m2.c0
  have c1 : ∀ o, o < 4 → W2.cell? ⟨w.heap.size + 1, o, none⟩ = some (.int .u64 (dg b o)) := m2.c1
  go_wp2_with fail
  refine (KT.out _).mono ?_
  rintro e y3 ⟨rfl, hb3⟩
  have m3 := S2_below m2 hb3
  have n3 := S2_below n2 hb3
  clear hb3 m2 n2 c0 c1
  have k4 := S2_start y3 Q R
  have m4 := S2_alx (S2_alx m3 (.cells #[.int .u64 (dg Q 0), .int .u64 (dg Q 1), .int .u64 (dg Q 2), .int .u64 (dg Q 3)] 24)) (.cells #[.int .u64 (dg R 0), .int .u64 (dg R 1), .int .u64 (dg R 2), .int .u64 (dg R 3)] 24)
  have n4 := S2_alx (S2_alx n3 (.cells #[.int .u64 (dg Q 0), .int .u64 (dg Q 1), .int .u64 (dg Q 2), .int .u64 (dg Q 3)] 24)) (.cells #[.int .u64 (dg R 0), .int .u64 (dg R 1), .int .u64 (dg R 2), .int .u64 (dg R 3)] 24)
  clear m3 n3
  unfold Wd
  go_upto_region 3 with fail
  generalize (y3.alloc (.cells #[.int .u64 (dg Q 0), .int .u64 (dg Q 1), .int .u64 (dg Q 2), .int .u64 (dg Q 3)] 24)).alloc (.cells #[.int .u64 (dg R 0), .int .u64 (dg R 1), .int .u64 (dg R 2), .int .u64 (dg R 3)] 24) = W4 at k4 m4 n4 ⊢
  refine RI.wp_region_inv (LQ3 w y1 y3 a b Q R C) (by kernel_rfl) (by kernel_rfl) ?_ ?_ ?_
  · exact ⟨.bool false, undef, undef, undef, undef, undef, undef, undef, undef, undef, undef, undef, undef, undef, undef, undef, undef, undef, _, _, _, _, _, _, _, _, _, _, _, _, rfl, S2_drew m4, S2_drew n4, S2_drew k4, nofun, nofun, nofun, nofun, nofun, nofun, nofun, nofun, nofun, nofun, nofun, nofun, nofun, nofun, nofun, nofun, nofun, nofun⟩
  · clear m4 n4 k4
    intro d x wx i hI hi hm
    obtain ⟨u4, u21, u22, u23, u24, u25, u26, u27, u28, u29, u30, u31, u32, u33, u34, u35, u36, u37, v9, v10, v11, v12, v13, v14, v15, v16, v17, v18, v19, v20, rfl, hS, hn, hk, p0, p1, p2, p3, p4, p5, p6, p7, p8, p9, p10, p11, p12, p13, p14, p15, p16, p17⟩ := hI
    have hi' : i = 0 ∨ i = 1 ∨ i = 2 ∨ i = 3 ∨ i = 4 ∨ i = 5 ∨ i = 6 ∨ i = 7 ∨ i = 8 ∨ i = 9 ∨ i = 10 ∨ i = 11 ∨ i = 12 ∨ i = 13 ∨ i = 14 ∨ i = 15 ∨ i = 16 ∨ i = 17 := by simp at hi; omega
    have hd := hm.2
    clear hm hi
    rcases hi' with rfl | rfl | rfl | rfl | rfl | rfl | rfl | rfl | rfl | rfl | rfl | rfl | rfl | rfl | rfl | rfl | rfl | rfl
    · refine RI.wpOp_plain rfl rfl ?_
      have c0 : ∀ o, o < 4 → wx.cell? ⟨y1.heap.size, o, none⟩ = some (.int .u64 (dg Q o)) := hn.c0
      go_simp
      exact ⟨u4, _, u22, u23, u24, u25, u26, u27, u28, u29, u30, u31, u32, u33, u34, u35, u36, u37, v9, v10, v11, v12, v13, v14, v15, v16, v17, v18, v19, v20, rfl, hS, hn, hk, fun _ => rfl, RI.keep (by decide) p1, RI.keep (by decide) p2, RI.keep (by decide) p3, RI.keep (by decide) p4, RI.keep (by decide) p5, RI.keep (by decide) p6, RI.keep (by decide) p7, RI.keep (by decide) p8, RI.keep (by decide) p9, RI.keep (by decide) p10, RI.keep (by decide) p11, RI.keep (by decide) p12, RI.keep (by decide) p13, RI.keep (by decide) p14, RI.keep (by decide) p15, RI.keep (by decide) p16, RI.keep (by decide) p17⟩
    · refine RI.wpOp_plain rfl rfl ?_
      have c0 : ∀ o, o < 4 → wx.cell? ⟨y3.heap.size, o, none⟩ = some (.int .u64 (dg Q o)) := hk.c0
      go_simp
      exact ⟨u4, u21, _, u23, u24, u25, u26, u27, u28, u29, u30, u31, u32, u33, u34, u35, u36, u37, v9, v10, v11, v12, v13, v14, v15, v16, v17, v18, v19, v20, rfl, hS, hn, hk, RI.keep (by decide) p0, fun _ => rfl, RI.keep (by decide) p2, RI.keep (by decide) p3, RI.keep (by decide) p4, RI.keep (by decide) p5, RI.keep (by decide) p6, RI.keep (by decide) p7, RI.keep (by decide) p8, RI.keep (by decide) p9, RI.keep (by decide) p10, RI.keep (by decide) p11, RI.keep (by decide) p12, RI.keep (by decide) p13, RI.keep (by decide) p14, RI.keep (by decide) p15, RI.keep (by decide) p16, RI.keep (by decide) p17⟩
    · have hd := hd _ rfl
      simp [Region.binds] at hd
      obtain rfl := p0 (by simp [hd])
      obtain rfl := p1 (by simp [hd])
      refine RI.wpOp_plain rfl rfl ?_
      have e1 := eq_self Q
      have q1 := fun op x y => eq_guard op x y Q Q
      go_simp
      exact ⟨u4, _, _, _, u24, u25, u26, u27, u28, u29, u30, u31, u32, u33, u34, u35, u36, u37, v9, v10, v11, v12, v13, v14, v15, v16, v17, v18, v19, v20, rfl, hS, hn, hk, RI.keep (by decide) p0, RI.keep (by decide) p1, fun _ => rfl, RI.keep (by decide) p3, RI.keep (by decide) p4, RI.keep (by decide) p5, RI.keep (by decide) p6, RI.keep (by decide) p7, RI.keep (by decide) p8, RI.keep (by decide) p9, RI.keep (by decide) p10, RI.keep (by decide) p11, RI.keep (by decide) p12, RI.keep (by decide) p13, RI.keep (by decide) p14, RI.keep (by decide) p15, RI.keep (by decide) p16, RI.keep (by decide) p17⟩
    · have hd := hd _ rfl
      simp [Region.binds] at hd
      obtain rfl := p2 (by simp [hd])
      refine RI.wpOp_plain rfl rfl ?_
      go_simp
      exact ⟨u4, u21, u22, _, _, u25, u26, u27, u28, u29, u30, u31, u32, u33, u34, u35, u36, u37, v9, v10, v11, v12, v13, v14, v15, v16, v17, v18, v19, v20, rfl, hS, hn, hk, RI.keep (by decide) p0, RI.keep (by decide) p1, RI.keep (by decide) p2, fun _ => rfl, RI.keep (by decide) p4, RI.keep (by decide) p5, RI.keep (by decide) p6, RI.keep (by decide) p7, RI.keep (by decide) p8, RI.keep (by decide) p9, RI.keep (by decide) p10, RI.keep (by decide) p11, RI.keep (by decide) p12, RI.keep (by decide) p13, RI.keep (by decide) p14, RI.keep (by decide) p15, RI.keep (by decide) p16, RI.keep (by decide) p17⟩
    · have hd := hd _ rfl
      simp [Region.binds] at hd
      obtain rfl := p3 (by simp [hd])
      refine RI.wpOp_guard rfl rfl rfl ?_
      have c0 : ∀ o, o < 4 → wx.cell? ⟨y1.heap.size + 1, o, none⟩ = some (.int .u64 (dg R o)) := hn.c1
      go_simp
      exact ⟨u4, u21, u22, u23, _, _, u26, u27, u28, u29, u30, u31, u32, u33, u34, u35, u36, u37, v9, v10, v11, v12, v13, v14, v15, v16, v17, v18, v19, v20, rfl, hS, hn, hk, RI.keep (by decide) p0, RI.keep (by decide) p1, RI.keep (by decide) p2, RI.keep (by decide) p3, fun _ => rfl, RI.keep (by decide) p5, RI.keep (by decide) p6, RI.keep (by decide) p7, RI.keep (by decide) p8, RI.keep (by decide) p9, RI.keep (by decide) p10, RI.keep (by decide) p11, RI.keep (by decide) p12, RI.keep (by decide) p13, RI.keep (by decide) p14, RI.keep (by decide) p15, RI.keep (by decide) p16, RI.keep (by decide) p17⟩
    · have hd := hd _ rfl
      simp [Region.binds] at hd
      obtain rfl := p3 (by simp [hd])
      refine RI.wpOp_guard rfl rfl rfl ?_
      have c0 : ∀ o, o < 4 → wx.cell? ⟨y3.heap.size + 1, o, none⟩ = some (.int .u64 (dg R o)) := hk.c1
      go_simp
      exact ⟨u4, u21, u22, u23, _, u25, _, u27, u28, u29, u30, u31, u32, u33, u34, u35, u36, u37, v9, v10, v11, v12, v13, v14, v15, v16, v17, v18, v19, v20, rfl, hS, hn, hk, RI.keep (by decide) p0, RI.keep (by decide) p1, RI.keep (by decide) p2, RI.keep (by decide) p3, RI.keep (by decide) p4, fun _ => rfl, RI.keep (by decide) p6, RI.keep (by decide) p7, RI.keep (by decide) p8, RI.keep (by decide) p9, RI.keep (by decide) p10, RI.keep (by decide) p11, RI.keep (by decide) p12, RI.keep (by decide) p13, RI.keep (by decide) p14, RI.keep (by decide) p15, RI.keep (by decide) p16, RI.keep (by decide) p17⟩
    · have hd := hd _ rfl
      simp [Region.binds] at hd
      obtain rfl := p3 (by simp [hd])
      obtain rfl := p4 (by simp [hd])
      obtain rfl := p5 (by simp [hd])
      refine RI.wpOp_guard rfl rfl rfl ?_
      have e1 := eq_self R
      have q1 := fun op x y => eq_guard op x y R R
      go_simp
      exact ⟨u4, u21, u22, u23, _, _, _, _, u28, u29, u30, u31, u32, u33, u34, u35, u36, u37, v9, v10, v11, v12, v13, v14, v15, v16, v17, v18, v19, v20, rfl, hS, hn, hk, RI.keep (by decide) p0, RI.keep (by decide) p1, RI.keep (by decide) p2, RI.keep (by decide) p3, RI.keep (by decide) p4, RI.keep (by decide) p5, fun _ => rfl, RI.keep (by decide) p7, RI.keep (by decide) p8, RI.keep (by decide) p9, RI.keep (by decide) p10, RI.keep (by decide) p11, RI.keep (by decide) p12, RI.keep (by decide) p13, RI.keep (by decide) p14, RI.keep (by decide) p15, RI.keep (by decide) p16, RI.keep (by decide) p17⟩
    · have hd := hd _ rfl
      simp [Region.binds] at hd
      obtain rfl := p3 (by simp [hd])
      obtain rfl := p6 (by simp [hd])
      refine RI.wpOp_plain rfl rfl ?_
      go_simp
      exact ⟨u4, u21, u22, u23, _, u25, u26, _, _, u29, u30, u31, u32, u33, u34, u35, u36, u37, v9, v10, v11, v12, v13, v14, v15, v16, v17, v18, v19, v20, rfl, hS, hn, hk, RI.keep (by decide) p0, RI.keep (by decide) p1, RI.keep (by decide) p2, RI.keep (by decide) p3, RI.keep (by decide) p4, RI.keep (by decide) p5, RI.keep (by decide) p6, fun _ => rfl, RI.keep (by decide) p8, RI.keep (by decide) p9, RI.keep (by decide) p10, RI.keep (by decide) p11, RI.keep (by decide) p12, RI.keep (by decide) p13, RI.keep (by decide) p14, RI.keep (by decide) p15, RI.keep (by decide) p16, RI.keep (by decide) p17⟩
    · have hd := hd _ rfl
      simp [Region.binds] at hd
      obtain rfl := p3 (by simp [hd])
      obtain rfl := p7 (by simp [hd])
      refine RI.wpOp_plain rfl rfl ?_
      go_simp
      exact ⟨u4, u21, u22, u23, _, u25, u26, u27, _, _, u30, u31, u32, u33, u34, u35, u36, u37, v9, v10, v11, v12, v13, v14, v15, v16, v17, v18, v19, v20, rfl, hS, hn, hk, RI.keep (by decide) p0, RI.keep (by decide) p1, RI.keep (by decide) p2, RI.keep (by decide) p3, RI.keep (by decide) p4, RI.keep (by decide) p5, RI.keep (by decide) p6, RI.keep (by decide) p7, fun _ => rfl, RI.keep (by decide) p9, RI.keep (by decide) p10, RI.keep (by decide) p11, RI.keep (by decide) p12, RI.keep (by decide) p13, RI.keep (by decide) p14, RI.keep (by decide) p15, RI.keep (by decide) p16, RI.keep (by decide) p17⟩
    · have hd := hd _ rfl
      simp [Region.binds] at hd
      obtain rfl := p8 (by simp [hd])
      refine RI.wpOp_guard rfl rfl rfl ?_
      have c0 : ∀ o, o < 4 → wx.cell? ⟨w.heap.size, o, none⟩ = some (.int .u64 (dg a o)) := hS.c0
      go_simp
      exact ⟨u4, u21, u22, u23, u24, u25, u26, u27, u28, _, _, u31, u32, u33, u34, u35, u36, u37, v9, v10, v11, v12, v13, v14, v15, v16, v17, v18, v19, v20, rfl, hS, hn, hk, RI.keep (by decide) p0, RI.keep (by decide) p1, RI.keep (by decide) p2, RI.keep (by decide) p3, RI.keep (by decide) p4, RI.keep (by decide) p5, RI.keep (by decide) p6, RI.keep (by decide) p7, RI.keep (by decide) p8, fun _ => rfl, RI.keep (by decide) p10, RI.keep (by decide) p11, RI.keep (by decide) p12, RI.keep (by decide) p13, RI.keep (by decide) p14, RI.keep (by decide) p15, RI.keep (by decide) p16, RI.keep (by decide) p17⟩
    · have hd := hd _ rfl
      simp [Region.binds] at hd
      obtain rfl := p8 (by simp [hd])
      refine RI.wpOp_guard rfl rfl rfl ?_
      have c0 : ∀ o, o < 4 → wx.cell? ⟨w.heap.size + 1, o, none⟩ = some (.int .u64 (dg b o)) := hS.c1
      go_simp
      exact ⟨u4, u21, u22, u23, u24, u25, u26, u27, u28, _, u30, _, u32, u33, u34, u35, u36, u37, v9, v10, v11, v12, v13, v14, v15, v16, v17, v18, v19, v20, rfl, hS, hn, hk, RI.keep (by decide) p0, RI.keep (by decide) p1, RI.keep (by decide) p2, RI.keep (by decide) p3, RI.keep (by decide) p4, RI.keep (by decide) p5, RI.keep (by decide) p6, RI.keep (by decide) p7, RI.keep (by decide) p8, RI.keep (by decide) p9, fun _ => rfl, RI.keep (by decide) p11, RI.keep (by decide) p12, RI.keep (by decide) p13, RI.keep (by decide) p14, RI.keep (by decide) p15, RI.keep (by decide) p16, RI.keep (by decide) p17⟩
    · have hd := hd _ rfl
      simp [Region.binds] at hd
      obtain rfl := p8 (by simp [hd])
      obtain rfl := p9 (by simp [hd])
      obtain rfl := p10 (by simp [hd])
      refine RI.wpOp_guard rfl rfl rfl ?_
      go_simp
      refine (KC.out _).mono ?_
      rintro e w1 ⟨rfl, hb1⟩
      exact ⟨u4, u21, u22, u23, u24, u25, u26, u27, u28, _, _, _, _, u33, u34, u35, u36, u37, v9, v10, v11, v12, v13, v14, v15, v16, v17, v18, v19, v20, rfl, S2_below hS hb1, S2_below hn hb1, S2_below hk hb1, RI.keep (by decide) p0, RI.keep (by decide) p1, RI.keep (by decide) p2, RI.keep (by decide) p3, RI.keep (by decide) p4, RI.keep (by decide) p5, RI.keep (by decide) p6, RI.keep (by decide) p7, RI.keep (by decide) p8, RI.keep (by decide) p9, RI.keep (by decide) p10, fun _ => rfl, RI.keep (by decide) p12, RI.keep (by decide) p13, RI.keep (by decide) p14, RI.keep (by decide) p15, RI.keep (by decide) p16, RI.keep (by decide) p17⟩
    · have hd := hd _ rfl
      simp [Region.binds] at hd
      obtain rfl := p8 (by simp [hd])
      refine RI.wpOp_guard rfl rfl rfl ?_
      have c0 : ∀ o, o < 4 → wx.cell? ⟨w.heap.size, o, none⟩ = some (.int .u64 (dg a o)) := hS.c0
      go_simp
      exact ⟨u4, u21, u22, u23, u24, u25, u26, u27, u28, _, u30, u31, u32, _, u34, u35, u36, u37, v9, v10, v11, v12, v13, v14, v15, v16, v17, v18, v19, v20, rfl, hS, hn, hk, RI.keep (by decide) p0, RI.keep (by decide) p1, RI.keep (by decide) p2, RI.keep (by decide) p3, RI.keep (by decide) p4, RI.keep (by decide) p5, RI.keep (by decide) p6, RI.keep (by decide) p7, RI.keep (by decide) p8, RI.keep (by decide) p9, RI.keep (by decide) p10, RI.keep (by decide) p11, fun _ => rfl, RI.keep (by decide) p13, RI.keep (by decide) p14, RI.keep (by decide) p15, RI.keep (by decide) p16, RI.keep (by decide) p17⟩
    · have hd := hd _ rfl
      simp [Region.binds] at hd
      obtain rfl := p8 (by simp [hd])
      refine RI.wpOp_guard rfl rfl rfl ?_
      have c0 : ∀ o, o < 4 → wx.cell? ⟨w.heap.size + 1, o, none⟩ = some (.int .u64 (dg b o)) := hS.c1
      go_simp
      exact ⟨u4, u21, u22, u23, u24, u25, u26, u27, u28, _, u30, u31, u32, u33, _, u35, u36, u37, v9, v10, v11, v12, v13, v14, v15, v16, v17, v18, v19, v20, rfl, hS, hn, hk, RI.keep (by decide) p0, RI.keep (by decide) p1, RI.keep (by decide) p2, RI.keep (by decide) p3, RI.keep (by decide) p4, RI.keep (by decide) p5, RI.keep (by decide) p6, RI.keep (by decide) p7, RI.keep (by decide) p8, RI.keep (by decide) p9, RI.keep (by decide) p10, RI.keep (by decide) p11, RI.keep (by decide) p12, fun _ => rfl, RI.keep (by decide) p14, RI.keep (by decide) p15, RI.keep (by decide) p16, RI.keep (by decide) p17⟩
    · have hd := hd _ rfl
      simp [Region.binds] at hd
      obtain rfl := p8 (by simp [hd])
      obtain rfl := p11 (by simp [hd])
      obtain rfl := p12 (by simp [hd])
      obtain rfl := p13 (by simp [hd])
      refine RI.wpOp_guard rfl rfl rfl ?_
      go_simp
      refine (KE.out _).mono ?_
      rintro e w1 ⟨rfl, hb1⟩
      exact ⟨u4, u21, u22, u23, u24, u25, u26, u27, u28, _, u30, u31, _, _, _, _, u36, u37, v9, v10, v11, v12, v13, v14, v15, v16, v17, v18, v19, v20, rfl, S2_below hS hb1, S2_below hn hb1, S2_below hk hb1, RI.keep (by decide) p0, RI.keep (by decide) p1, RI.keep (by decide) p2, RI.keep (by decide) p3, RI.keep (by decide) p4, RI.keep (by decide) p5, RI.keep (by decide) p6, RI.keep (by decide) p7, RI.keep (by decide) p8, RI.keep (by decide) p9, RI.keep (by decide) p10, RI.keep (by decide) p11, RI.keep (by decide) p12, RI.keep (by decide) p13, fun _ => rfl, RI.keep (by decide) p15, RI.keep (by decide) p16, RI.keep (by decide) p17⟩
    · have hd := hd _ rfl
      simp [Region.binds] at hd
      obtain rfl := p8 (by simp [hd])
      obtain rfl := p11 (by simp [hd])
      obtain rfl := p14 (by simp [hd])
      refine RI.wpOp_guard rfl rfl rfl ?_
      go_simp
      exact ⟨u4, u21, u22, u23, u24, u25, u26, u27, u28, _, u30, u31, _, u33, u34, _, _, u37, v9, v10, v11, v12, v13, v14, v15, v16, v17, v18, v19, v20, rfl, hS, hn, hk, RI.keep (by decide) p0, RI.keep (by decide) p1, RI.keep (by decide) p2, RI.keep (by decide) p3, RI.keep (by decide) p4, RI.keep (by decide) p5, RI.keep (by decide) p6, RI.keep (by decide) p7, RI.keep (by decide) p8, RI.keep (by decide) p9, RI.keep (by decide) p10, RI.keep (by decide) p11, RI.keep (by decide) p12, RI.keep (by decide) p13, RI.keep (by decide) p14, fun _ => rfl, RI.keep (by decide) p16, RI.keep (by decide) p17⟩
    · have hd := hd _ rfl
      simp [Region.binds] at hd
      obtain rfl := p8 (by simp [hd])
      obtain rfl := p15 (by simp [hd])
      refine RI.wpOp_plain rfl rfl ?_
      go_simp
      exact ⟨u4, u21, u22, u23, u24, u25, u26, u27, u28, _, u30, u31, u32, u33, u34, u35, _, _, v9, v10, v11, v12, v13, v14, v15, v16, v17, v18, v19, v20, rfl, hS, hn, hk, RI.keep (by decide) p0, RI.keep (by decide) p1, RI.keep (by decide) p2, RI.keep (by decide) p3, RI.keep (by decide) p4, RI.keep (by decide) p5, RI.keep (by decide) p6, RI.keep (by decide) p7, RI.keep (by decide) p8, RI.keep (by decide) p9, RI.keep (by decide) p10, RI.keep (by decide) p11, RI.keep (by decide) p12, RI.keep (by decide) p13, RI.keep (by decide) p14, RI.keep (by decide) p15, fun _ => rfl, RI.keep (by decide) p17⟩
    · have hd := hd _ rfl
      simp [Region.binds] at hd
      obtain rfl := p0 (by simp [hd])
      obtain rfl := p1 (by simp [hd])
      obtain rfl := p2 (by simp [hd])
      obtain rfl := p3 (by simp [hd])
      obtain rfl := p4 (by simp [hd])
      obtain rfl := p5 (by simp [hd])
      obtain rfl := p6 (by simp [hd])
      obtain rfl := p7 (by simp [hd])
      obtain rfl := p8 (by simp [hd])
      obtain rfl := p9 (by simp [hd])
      obtain rfl := p10 (by simp [hd])
      obtain rfl := p11 (by simp [hd])
      obtain rfl := p12 (by simp [hd])
      obtain rfl := p13 (by simp [hd])
      obtain rfl := p14 (by simp [hd])
      obtain rfl := p15 (by simp [hd])
      obtain rfl := p16 (by simp [hd])
      refine RI.wpOp_plain rfl rfl ?_
      go_simp
      exact ⟨_, _, _, _, _, _, _, _, _, _, _, _, _, _, _, _, _, _, v9, v10, v11, v12, v13, v14, v15, v16, v17, v18, v19, v20, rfl, hS, hn, hk, RI.keep (by decide) p0, RI.keep (by decide) p1, RI.keep (by decide) p2, RI.keep (by decide) p3, RI.keep (by decide) p4, RI.keep (by decide) p5, RI.keep (by decide) p6, RI.keep (by decide) p7, RI.keep (by decide) p8, RI.keep (by decide) p9, RI.keep (by decide) p10, RI.keep (by decide) p11, RI.keep (by decide) p12, RI.keep (by decide) p13, RI.keep (by decide) p14, RI.keep (by decide) p15, RI.keep (by decide) p16, fun _ => rfl⟩
  · clear m4 n4 k4
    intro d x wx hI hd
    obtain ⟨u4, u21, u22, u23, u24, u25, u26, u27, u28, u29, u30, u31, u32, u33, u34, u35, u36, u37, v9, v10, v11, v12, v13, v14, v15, v16, v17, v18, v19, v20, rfl, hS, hn, hk, p0, p1, p2, p3, p4, p5, p6, p7, p8, p9, p10, p11, p12, p13, p14, p15, p16, p17⟩ := hI
    obtain rfl := p17 (hd 17 (by decide))
    have HB : Hid (Below w.heap.size w wx) := hS.bel
    clear p0 p1 p2 p3 p4 p5 p6 p7 p8 p9 p10 p11 p12 p13 p14 p15 p16 p17 hS hn hk hd
    go_wp2_with fail
    go_ret
    exact ⟨rfl, HB.out⟩
end Go.Proofs.Ytcoljaogemgnnab
