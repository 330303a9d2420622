/- lampbearerref.TSDivMod: the quotient and the rest with signs, by what they are without. -/
import Derived.Test.YtcoljaogemgnnabTwQ
import Derived.Test.YtcoljaogemgnnabWDivMod
namespace Go.Proofs.Ytcoljaogemgnnab
open Go.RowKit Go.Shelf
/-- Four words in a row, and two more of the call's own. -/
structure M6 (w : World) (x0 x1 x2 x3 g6 x6 g7 x7 : Nat) (wx : World) : Prop where
  m : M4 w x0 x1 x2 x3 wx
  v6 : Vb (w.heap.size + 1 + 1 + 1 + 1) g6 4 (dg x6) wx
  v7 : Vb (w.heap.size + 1 + 1 + 1 + 1) g7 4 (dg x7) wx
  ne : g6 ≠ g7
theorem M6_below {w : World} {x0 x1 x2 x3 g6 x6 g7 x7 : Nat} {w1 w2 : World} (h : M6 w x0 x1 x2 x3 g6 x6 g7 x7 w1) (k : Below w1.heap.size w1 w2) : M6 w x0 x1 x2 x3 g6 x6 g7 x7 w2 := ⟨M4_below h.m k, Vb_below h.v6 k, Vb_below h.v7 k, h.ne⟩
theorem M6_set6 {w : World} {x0 x1 x2 x3 g6 x6 g7 x7 m : Nat} {w1 : World} (h : M6 w x0 x1 x2 x3 g6 x6 g7 x7 w1) : M6 w x0 x1 x2 x3 g6 m g7 x7 ((((w1.setCell ⟨g6, 0, none⟩ (.int .u64 (dg m 0))).setCell ⟨g6, 1, none⟩ (.int .u64 (dg m 1))).setCell ⟨g6, 2, none⟩ (.int .u64 (dg m 2))).setCell ⟨g6, 3, none⟩ (.int .u64 (dg m 3))) := ⟨M4_o4 h.m (Nat.lt_of_lt_of_le (Nat.lt_succ_self _) h.v6.lo), Vb_set4 h.v6, Vb_o4 h.v7 h.ne, h.ne⟩
theorem M6_set7 {w : World} {x0 x1 x2 x3 g6 x6 g7 x7 m : Nat} {w1 : World} (h : M6 w x0 x1 x2 x3 g6 x6 g7 x7 w1) : M6 w x0 x1 x2 x3 g6 x6 g7 m ((((w1.setCell ⟨g7, 0, none⟩ (.int .u64 (dg m 0))).setCell ⟨g7, 1, none⟩ (.int .u64 (dg m 1))).setCell ⟨g7, 2, none⟩ (.int .u64 (dg m 2))).setCell ⟨g7, 3, none⟩ (.int .u64 (dg m 3))) := ⟨M4_o4 h.m (Nat.lt_of_lt_of_le (Nat.lt_succ_self _) h.v7.lo), Vb_o4 h.v6 h.ne.symm, Vb_set4 h.v7, h.ne⟩
/-- What holds while the two are laid down. -/
def TQ1 (w : World) (a b : Nat) (d : Nat → Bool) (x : Act) (wx : World) : Prop :=
  ∃ (u6 u7 u8 u9 : Value) (g6 g7 x6 x7 : Nat),
    x = { tmps := #[.agg #[.int .u64 (dg a 0), .int .u64 (dg a 1), .int .u64 (dg a 2), .int .u64 (dg a 3)], .agg #[.int .u64 (dg b 0), .int .u64 (dg b 1), .int .u64 (dg b 2), .int .u64 (dg b 3)], .pointer (some ⟨w.heap.size, 0, none⟩), .pointer (some ⟨w.heap.size + 1, 0, none⟩), .pointer (some ⟨w.heap.size + 1 + 1, 0, none⟩), .pointer (some ⟨w.heap.size + 1 + 1 + 1, 0, none⟩), u6, u7, u8, u9, undef, undef, undef, undef, undef, undef, undef, undef, undef, undef, undef, undef, undef, undef, undef, undef, undef, undef, undef, undef, undef, undef, undef, undef, undef, undef, undef], defers := [] } ∧ M4 w a b 0 0 wx ∧
    (d 0 = true → u8 = Wd a) ∧ (d 1 = true → u9 = Wd b) ∧
    (d 2 = true → u6 = .pointer (some ⟨g6, 0, none⟩) ∧ Vb (w.heap.size + 1 + 1 + 1 + 1) g6 4 (dg x6) wx) ∧ (d 3 = true → u7 = .pointer (some ⟨g7, 0, none⟩) ∧ Vb (w.heap.size + 1 + 1 + 1 + 1) g7 4 (dg x7) wx) ∧ (d 2 = true → d 3 = true → g6 ≠ g7) ∧
    (d 4 = true → d 2 = true ∧ x6 = a) ∧ (d 5 = true → d 3 = true ∧ x7 = b)
/-- What holds while the signs are looked at. -/
def TQ7 (w : World) (a b N R : Nat) (s t : Bool) (d : Nat → Bool) (x : Act) (wx : World) : Prop :=
  ∃ (u24 u25 u26 u27 u28 : Value) (v6 : Value) (v7 : Value) (v8 : Value) (v9 : Value) (v10 : Value) (v11 : Value) (v12 : Value) (v13 : Value) (v14 : Value) (v15 : Value) (v16 : Value) (v17 : Value) (v18 : Value) (v19 : Value) (v20 : Value) (v21 : Value) (v22 : Value) (v23 : Value),
    x = { tmps := #[.agg #[.int .u64 (dg a 0), .int .u64 (dg a 1), .int .u64 (dg a 2), .int .u64 (dg a 3)], .agg #[.int .u64 (dg b 0), .int .u64 (dg b 1), .int .u64 (dg b 2), .int .u64 (dg b 3)], .pointer (some ⟨w.heap.size, 0, none⟩), .pointer (some ⟨w.heap.size + 1, 0, none⟩), .pointer (some ⟨w.heap.size + 1 + 1, 0, none⟩), .pointer (some ⟨w.heap.size + 1 + 1 + 1, 0, none⟩), v6, v7, v8, v9, v10, v11, v12, v13, v14, v15, v16, v17, v18, v19, v20, v21, v22, v23, u24, u25, u26, u27, u28, undef, undef, undef, undef, undef, undef, undef, undef], defers := [] } ∧
    (M4 w a b N R wx) ∧
    (d 0 = true → u24 = Wd a) ∧ (d 1 = true → u25 = .bool s) ∧ (d 2 = true → u26 = Wd b) ∧ (d 3 = true → u27 = .bool t) ∧ (d 4 = true → u28 = .bool (s != t))
/-- What holds while the answer is laid down. -/
def TQ11 (w : World) (a b Q S : Nat) (d : Nat → Bool) (x : Act) (wx : World) : Prop :=
  ∃ (u35 u36 : Value) (v6 : Value) (v7 : Value) (v8 : Value) (v9 : Value) (v10 : Value) (v11 : Value) (v12 : Value) (v13 : Value) (v14 : Value) (v15 : Value) (v16 : Value) (v17 : Value) (v18 : Value) (v19 : Value) (v20 : Value) (v21 : Value) (v22 : Value) (v23 : Value) (v24 : Value) (v25 : Value) (v26 : Value) (v27 : Value) (v28 : Value) (v29 : Value) (v30 : Value) (v31 : Value) (v32 : Value) (v33 : Value) (v34 : Value),
    x = { tmps := #[.agg #[.int .u64 (dg a 0), .int .u64 (dg a 1), .int .u64 (dg a 2), .int .u64 (dg a 3)], .agg #[.int .u64 (dg b 0), .int .u64 (dg b 1), .int .u64 (dg b 2), .int .u64 (dg b 3)], .pointer (some ⟨w.heap.size, 0, none⟩), .pointer (some ⟨w.heap.size + 1, 0, none⟩), .pointer (some ⟨w.heap.size + 1 + 1, 0, none⟩), .pointer (some ⟨w.heap.size + 1 + 1 + 1, 0, none⟩), v6, v7, v8, v9, v10, v11, v12, v13, v14, v15, v16, v17, v18, v19, v20, v21, v22, v23, v24, v25, v26, v27, v28, v29, v30, v31, v32, v33, v34, u35, u36], defers := [] } ∧
    (M4 w a b Q S wx) ∧
    (d 0 = true → u35 = Wd Q) ∧ (d 1 = true → u36 = Wd S)
set_option maxHeartbeats 4000000 in
set_option maxRecDepth 100000 in
theorem tsdivmod_ff (a b N R : Nat) (KS : Hid (∀ w : World, Calls Try.prog 42 #[Wd a] w fun e w' => e = .returned (.bool false) ∧ Below w.heap.size w w')) (KT : Hid (∀ w : World, Calls Try.prog 42 #[Wd b] w fun e w' => e = .returned (.bool false) ∧ Below w.heap.size w w')) (KD : Hid (∀ w : World, Calls Try.prog 44 #[Wd a, Wd b] w fun e w' => e = .returned (.tuple #[Wd N, Wd R]) ∧ Below w.heap.size w w')) (w : World) :
    Calls Try.prog 14 #[Wd a, Wd b] w fun e w' => e = .returned (.tuple #[Wd N, Wd R]) ∧ Below w.heap.size w w' := by
  have m0 := M4_start w a b 24
  conv => arg 3; unfold Wd
  go_enter Try.func14, Try.ntmps14
  go_upto_region 1 with fail
  generalize (((w.alloc (.cells #[.int .u64 (dg a 0), .int .u64 (dg a 1), .int .u64 (dg a 2), .int .u64 (dg a 3)] 24)).alloc (.cells #[.int .u64 (dg b 0), .int .u64 (dg b 1), .int .u64 (dg b 2), .int .u64 (dg b 3)] 24)).alloc (.cells #[.int .u64 0, .int .u64 0, .int .u64 0, .int .u64 0] 24)).alloc (.cells #[.int .u64 0, .int .u64 0, .int .u64 0, .int .u64 0] 24) = W0 at m0 ⊢
  refine RI.wp_region_inv (TQ1 w a b) (by kernel_rfl) (by kernel_rfl) ?_ ?_ ?_
  · exact ⟨undef, undef, undef, undef, 0, 0, 0, 0, rfl, M4_drew m0, nofun, nofun, nofun, nofun, nofun, nofun, nofun⟩
  · clear m0
    intro d x wx i hI hi hm
    obtain ⟨u6, u7, u8, u9, g6, g7, x6, x7, rfl, hM, p0, p1, p2, p3, pn, p4, p5⟩ := hI
    have hi' : i = 0 ∨ i = 1 ∨ i = 2 ∨ i = 3 ∨ i = 4 ∨ i = 5 := by simp at hi; omega
    have hd := hm.2
    have hf := hm.1
    clear hm hi
    rcases hi' with rfl | rfl | rfl | rfl | rfl | rfl
    · refine RI.wpOp_plain rfl rfl ?_
      have c0 : ∀ o, o < 4 → wx.cell? ⟨w.heap.size, o, none⟩ = some (.int .u64 (dg a o)) := hM.v0.c
      go_simp
      exact ⟨u6, u7, _, u9, g6, g7, x6, x7, rfl, hM, fun _ => rfl, RI.keep (by decide) p1, RI.keep (by decide) p2, RI.keep (by decide) p3, T_two (by decide) (by decide) pn, T_on (by decide) (by decide) p4, T_on (by decide) (by decide) p5⟩
    · refine RI.wpOp_plain rfl rfl ?_
      have c1 : ∀ o, o < 4 → wx.cell? ⟨w.heap.size + 1, o, none⟩ = some (.int .u64 (dg b o)) := hM.v1.c
      go_simp
      exact ⟨u6, u7, u8, _, g6, g7, x6, x7, rfl, hM, RI.keep (by decide) p0, fun _ => rfl, RI.keep (by decide) p2, RI.keep (by decide) p3, T_two (by decide) (by decide) pn, T_on (by decide) (by decide) p4, T_on (by decide) (by decide) p5⟩
    · have hz : w.heap.size + 1 + 1 + 1 + 1 ≤ wx.heap.size := hM.v3.hi
      refine RI.wpOp_plain rfl rfl ?_
      go_simp
      exact ⟨_, u7, u8, u9, wx.heap.size, g7, 0, x7, rfl, M4_al hM _, RI.keep (by decide) p0, RI.keep (by decide) p1, fun _ => ⟨rfl, Vb_new0 _ _ _ hz⟩, RI.keep (by decide) fun h => ⟨(p3 h).1, Vb_al (p3 h).2 _⟩, fun _ h => Nat.ne_of_gt (p3 (by rwa [RI.don_other _ _ _ (by decide)] at h)).2.hi, T_no (by decide) hf p4, T_on (by decide) (by decide) p5⟩
    · have hz : w.heap.size + 1 + 1 + 1 + 1 ≤ wx.heap.size := hM.v3.hi
      refine RI.wpOp_plain rfl rfl ?_
      go_simp
      exact ⟨u6, _, u8, u9, g6, wx.heap.size, x6, 0, rfl, M4_al hM _, RI.keep (by decide) p0, RI.keep (by decide) p1, RI.keep (by decide) fun h => ⟨(p2 h).1, Vb_al (p2 h).2 _⟩, fun _ => ⟨rfl, Vb_new0 _ _ _ hz⟩, fun h _ => Nat.ne_of_lt (p2 (by rwa [RI.don_other _ _ _ (by decide)] at h)).2.hi, T_on (by decide) (by decide) p4, T_no (by decide) hf p5⟩
    · have hd := hd _ rfl
      simp [Region.binds] at hd
      obtain ⟨rfl, v1⟩ := p2 (by simp [hd])
      obtain ⟨rfl, v2⟩ := p3 (by simp [hd])
      have hn : g6 ≠ g7 := pn (by simp [hd]) (by simp [hd])
      obtain rfl := p0 (by simp [hd])
      have c1 : ∀ o, o < 4 → wx.cell? ⟨g6, o, none⟩ = some (.int .u64 (dg x6 o)) := v1.c
      have f1 : ∀ o, wx.frozen? ⟨g6, o, none⟩ = false := v1.f
      have z1 := v1.hi
      have hl : w.heap.size + 1 + 1 + 1 < g6 := v1.lo
      refine RI.wpOp_plain rfl rfl ?_
      unfold Wd
      go_simp
      exact ⟨_, _, _, u9, g6, g7, a, x7, rfl, M4_o4 hM hl, RI.keep (by decide) fun _ => rfl, RI.keep (by decide) p1, RI.keep (by decide) fun _ => ⟨rfl, Vb_set4 v1⟩, RI.keep (by decide) fun _ => ⟨rfl, Vb_o4 v2 hn⟩, T_two (by decide) (by decide) pn, fun _ => ⟨by simp [RI.don, hd], rfl⟩, T_on (by decide) (by decide) p5⟩
    · have hd := hd _ rfl
      simp [Region.binds] at hd
      obtain ⟨rfl, v1⟩ := p3 (by simp [hd])
      obtain ⟨rfl, v2⟩ := p2 (by simp [hd])
      have hn : g6 ≠ g7 := pn (by simp [hd]) (by simp [hd])
      obtain rfl := p1 (by simp [hd])
      obtain rfl := p0 (by simp [hd])
      have c1 : ∀ o, o < 4 → wx.cell? ⟨g7, o, none⟩ = some (.int .u64 (dg x7 o)) := v1.c
      have f1 : ∀ o, wx.frozen? ⟨g7, o, none⟩ = false := v1.f
      have z1 := v1.hi
      have hl : w.heap.size + 1 + 1 + 1 < g7 := v1.lo
      refine RI.wpOp_plain rfl rfl ?_
      unfold Wd
      go_simp
      exact ⟨_, _, _, _, g6, g7, x6, b, rfl, M4_o4 hM hl, RI.keep (by decide) fun _ => rfl, RI.keep (by decide) fun _ => rfl, RI.keep (by decide) fun _ => ⟨rfl, Vb_o4 v2 hn.symm⟩, RI.keep (by decide) fun _ => ⟨rfl, Vb_set4 v1⟩, T_two (by decide) (by decide) pn, T_on (by decide) (by decide) p4, fun _ => ⟨by simp [RI.don, hd], rfl⟩⟩
  · clear m0
    intro d x wx hI hd
    obtain ⟨u6, u7, u8, u9, g6, g7, x6, x7, rfl, hM, p0, p1, p2, p3, pn, p4, p5⟩ := hI
    obtain ⟨rfl, v6⟩ := p2 (hd 2 (by decide))
    obtain ⟨rfl, v7⟩ := p3 (hd 3 (by decide))
    have hn := pn (hd 2 (by decide)) (hd 3 (by decide))
    rw [(p4 (hd 4 (by decide))).2] at v6
    rw [(p5 (hd 5 (by decide))).2] at v7
    obtain rfl := p0 (hd 0 (by decide))
    obtain rfl := p1 (hd 1 (by decide))
    have m1 : M6 w a b 0 0 g6 a g7 b wx := ⟨hM, v6, v7, hn⟩
    clear p0 p1 p2 p3 p4 p5 pn hd hM v6 v7 hn
    generalize wx = W1 at *
    have c0 : ∀ o, o < 4 → W1.cell? ⟨w.heap.size, o, none⟩ = some (.int .u64 (dg a o)) := m1.m.v0.c
    have c1 : ∀ o, o < 4 → W1.cell? ⟨w.heap.size + 1, o, none⟩ = some (.int .u64 (dg b o)) := m1.m.v1.c
    have c2 : ∀ o, o < 4 → W1.cell? ⟨w.heap.size + 1 + 1, o, none⟩ = some (.int .u64 (dg 0 o)) := m1.m.v2.c
    have c3 : ∀ o, o < 4 → W1.cell? ⟨w.heap.size + 1 + 1 + 1, o, none⟩ = some (.int .u64 (dg 0 o)) := m1.m.v3.c
    have f2 : ∀ o, W1.frozen? ⟨w.heap.size + 1 + 1, o, none⟩ = false := m1.m.v2.f
    have f3 : ∀ o, W1.frozen? ⟨w.heap.size + 1 + 1 + 1, o, none⟩ = false := m1.m.v3.f
    have z0 := m1.m.v0.hi
    have z1 := m1.m.v1.hi
    have z2 := m1.m.v2.hi
    have z3 := m1.m.v3.hi
    have c6 : ∀ o, o < 4 → W1.cell? ⟨g6, o, none⟩ = some (.int .u64 (dg a o)) := m1.v6.c
    have c7 : ∀ o, o < 4 → W1.cell? ⟨g7, o, none⟩ = some (.int .u64 (dg b o)) := m1.v7.c
    have f6 : ∀ o, W1.frozen? ⟨g6, o, none⟩ = false := m1.v6.f
    have f7 : ∀ o, W1.frozen? ⟨g7, o, none⟩ = false := m1.v7.f
    have z6 := m1.v6.hi
    have z7 := m1.v7.hi
    have HM : Hid (M6 w a b 0 0 g6 a g7 b W1) := m1
    clear m1
    go_wp2_with fail
    refine (KS.out _).mono ?_
    rintro e y2 ⟨rfl, hb2⟩
    have m2 := M6_below HM.out hb2
    clear c0 c1 c2 c3 f2 f3 z0 z1 z2 z3 c6 c7 f6 f7 z6 z7 hb2 HM
    have c0 : ∀ o, o < 4 → y2.cell? ⟨w.heap.size, o, none⟩ = some (.int .u64 (dg a o)) := m2.m.v0.c
    have c1 : ∀ o, o < 4 → y2.cell? ⟨w.heap.size + 1, o, none⟩ = some (.int .u64 (dg b o)) := m2.m.v1.c
    have c2 : ∀ o, o < 4 → y2.cell? ⟨w.heap.size + 1 + 1, o, none⟩ = some (.int .u64 (dg 0 o)) := m2.m.v2.c
    have c3 : ∀ o, o < 4 → y2.cell? ⟨w.heap.size + 1 + 1 + 1, o, none⟩ = some (.int .u64 (dg 0 o)) := m2.m.v3.c
    have f2 : ∀ o, y2.frozen? ⟨w.heap.size + 1 + 1, o, none⟩ = false := m2.m.v2.f
    have f3 : ∀ o, y2.frozen? ⟨w.heap.size + 1 + 1 + 1, o, none⟩ = false := m2.m.v3.f
    have z0 := m2.m.v0.hi
    have z1 := m2.m.v1.hi
    have z2 := m2.m.v2.hi
    have z3 := m2.m.v3.hi
    have c6 : ∀ o, o < 4 → y2.cell? ⟨g6, o, none⟩ = some (.int .u64 (dg a o)) := m2.v6.c
    have c7 : ∀ o, o < 4 → y2.cell? ⟨g7, o, none⟩ = some (.int .u64 (dg b o)) := m2.v7.c
    have f6 : ∀ o, y2.frozen? ⟨g6, o, none⟩ = false := m2.v6.f
    have f7 : ∀ o, y2.frozen? ⟨g7, o, none⟩ = false := m2.v7.f
    have z6 := m2.v6.hi
    have z7 := m2.v7.hi
    have HM : Hid (M6 w a b 0 0 g6 a g7 b y2) := m2
    clear m2
    go_wp2_with fail
    refine (KT.out _).mono ?_
    rintro e y3 ⟨rfl, hb3⟩
    have m3 := M6_below HM.out hb3
    clear c0 c1 c2 c3 f2 f3 z0 z1 z2 z3 c6 c7 f6 f7 z6 z7 hb3 HM
    have c0 : ∀ o, o < 4 → y3.cell? ⟨w.heap.size, o, none⟩ = some (.int .u64 (dg a o)) := m3.m.v0.c
    have c1 : ∀ o, o < 4 → y3.cell? ⟨w.heap.size + 1, o, none⟩ = some (.int .u64 (dg b o)) := m3.m.v1.c
    have c2 : ∀ o, o < 4 → y3.cell? ⟨w.heap.size + 1 + 1, o, none⟩ = some (.int .u64 (dg 0 o)) := m3.m.v2.c
    have c3 : ∀ o, o < 4 → y3.cell? ⟨w.heap.size + 1 + 1 + 1, o, none⟩ = some (.int .u64 (dg 0 o)) := m3.m.v3.c
    have f2 : ∀ o, y3.frozen? ⟨w.heap.size + 1 + 1, o, none⟩ = false := m3.m.v2.f
    have f3 : ∀ o, y3.frozen? ⟨w.heap.size + 1 + 1 + 1, o, none⟩ = false := m3.m.v3.f
    have z0 := m3.m.v0.hi
    have z1 := m3.m.v1.hi
    have z2 := m3.m.v2.hi
    have z3 := m3.m.v3.hi
    have c6 : ∀ o, o < 4 → y3.cell? ⟨g6, o, none⟩ = some (.int .u64 (dg a o)) := m3.v6.c
    have c7 : ∀ o, o < 4 → y3.cell? ⟨g7, o, none⟩ = some (.int .u64 (dg b o)) := m3.v7.c
    have f6 : ∀ o, y3.frozen? ⟨g6, o, none⟩ = false := m3.v6.f
    have f7 : ∀ o, y3.frozen? ⟨g7, o, none⟩ = false := m3.v7.f
    have z6 := m3.v6.hi
    have z7 := m3.v7.hi
    have HM : Hid (M6 w a b 0 0 g6 a g7 b y3) := m3
    clear m3
    go_wp2_with fail
    refine (KD.out _).mono ?_
    rintro e y4 ⟨rfl, hb4⟩
    have m4 := M6_below HM.out hb4
    clear c0 c1 c2 c3 f2 f3 z0 z1 z2 z3 c6 c7 f6 f7 z6 z7 hb4 HM
    have c0 : ∀ o, o < 4 → y4.cell? ⟨w.heap.size, o, none⟩ = some (.int .u64 (dg a o)) := m4.m.v0.c
    have c1 : ∀ o, o < 4 → y4.cell? ⟨w.heap.size + 1, o, none⟩ = some (.int .u64 (dg b o)) := m4.m.v1.c
    have c2 : ∀ o, o < 4 → y4.cell? ⟨w.heap.size + 1 + 1, o, none⟩ = some (.int .u64 (dg 0 o)) := m4.m.v2.c
    have c3 : ∀ o, o < 4 → y4.cell? ⟨w.heap.size + 1 + 1 + 1, o, none⟩ = some (.int .u64 (dg 0 o)) := m4.m.v3.c
    have f2 : ∀ o, y4.frozen? ⟨w.heap.size + 1 + 1, o, none⟩ = false := m4.m.v2.f
    have f3 : ∀ o, y4.frozen? ⟨w.heap.size + 1 + 1 + 1, o, none⟩ = false := m4.m.v3.f
    have z0 := m4.m.v0.hi
    have z1 := m4.m.v1.hi
    have z2 := m4.m.v2.hi
    have z3 := m4.m.v3.hi
    have c6 : ∀ o, o < 4 → y4.cell? ⟨g6, o, none⟩ = some (.int .u64 (dg a o)) := m4.v6.c
    have c7 : ∀ o, o < 4 → y4.cell? ⟨g7, o, none⟩ = some (.int .u64 (dg b o)) := m4.v7.c
    have f6 : ∀ o, y4.frozen? ⟨g6, o, none⟩ = false := m4.v6.f
    have f7 : ∀ o, y4.frozen? ⟨g7, o, none⟩ = false := m4.v7.f
    have z6 := m4.v6.hi
    have z7 := m4.v7.hi
    have HM : Hid (M4 w a b N R ((((((((y4.setCell ⟨w.heap.size + 1 + 1, 0, none⟩ (.int .u64 (dg N 0))).setCell ⟨w.heap.size + 1 + 1, 1, none⟩ (.int .u64 (dg N 1))).setCell ⟨w.heap.size + 1 + 1, 2, none⟩ (.int .u64 (dg N 2))).setCell ⟨w.heap.size + 1 + 1, 3, none⟩ (.int .u64 (dg N 3))).setCell ⟨w.heap.size + 1 + 1 + 1, 0, none⟩ (.int .u64 (dg R 0))).setCell ⟨w.heap.size + 1 + 1 + 1, 1, none⟩ (.int .u64 (dg R 1))).setCell ⟨w.heap.size + 1 + 1 + 1, 2, none⟩ (.int .u64 (dg R 2))).setCell ⟨w.heap.size + 1 + 1 + 1, 3, none⟩ (.int .u64 (dg R 3)))) := M4_set3 (m := R) (M4_set2 (m := N) m4.m)
    clear m4
    unfold Wd
    go_upto_region 7 with fail
    have hM := HM.out
    clear HM c0 c1 c2 c3 f2 f3 z0 z1 z2 z3 c6 c7 f6 f7 z6 z7
    generalize (((((((y4.setCell ⟨w.heap.size + 1 + 1, 0, none⟩ (.int .u64 (dg N 0))).setCell ⟨w.heap.size + 1 + 1, 1, none⟩ (.int .u64 (dg N 1))).setCell ⟨w.heap.size + 1 + 1, 2, none⟩ (.int .u64 (dg N 2))).setCell ⟨w.heap.size + 1 + 1, 3, none⟩ (.int .u64 (dg N 3))).setCell ⟨w.heap.size + 1 + 1 + 1, 0, none⟩ (.int .u64 (dg R 0))).setCell ⟨w.heap.size + 1 + 1 + 1, 1, none⟩ (.int .u64 (dg R 1))).setCell ⟨w.heap.size + 1 + 1 + 1, 2, none⟩ (.int .u64 (dg R 2))).setCell ⟨w.heap.size + 1 + 1 + 1, 3, none⟩ (.int .u64 (dg R 3)) = y5 at hM ⊢
    refine RI.wp_region_inv (TQ7 w a b N R false false) (by kernel_rfl) (by kernel_rfl) ?_ ?_ ?_
    · exact ⟨undef, undef, undef, undef, undef, _, _, _, _, _, _, _, _, _, _, _, _, _, _, _, _, _, _, rfl, M4_drew hM, nofun, nofun, nofun, nofun, nofun⟩
    · clear hM
      intro d x wx i hI hi hm
      obtain ⟨u24, u25, u26, u27, u28, v6, v7, v8, v9, v10, v11, v12, v13, v14, v15, v16, v17, v18, v19, v20, v21, v22, v23, rfl, hM, p0, p1, p2, p3, p4⟩ := hI
      have hi' : i = 0 ∨ i = 1 ∨ i = 2 ∨ i = 3 ∨ i = 4 := by simp at hi; omega
      have hd := hm.2
      clear hm hi
      rcases hi' with rfl | rfl | rfl | rfl | rfl
      · refine RI.wpOp_plain rfl rfl ?_
        have c0 : ∀ o, o < 4 → wx.cell? ⟨w.heap.size, o, none⟩ = some (.int .u64 (dg a o)) := hM.v0.c
        go_simp
        exact ⟨_, u25, u26, u27, u28, v6, v7, v8, v9, v10, v11, v12, v13, v14, v15, v16, v17, v18, v19, v20, v21, v22, v23, rfl, hM, fun _ => rfl, RI.keep (by decide) p1, RI.keep (by decide) p2, RI.keep (by decide) p3, RI.keep (by decide) p4⟩
      · have hd := hd _ rfl
        simp [Region.binds] at hd
        obtain rfl := p0 (by simp [hd])
        refine RI.wpOp_plain rfl rfl ?_
        go_simp
        refine (KS.out _).mono ?_
        rintro e w1 ⟨rfl, hb1⟩
        exact ⟨_, _, u26, u27, u28, v6, v7, v8, v9, v10, v11, v12, v13, v14, v15, v16, v17, v18, v19, v20, v21, v22, v23, rfl, M4_below hM hb1, RI.keep (by decide) p0, fun _ => rfl, RI.keep (by decide) p2, RI.keep (by decide) p3, RI.keep (by decide) p4⟩
      · refine RI.wpOp_plain rfl rfl ?_
        have c1 : ∀ o, o < 4 → wx.cell? ⟨w.heap.size + 1, o, none⟩ = some (.int .u64 (dg b o)) := hM.v1.c
        go_simp
        exact ⟨u24, u25, _, u27, u28, v6, v7, v8, v9, v10, v11, v12, v13, v14, v15, v16, v17, v18, v19, v20, v21, v22, v23, rfl, hM, RI.keep (by decide) p0, RI.keep (by decide) p1, fun _ => rfl, RI.keep (by decide) p3, RI.keep (by decide) p4⟩
      · have hd := hd _ rfl
        simp [Region.binds] at hd
        obtain rfl := p1 (by simp [hd])
        obtain rfl := p2 (by simp [hd])
        refine RI.wpOp_plain rfl rfl ?_
        go_simp
        refine (KT.out _).mono ?_
        rintro e w1 ⟨rfl, hb1⟩
        exact ⟨u24, _, _, _, u28, v6, v7, v8, v9, v10, v11, v12, v13, v14, v15, v16, v17, v18, v19, v20, v21, v22, v23, rfl, M4_below hM hb1, RI.keep (by decide) p0, RI.keep (by decide) p1, RI.keep (by decide) p2, fun _ => rfl, RI.keep (by decide) p4⟩
      · have hd := hd _ rfl
        simp [Region.binds] at hd
        obtain rfl := p1 (by simp [hd])
        obtain rfl := p3 (by simp [hd])
        refine RI.wpOp_plain rfl rfl ?_
        go_simp
        exact ⟨u24, _, u26, _, _, v6, v7, v8, v9, v10, v11, v12, v13, v14, v15, v16, v17, v18, v19, v20, v21, v22, v23, rfl, hM, RI.keep (by decide) p0, RI.keep (by decide) p1, RI.keep (by decide) p2, RI.keep (by decide) p3, fun _ => rfl⟩
    · clear hM
      intro d x wx hI hd
      obtain ⟨u24, u25, u26, u27, u28, v6, v7, v8, v9, v10, v11, v12, v13, v14, v15, v16, v17, v18, v19, v20, v21, v22, v23, rfl, hM, p0, p1, p2, p3, p4⟩ := hI
      obtain rfl := p0 (hd 0 (by decide))
      obtain rfl := p1 (hd 1 (by decide))
      obtain rfl := p2 (hd 2 (by decide))
      obtain rfl := p3 (hd 3 (by decide))
      obtain rfl := p4 (hd 4 (by decide))
      clear p0 p1 p2 p3 p4 hd
      have c0 : ∀ o, o < 4 → wx.cell? ⟨w.heap.size, o, none⟩ = some (.int .u64 (dg a o)) := hM.v0.c
      have c1 : ∀ o, o < 4 → wx.cell? ⟨w.heap.size + 1, o, none⟩ = some (.int .u64 (dg b o)) := hM.v1.c
      have c2 : ∀ o, o < 4 → wx.cell? ⟨w.heap.size + 1 + 1, o, none⟩ = some (.int .u64 (dg N o)) := hM.v2.c
      have c3 : ∀ o, o < 4 → wx.cell? ⟨w.heap.size + 1 + 1 + 1, o, none⟩ = some (.int .u64 (dg R o)) := hM.v3.c
      have f2 : ∀ o, wx.frozen? ⟨w.heap.size + 1 + 1, o, none⟩ = false := hM.v2.f
      have f3 : ∀ o, wx.frozen? ⟨w.heap.size + 1 + 1 + 1, o, none⟩ = false := hM.v3.f
      have z0 := hM.v0.hi
      have z1 := hM.v1.hi
      have z2 := hM.v2.hi
      have z3 := hM.v3.hi
      have HM : Hid (M4 w a b N R wx) := hM
      clear hM
      go_wp2_with fail
      refine (KS.out _).mono ?_
      rintro e w5 ⟨rfl, hb5⟩
      have m5 := M4_below HM.out hb5
      clear c0 c1 c2 c3 f2 f3 z0 z1 z2 z3 hb5 HM
      have c0 : ∀ o, o < 4 → w5.cell? ⟨w.heap.size, o, none⟩ = some (.int .u64 (dg a o)) := m5.v0.c
      have c1 : ∀ o, o < 4 → w5.cell? ⟨w.heap.size + 1, o, none⟩ = some (.int .u64 (dg b o)) := m5.v1.c
      have c2 : ∀ o, o < 4 → w5.cell? ⟨w.heap.size + 1 + 1, o, none⟩ = some (.int .u64 (dg N o)) := m5.v2.c
      have c3 : ∀ o, o < 4 → w5.cell? ⟨w.heap.size + 1 + 1 + 1, o, none⟩ = some (.int .u64 (dg R o)) := m5.v3.c
      have f2 : ∀ o, w5.frozen? ⟨w.heap.size + 1 + 1, o, none⟩ = false := m5.v2.f
      have f3 : ∀ o, w5.frozen? ⟨w.heap.size + 1 + 1 + 1, o, none⟩ = false := m5.v3.f
      have z0 := m5.v0.hi
      have z1 := m5.v1.hi
      have z2 := m5.v2.hi
      have z3 := m5.v3.hi
      have HM : Hid _ := m5
      clear m5
      go_upto_region 11 with fail
      have m7 := HM.out
      clear HM c0 c1 c2 c3 f2 f3 z0 z1 z2 z3
      refine RI.wp_region_inv (TQ11 w a b N R) (by kernel_rfl) (by kernel_rfl) ?_ ?_ ?_
      · exact ⟨undef, undef, _, _, _, _, _, _, _, _, _, _, _, _, _, _, _, _, _, _, _, _, _, _, _, _, _, _, _, _, _, rfl, M4_drew m7, nofun, nofun⟩
      · clear m7
        intro d x wx i hI hi hm
        obtain ⟨u35, u36, v6, v7, v8, v9, v10, v11, v12, v13, v14, v15, v16, v17, v18, v19, v20, v21, v22, v23, v24, v25, v26, v27, v28, v29, v30, v31, v32, v33, v34, rfl, hM, p0, p1⟩ := hI
        have hi' : i = 0 ∨ i = 1 ∨ i = 2 ∨ i = 3 := by simp at hi; omega
        have hd := hm.2
        clear hm hi
        rcases hi' with rfl | rfl | rfl | rfl
        · refine RI.wpOp_plain rfl rfl ?_
          have c2 : ∀ o, o < 4 → wx.cell? ⟨w.heap.size + 1 + 1, o, none⟩ = some (.int .u64 (dg N o)) := hM.v2.c
          go_simp
          exact ⟨_, u36, v6, v7, v8, v9, v10, v11, v12, v13, v14, v15, v16, v17, v18, v19, v20, v21, v22, v23, v24, v25, v26, v27, v28, v29, v30, v31, v32, v33, v34, rfl, hM, fun _ => rfl, RI.keep (by decide) p1⟩
        · refine RI.wpOp_plain rfl rfl ?_
          have c3 : ∀ o, o < 4 → wx.cell? ⟨w.heap.size + 1 + 1 + 1, o, none⟩ = some (.int .u64 (dg R o)) := hM.v3.c
          go_simp
          exact ⟨u35, _, v6, v7, v8, v9, v10, v11, v12, v13, v14, v15, v16, v17, v18, v19, v20, v21, v22, v23, v24, v25, v26, v27, v28, v29, v30, v31, v32, v33, v34, rfl, hM, RI.keep (by decide) p0, fun _ => rfl⟩
        · have hd := hd _ rfl
          simp [Region.binds] at hd
          obtain rfl := p0 (by simp [hd])
          refine RI.wpOp_plain rfl rfl ?_
          have c2 : ∀ o, o < 4 → wx.cell? ⟨w.heap.size + 1 + 1, o, none⟩ = some (.int .u64 (dg N o)) := hM.v2.c
          have f2 : ∀ o, wx.frozen? ⟨w.heap.size + 1 + 1, o, none⟩ = false := hM.v2.f
          have z2 := hM.v2.hi
          unfold Wd
          go_simp
          exact ⟨_, u36, v6, v7, v8, v9, v10, v11, v12, v13, v14, v15, v16, v17, v18, v19, v20, v21, v22, v23, v24, v25, v26, v27, v28, v29, v30, v31, v32, v33, v34, rfl, M4_set2 hM, RI.keep (by decide) p0, RI.keep (by decide) p1⟩
        · have hd := hd _ rfl
          simp [Region.binds] at hd
          obtain rfl := p0 (by simp [hd])
          obtain rfl := p1 (by simp [hd])
          refine RI.wpOp_plain rfl rfl ?_
          have c3 : ∀ o, o < 4 → wx.cell? ⟨w.heap.size + 1 + 1 + 1, o, none⟩ = some (.int .u64 (dg R o)) := hM.v3.c
          have f3 : ∀ o, wx.frozen? ⟨w.heap.size + 1 + 1 + 1, o, none⟩ = false := hM.v3.f
          have z3 := hM.v3.hi
          unfold Wd
          go_simp
          exact ⟨_, _, v6, v7, v8, v9, v10, v11, v12, v13, v14, v15, v16, v17, v18, v19, v20, v21, v22, v23, v24, v25, v26, v27, v28, v29, v30, v31, v32, v33, v34, rfl, M4_set3 hM, RI.keep (by decide) p0, RI.keep (by decide) p1⟩
      · clear m7
        intro d x wx hI hd
        obtain ⟨u35, u36, v6, v7, v8, v9, v10, v11, v12, v13, v14, v15, v16, v17, v18, v19, v20, v21, v22, v23, v24, v25, v26, v27, v28, v29, v30, v31, v32, v33, v34, rfl, hM, p0, p1⟩ := hI
        obtain rfl := p0 (hd 0 (by decide))
        obtain rfl := p1 (hd 1 (by decide))
        clear p0 p1 hd
        go_wp2_with fail
        exact bodyPost_ret (v := .tuple #[Wd N, Wd R]) (resultQ _ _ w _ a b N R rfl rfl rfl hM) rfl ⟨rfl, hM.bel⟩
set_option maxHeartbeats 4000000 in
set_option maxRecDepth 100000 in
theorem tsdivmod_ft (a b N R B X : Nat) (KS : Hid (∀ w : World, Calls Try.prog 42 #[Wd a] w fun e w' => e = .returned (.bool false) ∧ Below w.heap.size w w')) (KT : Hid (∀ w : World, Calls Try.prog 42 #[Wd b] w fun e w' => e = .returned (.bool true) ∧ Below w.heap.size w w')) (KD : Hid (∀ w : World, Calls Try.prog 44 #[Wd a, Wd B] w fun e w' => e = .returned (.tuple #[Wd N, Wd R]) ∧ Below w.heap.size w w')) (KB : Hid (∀ w : World, Calls Try.prog 43 #[Wd b] w fun e w' => e = .returned (Wd B) ∧ Below w.heap.size w w')) (KN : Hid (∀ w : World, Calls Try.prog 43 #[Wd N] w fun e w' => e = .returned (Wd X) ∧ Below w.heap.size w w')) (w : World) :
    Calls Try.prog 14 #[Wd a, Wd b] w fun e w' => e = .returned (.tuple #[Wd X, Wd R]) ∧ Below w.heap.size w w' := by
  have m0 := M4_start w a b 24
  conv => arg 3; unfold Wd
  go_enter Try.func14, Try.ntmps14
  go_upto_region 1 with fail
  generalize (((w.alloc (.cells #[.int .u64 (dg a 0), .int .u64 (dg a 1), .int .u64 (dg a 2), .int .u64 (dg a 3)] 24)).alloc (.cells #[.int .u64 (dg b 0), .int .u64 (dg b 1), .int .u64 (dg b 2), .int .u64 (dg b 3)] 24)).alloc (.cells #[.int .u64 0, .int .u64 0, .int .u64 0, .int .u64 0] 24)).alloc (.cells #[.int .u64 0, .int .u64 0, .int .u64 0, .int .u64 0] 24) = W0 at m0 ⊢
  refine RI.wp_region_inv (TQ1 w a b) (by kernel_rfl) (by kernel_rfl) ?_ ?_ ?_
  · exact ⟨undef, undef, undef, undef, 0, 0, 0, 0, rfl, M4_drew m0, nofun, nofun, nofun, nofun, nofun, nofun, nofun⟩
  · clear m0
    intro d x wx i hI hi hm
    obtain ⟨u6, u7, u8, u9, g6, g7, x6, x7, rfl, hM, p0, p1, p2, p3, pn, p4, p5⟩ := hI
    have hi' : i = 0 ∨ i = 1 ∨ i = 2 ∨ i = 3 ∨ i = 4 ∨ i = 5 := by simp at hi; omega
    have hd := hm.2
    have hf := hm.1
    clear hm hi
    rcases hi' with rfl | rfl | rfl | rfl | rfl | rfl
    · refine RI.wpOp_plain rfl rfl ?_
      have c0 : ∀ o, o < 4 → wx.cell? ⟨w.heap.size, o, none⟩ = some (.int .u64 (dg a o)) := hM.v0.c
      go_simp
      exact ⟨u6, u7, _, u9, g6, g7, x6, x7, rfl, hM, fun _ => rfl, RI.keep (by decide) p1, RI.keep (by decide) p2, RI.keep (by decide) p3, T_two (by decide) (by decide) pn, T_on (by decide) (by decide) p4, T_on (by decide) (by decide) p5⟩
    · refine RI.wpOp_plain rfl rfl ?_
      have c1 : ∀ o, o < 4 → wx.cell? ⟨w.heap.size + 1, o, none⟩ = some (.int .u64 (dg b o)) := hM.v1.c
      go_simp
      exact ⟨u6, u7, u8, _, g6, g7, x6, x7, rfl, hM, RI.keep (by decide) p0, fun _ => rfl, RI.keep (by decide) p2, RI.keep (by decide) p3, T_two (by decide) (by decide) pn, T_on (by decide) (by decide) p4, T_on (by decide) (by decide) p5⟩
    · have hz : w.heap.size + 1 + 1 + 1 + 1 ≤ wx.heap.size := hM.v3.hi
      refine RI.wpOp_plain rfl rfl ?_
      go_simp
      exact ⟨_, u7, u8, u9, wx.heap.size, g7, 0, x7, rfl, M4_al hM _, RI.keep (by decide) p0, RI.keep (by decide) p1, fun _ => ⟨rfl, Vb_new0 _ _ _ hz⟩, RI.keep (by decide) fun h => ⟨(p3 h).1, Vb_al (p3 h).2 _⟩, fun _ h => Nat.ne_of_gt (p3 (by rwa [RI.don_other _ _ _ (by decide)] at h)).2.hi, T_no (by decide) hf p4, T_on (by decide) (by decide) p5⟩
    · have hz : w.heap.size + 1 + 1 + 1 + 1 ≤ wx.heap.size := hM.v3.hi
      refine RI.wpOp_plain rfl rfl ?_
      go_simp
      exact ⟨u6, _, u8, u9, g6, wx.heap.size, x6, 0, rfl, M4_al hM _, RI.keep (by decide) p0, RI.keep (by decide) p1, RI.keep (by decide) fun h => ⟨(p2 h).1, Vb_al (p2 h).2 _⟩, fun _ => ⟨rfl, Vb_new0 _ _ _ hz⟩, fun h _ => Nat.ne_of_lt (p2 (by rwa [RI.don_other _ _ _ (by decide)] at h)).2.hi, T_on (by decide) (by decide) p4, T_no (by decide) hf p5⟩
    · have hd := hd _ rfl
      simp [Region.binds] at hd
      obtain ⟨rfl, v1⟩ := p2 (by simp [hd])
      obtain ⟨rfl, v2⟩ := p3 (by simp [hd])
      have hn : g6 ≠ g7 := pn (by simp [hd]) (by simp [hd])
      obtain rfl := p0 (by simp [hd])
      have c1 : ∀ o, o < 4 → wx.cell? ⟨g6, o, none⟩ = some (.int .u64 (dg x6 o)) := v1.c
      have f1 : ∀ o, wx.frozen? ⟨g6, o, none⟩ = false := v1.f
      have z1 := v1.hi
      have hl : w.heap.size + 1 + 1 + 1 < g6 := v1.lo
      refine RI.wpOp_plain rfl rfl ?_
      unfold Wd
      go_simp
      exact ⟨_, _, _, u9, g6, g7, a, x7, rfl, M4_o4 hM hl, RI.keep (by decide) fun _ => rfl, RI.keep (by decide) p1, RI.keep (by decide) fun _ => ⟨rfl, Vb_set4 v1⟩, RI.keep (by decide) fun _ => ⟨rfl, Vb_o4 v2 hn⟩, T_two (by decide) (by decide) pn, fun _ => ⟨by simp [RI.don, hd], rfl⟩, T_on (by decide) (by decide) p5⟩
    · have hd := hd _ rfl
      simp [Region.binds] at hd
      obtain ⟨rfl, v1⟩ := p3 (by simp [hd])
      obtain ⟨rfl, v2⟩ := p2 (by simp [hd])
      have hn : g6 ≠ g7 := pn (by simp [hd]) (by simp [hd])
      obtain rfl := p1 (by simp [hd])
      obtain rfl := p0 (by simp [hd])
      have c1 : ∀ o, o < 4 → wx.cell? ⟨g7, o, none⟩ = some (.int .u64 (dg x7 o)) := v1.c
      have f1 : ∀ o, wx.frozen? ⟨g7, o, none⟩ = false := v1.f
      have z1 := v1.hi
      have hl : w.heap.size + 1 + 1 + 1 < g7 := v1.lo
      refine RI.wpOp_plain rfl rfl ?_
      unfold Wd
      go_simp
      exact ⟨_, _, _, _, g6, g7, x6, b, rfl, M4_o4 hM hl, RI.keep (by decide) fun _ => rfl, RI.keep (by decide) fun _ => rfl, RI.keep (by decide) fun _ => ⟨rfl, Vb_o4 v2 hn.symm⟩, RI.keep (by decide) fun _ => ⟨rfl, Vb_set4 v1⟩, T_two (by decide) (by decide) pn, T_on (by decide) (by decide) p4, fun _ => ⟨by simp [RI.don, hd], rfl⟩⟩
  · clear m0
    intro d x wx hI hd
    obtain ⟨u6, u7, u8, u9, g6, g7, x6, x7, rfl, hM, p0, p1, p2, p3, pn, p4, p5⟩ := hI
    obtain ⟨rfl, v6⟩ := p2 (hd 2 (by decide))
    obtain ⟨rfl, v7⟩ := p3 (hd 3 (by decide))
    have hn := pn (hd 2 (by decide)) (hd 3 (by decide))
    rw [(p4 (hd 4 (by decide))).2] at v6
    rw [(p5 (hd 5 (by decide))).2] at v7
    obtain rfl := p0 (hd 0 (by decide))
    obtain rfl := p1 (hd 1 (by decide))
    have m1 : M6 w a b 0 0 g6 a g7 b wx := ⟨hM, v6, v7, hn⟩
    clear p0 p1 p2 p3 p4 p5 pn hd hM v6 v7 hn
    generalize wx = W1 at *
    have c0 : ∀ o, o < 4 → W1.cell? ⟨w.heap.size, o, none⟩ = some (.int .u64 (dg a o)) := m1.m.v0.c
    have c1 : ∀ o, o < 4 → W1.cell? ⟨w.heap.size + 1, o, none⟩ = some (.int .u64 (dg b o)) := m1.m.v1.c
    have c2 : ∀ o, o < 4 → W1.cell? ⟨w.heap.size + 1 + 1, o, none⟩ = some (.int .u64 (dg 0 o)) := m1.m.v2.c
    have c3 : ∀ o, o < 4 → W1.cell? ⟨w.heap.size + 1 + 1 + 1, o, none⟩ = some (.int .u64 (dg 0 o)) := m1.m.v3.c
    have f2 : ∀ o, W1.frozen? ⟨w.heap.size + 1 + 1, o, none⟩ = false := m1.m.v2.f
    have f3 : ∀ o, W1.frozen? ⟨w.heap.size + 1 + 1 + 1, o, none⟩ = false := m1.m.v3.f
    have z0 := m1.m.v0.hi
    have z1 := m1.m.v1.hi
    have z2 := m1.m.v2.hi
    have z3 := m1.m.v3.hi
    have c6 : ∀ o, o < 4 → W1.cell? ⟨g6, o, none⟩ = some (.int .u64 (dg a o)) := m1.v6.c
    have c7 : ∀ o, o < 4 → W1.cell? ⟨g7, o, none⟩ = some (.int .u64 (dg b o)) := m1.v7.c
    have f6 : ∀ o, W1.frozen? ⟨g6, o, none⟩ = false := m1.v6.f
    have f7 : ∀ o, W1.frozen? ⟨g7, o, none⟩ = false := m1.v7.f
    have z6 := m1.v6.hi
    have z7 := m1.v7.hi
    have HM : Hid (M6 w a b 0 0 g6 a g7 b W1) := m1
    clear m1
    go_wp2_with fail
    refine (KS.out _).mono ?_
    rintro e y2 ⟨rfl, hb2⟩
    have m2 := M6_below HM.out hb2
    clear c0 c1 c2 c3 f2 f3 z0 z1 z2 z3 c6 c7 f6 f7 z6 z7 hb2 HM
    have c0 : ∀ o, o < 4 → y2.cell? ⟨w.heap.size, o, none⟩ = some (.int .u64 (dg a o)) := m2.m.v0.c
    have c1 : ∀ o, o < 4 → y2.cell? ⟨w.heap.size + 1, o, none⟩ = some (.int .u64 (dg b o)) := m2.m.v1.c
    have c2 : ∀ o, o < 4 → y2.cell? ⟨w.heap.size + 1 + 1, o, none⟩ = some (.int .u64 (dg 0 o)) := m2.m.v2.c
    have c3 : ∀ o, o < 4 → y2.cell? ⟨w.heap.size + 1 + 1 + 1, o, none⟩ = some (.int .u64 (dg 0 o)) := m2.m.v3.c
    have f2 : ∀ o, y2.frozen? ⟨w.heap.size + 1 + 1, o, none⟩ = false := m2.m.v2.f
    have f3 : ∀ o, y2.frozen? ⟨w.heap.size + 1 + 1 + 1, o, none⟩ = false := m2.m.v3.f
    have z0 := m2.m.v0.hi
    have z1 := m2.m.v1.hi
    have z2 := m2.m.v2.hi
    have z3 := m2.m.v3.hi
    have c6 : ∀ o, o < 4 → y2.cell? ⟨g6, o, none⟩ = some (.int .u64 (dg a o)) := m2.v6.c
    have c7 : ∀ o, o < 4 → y2.cell? ⟨g7, o, none⟩ = some (.int .u64 (dg b o)) := m2.v7.c
    have f6 : ∀ o, y2.frozen? ⟨g6, o, none⟩ = false := m2.v6.f
    have f7 : ∀ o, y2.frozen? ⟨g7, o, none⟩ = false := m2.v7.f
    have z6 := m2.v6.hi
    have z7 := m2.v7.hi
    have HM : Hid (M6 w a b 0 0 g6 a g7 b y2) := m2
    clear m2
    go_wp2_with fail
    refine (KT.out _).mono ?_
    rintro e y3 ⟨rfl, hb3⟩
    have m3 := M6_below HM.out hb3
    clear c0 c1 c2 c3 f2 f3 z0 z1 z2 z3 c6 c7 f6 f7 z6 z7 hb3 HM
    have c0 : ∀ o, o < 4 → y3.cell? ⟨w.heap.size, o, none⟩ = some (.int .u64 (dg a o)) := m3.m.v0.c
    have c1 : ∀ o, o < 4 → y3.cell? ⟨w.heap.size + 1, o, none⟩ = some (.int .u64 (dg b o)) := m3.m.v1.c
    have c2 : ∀ o, o < 4 → y3.cell? ⟨w.heap.size + 1 + 1, o, none⟩ = some (.int .u64 (dg 0 o)) := m3.m.v2.c
    have c3 : ∀ o, o < 4 → y3.cell? ⟨w.heap.size + 1 + 1 + 1, o, none⟩ = some (.int .u64 (dg 0 o)) := m3.m.v3.c
    have f2 : ∀ o, y3.frozen? ⟨w.heap.size + 1 + 1, o, none⟩ = false := m3.m.v2.f
    have f3 : ∀ o, y3.frozen? ⟨w.heap.size + 1 + 1 + 1, o, none⟩ = false := m3.m.v3.f
    have z0 := m3.m.v0.hi
    have z1 := m3.m.v1.hi
    have z2 := m3.m.v2.hi
    have z3 := m3.m.v3.hi
    have c6 : ∀ o, o < 4 → y3.cell? ⟨g6, o, none⟩ = some (.int .u64 (dg a o)) := m3.v6.c
    have c7 : ∀ o, o < 4 → y3.cell? ⟨g7, o, none⟩ = some (.int .u64 (dg b o)) := m3.v7.c
    have f6 : ∀ o, y3.frozen? ⟨g6, o, none⟩ = false := m3.v6.f
    have f7 : ∀ o, y3.frozen? ⟨g7, o, none⟩ = false := m3.v7.f
    have z6 := m3.v6.hi
    have z7 := m3.v7.hi
    have HM : Hid (M6 w a b 0 0 g6 a g7 b y3) := m3
    clear m3
    go_wp2_with fail
    refine (KB.out _).mono ?_
    rintro e y4 ⟨rfl, hb4⟩
    have m4 := M6_below HM.out hb4
    clear c0 c1 c2 c3 f2 f3 z0 z1 z2 z3 c6 c7 f6 f7 z6 z7 hb4 HM
    have c0 : ∀ o, o < 4 → y4.cell? ⟨w.heap.size, o, none⟩ = some (.int .u64 (dg a o)) := m4.m.v0.c
    have c1 : ∀ o, o < 4 → y4.cell? ⟨w.heap.size + 1, o, none⟩ = some (.int .u64 (dg b o)) := m4.m.v1.c
    have c2 : ∀ o, o < 4 → y4.cell? ⟨w.heap.size + 1 + 1, o, none⟩ = some (.int .u64 (dg 0 o)) := m4.m.v2.c
    have c3 : ∀ o, o < 4 → y4.cell? ⟨w.heap.size + 1 + 1 + 1, o, none⟩ = some (.int .u64 (dg 0 o)) := m4.m.v3.c
    have f2 : ∀ o, y4.frozen? ⟨w.heap.size + 1 + 1, o, none⟩ = false := m4.m.v2.f
    have f3 : ∀ o, y4.frozen? ⟨w.heap.size + 1 + 1 + 1, o, none⟩ = false := m4.m.v3.f
    have z0 := m4.m.v0.hi
    have z1 := m4.m.v1.hi
    have z2 := m4.m.v2.hi
    have z3 := m4.m.v3.hi
    have c6 : ∀ o, o < 4 → y4.cell? ⟨g6, o, none⟩ = some (.int .u64 (dg a o)) := m4.v6.c
    have c7 : ∀ o, o < 4 → y4.cell? ⟨g7, o, none⟩ = some (.int .u64 (dg b o)) := m4.v7.c
    have f6 : ∀ o, y4.frozen? ⟨g6, o, none⟩ = false := m4.v6.f
    have f7 : ∀ o, y4.frozen? ⟨g7, o, none⟩ = false := m4.v7.f
    have z6 := m4.v6.hi
    have z7 := m4.v7.hi
    have HM : Hid (M6 w a b 0 0 g6 a g7 B ((((y4.setCell ⟨g7, 0, none⟩ (.int .u64 (dg B 0))).setCell ⟨g7, 1, none⟩ (.int .u64 (dg B 1))).setCell ⟨g7, 2, none⟩ (.int .u64 (dg B 2))).setCell ⟨g7, 3, none⟩ (.int .u64 (dg B 3)))) := M6_set7 (m := B) m4
    clear m4
    unfold Wd
    go_upto_region 6 with fail
    have m5 := HM.out
    clear HM c0 c1 c2 c3 f2 f3 z0 z1 z2 z3 c6 c7 f6 f7 z6 z7
    generalize (((y4.setCell ⟨g7, 0, none⟩ (.int .u64 (dg B 0))).setCell ⟨g7, 1, none⟩ (.int .u64 (dg B 1))).setCell ⟨g7, 2, none⟩ (.int .u64 (dg B 2))).setCell ⟨g7, 3, none⟩ (.int .u64 (dg B 3)) = y5 at m5 ⊢
    have c0 : ∀ o, o < 4 → y5.cell? ⟨w.heap.size, o, none⟩ = some (.int .u64 (dg a o)) := m5.m.v0.c
    have c1 : ∀ o, o < 4 → y5.cell? ⟨w.heap.size + 1, o, none⟩ = some (.int .u64 (dg b o)) := m5.m.v1.c
    have c2 : ∀ o, o < 4 → y5.cell? ⟨w.heap.size + 1 + 1, o, none⟩ = some (.int .u64 (dg 0 o)) := m5.m.v2.c
    have c3 : ∀ o, o < 4 → y5.cell? ⟨w.heap.size + 1 + 1 + 1, o, none⟩ = some (.int .u64 (dg 0 o)) := m5.m.v3.c
    have f2 : ∀ o, y5.frozen? ⟨w.heap.size + 1 + 1, o, none⟩ = false := m5.m.v2.f
    have f3 : ∀ o, y5.frozen? ⟨w.heap.size + 1 + 1 + 1, o, none⟩ = false := m5.m.v3.f
    have z0 := m5.m.v0.hi
    have z1 := m5.m.v1.hi
    have z2 := m5.m.v2.hi
    have z3 := m5.m.v3.hi
    have c6 : ∀ o, o < 4 → y5.cell? ⟨g6, o, none⟩ = some (.int .u64 (dg a o)) := m5.v6.c
    have c7 : ∀ o, o < 4 → y5.cell? ⟨g7, o, none⟩ = some (.int .u64 (dg B o)) := m5.v7.c
    have f6 : ∀ o, y5.frozen? ⟨g6, o, none⟩ = false := m5.v6.f
    have f7 : ∀ o, y5.frozen? ⟨g7, o, none⟩ = false := m5.v7.f
    have z6 := m5.v6.hi
    have z7 := m5.v7.hi
    have HM : Hid (M6 w a b 0 0 g6 a g7 B y5) := m5
    clear m5
    go_wp2_with fail
    refine (KD.out _).mono ?_
    rintro e y6 ⟨rfl, hb6⟩
    have m6 := M6_below HM.out hb6
    clear c0 c1 c2 c3 f2 f3 z0 z1 z2 z3 c6 c7 f6 f7 z6 z7 hb6 HM
    have c0 : ∀ o, o < 4 → y6.cell? ⟨w.heap.size, o, none⟩ = some (.int .u64 (dg a o)) := m6.m.v0.c
    have c1 : ∀ o, o < 4 → y6.cell? ⟨w.heap.size + 1, o, none⟩ = some (.int .u64 (dg b o)) := m6.m.v1.c
    have c2 : ∀ o, o < 4 → y6.cell? ⟨w.heap.size + 1 + 1, o, none⟩ = some (.int .u64 (dg 0 o)) := m6.m.v2.c
    have c3 : ∀ o, o < 4 → y6.cell? ⟨w.heap.size + 1 + 1 + 1, o, none⟩ = some (.int .u64 (dg 0 o)) := m6.m.v3.c
    have f2 : ∀ o, y6.frozen? ⟨w.heap.size + 1 + 1, o, none⟩ = false := m6.m.v2.f
    have f3 : ∀ o, y6.frozen? ⟨w.heap.size + 1 + 1 + 1, o, none⟩ = false := m6.m.v3.f
    have z0 := m6.m.v0.hi
    have z1 := m6.m.v1.hi
    have z2 := m6.m.v2.hi
    have z3 := m6.m.v3.hi
    have c6 : ∀ o, o < 4 → y6.cell? ⟨g6, o, none⟩ = some (.int .u64 (dg a o)) := m6.v6.c
    have c7 : ∀ o, o < 4 → y6.cell? ⟨g7, o, none⟩ = some (.int .u64 (dg B o)) := m6.v7.c
    have f6 : ∀ o, y6.frozen? ⟨g6, o, none⟩ = false := m6.v6.f
    have f7 : ∀ o, y6.frozen? ⟨g7, o, none⟩ = false := m6.v7.f
    have z6 := m6.v6.hi
    have z7 := m6.v7.hi
    have HM : Hid (M4 w a b N R ((((((((y6.setCell ⟨w.heap.size + 1 + 1, 0, none⟩ (.int .u64 (dg N 0))).setCell ⟨w.heap.size + 1 + 1, 1, none⟩ (.int .u64 (dg N 1))).setCell ⟨w.heap.size + 1 + 1, 2, none⟩ (.int .u64 (dg N 2))).setCell ⟨w.heap.size + 1 + 1, 3, none⟩ (.int .u64 (dg N 3))).setCell ⟨w.heap.size + 1 + 1 + 1, 0, none⟩ (.int .u64 (dg R 0))).setCell ⟨w.heap.size + 1 + 1 + 1, 1, none⟩ (.int .u64 (dg R 1))).setCell ⟨w.heap.size + 1 + 1 + 1, 2, none⟩ (.int .u64 (dg R 2))).setCell ⟨w.heap.size + 1 + 1 + 1, 3, none⟩ (.int .u64 (dg R 3)))) := M4_set3 (m := R) (M4_set2 (m := N) m6.m)
    clear m6
    unfold Wd
    go_upto_region 7 with fail
    have hM := HM.out
    clear HM c0 c1 c2 c3 f2 f3 z0 z1 z2 z3 c6 c7 f6 f7 z6 z7
    generalize (((((((y6.setCell ⟨w.heap.size + 1 + 1, 0, none⟩ (.int .u64 (dg N 0))).setCell ⟨w.heap.size + 1 + 1, 1, none⟩ (.int .u64 (dg N 1))).setCell ⟨w.heap.size + 1 + 1, 2, none⟩ (.int .u64 (dg N 2))).setCell ⟨w.heap.size + 1 + 1, 3, none⟩ (.int .u64 (dg N 3))).setCell ⟨w.heap.size + 1 + 1 + 1, 0, none⟩ (.int .u64 (dg R 0))).setCell ⟨w.heap.size + 1 + 1 + 1, 1, none⟩ (.int .u64 (dg R 1))).setCell ⟨w.heap.size + 1 + 1 + 1, 2, none⟩ (.int .u64 (dg R 2))).setCell ⟨w.heap.size + 1 + 1 + 1, 3, none⟩ (.int .u64 (dg R 3)) = y7 at hM ⊢
    refine RI.wp_region_inv (TQ7 w a b N R false true) (by kernel_rfl) (by kernel_rfl) ?_ ?_ ?_
    · exact ⟨undef, undef, undef, undef, undef, _, _, _, _, _, _, _, _, _, _, _, _, _, _, _, _, _, _, rfl, M4_drew hM, nofun, nofun, nofun, nofun, nofun⟩
    · clear hM
      intro d x wx i hI hi hm
      obtain ⟨u24, u25, u26, u27, u28, v6, v7, v8, v9, v10, v11, v12, v13, v14, v15, v16, v17, v18, v19, v20, v21, v22, v23, rfl, hM, p0, p1, p2, p3, p4⟩ := hI
      have hi' : i = 0 ∨ i = 1 ∨ i = 2 ∨ i = 3 ∨ i = 4 := by simp at hi; omega
      have hd := hm.2
      clear hm hi
      rcases hi' with rfl | rfl | rfl | rfl | rfl
      · refine RI.wpOp_plain rfl rfl ?_
        have c0 : ∀ o, o < 4 → wx.cell? ⟨w.heap.size, o, none⟩ = some (.int .u64 (dg a o)) := hM.v0.c
        go_simp
        exact ⟨_, u25, u26, u27, u28, v6, v7, v8, v9, v10, v11, v12, v13, v14, v15, v16, v17, v18, v19, v20, v21, v22, v23, rfl, hM, fun _ => rfl, RI.keep (by decide) p1, RI.keep (by decide) p2, RI.keep (by decide) p3, RI.keep (by decide) p4⟩
      · have hd := hd _ rfl
        simp [Region.binds] at hd
        obtain rfl := p0 (by simp [hd])
        refine RI.wpOp_plain rfl rfl ?_
        go_simp
        refine (KS.out _).mono ?_
        rintro e w1 ⟨rfl, hb1⟩
        exact ⟨_, _, u26, u27, u28, v6, v7, v8, v9, v10, v11, v12, v13, v14, v15, v16, v17, v18, v19, v20, v21, v22, v23, rfl, M4_below hM hb1, RI.keep (by decide) p0, fun _ => rfl, RI.keep (by decide) p2, RI.keep (by decide) p3, RI.keep (by decide) p4⟩
      · refine RI.wpOp_plain rfl rfl ?_
        have c1 : ∀ o, o < 4 → wx.cell? ⟨w.heap.size + 1, o, none⟩ = some (.int .u64 (dg b o)) := hM.v1.c
        go_simp
        exact ⟨u24, u25, _, u27, u28, v6, v7, v8, v9, v10, v11, v12, v13, v14, v15, v16, v17, v18, v19, v20, v21, v22, v23, rfl, hM, RI.keep (by decide) p0, RI.keep (by decide) p1, fun _ => rfl, RI.keep (by decide) p3, RI.keep (by decide) p4⟩
      · have hd := hd _ rfl
        simp [Region.binds] at hd
        obtain rfl := p1 (by simp [hd])
        obtain rfl := p2 (by simp [hd])
        refine RI.wpOp_plain rfl rfl ?_
        go_simp
        refine (KT.out _).mono ?_
        rintro e w1 ⟨rfl, hb1⟩
        exact ⟨u24, _, _, _, u28, v6, v7, v8, v9, v10, v11, v12, v13, v14, v15, v16, v17, v18, v19, v20, v21, v22, v23, rfl, M4_below hM hb1, RI.keep (by decide) p0, RI.keep (by decide) p1, RI.keep (by decide) p2, fun _ => rfl, RI.keep (by decide) p4⟩
      · have hd := hd _ rfl
        simp [Region.binds] at hd
        obtain rfl := p1 (by simp [hd])
        obtain rfl := p3 (by simp [hd])
        refine RI.wpOp_plain rfl rfl ?_
        go_simp
        exact ⟨u24, _, u26, _, _, v6, v7, v8, v9, v10, v11, v12, v13, v14, v15, v16, v17, v18, v19, v20, v21, v22, v23, rfl, hM, RI.keep (by decide) p0, RI.keep (by decide) p1, RI.keep (by decide) p2, RI.keep (by decide) p3, fun _ => rfl⟩
    · clear hM
      intro d x wx hI hd
      obtain ⟨u24, u25, u26, u27, u28, v6, v7, v8, v9, v10, v11, v12, v13, v14, v15, v16, v17, v18, v19, v20, v21, v22, v23, rfl, hM, p0, p1, p2, p3, p4⟩ := hI
      obtain rfl := p0 (hd 0 (by decide))
      obtain rfl := p1 (hd 1 (by decide))
      obtain rfl := p2 (hd 2 (by decide))
      obtain rfl := p3 (hd 3 (by decide))
      obtain rfl := p4 (hd 4 (by decide))
      clear p0 p1 p2 p3 p4 hd
      have c0 : ∀ o, o < 4 → wx.cell? ⟨w.heap.size, o, none⟩ = some (.int .u64 (dg a o)) := hM.v0.c
      have c1 : ∀ o, o < 4 → wx.cell? ⟨w.heap.size + 1, o, none⟩ = some (.int .u64 (dg b o)) := hM.v1.c
      have c2 : ∀ o, o < 4 → wx.cell? ⟨w.heap.size + 1 + 1, o, none⟩ = some (.int .u64 (dg N o)) := hM.v2.c
      have c3 : ∀ o, o < 4 → wx.cell? ⟨w.heap.size + 1 + 1 + 1, o, none⟩ = some (.int .u64 (dg R o)) := hM.v3.c
      have f2 : ∀ o, wx.frozen? ⟨w.heap.size + 1 + 1, o, none⟩ = false := hM.v2.f
      have f3 : ∀ o, wx.frozen? ⟨w.heap.size + 1 + 1 + 1, o, none⟩ = false := hM.v3.f
      have z0 := hM.v0.hi
      have z1 := hM.v1.hi
      have z2 := hM.v2.hi
      have z3 := hM.v3.hi
      have HM : Hid (M4 w a b N R wx) := hM
      clear hM
      go_wp2_with fail
      refine (KN.out _).mono ?_
      rintro e w4 ⟨rfl, hb4⟩
      have m4 := M4_below HM.out hb4
      clear c0 c1 c2 c3 f2 f3 z0 z1 z2 z3 hb4 HM
      have c0 : ∀ o, o < 4 → w4.cell? ⟨w.heap.size, o, none⟩ = some (.int .u64 (dg a o)) := m4.v0.c
      have c1 : ∀ o, o < 4 → w4.cell? ⟨w.heap.size + 1, o, none⟩ = some (.int .u64 (dg b o)) := m4.v1.c
      have c2 : ∀ o, o < 4 → w4.cell? ⟨w.heap.size + 1 + 1, o, none⟩ = some (.int .u64 (dg N o)) := m4.v2.c
      have c3 : ∀ o, o < 4 → w4.cell? ⟨w.heap.size + 1 + 1 + 1, o, none⟩ = some (.int .u64 (dg R o)) := m4.v3.c
      have f2 : ∀ o, w4.frozen? ⟨w.heap.size + 1 + 1, o, none⟩ = false := m4.v2.f
      have f3 : ∀ o, w4.frozen? ⟨w.heap.size + 1 + 1 + 1, o, none⟩ = false := m4.v3.f
      have z0 := m4.v0.hi
      have z1 := m4.v1.hi
      have z2 := m4.v2.hi
      have z3 := m4.v3.hi
      have HM : Hid (M4 w a b X R _) := M4_set2 (m := X) m4
      clear m4
      unfold Wd
      go_wp2_with fail
      refine (KS.out _).mono ?_
      rintro e w5 ⟨rfl, hb5⟩
      have m5 := M4_below HM.out hb5
      clear c0 c1 c2 c3 f2 f3 z0 z1 z2 z3 hb5 HM
      have c0 : ∀ o, o < 4 → w5.cell? ⟨w.heap.size, o, none⟩ = some (.int .u64 (dg a o)) := m5.v0.c
      have c1 : ∀ o, o < 4 → w5.cell? ⟨w.heap.size + 1, o, none⟩ = some (.int .u64 (dg b o)) := m5.v1.c
      have c2 : ∀ o, o < 4 → w5.cell? ⟨w.heap.size + 1 + 1, o, none⟩ = some (.int .u64 (dg X o)) := m5.v2.c
      have c3 : ∀ o, o < 4 → w5.cell? ⟨w.heap.size + 1 + 1 + 1, o, none⟩ = some (.int .u64 (dg R o)) := m5.v3.c
      have f2 : ∀ o, w5.frozen? ⟨w.heap.size + 1 + 1, o, none⟩ = false := m5.v2.f
      have f3 : ∀ o, w5.frozen? ⟨w.heap.size + 1 + 1 + 1, o, none⟩ = false := m5.v3.f
      have z0 := m5.v0.hi
      have z1 := m5.v1.hi
      have z2 := m5.v2.hi
      have z3 := m5.v3.hi
      have HM : Hid _ := m5
      clear m5
      go_upto_region 11 with fail
      have m7 := HM.out
      clear HM c0 c1 c2 c3 f2 f3 z0 z1 z2 z3
      refine RI.wp_region_inv (TQ11 w a b X R) (by kernel_rfl) (by kernel_rfl) ?_ ?_ ?_
      · exact ⟨undef, undef, _, _, _, _, _, _, _, _, _, _, _, _, _, _, _, _, _, _, _, _, _, _, _, _, _, _, _, _, _, rfl, M4_drew m7, nofun, nofun⟩
      · clear m7
        intro d x wx i hI hi hm
        obtain ⟨u35, u36, v6, v7, v8, v9, v10, v11, v12, v13, v14, v15, v16, v17, v18, v19, v20, v21, v22, v23, v24, v25, v26, v27, v28, v29, v30, v31, v32, v33, v34, rfl, hM, p0, p1⟩ := hI
        have hi' : i = 0 ∨ i = 1 ∨ i = 2 ∨ i = 3 := by simp at hi; omega
        have hd := hm.2
        clear hm hi
        rcases hi' with rfl | rfl | rfl | rfl
        · refine RI.wpOp_plain rfl rfl ?_
          have c2 : ∀ o, o < 4 → wx.cell? ⟨w.heap.size + 1 + 1, o, none⟩ = some (.int .u64 (dg X o)) := hM.v2.c
          go_simp
          exact ⟨_, u36, v6, v7, v8, v9, v10, v11, v12, v13, v14, v15, v16, v17, v18, v19, v20, v21, v22, v23, v24, v25, v26, v27, v28, v29, v30, v31, v32, v33, v34, rfl, hM, fun _ => rfl, RI.keep (by decide) p1⟩
        · refine RI.wpOp_plain rfl rfl ?_
          have c3 : ∀ o, o < 4 → wx.cell? ⟨w.heap.size + 1 + 1 + 1, o, none⟩ = some (.int .u64 (dg R o)) := hM.v3.c
          go_simp
          exact ⟨u35, _, v6, v7, v8, v9, v10, v11, v12, v13, v14, v15, v16, v17, v18, v19, v20, v21, v22, v23, v24, v25, v26, v27, v28, v29, v30, v31, v32, v33, v34, rfl, hM, RI.keep (by decide) p0, fun _ => rfl⟩
        · have hd := hd _ rfl
          simp [Region.binds] at hd
          obtain rfl := p0 (by simp [hd])
          refine RI.wpOp_plain rfl rfl ?_
          have c2 : ∀ o, o < 4 → wx.cell? ⟨w.heap.size + 1 + 1, o, none⟩ = some (.int .u64 (dg X o)) := hM.v2.c
          have f2 : ∀ o, wx.frozen? ⟨w.heap.size + 1 + 1, o, none⟩ = false := hM.v2.f
          have z2 := hM.v2.hi
          unfold Wd
          go_simp
          exact ⟨_, u36, v6, v7, v8, v9, v10, v11, v12, v13, v14, v15, v16, v17, v18, v19, v20, v21, v22, v23, v24, v25, v26, v27, v28, v29, v30, v31, v32, v33, v34, rfl, M4_set2 hM, RI.keep (by decide) p0, RI.keep (by decide) p1⟩
        · have hd := hd _ rfl
          simp [Region.binds] at hd
          obtain rfl := p0 (by simp [hd])
          obtain rfl := p1 (by simp [hd])
          refine RI.wpOp_plain rfl rfl ?_
          have c3 : ∀ o, o < 4 → wx.cell? ⟨w.heap.size + 1 + 1 + 1, o, none⟩ = some (.int .u64 (dg R o)) := hM.v3.c
          have f3 : ∀ o, wx.frozen? ⟨w.heap.size + 1 + 1 + 1, o, none⟩ = false := hM.v3.f
          have z3 := hM.v3.hi
          unfold Wd
          go_simp
          exact ⟨_, _, v6, v7, v8, v9, v10, v11, v12, v13, v14, v15, v16, v17, v18, v19, v20, v21, v22, v23, v24, v25, v26, v27, v28, v29, v30, v31, v32, v33, v34, rfl, M4_set3 hM, RI.keep (by decide) p0, RI.keep (by decide) p1⟩
      · clear m7
        intro d x wx hI hd
        obtain ⟨u35, u36, v6, v7, v8, v9, v10, v11, v12, v13, v14, v15, v16, v17, v18, v19, v20, v21, v22, v23, v24, v25, v26, v27, v28, v29, v30, v31, v32, v33, v34, rfl, hM, p0, p1⟩ := hI
        obtain rfl := p0 (hd 0 (by decide))
        obtain rfl := p1 (hd 1 (by decide))
        clear p0 p1 hd
        go_wp2_with fail
        exact bodyPost_ret (v := .tuple #[Wd X, Wd R]) (resultQ _ _ w _ a b X R rfl rfl rfl hM) rfl ⟨rfl, hM.bel⟩
set_option maxHeartbeats 4000000 in
set_option maxRecDepth 100000 in
theorem tsdivmod_tf (a b N R A X Y : Nat) (KS : Hid (∀ w : World, Calls Try.prog 42 #[Wd a] w fun e w' => e = .returned (.bool true) ∧ Below w.heap.size w w')) (KT : Hid (∀ w : World, Calls Try.prog 42 #[Wd b] w fun e w' => e = .returned (.bool false) ∧ Below w.heap.size w w')) (KD : Hid (∀ w : World, Calls Try.prog 44 #[Wd A, Wd b] w fun e w' => e = .returned (.tuple #[Wd N, Wd R]) ∧ Below w.heap.size w w')) (KA : Hid (∀ w : World, Calls Try.prog 43 #[Wd a] w fun e w' => e = .returned (Wd A) ∧ Below w.heap.size w w')) (KN : Hid (∀ w : World, Calls Try.prog 43 #[Wd N] w fun e w' => e = .returned (Wd X) ∧ Below w.heap.size w w')) (KR : Hid (∀ w : World, Calls Try.prog 43 #[Wd R] w fun e w' => e = .returned (Wd Y) ∧ Below w.heap.size w w')) (w : World) :
    Calls Try.prog 14 #[Wd a, Wd b] w fun e w' => e = .returned (.tuple #[Wd X, Wd Y]) ∧ Below w.heap.size w w' := by
  have m0 := M4_start w a b 24
  conv => arg 3; unfold Wd
  go_enter Try.func14, Try.ntmps14
  go_upto_region 1 with fail
  generalize (((w.alloc (.cells #[.int .u64 (dg a 0), .int .u64 (dg a 1), .int .u64 (dg a 2), .int .u64 (dg a 3)] 24)).alloc (.cells #[.int .u64 (dg b 0), .int .u64 (dg b 1), .int .u64 (dg b 2), .int .u64 (dg b 3)] 24)).alloc (.cells #[.int .u64 0, .int .u64 0, .int .u64 0, .int .u64 0] 24)).alloc (.cells #[.int .u64 0, .int .u64 0, .int .u64 0, .int .u64 0] 24) = W0 at m0 ⊢
  refine RI.wp_region_inv (TQ1 w a b) (by kernel_rfl) (by kernel_rfl) ?_ ?_ ?_
  · exact ⟨undef, undef, undef, undef, 0, 0, 0, 0, rfl, M4_drew m0, nofun, nofun, nofun, nofun, nofun, nofun, nofun⟩
  · clear m0
    intro d x wx i hI hi hm
    obtain ⟨u6, u7, u8, u9, g6, g7, x6, x7, rfl, hM, p0, p1, p2, p3, pn, p4, p5⟩ := hI
    have hi' : i = 0 ∨ i = 1 ∨ i = 2 ∨ i = 3 ∨ i = 4 ∨ i = 5 := by simp at hi; omega
    have hd := hm.2
    have hf := hm.1
    clear hm hi
    rcases hi' with rfl | rfl | rfl | rfl | rfl | rfl
    · refine RI.wpOp_plain rfl rfl ?_
      have c0 : ∀ o, o < 4 → wx.cell? ⟨w.heap.size, o, none⟩ = some (.int .u64 (dg a o)) := hM.v0.c
      go_simp
      exact ⟨u6, u7, _, u9, g6, g7, x6, x7, rfl, hM, fun _ => rfl, RI.keep (by decide) p1, RI.keep (by decide) p2, RI.keep (by decide) p3, T_two (by decide) (by decide) pn, T_on (by decide) (by decide) p4, T_on (by decide) (by decide) p5⟩
    · refine RI.wpOp_plain rfl rfl ?_
      have c1 : ∀ o, o < 4 → wx.cell? ⟨w.heap.size + 1, o, none⟩ = some (.int .u64 (dg b o)) := hM.v1.c
      go_simp
      exact ⟨u6, u7, u8, _, g6, g7, x6, x7, rfl, hM, RI.keep (by decide) p0, fun _ => rfl, RI.keep (by decide) p2, RI.keep (by decide) p3, T_two (by decide) (by decide) pn, T_on (by decide) (by decide) p4, T_on (by decide) (by decide) p5⟩
    · have hz : w.heap.size + 1 + 1 + 1 + 1 ≤ wx.heap.size := hM.v3.hi
      refine RI.wpOp_plain rfl rfl ?_
      go_simp
      exact ⟨_, u7, u8, u9, wx.heap.size, g7, 0, x7, rfl, M4_al hM _, RI.keep (by decide) p0, RI.keep (by decide) p1, fun _ => ⟨rfl, Vb_new0 _ _ _ hz⟩, RI.keep (by decide) fun h => ⟨(p3 h).1, Vb_al (p3 h).2 _⟩, fun _ h => Nat.ne_of_gt (p3 (by rwa [RI.don_other _ _ _ (by decide)] at h)).2.hi, T_no (by decide) hf p4, T_on (by decide) (by decide) p5⟩
    · have hz : w.heap.size + 1 + 1 + 1 + 1 ≤ wx.heap.size := hM.v3.hi
      refine RI.wpOp_plain rfl rfl ?_
      go_simp
      exact ⟨u6, _, u8, u9, g6, wx.heap.size, x6, 0, rfl, M4_al hM _, RI.keep (by decide) p0, RI.keep (by decide) p1, RI.keep (by decide) fun h => ⟨(p2 h).1, Vb_al (p2 h).2 _⟩, fun _ => ⟨rfl, Vb_new0 _ _ _ hz⟩, fun h _ => Nat.ne_of_lt (p2 (by rwa [RI.don_other _ _ _ (by decide)] at h)).2.hi, T_on (by decide) (by decide) p4, T_no (by decide) hf p5⟩
    · have hd := hd _ rfl
      simp [Region.binds] at hd
      obtain ⟨rfl, v1⟩ := p2 (by simp [hd])
      obtain ⟨rfl, v2⟩ := p3 (by simp [hd])
      have hn : g6 ≠ g7 := pn (by simp [hd]) (by simp [hd])
      obtain rfl := p0 (by simp [hd])
      have c1 : ∀ o, o < 4 → wx.cell? ⟨g6, o, none⟩ = some (.int .u64 (dg x6 o)) := v1.c
      have f1 : ∀ o, wx.frozen? ⟨g6, o, none⟩ = false := v1.f
      have z1 := v1.hi
      have hl : w.heap.size + 1 + 1 + 1 < g6 := v1.lo
      refine RI.wpOp_plain rfl rfl ?_
      unfold Wd
      go_simp
      exact ⟨_, _, _, u9, g6, g7, a, x7, rfl, M4_o4 hM hl, RI.keep (by decide) fun _ => rfl, RI.keep (by decide) p1, RI.keep (by decide) fun _ => ⟨rfl, Vb_set4 v1⟩, RI.keep (by decide) fun _ => ⟨rfl, Vb_o4 v2 hn⟩, T_two (by decide) (by decide) pn, fun _ => ⟨by simp [RI.don, hd], rfl⟩, T_on (by decide) (by decide) p5⟩
    · have hd := hd _ rfl
      simp [Region.binds] at hd
      obtain ⟨rfl, v1⟩ := p3 (by simp [hd])
      obtain ⟨rfl, v2⟩ := p2 (by simp [hd])
      have hn : g6 ≠ g7 := pn (by simp [hd]) (by simp [hd])
      obtain rfl := p1 (by simp [hd])
      obtain rfl := p0 (by simp [hd])
      have c1 : ∀ o, o < 4 → wx.cell? ⟨g7, o, none⟩ = some (.int .u64 (dg x7 o)) := v1.c
      have f1 : ∀ o, wx.frozen? ⟨g7, o, none⟩ = false := v1.f
      have z1 := v1.hi
      have hl : w.heap.size + 1 + 1 + 1 < g7 := v1.lo
      refine RI.wpOp_plain rfl rfl ?_
      unfold Wd
      go_simp
      exact ⟨_, _, _, _, g6, g7, x6, b, rfl, M4_o4 hM hl, RI.keep (by decide) fun _ => rfl, RI.keep (by decide) fun _ => rfl, RI.keep (by decide) fun _ => ⟨rfl, Vb_o4 v2 hn.symm⟩, RI.keep (by decide) fun _ => ⟨rfl, Vb_set4 v1⟩, T_two (by decide) (by decide) pn, T_on (by decide) (by decide) p4, fun _ => ⟨by simp [RI.don, hd], rfl⟩⟩
  · clear m0
    intro d x wx hI hd
    obtain ⟨u6, u7, u8, u9, g6, g7, x6, x7, rfl, hM, p0, p1, p2, p3, pn, p4, p5⟩ := hI
    obtain ⟨rfl, v6⟩ := p2 (hd 2 (by decide))
    obtain ⟨rfl, v7⟩ := p3 (hd 3 (by decide))
    have hn := pn (hd 2 (by decide)) (hd 3 (by decide))
    rw [(p4 (hd 4 (by decide))).2] at v6
    rw [(p5 (hd 5 (by decide))).2] at v7
    obtain rfl := p0 (hd 0 (by decide))
    obtain rfl := p1 (hd 1 (by decide))
    have m1 : M6 w a b 0 0 g6 a g7 b wx := ⟨hM, v6, v7, hn⟩
    clear p0 p1 p2 p3 p4 p5 pn hd hM v6 v7 hn
    generalize wx = W1 at *
    have c0 : ∀ o, o < 4 → W1.cell? ⟨w.heap.size, o, none⟩ = some (.int .u64 (dg a o)) := m1.m.v0.c
    have c1 : ∀ o, o < 4 → W1.cell? ⟨w.heap.size + 1, o, none⟩ = some (.int .u64 (dg b o)) := m1.m.v1.c
    have c2 : ∀ o, o < 4 → W1.cell? ⟨w.heap.size + 1 + 1, o, none⟩ = some (.int .u64 (dg 0 o)) := m1.m.v2.c
    have c3 : ∀ o, o < 4 → W1.cell? ⟨w.heap.size + 1 + 1 + 1, o, none⟩ = some (.int .u64 (dg 0 o)) := m1.m.v3.c
    have f2 : ∀ o, W1.frozen? ⟨w.heap.size + 1 + 1, o, none⟩ = false := m1.m.v2.f
    have f3 : ∀ o, W1.frozen? ⟨w.heap.size + 1 + 1 + 1, o, none⟩ = false := m1.m.v3.f
    have z0 := m1.m.v0.hi
    have z1 := m1.m.v1.hi
    have z2 := m1.m.v2.hi
    have z3 := m1.m.v3.hi
    have c6 : ∀ o, o < 4 → W1.cell? ⟨g6, o, none⟩ = some (.int .u64 (dg a o)) := m1.v6.c
    have c7 : ∀ o, o < 4 → W1.cell? ⟨g7, o, none⟩ = some (.int .u64 (dg b o)) := m1.v7.c
    have f6 : ∀ o, W1.frozen? ⟨g6, o, none⟩ = false := m1.v6.f
    have f7 : ∀ o, W1.frozen? ⟨g7, o, none⟩ = false := m1.v7.f
    have z6 := m1.v6.hi
    have z7 := m1.v7.hi
    have HM : Hid (M6 w a b 0 0 g6 a g7 b W1) := m1
    clear m1
    go_wp2_with fail
    refine (KS.out _).mono ?_
    rintro e y2 ⟨rfl, hb2⟩
    have m2 := M6_below HM.out hb2
    clear c0 c1 c2 c3 f2 f3 z0 z1 z2 z3 c6 c7 f6 f7 z6 z7 hb2 HM
    have c0 : ∀ o, o < 4 → y2.cell? ⟨w.heap.size, o, none⟩ = some (.int .u64 (dg a o)) := m2.m.v0.c
    have c1 : ∀ o, o < 4 → y2.cell? ⟨w.heap.size + 1, o, none⟩ = some (.int .u64 (dg b o)) := m2.m.v1.c
    have c2 : ∀ o, o < 4 → y2.cell? ⟨w.heap.size + 1 + 1, o, none⟩ = some (.int .u64 (dg 0 o)) := m2.m.v2.c
    have c3 : ∀ o, o < 4 → y2.cell? ⟨w.heap.size + 1 + 1 + 1, o, none⟩ = some (.int .u64 (dg 0 o)) := m2.m.v3.c
    have f2 : ∀ o, y2.frozen? ⟨w.heap.size + 1 + 1, o, none⟩ = false := m2.m.v2.f
    have f3 : ∀ o, y2.frozen? ⟨w.heap.size + 1 + 1 + 1, o, none⟩ = false := m2.m.v3.f
    have z0 := m2.m.v0.hi
    have z1 := m2.m.v1.hi
    have z2 := m2.m.v2.hi
    have z3 := m2.m.v3.hi
    have c6 : ∀ o, o < 4 → y2.cell? ⟨g6, o, none⟩ = some (.int .u64 (dg a o)) := m2.v6.c
    have c7 : ∀ o, o < 4 → y2.cell? ⟨g7, o, none⟩ = some (.int .u64 (dg b o)) := m2.v7.c
    have f6 : ∀ o, y2.frozen? ⟨g6, o, none⟩ = false := m2.v6.f
    have f7 : ∀ o, y2.frozen? ⟨g7, o, none⟩ = false := m2.v7.f
    have z6 := m2.v6.hi
    have z7 := m2.v7.hi
    have HM : Hid (M6 w a b 0 0 g6 a g7 b y2) := m2
    clear m2
    go_wp2_with fail
    refine (KA.out _).mono ?_
    rintro e y3 ⟨rfl, hb3⟩
    have m3 := M6_below HM.out hb3
    clear c0 c1 c2 c3 f2 f3 z0 z1 z2 z3 c6 c7 f6 f7 z6 z7 hb3 HM
    have c0 : ∀ o, o < 4 → y3.cell? ⟨w.heap.size, o, none⟩ = some (.int .u64 (dg a o)) := m3.m.v0.c
    have c1 : ∀ o, o < 4 → y3.cell? ⟨w.heap.size + 1, o, none⟩ = some (.int .u64 (dg b o)) := m3.m.v1.c
    have c2 : ∀ o, o < 4 → y3.cell? ⟨w.heap.size + 1 + 1, o, none⟩ = some (.int .u64 (dg 0 o)) := m3.m.v2.c
    have c3 : ∀ o, o < 4 → y3.cell? ⟨w.heap.size + 1 + 1 + 1, o, none⟩ = some (.int .u64 (dg 0 o)) := m3.m.v3.c
    have f2 : ∀ o, y3.frozen? ⟨w.heap.size + 1 + 1, o, none⟩ = false := m3.m.v2.f
    have f3 : ∀ o, y3.frozen? ⟨w.heap.size + 1 + 1 + 1, o, none⟩ = false := m3.m.v3.f
    have z0 := m3.m.v0.hi
    have z1 := m3.m.v1.hi
    have z2 := m3.m.v2.hi
    have z3 := m3.m.v3.hi
    have c6 : ∀ o, o < 4 → y3.cell? ⟨g6, o, none⟩ = some (.int .u64 (dg a o)) := m3.v6.c
    have c7 : ∀ o, o < 4 → y3.cell? ⟨g7, o, none⟩ = some (.int .u64 (dg b o)) := m3.v7.c
    have f6 : ∀ o, y3.frozen? ⟨g6, o, none⟩ = false := m3.v6.f
    have f7 : ∀ o, y3.frozen? ⟨g7, o, none⟩ = false := m3.v7.f
    have z6 := m3.v6.hi
    have z7 := m3.v7.hi
    have HM : Hid (M6 w a b 0 0 g6 A g7 b ((((y3.setCell ⟨g6, 0, none⟩ (.int .u64 (dg A 0))).setCell ⟨g6, 1, none⟩ (.int .u64 (dg A 1))).setCell ⟨g6, 2, none⟩ (.int .u64 (dg A 2))).setCell ⟨g6, 3, none⟩ (.int .u64 (dg A 3)))) := M6_set6 (m := A) m3
    clear m3
    unfold Wd
    go_upto_region 4 with fail
    have m4 := HM.out
    clear HM c0 c1 c2 c3 f2 f3 z0 z1 z2 z3 c6 c7 f6 f7 z6 z7
    generalize (((y3.setCell ⟨g6, 0, none⟩ (.int .u64 (dg A 0))).setCell ⟨g6, 1, none⟩ (.int .u64 (dg A 1))).setCell ⟨g6, 2, none⟩ (.int .u64 (dg A 2))).setCell ⟨g6, 3, none⟩ (.int .u64 (dg A 3)) = y4 at m4 ⊢
    have c0 : ∀ o, o < 4 → y4.cell? ⟨w.heap.size, o, none⟩ = some (.int .u64 (dg a o)) := m4.m.v0.c
    have c1 : ∀ o, o < 4 → y4.cell? ⟨w.heap.size + 1, o, none⟩ = some (.int .u64 (dg b o)) := m4.m.v1.c
    have c2 : ∀ o, o < 4 → y4.cell? ⟨w.heap.size + 1 + 1, o, none⟩ = some (.int .u64 (dg 0 o)) := m4.m.v2.c
    have c3 : ∀ o, o < 4 → y4.cell? ⟨w.heap.size + 1 + 1 + 1, o, none⟩ = some (.int .u64 (dg 0 o)) := m4.m.v3.c
    have f2 : ∀ o, y4.frozen? ⟨w.heap.size + 1 + 1, o, none⟩ = false := m4.m.v2.f
    have f3 : ∀ o, y4.frozen? ⟨w.heap.size + 1 + 1 + 1, o, none⟩ = false := m4.m.v3.f
    have z0 := m4.m.v0.hi
    have z1 := m4.m.v1.hi
    have z2 := m4.m.v2.hi
    have z3 := m4.m.v3.hi
    have c6 : ∀ o, o < 4 → y4.cell? ⟨g6, o, none⟩ = some (.int .u64 (dg A o)) := m4.v6.c
    have c7 : ∀ o, o < 4 → y4.cell? ⟨g7, o, none⟩ = some (.int .u64 (dg b o)) := m4.v7.c
    have f6 : ∀ o, y4.frozen? ⟨g6, o, none⟩ = false := m4.v6.f
    have f7 : ∀ o, y4.frozen? ⟨g7, o, none⟩ = false := m4.v7.f
    have z6 := m4.v6.hi
    have z7 := m4.v7.hi
    have HM : Hid (M6 w a b 0 0 g6 A g7 b y4) := m4
    clear m4
    go_wp2_with fail
    refine (KT.out _).mono ?_
    rintro e y5 ⟨rfl, hb5⟩
    have m5 := M6_below HM.out hb5
    clear c0 c1 c2 c3 f2 f3 z0 z1 z2 z3 c6 c7 f6 f7 z6 z7 hb5 HM
    have c0 : ∀ o, o < 4 → y5.cell? ⟨w.heap.size, o, none⟩ = some (.int .u64 (dg a o)) := m5.m.v0.c
    have c1 : ∀ o, o < 4 → y5.cell? ⟨w.heap.size + 1, o, none⟩ = some (.int .u64 (dg b o)) := m5.m.v1.c
    have c2 : ∀ o, o < 4 → y5.cell? ⟨w.heap.size + 1 + 1, o, none⟩ = some (.int .u64 (dg 0 o)) := m5.m.v2.c
    have c3 : ∀ o, o < 4 → y5.cell? ⟨w.heap.size + 1 + 1 + 1, o, none⟩ = some (.int .u64 (dg 0 o)) := m5.m.v3.c
    have f2 : ∀ o, y5.frozen? ⟨w.heap.size + 1 + 1, o, none⟩ = false := m5.m.v2.f
    have f3 : ∀ o, y5.frozen? ⟨w.heap.size + 1 + 1 + 1, o, none⟩ = false := m5.m.v3.f
    have z0 := m5.m.v0.hi
    have z1 := m5.m.v1.hi
    have z2 := m5.m.v2.hi
    have z3 := m5.m.v3.hi
    have c6 : ∀ o, o < 4 → y5.cell? ⟨g6, o, none⟩ = some (.int .u64 (dg A o)) := m5.v6.c
    have c7 : ∀ o, o < 4 → y5.cell? ⟨g7, o, none⟩ = some (.int .u64 (dg b o)) := m5.v7.c
    have f6 : ∀ o, y5.frozen? ⟨g6, o, none⟩ = false := m5.v6.f
    have f7 : ∀ o, y5.frozen? ⟨g7, o, none⟩ = false := m5.v7.f
    have z6 := m5.v6.hi
    have z7 := m5.v7.hi
    have HM : Hid (M6 w a b 0 0 g6 A g7 b y5) := m5
    clear m5
    go_wp2_with fail
    refine (KD.out _).mono ?_
    rintro e y6 ⟨rfl, hb6⟩
    have m6 := M6_below HM.out hb6
    clear c0 c1 c2 c3 f2 f3 z0 z1 z2 z3 c6 c7 f6 f7 z6 z7 hb6 HM
    have c0 : ∀ o, o < 4 → y6.cell? ⟨w.heap.size, o, none⟩ = some (.int .u64 (dg a o)) := m6.m.v0.c
    have c1 : ∀ o, o < 4 → y6.cell? ⟨w.heap.size + 1, o, none⟩ = some (.int .u64 (dg b o)) := m6.m.v1.c
    have c2 : ∀ o, o < 4 → y6.cell? ⟨w.heap.size + 1 + 1, o, none⟩ = some (.int .u64 (dg 0 o)) := m6.m.v2.c
    have c3 : ∀ o, o < 4 → y6.cell? ⟨w.heap.size + 1 + 1 + 1, o, none⟩ = some (.int .u64 (dg 0 o)) := m6.m.v3.c
    have f2 : ∀ o, y6.frozen? ⟨w.heap.size + 1 + 1, o, none⟩ = false := m6.m.v2.f
    have f3 : ∀ o, y6.frozen? ⟨w.heap.size + 1 + 1 + 1, o, none⟩ = false := m6.m.v3.f
    have z0 := m6.m.v0.hi
    have z1 := m6.m.v1.hi
    have z2 := m6.m.v2.hi
    have z3 := m6.m.v3.hi
    have c6 : ∀ o, o < 4 → y6.cell? ⟨g6, o, none⟩ = some (.int .u64 (dg A o)) := m6.v6.c
    have c7 : ∀ o, o < 4 → y6.cell? ⟨g7, o, none⟩ = some (.int .u64 (dg b o)) := m6.v7.c
    have f6 : ∀ o, y6.frozen? ⟨g6, o, none⟩ = false := m6.v6.f
    have f7 : ∀ o, y6.frozen? ⟨g7, o, none⟩ = false := m6.v7.f
    have z6 := m6.v6.hi
    have z7 := m6.v7.hi
    have HM : Hid (M4 w a b N R ((((((((y6.setCell ⟨w.heap.size + 1 + 1, 0, none⟩ (.int .u64 (dg N 0))).setCell ⟨w.heap.size + 1 + 1, 1, none⟩ (.int .u64 (dg N 1))).setCell ⟨w.heap.size + 1 + 1, 2, none⟩ (.int .u64 (dg N 2))).setCell ⟨w.heap.size + 1 + 1, 3, none⟩ (.int .u64 (dg N 3))).setCell ⟨w.heap.size + 1 + 1 + 1, 0, none⟩ (.int .u64 (dg R 0))).setCell ⟨w.heap.size + 1 + 1 + 1, 1, none⟩ (.int .u64 (dg R 1))).setCell ⟨w.heap.size + 1 + 1 + 1, 2, none⟩ (.int .u64 (dg R 2))).setCell ⟨w.heap.size + 1 + 1 + 1, 3, none⟩ (.int .u64 (dg R 3)))) := M4_set3 (m := R) (M4_set2 (m := N) m6.m)
    clear m6
    unfold Wd
    go_upto_region 7 with fail
    have hM := HM.out
    clear HM c0 c1 c2 c3 f2 f3 z0 z1 z2 z3 c6 c7 f6 f7 z6 z7
    generalize (((((((y6.setCell ⟨w.heap.size + 1 + 1, 0, none⟩ (.int .u64 (dg N 0))).setCell ⟨w.heap.size + 1 + 1, 1, none⟩ (.int .u64 (dg N 1))).setCell ⟨w.heap.size + 1 + 1, 2, none⟩ (.int .u64 (dg N 2))).setCell ⟨w.heap.size + 1 + 1, 3, none⟩ (.int .u64 (dg N 3))).setCell ⟨w.heap.size + 1 + 1 + 1, 0, none⟩ (.int .u64 (dg R 0))).setCell ⟨w.heap.size + 1 + 1 + 1, 1, none⟩ (.int .u64 (dg R 1))).setCell ⟨w.heap.size + 1 + 1 + 1, 2, none⟩ (.int .u64 (dg R 2))).setCell ⟨w.heap.size + 1 + 1 + 1, 3, none⟩ (.int .u64 (dg R 3)) = y7 at hM ⊢
    refine RI.wp_region_inv (TQ7 w a b N R true false) (by kernel_rfl) (by kernel_rfl) ?_ ?_ ?_
    · exact ⟨undef, undef, undef, undef, undef, _, _, _, _, _, _, _, _, _, _, _, _, _, _, _, _, _, _, rfl, M4_drew hM, nofun, nofun, nofun, nofun, nofun⟩
    · clear hM
      intro d x wx i hI hi hm
      obtain ⟨u24, u25, u26, u27, u28, v6, v7, v8, v9, v10, v11, v12, v13, v14, v15, v16, v17, v18, v19, v20, v21, v22, v23, rfl, hM, p0, p1, p2, p3, p4⟩ := hI
      have hi' : i = 0 ∨ i = 1 ∨ i = 2 ∨ i = 3 ∨ i = 4 := by simp at hi; omega
      have hd := hm.2
      clear hm hi
      rcases hi' with rfl | rfl | rfl | rfl | rfl
      · refine RI.wpOp_plain rfl rfl ?_
        have c0 : ∀ o, o < 4 → wx.cell? ⟨w.heap.size, o, none⟩ = some (.int .u64 (dg a o)) := hM.v0.c
        go_simp
        exact ⟨_, u25, u26, u27, u28, v6, v7, v8, v9, v10, v11, v12, v13, v14, v15, v16, v17, v18, v19, v20, v21, v22, v23, rfl, hM, fun _ => rfl, RI.keep (by decide) p1, RI.keep (by decide) p2, RI.keep (by decide) p3, RI.keep (by decide) p4⟩
      · have hd := hd _ rfl
        simp [Region.binds] at hd
        obtain rfl := p0 (by simp [hd])
        refine RI.wpOp_plain rfl rfl ?_
        go_simp
        refine (KS.out _).mono ?_
        rintro e w1 ⟨rfl, hb1⟩
        exact ⟨_, _, u26, u27, u28, v6, v7, v8, v9, v10, v11, v12, v13, v14, v15, v16, v17, v18, v19, v20, v21, v22, v23, rfl, M4_below hM hb1, RI.keep (by decide) p0, fun _ => rfl, RI.keep (by decide) p2, RI.keep (by decide) p3, RI.keep (by decide) p4⟩
      · refine RI.wpOp_plain rfl rfl ?_
        have c1 : ∀ o, o < 4 → wx.cell? ⟨w.heap.size + 1, o, none⟩ = some (.int .u64 (dg b o)) := hM.v1.c
        go_simp
        exact ⟨u24, u25, _, u27, u28, v6, v7, v8, v9, v10, v11, v12, v13, v14, v15, v16, v17, v18, v19, v20, v21, v22, v23, rfl, hM, RI.keep (by decide) p0, RI.keep (by decide) p1, fun _ => rfl, RI.keep (by decide) p3, RI.keep (by decide) p4⟩
      · have hd := hd _ rfl
        simp [Region.binds] at hd
        obtain rfl := p1 (by simp [hd])
        obtain rfl := p2 (by simp [hd])
        refine RI.wpOp_plain rfl rfl ?_
        go_simp
        refine (KT.out _).mono ?_
        rintro e w1 ⟨rfl, hb1⟩
        exact ⟨u24, _, _, _, u28, v6, v7, v8, v9, v10, v11, v12, v13, v14, v15, v16, v17, v18, v19, v20, v21, v22, v23, rfl, M4_below hM hb1, RI.keep (by decide) p0, RI.keep (by decide) p1, RI.keep (by decide) p2, fun _ => rfl, RI.keep (by decide) p4⟩
      · have hd := hd _ rfl
        simp [Region.binds] at hd
        obtain rfl := p1 (by simp [hd])
        obtain rfl := p3 (by simp [hd])
        refine RI.wpOp_plain rfl rfl ?_
        go_simp
        exact ⟨u24, _, u26, _, _, v6, v7, v8, v9, v10, v11, v12, v13, v14, v15, v16, v17, v18, v19, v20, v21, v22, v23, rfl, hM, RI.keep (by decide) p0, RI.keep (by decide) p1, RI.keep (by decide) p2, RI.keep (by decide) p3, fun _ => rfl⟩
    · clear hM
      intro d x wx hI hd
      obtain ⟨u24, u25, u26, u27, u28, v6, v7, v8, v9, v10, v11, v12, v13, v14, v15, v16, v17, v18, v19, v20, v21, v22, v23, rfl, hM, p0, p1, p2, p3, p4⟩ := hI
      obtain rfl := p0 (hd 0 (by decide))
      obtain rfl := p1 (hd 1 (by decide))
      obtain rfl := p2 (hd 2 (by decide))
      obtain rfl := p3 (hd 3 (by decide))
      obtain rfl := p4 (hd 4 (by decide))
      clear p0 p1 p2 p3 p4 hd
      have c0 : ∀ o, o < 4 → wx.cell? ⟨w.heap.size, o, none⟩ = some (.int .u64 (dg a o)) := hM.v0.c
      have c1 : ∀ o, o < 4 → wx.cell? ⟨w.heap.size + 1, o, none⟩ = some (.int .u64 (dg b o)) := hM.v1.c
      have c2 : ∀ o, o < 4 → wx.cell? ⟨w.heap.size + 1 + 1, o, none⟩ = some (.int .u64 (dg N o)) := hM.v2.c
      have c3 : ∀ o, o < 4 → wx.cell? ⟨w.heap.size + 1 + 1 + 1, o, none⟩ = some (.int .u64 (dg R o)) := hM.v3.c
      have f2 : ∀ o, wx.frozen? ⟨w.heap.size + 1 + 1, o, none⟩ = false := hM.v2.f
      have f3 : ∀ o, wx.frozen? ⟨w.heap.size + 1 + 1 + 1, o, none⟩ = false := hM.v3.f
      have z0 := hM.v0.hi
      have z1 := hM.v1.hi
      have z2 := hM.v2.hi
      have z3 := hM.v3.hi
      have HM : Hid (M4 w a b N R wx) := hM
      clear hM
      go_wp2_with fail
      refine (KN.out _).mono ?_
      rintro e w4 ⟨rfl, hb4⟩
      have m4 := M4_below HM.out hb4
      clear c0 c1 c2 c3 f2 f3 z0 z1 z2 z3 hb4 HM
      have c0 : ∀ o, o < 4 → w4.cell? ⟨w.heap.size, o, none⟩ = some (.int .u64 (dg a o)) := m4.v0.c
      have c1 : ∀ o, o < 4 → w4.cell? ⟨w.heap.size + 1, o, none⟩ = some (.int .u64 (dg b o)) := m4.v1.c
      have c2 : ∀ o, o < 4 → w4.cell? ⟨w.heap.size + 1 + 1, o, none⟩ = some (.int .u64 (dg N o)) := m4.v2.c
      have c3 : ∀ o, o < 4 → w4.cell? ⟨w.heap.size + 1 + 1 + 1, o, none⟩ = some (.int .u64 (dg R o)) := m4.v3.c
      have f2 : ∀ o, w4.frozen? ⟨w.heap.size + 1 + 1, o, none⟩ = false := m4.v2.f
      have f3 : ∀ o, w4.frozen? ⟨w.heap.size + 1 + 1 + 1, o, none⟩ = false := m4.v3.f
      have z0 := m4.v0.hi
      have z1 := m4.v1.hi
      have z2 := m4.v2.hi
      have z3 := m4.v3.hi
      have HM : Hid (M4 w a b X R _) := M4_set2 (m := X) m4
      clear m4
      unfold Wd
      go_wp2_with fail
      refine (KS.out _).mono ?_
      rintro e w5 ⟨rfl, hb5⟩
      have m5 := M4_below HM.out hb5
      clear c0 c1 c2 c3 f2 f3 z0 z1 z2 z3 hb5 HM
      have c0 : ∀ o, o < 4 → w5.cell? ⟨w.heap.size, o, none⟩ = some (.int .u64 (dg a o)) := m5.v0.c
      have c1 : ∀ o, o < 4 → w5.cell? ⟨w.heap.size + 1, o, none⟩ = some (.int .u64 (dg b o)) := m5.v1.c
      have c2 : ∀ o, o < 4 → w5.cell? ⟨w.heap.size + 1 + 1, o, none⟩ = some (.int .u64 (dg X o)) := m5.v2.c
      have c3 : ∀ o, o < 4 → w5.cell? ⟨w.heap.size + 1 + 1 + 1, o, none⟩ = some (.int .u64 (dg R o)) := m5.v3.c
      have f2 : ∀ o, w5.frozen? ⟨w.heap.size + 1 + 1, o, none⟩ = false := m5.v2.f
      have f3 : ∀ o, w5.frozen? ⟨w.heap.size + 1 + 1 + 1, o, none⟩ = false := m5.v3.f
      have z0 := m5.v0.hi
      have z1 := m5.v1.hi
      have z2 := m5.v2.hi
      have z3 := m5.v3.hi
      have HM : Hid (M4 w a b X R w5) := m5
      clear m5
      go_wp2_with fail
      refine (KR.out _).mono ?_
      rintro e w6 ⟨rfl, hb6⟩
      have m6 := M4_below HM.out hb6
      clear c0 c1 c2 c3 f2 f3 z0 z1 z2 z3 hb6 HM
      have c0 : ∀ o, o < 4 → w6.cell? ⟨w.heap.size, o, none⟩ = some (.int .u64 (dg a o)) := m6.v0.c
      have c1 : ∀ o, o < 4 → w6.cell? ⟨w.heap.size + 1, o, none⟩ = some (.int .u64 (dg b o)) := m6.v1.c
      have c2 : ∀ o, o < 4 → w6.cell? ⟨w.heap.size + 1 + 1, o, none⟩ = some (.int .u64 (dg X o)) := m6.v2.c
      have c3 : ∀ o, o < 4 → w6.cell? ⟨w.heap.size + 1 + 1 + 1, o, none⟩ = some (.int .u64 (dg R o)) := m6.v3.c
      have f2 : ∀ o, w6.frozen? ⟨w.heap.size + 1 + 1, o, none⟩ = false := m6.v2.f
      have f3 : ∀ o, w6.frozen? ⟨w.heap.size + 1 + 1 + 1, o, none⟩ = false := m6.v3.f
      have z0 := m6.v0.hi
      have z1 := m6.v1.hi
      have z2 := m6.v2.hi
      have z3 := m6.v3.hi
      have m5 : M4 w a b X Y _ := M4_set3 (m := Y) m6
      clear m6
      unfold Wd
      have HM : Hid _ := m5
      clear m5
      go_upto_region 11 with fail
      have m7 := HM.out
      clear HM c0 c1 c2 c3 f2 f3 z0 z1 z2 z3
      refine RI.wp_region_inv (TQ11 w a b X Y) (by kernel_rfl) (by kernel_rfl) ?_ ?_ ?_
      · exact ⟨undef, undef, _, _, _, _, _, _, _, _, _, _, _, _, _, _, _, _, _, _, _, _, _, _, _, _, _, _, _, _, _, rfl, M4_drew m7, nofun, nofun⟩
      · clear m7
        intro d x wx i hI hi hm
        obtain ⟨u35, u36, v6, v7, v8, v9, v10, v11, v12, v13, v14, v15, v16, v17, v18, v19, v20, v21, v22, v23, v24, v25, v26, v27, v28, v29, v30, v31, v32, v33, v34, rfl, hM, p0, p1⟩ := hI
        have hi' : i = 0 ∨ i = 1 ∨ i = 2 ∨ i = 3 := by simp at hi; omega
        have hd := hm.2
        clear hm hi
        rcases hi' with rfl | rfl | rfl | rfl
        · refine RI.wpOp_plain rfl rfl ?_
          have c2 : ∀ o, o < 4 → wx.cell? ⟨w.heap.size + 1 + 1, o, none⟩ = some (.int .u64 (dg X o)) := hM.v2.c
          go_simp
          exact ⟨_, u36, v6, v7, v8, v9, v10, v11, v12, v13, v14, v15, v16, v17, v18, v19, v20, v21, v22, v23, v24, v25, v26, v27, v28, v29, v30, v31, v32, v33, v34, rfl, hM, fun _ => rfl, RI.keep (by decide) p1⟩
        · refine RI.wpOp_plain rfl rfl ?_
          have c3 : ∀ o, o < 4 → wx.cell? ⟨w.heap.size + 1 + 1 + 1, o, none⟩ = some (.int .u64 (dg Y o)) := hM.v3.c
          go_simp
          exact ⟨u35, _, v6, v7, v8, v9, v10, v11, v12, v13, v14, v15, v16, v17, v18, v19, v20, v21, v22, v23, v24, v25, v26, v27, v28, v29, v30, v31, v32, v33, v34, rfl, hM, RI.keep (by decide) p0, fun _ => rfl⟩
        · have hd := hd _ rfl
          simp [Region.binds] at hd
          obtain rfl := p0 (by simp [hd])
          refine RI.wpOp_plain rfl rfl ?_
          have c2 : ∀ o, o < 4 → wx.cell? ⟨w.heap.size + 1 + 1, o, none⟩ = some (.int .u64 (dg X o)) := hM.v2.c
          have f2 : ∀ o, wx.frozen? ⟨w.heap.size + 1 + 1, o, none⟩ = false := hM.v2.f
          have z2 := hM.v2.hi
          unfold Wd
          go_simp
          exact ⟨_, u36, v6, v7, v8, v9, v10, v11, v12, v13, v14, v15, v16, v17, v18, v19, v20, v21, v22, v23, v24, v25, v26, v27, v28, v29, v30, v31, v32, v33, v34, rfl, M4_set2 hM, RI.keep (by decide) p0, RI.keep (by decide) p1⟩
        · have hd := hd _ rfl
          simp [Region.binds] at hd
          obtain rfl := p0 (by simp [hd])
          obtain rfl := p1 (by simp [hd])
          refine RI.wpOp_plain rfl rfl ?_
          have c3 : ∀ o, o < 4 → wx.cell? ⟨w.heap.size + 1 + 1 + 1, o, none⟩ = some (.int .u64 (dg Y o)) := hM.v3.c
          have f3 : ∀ o, wx.frozen? ⟨w.heap.size + 1 + 1 + 1, o, none⟩ = false := hM.v3.f
          have z3 := hM.v3.hi
          unfold Wd
          go_simp
          exact ⟨_, _, v6, v7, v8, v9, v10, v11, v12, v13, v14, v15, v16, v17, v18, v19, v20, v21, v22, v23, v24, v25, v26, v27, v28, v29, v30, v31, v32, v33, v34, rfl, M4_set3 hM, RI.keep (by decide) p0, RI.keep (by decide) p1⟩
      · clear m7
        intro d x wx hI hd
        obtain ⟨u35, u36, v6, v7, v8, v9, v10, v11, v12, v13, v14, v15, v16, v17, v18, v19, v20, v21, v22, v23, v24, v25, v26, v27, v28, v29, v30, v31, v32, v33, v34, rfl, hM, p0, p1⟩ := hI
        obtain rfl := p0 (hd 0 (by decide))
        obtain rfl := p1 (hd 1 (by decide))
        clear p0 p1 hd
        go_wp2_with fail
        exact bodyPost_ret (v := .tuple #[Wd X, Wd Y]) (resultQ _ _ w _ a b X Y rfl rfl rfl hM) rfl ⟨rfl, hM.bel⟩
set_option maxHeartbeats 4000000 in
set_option maxRecDepth 100000 in
theorem tsdivmod_tt (a b N R A B Y : Nat) (KS : Hid (∀ w : World, Calls Try.prog 42 #[Wd a] w fun e w' => e = .returned (.bool true) ∧ Below w.heap.size w w')) (KT : Hid (∀ w : World, Calls Try.prog 42 #[Wd b] w fun e w' => e = .returned (.bool true) ∧ Below w.heap.size w w')) (KD : Hid (∀ w : World, Calls Try.prog 44 #[Wd A, Wd B] w fun e w' => e = .returned (.tuple #[Wd N, Wd R]) ∧ Below w.heap.size w w')) (KA : Hid (∀ w : World, Calls Try.prog 43 #[Wd a] w fun e w' => e = .returned (Wd A) ∧ Below w.heap.size w w')) (KB : Hid (∀ w : World, Calls Try.prog 43 #[Wd b] w fun e w' => e = .returned (Wd B) ∧ Below w.heap.size w w')) (KR : Hid (∀ w : World, Calls Try.prog 43 #[Wd R] w fun e w' => e = .returned (Wd Y) ∧ Below w.heap.size w w')) (w : World) :
    Calls Try.prog 14 #[Wd a, Wd b] w fun e w' => e = .returned (.tuple #[Wd N, Wd Y]) ∧ Below w.heap.size w w' := by
  have m0 := M4_start w a b 24
  conv => arg 3; unfold Wd
  go_enter Try.func14, Try.ntmps14
  go_upto_region 1 with fail
  generalize (((w.alloc (.cells #[.int .u64 (dg a 0), .int .u64 (dg a 1), .int .u64 (dg a 2), .int .u64 (dg a 3)] 24)).alloc (.cells #[.int .u64 (dg b 0), .int .u64 (dg b 1), .int .u64 (dg b 2), .int .u64 (dg b 3)] 24)).alloc (.cells #[.int .u64 0, .int .u64 0, .int .u64 0, .int .u64 0] 24)).alloc (.cells #[.int .u64 0, .int .u64 0, .int .u64 0, .int .u64 0] 24) = W0 at m0 ⊢
  refine RI.wp_region_inv (TQ1 w a b) (by kernel_rfl) (by kernel_rfl) ?_ ?_ ?_
  · exact ⟨undef, undef, undef, undef, 0, 0, 0, 0, rfl, M4_drew m0, nofun, nofun, nofun, nofun, nofun, nofun, nofun⟩
  · clear m0
    intro d x wx i hI hi hm
    obtain ⟨u6, u7, u8, u9, g6, g7, x6, x7, rfl, hM, p0, p1, p2, p3, pn, p4, p5⟩ := hI
    have hi' : i = 0 ∨ i = 1 ∨ i = 2 ∨ i = 3 ∨ i = 4 ∨ i = 5 := by simp at hi; omega
    have hd := hm.2
    have hf := hm.1
    clear hm hi
    rcases hi' with rfl | rfl | rfl | rfl | rfl | rfl
    · refine RI.wpOp_plain rfl rfl ?_
      have c0 : ∀ o, o < 4 → wx.cell? ⟨w.heap.size, o, none⟩ = some (.int .u64 (dg a o)) := hM.v0.c
      go_simp
      exact ⟨u6, u7, _, u9, g6, g7, x6, x7, rfl, hM, fun _ => rfl, RI.keep (by decide) p1, RI.keep (by decide) p2, RI.keep (by decide) p3, T_two (by decide) (by decide) pn, T_on (by decide) (by decide) p4, T_on (by decide) (by decide) p5⟩
    · refine RI.wpOp_plain rfl rfl ?_
      have c1 : ∀ o, o < 4 → wx.cell? ⟨w.heap.size + 1, o, none⟩ = some (.int .u64 (dg b o)) := hM.v1.c
      go_simp
      exact ⟨u6, u7, u8, _, g6, g7, x6, x7, rfl, hM, RI.keep (by decide) p0, fun _ => rfl, RI.keep (by decide) p2, RI.keep (by decide) p3, T_two (by decide) (by decide) pn, T_on (by decide) (by decide) p4, T_on (by decide) (by decide) p5⟩
    · have hz : w.heap.size + 1 + 1 + 1 + 1 ≤ wx.heap.size := hM.v3.hi
      refine RI.wpOp_plain rfl rfl ?_
      go_simp
      exact ⟨_, u7, u8, u9, wx.heap.size, g7, 0, x7, rfl, M4_al hM _, RI.keep (by decide) p0, RI.keep (by decide) p1, fun _ => ⟨rfl, Vb_new0 _ _ _ hz⟩, RI.keep (by decide) fun h => ⟨(p3 h).1, Vb_al (p3 h).2 _⟩, fun _ h => Nat.ne_of_gt (p3 (by rwa [RI.don_other _ _ _ (by decide)] at h)).2.hi, T_no (by decide) hf p4, T_on (by decide) (by decide) p5⟩
    · have hz : w.heap.size + 1 + 1 + 1 + 1 ≤ wx.heap.size := hM.v3.hi
      refine RI.wpOp_plain rfl rfl ?_
      go_simp
      exact ⟨u6, _, u8, u9, g6, wx.heap.size, x6, 0, rfl, M4_al hM _, RI.keep (by decide) p0, RI.keep (by decide) p1, RI.keep (by decide) fun h => ⟨(p2 h).1, Vb_al (p2 h).2 _⟩, fun _ => ⟨rfl, Vb_new0 _ _ _ hz⟩, fun h _ => Nat.ne_of_lt (p2 (by rwa [RI.don_other _ _ _ (by decide)] at h)).2.hi, T_on (by decide) (by decide) p4, T_no (by decide) hf p5⟩
    · have hd := hd _ rfl
      simp [Region.binds] at hd
      obtain ⟨rfl, v1⟩ := p2 (by simp [hd])
      obtain ⟨rfl, v2⟩ := p3 (by simp [hd])
      have hn : g6 ≠ g7 := pn (by simp [hd]) (by simp [hd])
      obtain rfl := p0 (by simp [hd])
      have c1 : ∀ o, o < 4 → wx.cell? ⟨g6, o, none⟩ = some (.int .u64 (dg x6 o)) := v1.c
      have f1 : ∀ o, wx.frozen? ⟨g6, o, none⟩ = false := v1.f
      have z1 := v1.hi
      have hl : w.heap.size + 1 + 1 + 1 < g6 := v1.lo
      refine RI.wpOp_plain rfl rfl ?_
      unfold Wd
      go_simp
      exact ⟨_, _, _, u9, g6, g7, a, x7, rfl, M4_o4 hM hl, RI.keep (by decide) fun _ => rfl, RI.keep (by decide) p1, RI.keep (by decide) fun _ => ⟨rfl, Vb_set4 v1⟩, RI.keep (by decide) fun _ => ⟨rfl, Vb_o4 v2 hn⟩, T_two (by decide) (by decide) pn, fun _ => ⟨by simp [RI.don, hd], rfl⟩, T_on (by decide) (by decide) p5⟩
    · have hd := hd _ rfl
      simp [Region.binds] at hd
      obtain ⟨rfl, v1⟩ := p3 (by simp [hd])
      obtain ⟨rfl, v2⟩ := p2 (by simp [hd])
      have hn : g6 ≠ g7 := pn (by simp [hd]) (by simp [hd])
      obtain rfl := p1 (by simp [hd])
      obtain rfl := p0 (by simp [hd])
      have c1 : ∀ o, o < 4 → wx.cell? ⟨g7, o, none⟩ = some (.int .u64 (dg x7 o)) := v1.c
      have f1 : ∀ o, wx.frozen? ⟨g7, o, none⟩ = false := v1.f
      have z1 := v1.hi
      have hl : w.heap.size + 1 + 1 + 1 < g7 := v1.lo
      refine RI.wpOp_plain rfl rfl ?_
      unfold Wd
      go_simp
      exact ⟨_, _, _, _, g6, g7, x6, b, rfl, M4_o4 hM hl, RI.keep (by decide) fun _ => rfl, RI.keep (by decide) fun _ => rfl, RI.keep (by decide) fun _ => ⟨rfl, Vb_o4 v2 hn.symm⟩, RI.keep (by decide) fun _ => ⟨rfl, Vb_set4 v1⟩, T_two (by decide) (by decide) pn, T_on (by decide) (by decide) p4, fun _ => ⟨by simp [RI.don, hd], rfl⟩⟩
  · clear m0
    intro d x wx hI hd
    obtain ⟨u6, u7, u8, u9, g6, g7, x6, x7, rfl, hM, p0, p1, p2, p3, pn, p4, p5⟩ := hI
    obtain ⟨rfl, v6⟩ := p2 (hd 2 (by decide))
    obtain ⟨rfl, v7⟩ := p3 (hd 3 (by decide))
    have hn := pn (hd 2 (by decide)) (hd 3 (by decide))
    rw [(p4 (hd 4 (by decide))).2] at v6
    rw [(p5 (hd 5 (by decide))).2] at v7
    obtain rfl := p0 (hd 0 (by decide))
    obtain rfl := p1 (hd 1 (by decide))
    have m1 : M6 w a b 0 0 g6 a g7 b wx := ⟨hM, v6, v7, hn⟩
    clear p0 p1 p2 p3 p4 p5 pn hd hM v6 v7 hn
    generalize wx = W1 at *
    have c0 : ∀ o, o < 4 → W1.cell? ⟨w.heap.size, o, none⟩ = some (.int .u64 (dg a o)) := m1.m.v0.c
    have c1 : ∀ o, o < 4 → W1.cell? ⟨w.heap.size + 1, o, none⟩ = some (.int .u64 (dg b o)) := m1.m.v1.c
    have c2 : ∀ o, o < 4 → W1.cell? ⟨w.heap.size + 1 + 1, o, none⟩ = some (.int .u64 (dg 0 o)) := m1.m.v2.c
    have c3 : ∀ o, o < 4 → W1.cell? ⟨w.heap.size + 1 + 1 + 1, o, none⟩ = some (.int .u64 (dg 0 o)) := m1.m.v3.c
    have f2 : ∀ o, W1.frozen? ⟨w.heap.size + 1 + 1, o, none⟩ = false := m1.m.v2.f
    have f3 : ∀ o, W1.frozen? ⟨w.heap.size + 1 + 1 + 1, o, none⟩ = false := m1.m.v3.f
    have z0 := m1.m.v0.hi
    have z1 := m1.m.v1.hi
    have z2 := m1.m.v2.hi
    have z3 := m1.m.v3.hi
    have c6 : ∀ o, o < 4 → W1.cell? ⟨g6, o, none⟩ = some (.int .u64 (dg a o)) := m1.v6.c
    have c7 : ∀ o, o < 4 → W1.cell? ⟨g7, o, none⟩ = some (.int .u64 (dg b o)) := m1.v7.c
    have f6 : ∀ o, W1.frozen? ⟨g6, o, none⟩ = false := m1.v6.f
    have f7 : ∀ o, W1.frozen? ⟨g7, o, none⟩ = false := m1.v7.f
    have z6 := m1.v6.hi
    have z7 := m1.v7.hi
    have HM : Hid (M6 w a b 0 0 g6 a g7 b W1) := m1
    clear m1
    go_wp2_with fail
    refine (KS.out _).mono ?_
    rintro e y2 ⟨rfl, hb2⟩
    have m2 := M6_below HM.out hb2
    clear c0 c1 c2 c3 f2 f3 z0 z1 z2 z3 c6 c7 f6 f7 z6 z7 hb2 HM
    have c0 : ∀ o, o < 4 → y2.cell? ⟨w.heap.size, o, none⟩ = some (.int .u64 (dg a o)) := m2.m.v0.c
    have c1 : ∀ o, o < 4 → y2.cell? ⟨w.heap.size + 1, o, none⟩ = some (.int .u64 (dg b o)) := m2.m.v1.c
    have c2 : ∀ o, o < 4 → y2.cell? ⟨w.heap.size + 1 + 1, o, none⟩ = some (.int .u64 (dg 0 o)) := m2.m.v2.c
    have c3 : ∀ o, o < 4 → y2.cell? ⟨w.heap.size + 1 + 1 + 1, o, none⟩ = some (.int .u64 (dg 0 o)) := m2.m.v3.c
    have f2 : ∀ o, y2.frozen? ⟨w.heap.size + 1 + 1, o, none⟩ = false := m2.m.v2.f
    have f3 : ∀ o, y2.frozen? ⟨w.heap.size + 1 + 1 + 1, o, none⟩ = false := m2.m.v3.f
    have z0 := m2.m.v0.hi
    have z1 := m2.m.v1.hi
    have z2 := m2.m.v2.hi
    have z3 := m2.m.v3.hi
    have c6 : ∀ o, o < 4 → y2.cell? ⟨g6, o, none⟩ = some (.int .u64 (dg a o)) := m2.v6.c
    have c7 : ∀ o, o < 4 → y2.cell? ⟨g7, o, none⟩ = some (.int .u64 (dg b o)) := m2.v7.c
    have f6 : ∀ o, y2.frozen? ⟨g6, o, none⟩ = false := m2.v6.f
    have f7 : ∀ o, y2.frozen? ⟨g7, o, none⟩ = false := m2.v7.f
    have z6 := m2.v6.hi
    have z7 := m2.v7.hi
    have HM : Hid (M6 w a b 0 0 g6 a g7 b y2) := m2
    clear m2
    go_wp2_with fail
    refine (KA.out _).mono ?_
    rintro e y3 ⟨rfl, hb3⟩
    have m3 := M6_below HM.out hb3
    clear c0 c1 c2 c3 f2 f3 z0 z1 z2 z3 c6 c7 f6 f7 z6 z7 hb3 HM
    have c0 : ∀ o, o < 4 → y3.cell? ⟨w.heap.size, o, none⟩ = some (.int .u64 (dg a o)) := m3.m.v0.c
    have c1 : ∀ o, o < 4 → y3.cell? ⟨w.heap.size + 1, o, none⟩ = some (.int .u64 (dg b o)) := m3.m.v1.c
    have c2 : ∀ o, o < 4 → y3.cell? ⟨w.heap.size + 1 + 1, o, none⟩ = some (.int .u64 (dg 0 o)) := m3.m.v2.c
    have c3 : ∀ o, o < 4 → y3.cell? ⟨w.heap.size + 1 + 1 + 1, o, none⟩ = some (.int .u64 (dg 0 o)) := m3.m.v3.c
    have f2 : ∀ o, y3.frozen? ⟨w.heap.size + 1 + 1, o, none⟩ = false := m3.m.v2.f
    have f3 : ∀ o, y3.frozen? ⟨w.heap.size + 1 + 1 + 1, o, none⟩ = false := m3.m.v3.f
    have z0 := m3.m.v0.hi
    have z1 := m3.m.v1.hi
    have z2 := m3.m.v2.hi
    have z3 := m3.m.v3.hi
    have c6 : ∀ o, o < 4 → y3.cell? ⟨g6, o, none⟩ = some (.int .u64 (dg a o)) := m3.v6.c
    have c7 : ∀ o, o < 4 → y3.cell? ⟨g7, o, none⟩ = some (.int .u64 (dg b o)) := m3.v7.c
    have f6 : ∀ o, y3.frozen? ⟨g6, o, none⟩ = false := m3.v6.f
    have f7 : ∀ o, y3.frozen? ⟨g7, o, none⟩ = false := m3.v7.f
    have z6 := m3.v6.hi
    have z7 := m3.v7.hi
    have HM : Hid (M6 w a b 0 0 g6 A g7 b ((((y3.setCell ⟨g6, 0, none⟩ (.int .u64 (dg A 0))).setCell ⟨g6, 1, none⟩ (.int .u64 (dg A 1))).setCell ⟨g6, 2, none⟩ (.int .u64 (dg A 2))).setCell ⟨g6, 3, none⟩ (.int .u64 (dg A 3)))) := M6_set6 (m := A) m3
    clear m3
    unfold Wd
    go_upto_region 4 with fail
    have m4 := HM.out
    clear HM c0 c1 c2 c3 f2 f3 z0 z1 z2 z3 c6 c7 f6 f7 z6 z7
    generalize (((y3.setCell ⟨g6, 0, none⟩ (.int .u64 (dg A 0))).setCell ⟨g6, 1, none⟩ (.int .u64 (dg A 1))).setCell ⟨g6, 2, none⟩ (.int .u64 (dg A 2))).setCell ⟨g6, 3, none⟩ (.int .u64 (dg A 3)) = y4 at m4 ⊢
    have c0 : ∀ o, o < 4 → y4.cell? ⟨w.heap.size, o, none⟩ = some (.int .u64 (dg a o)) := m4.m.v0.c
    have c1 : ∀ o, o < 4 → y4.cell? ⟨w.heap.size + 1, o, none⟩ = some (.int .u64 (dg b o)) := m4.m.v1.c
    have c2 : ∀ o, o < 4 → y4.cell? ⟨w.heap.size + 1 + 1, o, none⟩ = some (.int .u64 (dg 0 o)) := m4.m.v2.c
    have c3 : ∀ o, o < 4 → y4.cell? ⟨w.heap.size + 1 + 1 + 1, o, none⟩ = some (.int .u64 (dg 0 o)) := m4.m.v3.c
    have f2 : ∀ o, y4.frozen? ⟨w.heap.size + 1 + 1, o, none⟩ = false := m4.m.v2.f
    have f3 : ∀ o, y4.frozen? ⟨w.heap.size + 1 + 1 + 1, o, none⟩ = false := m4.m.v3.f
    have z0 := m4.m.v0.hi
    have z1 := m4.m.v1.hi
    have z2 := m4.m.v2.hi
    have z3 := m4.m.v3.hi
    have c6 : ∀ o, o < 4 → y4.cell? ⟨g6, o, none⟩ = some (.int .u64 (dg A o)) := m4.v6.c
    have c7 : ∀ o, o < 4 → y4.cell? ⟨g7, o, none⟩ = some (.int .u64 (dg b o)) := m4.v7.c
    have f6 : ∀ o, y4.frozen? ⟨g6, o, none⟩ = false := m4.v6.f
    have f7 : ∀ o, y4.frozen? ⟨g7, o, none⟩ = false := m4.v7.f
    have z6 := m4.v6.hi
    have z7 := m4.v7.hi
    have HM : Hid (M6 w a b 0 0 g6 A g7 b y4) := m4
    clear m4
    go_wp2_with fail
    refine (KT.out _).mono ?_
    rintro e y5 ⟨rfl, hb5⟩
    have m5 := M6_below HM.out hb5
    clear c0 c1 c2 c3 f2 f3 z0 z1 z2 z3 c6 c7 f6 f7 z6 z7 hb5 HM
    have c0 : ∀ o, o < 4 → y5.cell? ⟨w.heap.size, o, none⟩ = some (.int .u64 (dg a o)) := m5.m.v0.c
    have c1 : ∀ o, o < 4 → y5.cell? ⟨w.heap.size + 1, o, none⟩ = some (.int .u64 (dg b o)) := m5.m.v1.c
    have c2 : ∀ o, o < 4 → y5.cell? ⟨w.heap.size + 1 + 1, o, none⟩ = some (.int .u64 (dg 0 o)) := m5.m.v2.c
    have c3 : ∀ o, o < 4 → y5.cell? ⟨w.heap.size + 1 + 1 + 1, o, none⟩ = some (.int .u64 (dg 0 o)) := m5.m.v3.c
    have f2 : ∀ o, y5.frozen? ⟨w.heap.size + 1 + 1, o, none⟩ = false := m5.m.v2.f
    have f3 : ∀ o, y5.frozen? ⟨w.heap.size + 1 + 1 + 1, o, none⟩ = false := m5.m.v3.f
    have z0 := m5.m.v0.hi
    have z1 := m5.m.v1.hi
    have z2 := m5.m.v2.hi
    have z3 := m5.m.v3.hi
    have c6 : ∀ o, o < 4 → y5.cell? ⟨g6, o, none⟩ = some (.int .u64 (dg A o)) := m5.v6.c
    have c7 : ∀ o, o < 4 → y5.cell? ⟨g7, o, none⟩ = some (.int .u64 (dg b o)) := m5.v7.c
    have f6 : ∀ o, y5.frozen? ⟨g6, o, none⟩ = false := m5.v6.f
    have f7 : ∀ o, y5.frozen? ⟨g7, o, none⟩ = false := m5.v7.f
    have z6 := m5.v6.hi
    have z7 := m5.v7.hi
    have HM : Hid (M6 w a b 0 0 g6 A g7 b y5) := m5
    clear m5
    go_wp2_with fail
    refine (KB.out _).mono ?_
    rintro e y6 ⟨rfl, hb6⟩
    have m6 := M6_below HM.out hb6
    clear c0 c1 c2 c3 f2 f3 z0 z1 z2 z3 c6 c7 f6 f7 z6 z7 hb6 HM
    have c0 : ∀ o, o < 4 → y6.cell? ⟨w.heap.size, o, none⟩ = some (.int .u64 (dg a o)) := m6.m.v0.c
    have c1 : ∀ o, o < 4 → y6.cell? ⟨w.heap.size + 1, o, none⟩ = some (.int .u64 (dg b o)) := m6.m.v1.c
    have c2 : ∀ o, o < 4 → y6.cell? ⟨w.heap.size + 1 + 1, o, none⟩ = some (.int .u64 (dg 0 o)) := m6.m.v2.c
    have c3 : ∀ o, o < 4 → y6.cell? ⟨w.heap.size + 1 + 1 + 1, o, none⟩ = some (.int .u64 (dg 0 o)) := m6.m.v3.c
    have f2 : ∀ o, y6.frozen? ⟨w.heap.size + 1 + 1, o, none⟩ = false := m6.m.v2.f
    have f3 : ∀ o, y6.frozen? ⟨w.heap.size + 1 + 1 + 1, o, none⟩ = false := m6.m.v3.f
    have z0 := m6.m.v0.hi
    have z1 := m6.m.v1.hi
    have z2 := m6.m.v2.hi
    have z3 := m6.m.v3.hi
    have c6 : ∀ o, o < 4 → y6.cell? ⟨g6, o, none⟩ = some (.int .u64 (dg A o)) := m6.v6.c
    have c7 : ∀ o, o < 4 → y6.cell? ⟨g7, o, none⟩ = some (.int .u64 (dg b o)) := m6.v7.c
    have f6 : ∀ o, y6.frozen? ⟨g6, o, none⟩ = false := m6.v6.f
    have f7 : ∀ o, y6.frozen? ⟨g7, o, none⟩ = false := m6.v7.f
    have z6 := m6.v6.hi
    have z7 := m6.v7.hi
    have HM : Hid (M6 w a b 0 0 g6 A g7 B ((((y6.setCell ⟨g7, 0, none⟩ (.int .u64 (dg B 0))).setCell ⟨g7, 1, none⟩ (.int .u64 (dg B 1))).setCell ⟨g7, 2, none⟩ (.int .u64 (dg B 2))).setCell ⟨g7, 3, none⟩ (.int .u64 (dg B 3)))) := M6_set7 (m := B) m6
    clear m6
    unfold Wd
    go_upto_region 6 with fail
    have m7 := HM.out
    clear HM c0 c1 c2 c3 f2 f3 z0 z1 z2 z3 c6 c7 f6 f7 z6 z7
    generalize (((y6.setCell ⟨g7, 0, none⟩ (.int .u64 (dg B 0))).setCell ⟨g7, 1, none⟩ (.int .u64 (dg B 1))).setCell ⟨g7, 2, none⟩ (.int .u64 (dg B 2))).setCell ⟨g7, 3, none⟩ (.int .u64 (dg B 3)) = y7 at m7 ⊢
    have c0 : ∀ o, o < 4 → y7.cell? ⟨w.heap.size, o, none⟩ = some (.int .u64 (dg a o)) := m7.m.v0.c
    have c1 : ∀ o, o < 4 → y7.cell? ⟨w.heap.size + 1, o, none⟩ = some (.int .u64 (dg b o)) := m7.m.v1.c
    have c2 : ∀ o, o < 4 → y7.cell? ⟨w.heap.size + 1 + 1, o, none⟩ = some (.int .u64 (dg 0 o)) := m7.m.v2.c
    have c3 : ∀ o, o < 4 → y7.cell? ⟨w.heap.size + 1 + 1 + 1, o, none⟩ = some (.int .u64 (dg 0 o)) := m7.m.v3.c
    have f2 : ∀ o, y7.frozen? ⟨w.heap.size + 1 + 1, o, none⟩ = false := m7.m.v2.f
    have f3 : ∀ o, y7.frozen? ⟨w.heap.size + 1 + 1 + 1, o, none⟩ = false := m7.m.v3.f
    have z0 := m7.m.v0.hi
    have z1 := m7.m.v1.hi
    have z2 := m7.m.v2.hi
    have z3 := m7.m.v3.hi
    have c6 : ∀ o, o < 4 → y7.cell? ⟨g6, o, none⟩ = some (.int .u64 (dg A o)) := m7.v6.c
    have c7 : ∀ o, o < 4 → y7.cell? ⟨g7, o, none⟩ = some (.int .u64 (dg B o)) := m7.v7.c
    have f6 : ∀ o, y7.frozen? ⟨g6, o, none⟩ = false := m7.v6.f
    have f7 : ∀ o, y7.frozen? ⟨g7, o, none⟩ = false := m7.v7.f
    have z6 := m7.v6.hi
    have z7 := m7.v7.hi
    have HM : Hid (M6 w a b 0 0 g6 A g7 B y7) := m7
    clear m7
    go_wp2_with fail
    refine (KD.out _).mono ?_
    rintro e y8 ⟨rfl, hb8⟩
    have m8 := M6_below HM.out hb8
    clear c0 c1 c2 c3 f2 f3 z0 z1 z2 z3 c6 c7 f6 f7 z6 z7 hb8 HM
    have c0 : ∀ o, o < 4 → y8.cell? ⟨w.heap.size, o, none⟩ = some (.int .u64 (dg a o)) := m8.m.v0.c
    have c1 : ∀ o, o < 4 → y8.cell? ⟨w.heap.size + 1, o, none⟩ = some (.int .u64 (dg b o)) := m8.m.v1.c
    have c2 : ∀ o, o < 4 → y8.cell? ⟨w.heap.size + 1 + 1, o, none⟩ = some (.int .u64 (dg 0 o)) := m8.m.v2.c
    have c3 : ∀ o, o < 4 → y8.cell? ⟨w.heap.size + 1 + 1 + 1, o, none⟩ = some (.int .u64 (dg 0 o)) := m8.m.v3.c
    have f2 : ∀ o, y8.frozen? ⟨w.heap.size + 1 + 1, o, none⟩ = false := m8.m.v2.f
    have f3 : ∀ o, y8.frozen? ⟨w.heap.size + 1 + 1 + 1, o, none⟩ = false := m8.m.v3.f
    have z0 := m8.m.v0.hi
    have z1 := m8.m.v1.hi
    have z2 := m8.m.v2.hi
    have z3 := m8.m.v3.hi
    have c6 : ∀ o, o < 4 → y8.cell? ⟨g6, o, none⟩ = some (.int .u64 (dg A o)) := m8.v6.c
    have c7 : ∀ o, o < 4 → y8.cell? ⟨g7, o, none⟩ = some (.int .u64 (dg B o)) := m8.v7.c
    have f6 : ∀ o, y8.frozen? ⟨g6, o, none⟩ = false := m8.v6.f
    have f7 : ∀ o, y8.frozen? ⟨g7, o, none⟩ = false := m8.v7.f
    have z6 := m8.v6.hi
    have z7 := m8.v7.hi
    have HM : Hid (M4 w a b N R ((((((((y8.setCell ⟨w.heap.size + 1 + 1, 0, none⟩ (.int .u64 (dg N 0))).setCell ⟨w.heap.size + 1 + 1, 1, none⟩ (.int .u64 (dg N 1))).setCell ⟨w.heap.size + 1 + 1, 2, none⟩ (.int .u64 (dg N 2))).setCell ⟨w.heap.size + 1 + 1, 3, none⟩ (.int .u64 (dg N 3))).setCell ⟨w.heap.size + 1 + 1 + 1, 0, none⟩ (.int .u64 (dg R 0))).setCell ⟨w.heap.size + 1 + 1 + 1, 1, none⟩ (.int .u64 (dg R 1))).setCell ⟨w.heap.size + 1 + 1 + 1, 2, none⟩ (.int .u64 (dg R 2))).setCell ⟨w.heap.size + 1 + 1 + 1, 3, none⟩ (.int .u64 (dg R 3)))) := M4_set3 (m := R) (M4_set2 (m := N) m8.m)
    clear m8
    unfold Wd
    go_upto_region 7 with fail
    have hM := HM.out
    clear HM c0 c1 c2 c3 f2 f3 z0 z1 z2 z3 c6 c7 f6 f7 z6 z7
    generalize (((((((y8.setCell ⟨w.heap.size + 1 + 1, 0, none⟩ (.int .u64 (dg N 0))).setCell ⟨w.heap.size + 1 + 1, 1, none⟩ (.int .u64 (dg N 1))).setCell ⟨w.heap.size + 1 + 1, 2, none⟩ (.int .u64 (dg N 2))).setCell ⟨w.heap.size + 1 + 1, 3, none⟩ (.int .u64 (dg N 3))).setCell ⟨w.heap.size + 1 + 1 + 1, 0, none⟩ (.int .u64 (dg R 0))).setCell ⟨w.heap.size + 1 + 1 + 1, 1, none⟩ (.int .u64 (dg R 1))).setCell ⟨w.heap.size + 1 + 1 + 1, 2, none⟩ (.int .u64 (dg R 2))).setCell ⟨w.heap.size + 1 + 1 + 1, 3, none⟩ (.int .u64 (dg R 3)) = y9 at hM ⊢
    refine RI.wp_region_inv (TQ7 w a b N R true true) (by kernel_rfl) (by kernel_rfl) ?_ ?_ ?_
    · exact ⟨undef, undef, undef, undef, undef, _, _, _, _, _, _, _, _, _, _, _, _, _, _, _, _, _, _, rfl, M4_drew hM, nofun, nofun, nofun, nofun, nofun⟩
    · clear hM
      intro d x wx i hI hi hm
      obtain ⟨u24, u25, u26, u27, u28, v6, v7, v8, v9, v10, v11, v12, v13, v14, v15, v16, v17, v18, v19, v20, v21, v22, v23, rfl, hM, p0, p1, p2, p3, p4⟩ := hI
      have hi' : i = 0 ∨ i = 1 ∨ i = 2 ∨ i = 3 ∨ i = 4 := by simp at hi; omega
      have hd := hm.2
      clear hm hi
      rcases hi' with rfl | rfl | rfl | rfl | rfl
      · refine RI.wpOp_plain rfl rfl ?_
        have c0 : ∀ o, o < 4 → wx.cell? ⟨w.heap.size, o, none⟩ = some (.int .u64 (dg a o)) := hM.v0.c
        go_simp
        exact ⟨_, u25, u26, u27, u28, v6, v7, v8, v9, v10, v11, v12, v13, v14, v15, v16, v17, v18, v19, v20, v21, v22, v23, rfl, hM, fun _ => rfl, RI.keep (by decide) p1, RI.keep (by decide) p2, RI.keep (by decide) p3, RI.keep (by decide) p4⟩
      · have hd := hd _ rfl
        simp [Region.binds] at hd
        obtain rfl := p0 (by simp [hd])
        refine RI.wpOp_plain rfl rfl ?_
        go_simp
        refine (KS.out _).mono ?_
        rintro e w1 ⟨rfl, hb1⟩
        exact ⟨_, _, u26, u27, u28, v6, v7, v8, v9, v10, v11, v12, v13, v14, v15, v16, v17, v18, v19, v20, v21, v22, v23, rfl, M4_below hM hb1, RI.keep (by decide) p0, fun _ => rfl, RI.keep (by decide) p2, RI.keep (by decide) p3, RI.keep (by decide) p4⟩
      · refine RI.wpOp_plain rfl rfl ?_
        have c1 : ∀ o, o < 4 → wx.cell? ⟨w.heap.size + 1, o, none⟩ = some (.int .u64 (dg b o)) := hM.v1.c
        go_simp
        exact ⟨u24, u25, _, u27, u28, v6, v7, v8, v9, v10, v11, v12, v13, v14, v15, v16, v17, v18, v19, v20, v21, v22, v23, rfl, hM, RI.keep (by decide) p0, RI.keep (by decide) p1, fun _ => rfl, RI.keep (by decide) p3, RI.keep (by decide) p4⟩
      · have hd := hd _ rfl
        simp [Region.binds] at hd
        obtain rfl := p1 (by simp [hd])
        obtain rfl := p2 (by simp [hd])
        refine RI.wpOp_plain rfl rfl ?_
        go_simp
        refine (KT.out _).mono ?_
        rintro e w1 ⟨rfl, hb1⟩
        exact ⟨u24, _, _, _, u28, v6, v7, v8, v9, v10, v11, v12, v13, v14, v15, v16, v17, v18, v19, v20, v21, v22, v23, rfl, M4_below hM hb1, RI.keep (by decide) p0, RI.keep (by decide) p1, RI.keep (by decide) p2, fun _ => rfl, RI.keep (by decide) p4⟩
      · have hd := hd _ rfl
        simp [Region.binds] at hd
        obtain rfl := p1 (by simp [hd])
        obtain rfl := p3 (by simp [hd])
        refine RI.wpOp_plain rfl rfl ?_
        go_simp
        exact ⟨u24, _, u26, _, _, v6, v7, v8, v9, v10, v11, v12, v13, v14, v15, v16, v17, v18, v19, v20, v21, v22, v23, rfl, hM, RI.keep (by decide) p0, RI.keep (by decide) p1, RI.keep (by decide) p2, RI.keep (by decide) p3, fun _ => rfl⟩
    · clear hM
      intro d x wx hI hd
      obtain ⟨u24, u25, u26, u27, u28, v6, v7, v8, v9, v10, v11, v12, v13, v14, v15, v16, v17, v18, v19, v20, v21, v22, v23, rfl, hM, p0, p1, p2, p3, p4⟩ := hI
      obtain rfl := p0 (hd 0 (by decide))
      obtain rfl := p1 (hd 1 (by decide))
      obtain rfl := p2 (hd 2 (by decide))
      obtain rfl := p3 (hd 3 (by decide))
      obtain rfl := p4 (hd 4 (by decide))
      clear p0 p1 p2 p3 p4 hd
      have c0 : ∀ o, o < 4 → wx.cell? ⟨w.heap.size, o, none⟩ = some (.int .u64 (dg a o)) := hM.v0.c
      have c1 : ∀ o, o < 4 → wx.cell? ⟨w.heap.size + 1, o, none⟩ = some (.int .u64 (dg b o)) := hM.v1.c
      have c2 : ∀ o, o < 4 → wx.cell? ⟨w.heap.size + 1 + 1, o, none⟩ = some (.int .u64 (dg N o)) := hM.v2.c
      have c3 : ∀ o, o < 4 → wx.cell? ⟨w.heap.size + 1 + 1 + 1, o, none⟩ = some (.int .u64 (dg R o)) := hM.v3.c
      have f2 : ∀ o, wx.frozen? ⟨w.heap.size + 1 + 1, o, none⟩ = false := hM.v2.f
      have f3 : ∀ o, wx.frozen? ⟨w.heap.size + 1 + 1 + 1, o, none⟩ = false := hM.v3.f
      have z0 := hM.v0.hi
      have z1 := hM.v1.hi
      have z2 := hM.v2.hi
      have z3 := hM.v3.hi
      have HM : Hid (M4 w a b N R wx) := hM
      clear hM
      go_wp2_with fail
      refine (KS.out _).mono ?_
      rintro e w5 ⟨rfl, hb5⟩
      have m5 := M4_below HM.out hb5
      clear c0 c1 c2 c3 f2 f3 z0 z1 z2 z3 hb5 HM
      have c0 : ∀ o, o < 4 → w5.cell? ⟨w.heap.size, o, none⟩ = some (.int .u64 (dg a o)) := m5.v0.c
      have c1 : ∀ o, o < 4 → w5.cell? ⟨w.heap.size + 1, o, none⟩ = some (.int .u64 (dg b o)) := m5.v1.c
      have c2 : ∀ o, o < 4 → w5.cell? ⟨w.heap.size + 1 + 1, o, none⟩ = some (.int .u64 (dg N o)) := m5.v2.c
      have c3 : ∀ o, o < 4 → w5.cell? ⟨w.heap.size + 1 + 1 + 1, o, none⟩ = some (.int .u64 (dg R o)) := m5.v3.c
      have f2 : ∀ o, w5.frozen? ⟨w.heap.size + 1 + 1, o, none⟩ = false := m5.v2.f
      have f3 : ∀ o, w5.frozen? ⟨w.heap.size + 1 + 1 + 1, o, none⟩ = false := m5.v3.f
      have z0 := m5.v0.hi
      have z1 := m5.v1.hi
      have z2 := m5.v2.hi
      have z3 := m5.v3.hi
      have HM : Hid (M4 w a b N R w5) := m5
      clear m5
      go_wp2_with fail
      refine (KR.out _).mono ?_
      rintro e w6 ⟨rfl, hb6⟩
      have m6 := M4_below HM.out hb6
      clear c0 c1 c2 c3 f2 f3 z0 z1 z2 z3 hb6 HM
      have c0 : ∀ o, o < 4 → w6.cell? ⟨w.heap.size, o, none⟩ = some (.int .u64 (dg a o)) := m6.v0.c
      have c1 : ∀ o, o < 4 → w6.cell? ⟨w.heap.size + 1, o, none⟩ = some (.int .u64 (dg b o)) := m6.v1.c
      have c2 : ∀ o, o < 4 → w6.cell? ⟨w.heap.size + 1 + 1, o, none⟩ = some (.int .u64 (dg N o)) := m6.v2.c
      have c3 : ∀ o, o < 4 → w6.cell? ⟨w.heap.size + 1 + 1 + 1, o, none⟩ = some (.int .u64 (dg R o)) := m6.v3.c
      have f2 : ∀ o, w6.frozen? ⟨w.heap.size + 1 + 1, o, none⟩ = false := m6.v2.f
      have f3 : ∀ o, w6.frozen? ⟨w.heap.size + 1 + 1 + 1, o, none⟩ = false := m6.v3.f
      have z0 := m6.v0.hi
      have z1 := m6.v1.hi
      have z2 := m6.v2.hi
      have z3 := m6.v3.hi
      have m5 : M4 w a b N Y _ := M4_set3 (m := Y) m6
      clear m6
      unfold Wd
      have HM : Hid _ := m5
      clear m5
      go_upto_region 11 with fail
      have m7 := HM.out
      clear HM c0 c1 c2 c3 f2 f3 z0 z1 z2 z3
      refine RI.wp_region_inv (TQ11 w a b N Y) (by kernel_rfl) (by kernel_rfl) ?_ ?_ ?_
      · exact ⟨undef, undef, _, _, _, _, _, _, _, _, _, _, _, _, _, _, _, _, _, _, _, _, _, _, _, _, _, _, _, _, _, rfl, M4_drew m7, nofun, nofun⟩
      · clear m7
        intro d x wx i hI hi hm
        obtain ⟨u35, u36, v6, v7, v8, v9, v10, v11, v12, v13, v14, v15, v16, v17, v18, v19, v20, v21, v22, v23, v24, v25, v26, v27, v28, v29, v30, v31, v32, v33, v34, rfl, hM, p0, p1⟩ := hI
        have hi' : i = 0 ∨ i = 1 ∨ i = 2 ∨ i = 3 := by simp at hi; omega
        have hd := hm.2
        clear hm hi
        rcases hi' with rfl | rfl | rfl | rfl
        · refine RI.wpOp_plain rfl rfl ?_
          have c2 : ∀ o, o < 4 → wx.cell? ⟨w.heap.size + 1 + 1, o, none⟩ = some (.int .u64 (dg N o)) := hM.v2.c
          go_simp
          exact ⟨_, u36, v6, v7, v8, v9, v10, v11, v12, v13, v14, v15, v16, v17, v18, v19, v20, v21, v22, v23, v24, v25, v26, v27, v28, v29, v30, v31, v32, v33, v34, rfl, hM, fun _ => rfl, RI.keep (by decide) p1⟩
        · refine RI.wpOp_plain rfl rfl ?_
          have c3 : ∀ o, o < 4 → wx.cell? ⟨w.heap.size + 1 + 1 + 1, o, none⟩ = some (.int .u64 (dg Y o)) := hM.v3.c
          go_simp
          exact ⟨u35, _, v6, v7, v8, v9, v10, v11, v12, v13, v14, v15, v16, v17, v18, v19, v20, v21, v22, v23, v24, v25, v26, v27, v28, v29, v30, v31, v32, v33, v34, rfl, hM, RI.keep (by decide) p0, fun _ => rfl⟩
        · have hd := hd _ rfl
          simp [Region.binds] at hd
          obtain rfl := p0 (by simp [hd])
          refine RI.wpOp_plain rfl rfl ?_
          have c2 : ∀ o, o < 4 → wx.cell? ⟨w.heap.size + 1 + 1, o, none⟩ = some (.int .u64 (dg N o)) := hM.v2.c
          have f2 : ∀ o, wx.frozen? ⟨w.heap.size + 1 + 1, o, none⟩ = false := hM.v2.f
          have z2 := hM.v2.hi
          unfold Wd
          go_simp
          exact ⟨_, u36, v6, v7, v8, v9, v10, v11, v12, v13, v14, v15, v16, v17, v18, v19, v20, v21, v22, v23, v24, v25, v26, v27, v28, v29, v30, v31, v32, v33, v34, rfl, M4_set2 hM, RI.keep (by decide) p0, RI.keep (by decide) p1⟩
        · have hd := hd _ rfl
          simp [Region.binds] at hd
          obtain rfl := p0 (by simp [hd])
          obtain rfl := p1 (by simp [hd])
          refine RI.wpOp_plain rfl rfl ?_
          have c3 : ∀ o, o < 4 → wx.cell? ⟨w.heap.size + 1 + 1 + 1, o, none⟩ = some (.int .u64 (dg Y o)) := hM.v3.c
          have f3 : ∀ o, wx.frozen? ⟨w.heap.size + 1 + 1 + 1, o, none⟩ = false := hM.v3.f
          have z3 := hM.v3.hi
          unfold Wd
          go_simp
          exact ⟨_, _, v6, v7, v8, v9, v10, v11, v12, v13, v14, v15, v16, v17, v18, v19, v20, v21, v22, v23, v24, v25, v26, v27, v28, v29, v30, v31, v32, v33, v34, rfl, M4_set3 hM, RI.keep (by decide) p0, RI.keep (by decide) p1⟩
      · clear m7
        intro d x wx hI hd
        obtain ⟨u35, u36, v6, v7, v8, v9, v10, v11, v12, v13, v14, v15, v16, v17, v18, v19, v20, v21, v22, v23, v24, v25, v26, v27, v28, v29, v30, v31, v32, v33, v34, rfl, hM, p0, p1⟩ := hI
        obtain rfl := p0 (hd 0 (by decide))
        obtain rfl := p1 (hd 1 (by decide))
        clear p0 p1 hd
        go_wp2_with fail
        exact bodyPost_ret (v := .tuple #[Wd N, Wd Y]) (resultQ _ _ w _ a b N Y rfl rfl rfl hM) rfl ⟨rfl, hM.bel⟩
theorem tsdivmod_any (a b : Nat) (ha : a < 2 ^ 256) (hb : b < 2 ^ 256) (w : World) :
    Calls Try.prog 14 #[Wd a, Wd b] w fun e w' => e = .returned (.tuple #[Wd (sq a b), Wd (sr a b)]) ∧ Below w.heap.size w w' := by
  have hA := sz_lt a ha
  have KS := tbelow_any a ha
  have KT := tbelow_any b hb
  have KN := tneg_any (sz a / sz b) (Nat.lt_of_le_of_lt (Nat.div_le_self _ _) hA)
  have KR := tneg_any (md (sz a) (sz b)) (md_lt _ _ hA)
  cases hs : sg a <;> cases ht : sg b <;> rw [hs] at KS <;> rw [ht] at KT
  · have e1 : sz a = a := by unfold sz; rw [hs]; rfl
    have e2 : sz b = b := by unfold sz; rw [ht]; rfl
    have q1 : sq a b = sz a / sz b := by unfold sq; rw [hs, ht]; rfl
    have r1 : sr a b = md (sz a) (sz b) := by unfold sr; rw [hs]; rfl
    rw [q1, r1]
    have KD : ∀ w : World, Calls Try.prog 44 #[Wd a, Wd b] w fun e w' => e = .returned (.tuple #[Wd (sz a / sz b), Wd (md (sz a) (sz b))]) ∧ Below w.heap.size w w' := fun w => by
      have k := wdivmod_any a b ha hb w
      rw [e1, e2]
      exact k
    exact tsdivmod_ff a b _ _ KS KT KD w
  · have e1 : sz a = a := by unfold sz; rw [hs]; rfl
    have e2 : sz b = (ng b) := by unfold sz; rw [ht]; rfl
    have q1 : sq a b = ng (sz a / sz b) := by unfold sq; rw [hs, ht]; rfl
    have r1 : sr a b = md (sz a) (sz b) := by unfold sr; rw [hs]; rfl
    rw [q1, r1]
    have KD : ∀ w : World, Calls Try.prog 44 #[Wd a, Wd (ng b)] w fun e w' => e = .returned (.tuple #[Wd (sz a / sz b), Wd (md (sz a) (sz b))]) ∧ Below w.heap.size w w' := fun w => by
      have k := wdivmod_any a (ng b) ha (ng_lt b) w
      rw [e1, e2]
      exact k
    exact tsdivmod_ft a b _ _ _ _ KS KT KD (tneg_any b hb) KN w
  · have e1 : sz a = (ng a) := by unfold sz; rw [hs]; rfl
    have e2 : sz b = b := by unfold sz; rw [ht]; rfl
    have q1 : sq a b = ng (sz a / sz b) := by unfold sq; rw [hs, ht]; rfl
    have r1 : sr a b = ng (md (sz a) (sz b)) := by unfold sr; rw [hs]; rfl
    rw [q1, r1]
    have KD : ∀ w : World, Calls Try.prog 44 #[Wd (ng a), Wd b] w fun e w' => e = .returned (.tuple #[Wd (sz a / sz b), Wd (md (sz a) (sz b))]) ∧ Below w.heap.size w w' := fun w => by
      have k := wdivmod_any (ng a) b (ng_lt a) hb w
      rw [e1, e2]
      exact k
    exact tsdivmod_tf a b _ _ _ _ _ KS KT KD (tneg_any a ha) KN KR w
  · have e1 : sz a = (ng a) := by unfold sz; rw [hs]; rfl
    have e2 : sz b = (ng b) := by unfold sz; rw [ht]; rfl
    have q1 : sq a b = sz a / sz b := by unfold sq; rw [hs, ht]; rfl
    have r1 : sr a b = ng (md (sz a) (sz b)) := by unfold sr; rw [hs]; rfl
    rw [q1, r1]
    have KD : ∀ w : World, Calls Try.prog 44 #[Wd (ng a), Wd (ng b)] w fun e w' => e = .returned (.tuple #[Wd (sz a / sz b), Wd (md (sz a) (sz b))]) ∧ Below w.heap.size w w' := fun w => by
      have k := wdivmod_any (ng a) (ng b) (ng_lt a) (ng_lt b) w
      rw [e1, e2]
      exact k
    exact tsdivmod_tt a b _ _ _ _ _ KS KT KD (tneg_any a ha) (tneg_any b hb) KR w
end Go.Proofs.Ytcoljaogemgnnab
