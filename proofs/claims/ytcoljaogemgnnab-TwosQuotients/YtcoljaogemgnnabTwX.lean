/- lampbearerref.TSCmp: the order of words with signs, by their uppermost bits turned. -/
import Derived.Test.YtcoljaogemgnnabTwS
import Derived.Test.YtcoljaogemgnnabSpArith
namespace Go.Proofs.Ytcoljaogemgnnab
open Go.RowKit Go.Shelf
theorem xor_top_low (y : Nat) (h : y < 2 ^ 63) : y ^^^ 2 ^ 63 = 2 ^ 63 + y := by
  apply Nat.eq_of_testBit_eq
  intro i
  rw [Nat.testBit_xor, Nat.testBit_two_pow]
  by_cases h1 : i < 63
  · rw [Nat.testBit_two_pow_add_gt h1, decide_eq_false (by omega), Bool.xor_false]
  · by_cases h2 : i = 63
    · subst h2
      rw [Nat.testBit_two_pow_add_eq, decide_eq_true rfl, Bool.xor_true]
    · have e1 : y < 2 ^ i := Nat.lt_of_lt_of_le h (Nat.pow_le_pow_right (by decide) (by omega))
      have e2 : 2 ^ 63 + y < 2 ^ i := Nat.lt_of_lt_of_le (show 2 ^ 63 + y < 2 ^ 64 by omega) (Nat.pow_le_pow_right (by decide) (by omega))
      rw [Nat.testBit_lt_two_pow e1, Nat.testBit_lt_two_pow e2, decide_eq_false (by omega)]; rfl
theorem xor_top (x : Nat) (h : x < 2 ^ 64) : x ^^^ 2 ^ 63 = (x + 2 ^ 63) % 2 ^ 64 := by
  by_cases h1 : x < 2 ^ 63
  · rw [xor_top_low x h1]; omega
  · have e := xor_top_low (x - 2 ^ 63) (by omega)
    rw [show 2 ^ 63 + (x - 2 ^ 63) = x by omega] at e
    rw [← e, Nat.xor_assoc, Nat.xor_self, Nat.xor_zero, e]; omega
theorem hf_low (a o : Nat) (ho : o < 3) : dg (hf a) o = dg a o := by
  unfold dg hf
  have : o = 0 ∨ o = 1 ∨ o = 2 := by omega
  rcases this with rfl | rfl | rfl <;> omega
theorem hf_top (a : Nat) : bits .xor .u64 (dg a 3) 9223372036854775808 = dg (hf a) 3 := by
  have h0 := dg_nn a 3
  have h1 := dg_lt a 3
  rw [u64_xor _ _ h0 (by omega) (by decide) (by decide)]
  have e : (dg a 3).toNat < 2 ^ 64 := by omega
  rw [show (9223372036854775808 : Int).toNat = 2 ^ 63 from rfl, xor_top _ e]
  unfold dg hf
  omega
theorem S2_alx {w : World} {a b : Nat} {w1 : World} (h : S2 w a b w1) (o : Obj) : S2 w a b (w1.alloc o) := S2_below h ((Below.refl _ _).alloc (Nat.le_refl _) o)
theorem S2_o1 {w : World} {a b g : Nat} {w1 : World} {o : Nat} {v : Value} (h : S2 w a b w1) (hg : w.heap.size + 1 < g) : S2 w a b (w1.setCell ⟨g, o, none⟩ v) :=
  ⟨by simpa using h.hi, K_other h.c0 (by simp only; omega), K_other h.c1 (by simp only; omega), h.bel.setCell (show w.heap.size ≤ (⟨g, o, none⟩ : Addr).block by show w.heap.size ≤ g; omega) v⟩
theorem S2_o4 {w : World} {a b g m : Nat} {w1 : World} (h : S2 w a b w1) (hg : w.heap.size + 1 < g) : S2 w a b ((((w1.setCell ⟨g, 0, none⟩ (.int .u64 (dg m 0))).setCell ⟨g, 1, none⟩ (.int .u64 (dg m 1))).setCell ⟨g, 2, none⟩ (.int .u64 (dg m 2))).setCell ⟨g, 3, none⟩ (.int .u64 (dg m 3))) := S2_o1 (S2_o1 (S2_o1 (S2_o1 h hg) hg) hg) hg
/-- What holds while the two are laid down. -/
def TC1 (w : World) (a b : Nat) (d : Nat → Bool) (x : Act) (wx : World) : Prop :=
  ∃ (u5 u6 u7 u8 : Value) (g5 g6 x5 x6 : Nat),
    x = { tmps := #[.agg #[.int .u64 (dg a 0), .int .u64 (dg a 1), .int .u64 (dg a 2), .int .u64 (dg a 3)], .agg #[.int .u64 (dg b 0), .int .u64 (dg b 1), .int .u64 (dg b 2), .int .u64 (dg b 3)], .pointer (some ⟨w.heap.size, 0, none⟩), .pointer (some ⟨w.heap.size + 1, 0, none⟩), .int .i64 0, u5, u6, u7, u8, undef, undef, undef, undef, undef, undef, undef, undef, undef, undef, undef], defers := [] } ∧ S2 w a b wx ∧
    (d 0 = true → u7 = Wd a) ∧ (d 1 = true → u8 = Wd b) ∧
    (d 2 = true → u5 = .pointer (some ⟨g5, 0, none⟩) ∧ Vb (w.heap.size + 1 + 1) g5 4 (dg x5) wx) ∧ (d 3 = true → u6 = .pointer (some ⟨g6, 0, none⟩) ∧ Vb (w.heap.size + 1 + 1) g6 4 (dg x6) wx) ∧ (d 2 = true → d 3 = true → g5 ≠ g6) ∧
    (d 4 = true → d 2 = true ∧ x5 = a) ∧ (d 5 = true → d 3 = true ∧ x6 = b)
/-- What holds while the uppermost bits are turned. -/
def TC2 (w : World) (a b g5 g6 : Nat) (d : Nat → Bool) (x : Act) (wx : World) : Prop :=
  ∃ (u9 u10 u11 u12 u13 u14 u15 u16 : Value) (F5 : Nat → Int) (F6 : Nat → Int),
    x = { tmps := #[.agg #[.int .u64 (dg a 0), .int .u64 (dg a 1), .int .u64 (dg a 2), .int .u64 (dg a 3)], .agg #[.int .u64 (dg b 0), .int .u64 (dg b 1), .int .u64 (dg b 2), .int .u64 (dg b 3)], .pointer (some ⟨w.heap.size, 0, none⟩), .pointer (some ⟨w.heap.size + 1, 0, none⟩), .int .i64 0, .pointer (some ⟨g5, 0, none⟩), .pointer (some ⟨g6, 0, none⟩), Wd a, Wd b, u9, u10, u11, u12, u13, u14, u15, u16, undef, undef, undef], defers := [] } ∧
    (S2 w a b wx) ∧ (Vb (w.heap.size + 1 + 1) g5 4 F5 wx) ∧ (Vb (w.heap.size + 1 + 1) g6 4 F6 wx) ∧ (d 7 = false → F5 = dg a) ∧ (d 9 = false → F6 = dg b) ∧
    (d 0 = true → u9 = .pointer (some ⟨g5, 3, none⟩)) ∧ (d 1 = true → u10 = .int .u64 (dg a 3)) ∧ (d 2 = true → u11 = .int .u64 (bits .xor .u64 (dg a 3) 9223372036854775808)) ∧ (d 3 = true → u12 = .pointer (some ⟨g6, 3, none⟩)) ∧ (d 4 = true → u13 = .int .u64 (dg b 3)) ∧ (d 5 = true → u14 = .int .u64 (bits .xor .u64 (dg b 3) 9223372036854775808)) ∧ (d 6 = true → u15 = .pointer (some ⟨g5, 3, none⟩)) ∧ (d 8 = true → u16 = .pointer (some ⟨g6, 3, none⟩)) ∧ (d 7 = true → d 1 = true ∧ F5 = upd (dg a) 3 (bits .xor .u64 (dg a 3) 9223372036854775808)) ∧ (d 9 = true → d 4 = true ∧ F6 = upd (dg b) 3 (bits .xor .u64 (dg b 3) 9223372036854775808))
theorem top_turned (a : Nat) (o : Nat) (ho : o < 4) : upd (dg a) 3 (bits .xor .u64 (dg a 3) 9223372036854775808) o = dg (hf a) o := by
  unfold upd
  by_cases h : o = 3
  · subst h
    rw [if_pos rfl]
    exact hf_top a
  · rw [if_neg h]
    exact (hf_low a o (by omega)).symm
set_option maxHeartbeats 4000000 in
set_option maxRecDepth 100000 in
theorem tscmp_any (a b : Nat) (w : World) :
    Calls Try.prog 16 #[Wd a, Wd b] w fun e w' => e = .returned (.int .i64 (cm (hf a : Int) (hf b : Int))) ∧ Below w.heap.size w w' := by
  have KC : Hid (∀ w : World, Calls Try.prog 45 #[Wd (hf a), Wd (hf b)] w fun e w' => e = .returned (.int .i64 (cm (hf a : Int) (hf b : Int))) ∧ Below w.heap.size w w') := fun w => wcmp_any _ _ (hf_lt a) (hf_lt b) w
  have E5 : Hid (∀ o, o < 4 → upd (dg a) 3 (bits .xor .u64 (dg a 3) 9223372036854775808) o = dg (hf a) o) := fun o ho => top_turned a o ho
  have E6 : Hid (∀ o, o < 4 → upd (dg b) 3 (bits .xor .u64 (dg b 3) 9223372036854775808) o = dg (hf b) o) := fun o ho => top_turned b o ho
  generalize cm (hf a : Int) (hf b : Int) = C at *
  generalize hf a = X at *
  generalize hf b = Y at *
  have m0 := S2_start w a b
  conv => arg 3; unfold Wd
  go_enter Try.func16, Try.ntmps16
  go_upto_region 1 with fail
  generalize (w.alloc (.cells #[.int .u64 (dg a 0), .int .u64 (dg a 1), .int .u64 (dg a 2), .int .u64 (dg a 3)] 24)).alloc (.cells #[.int .u64 (dg b 0), .int .u64 (dg b 1), .int .u64 (dg b 2), .int .u64 (dg b 3)] 24) = W0 at m0 ⊢
  refine RI.wp_region_inv (TC1 w a b) (by kernel_rfl) (by kernel_rfl) ?_ ?_ ?_
  · exact ⟨undef, undef, undef, undef, 0, 0, 0, 0, rfl, S2_drew m0, nofun, nofun, nofun, nofun, nofun, nofun, nofun⟩
  · clear m0
    intro d x wx i hI hi hm
    obtain ⟨u5, u6, u7, u8, g5, g6, x5, x6, rfl, hS, p0, p1, p2, p3, pn, p4, p5⟩ := hI
    have hi' : i = 0 ∨ i = 1 ∨ i = 2 ∨ i = 3 ∨ i = 4 ∨ i = 5 := by simp at hi; omega
    have hd := hm.2
    have hf := hm.1
    clear hm hi
    rcases hi' with rfl | rfl | rfl | rfl | rfl | rfl
    · refine RI.wpOp_plain rfl rfl ?_
      have c0 : ∀ o, o < 4 → wx.cell? ⟨w.heap.size, o, none⟩ = some (.int .u64 (dg a o)) := hS.c0
      go_simp
      exact ⟨u5, u6, _, u8, g5, g6, x5, x6, rfl, hS, fun _ => rfl, RI.keep (by decide) p1, RI.keep (by decide) p2, RI.keep (by decide) p3, T_two (by decide) (by decide) pn, T_on (by decide) (by decide) p4, T_on (by decide) (by decide) p5⟩
    · refine RI.wpOp_plain rfl rfl ?_
      have c1 : ∀ o, o < 4 → wx.cell? ⟨w.heap.size + 1, o, none⟩ = some (.int .u64 (dg b o)) := hS.c1
      go_simp
      exact ⟨u5, u6, u7, _, g5, g6, x5, x6, rfl, hS, RI.keep (by decide) p0, fun _ => rfl, RI.keep (by decide) p2, RI.keep (by decide) p3, T_two (by decide) (by decide) pn, T_on (by decide) (by decide) p4, T_on (by decide) (by decide) p5⟩
    · have hz : w.heap.size + 1 + 1 ≤ wx.heap.size := hS.hi
      refine RI.wpOp_plain rfl rfl ?_
      go_simp
      exact ⟨_, u6, u7, u8, wx.heap.size, g6, 0, x6, rfl, S2_alx hS _, RI.keep (by decide) p0, RI.keep (by decide) p1, fun _ => ⟨rfl, Vb_new0 _ _ _ hz⟩, RI.keep (by decide) fun h => ⟨(p3 h).1, Vb_al (p3 h).2 _⟩, fun _ h => Nat.ne_of_gt (p3 (by rwa [RI.don_other _ _ _ (by decide)] at h)).2.hi, T_no (by decide) hf p4, T_on (by decide) (by decide) p5⟩
    · have hz : w.heap.size + 1 + 1 ≤ wx.heap.size := hS.hi
      refine RI.wpOp_plain rfl rfl ?_
      go_simp
      exact ⟨u5, _, u7, u8, g5, wx.heap.size, x5, 0, rfl, S2_alx hS _, RI.keep (by decide) p0, RI.keep (by decide) p1, RI.keep (by decide) fun h => ⟨(p2 h).1, Vb_al (p2 h).2 _⟩, fun _ => ⟨rfl, Vb_new0 _ _ _ hz⟩, fun h _ => Nat.ne_of_lt (p2 (by rwa [RI.don_other _ _ _ (by decide)] at h)).2.hi, T_on (by decide) (by decide) p4, T_no (by decide) hf p5⟩
    · have hd := hd _ rfl
      simp [Region.binds] at hd
      obtain ⟨rfl, v1⟩ := p2 (by simp [hd])
      obtain ⟨rfl, v2⟩ := p3 (by simp [hd])
      have hn : g5 ≠ g6 := pn (by simp [hd]) (by simp [hd])
      obtain rfl := p0 (by simp [hd])
      have c1 : ∀ o, o < 4 → wx.cell? ⟨g5, o, none⟩ = some (.int .u64 (dg x5 o)) := v1.c
      have f1 : ∀ o, wx.frozen? ⟨g5, o, none⟩ = false := v1.f
      have z1 := v1.hi
      have hl : w.heap.size + 1 < g5 := v1.lo
      refine RI.wpOp_plain rfl rfl ?_
      unfold Wd
      go_simp
      exact ⟨_, _, _, u8, g5, g6, a, x6, rfl, S2_o4 hS hl, RI.keep (by decide) fun _ => rfl, RI.keep (by decide) p1, RI.keep (by decide) fun _ => ⟨rfl, Vb_set4 v1⟩, RI.keep (by decide) fun _ => ⟨rfl, Vb_o4 v2 hn⟩, T_two (by decide) (by decide) pn, fun _ => ⟨by simp [RI.don, hd], rfl⟩, T_on (by decide) (by decide) p5⟩
    · have hd := hd _ rfl
      simp [Region.binds] at hd
      obtain ⟨rfl, v1⟩ := p3 (by simp [hd])
      obtain ⟨rfl, v2⟩ := p2 (by simp [hd])
      have hn : g5 ≠ g6 := pn (by simp [hd]) (by simp [hd])
      obtain rfl := p1 (by simp [hd])
      obtain rfl := p0 (by simp [hd])
      have c1 : ∀ o, o < 4 → wx.cell? ⟨g6, o, none⟩ = some (.int .u64 (dg x6 o)) := v1.c
      have f1 : ∀ o, wx.frozen? ⟨g6, o, none⟩ = false := v1.f
      have z1 := v1.hi
      have hl : w.heap.size + 1 < g6 := v1.lo
      refine RI.wpOp_plain rfl rfl ?_
      unfold Wd
      go_simp
      exact ⟨_, _, _, _, g5, g6, x5, b, rfl, S2_o4 hS hl, RI.keep (by decide) fun _ => rfl, RI.keep (by decide) fun _ => rfl, RI.keep (by decide) fun _ => ⟨rfl, Vb_o4 v2 hn.symm⟩, RI.keep (by decide) fun _ => ⟨rfl, Vb_set4 v1⟩, T_two (by decide) (by decide) pn, T_on (by decide) (by decide) p4, fun _ => ⟨by simp [RI.don, hd], rfl⟩⟩
  · clear m0
    intro d x wx hI hd
    obtain ⟨u5, u6, u7, u8, g5, g6, x5, x6, rfl, hS, p0, p1, p2, p3, pn, p4, p5⟩ := hI
    obtain ⟨rfl, v5⟩ := p2 (hd 2 (by decide))
    obtain ⟨rfl, v6⟩ := p3 (hd 3 (by decide))
    have hn := pn (hd 2 (by decide)) (hd 3 (by decide))
    rw [(p4 (hd 4 (by decide))).2] at v5
    rw [(p5 (hd 5 (by decide))).2] at v6
    obtain rfl := p0 (hd 0 (by decide))
    obtain rfl := p1 (hd 1 (by decide))
    clear p0 p1 p2 p3 p4 p5 pn hd
    generalize wx = W1 at *
    go_upto_region 2 with fail
    refine RI.wp_region_inv (TC2 w a b g5 g6) (by kernel_rfl) (by kernel_rfl) ?_ ?_ ?_
    · exact ⟨undef, undef, undef, undef, undef, undef, undef, undef, dg a, dg b, rfl, S2_drew hS, Vb_drew v5, Vb_drew v6, fun _ => rfl, fun _ => rfl, nofun, nofun, nofun, nofun, nofun, nofun, nofun, nofun, nofun, nofun⟩
    · clear hS v5 v6
      intro d x wx i hI hi hm
      obtain ⟨u9, u10, u11, u12, u13, u14, u15, u16, F5, F6, rfl, hS, h5, h6, q5, q6, p0, p1, p2, p3, p4, p5, p6, p8, px7, px9⟩ := hI
      have hi' : i = 0 ∨ i = 1 ∨ i = 2 ∨ i = 3 ∨ i = 4 ∨ i = 5 ∨ i = 6 ∨ i = 7 ∨ i = 8 ∨ i = 9 := by simp at hi; omega
      have hd := hm.2
      have hf := hm.1
      clear hm hi
      rcases hi' with rfl | rfl | rfl | rfl | rfl | rfl | rfl | rfl | rfl | rfl
      · refine RI.wpOp_plain rfl rfl ?_
        go_simp
        exact ⟨_, u10, u11, u12, u13, u14, u15, u16, F5, F6, rfl, hS, h5, h6, (fun h => q5 (by rwa [RI.don_other _ _ _ (by decide)] at h)), (fun h => q6 (by rwa [RI.don_other _ _ _ (by decide)] at h)), fun _ => rfl, RI.keep (by decide) p1, RI.keep (by decide) p2, RI.keep (by decide) p3, RI.keep (by decide) p4, RI.keep (by decide) p5, RI.keep (by decide) p6, RI.keep (by decide) p8, T_on (by decide) (by decide) px7, T_on (by decide) (by decide) px9⟩
      · have hd := hd _ rfl
        simp [Region.binds] at hd
        obtain rfl := p0 (by simp [hd])
        refine RI.wpOp_plain rfl rfl ?_
        have h7 : d 7 = false := by
          cases h : d 7 with
          | false => rfl
          | true => exact absurd (px7 h).1 (by simp [hf])
        have e5 := q5 h7
        have c5 : wx.cell? ⟨g5, 3, none⟩ = some (.int .u64 (dg a 3)) := by have := h5.c 3 (by decide); rwa [e5] at this
        go_simp
        exact ⟨_, _, u11, u12, u13, u14, u15, u16, F5, F6, rfl, hS, h5, h6, (fun h => q5 (by rwa [RI.don_other _ _ _ (by decide)] at h)), (fun h => q6 (by rwa [RI.don_other _ _ _ (by decide)] at h)), RI.keep (by decide) p0, fun _ => rfl, RI.keep (by decide) p2, RI.keep (by decide) p3, RI.keep (by decide) p4, RI.keep (by decide) p5, RI.keep (by decide) p6, RI.keep (by decide) p8, (fun h => ⟨RI.don_same _ _, (px7 (by rwa [RI.don_other _ _ _ (by decide)] at h)).2⟩), T_on (by decide) (by decide) px9⟩
      · have hd := hd _ rfl
        simp [Region.binds] at hd
        obtain rfl := p1 (by simp [hd])
        refine RI.wpOp_plain rfl rfl ?_
        go_simp
        exact ⟨u9, _, _, u12, u13, u14, u15, u16, F5, F6, rfl, hS, h5, h6, (fun h => q5 (by rwa [RI.don_other _ _ _ (by decide)] at h)), (fun h => q6 (by rwa [RI.don_other _ _ _ (by decide)] at h)), RI.keep (by decide) p0, RI.keep (by decide) p1, fun _ => rfl, RI.keep (by decide) p3, RI.keep (by decide) p4, RI.keep (by decide) p5, RI.keep (by decide) p6, RI.keep (by decide) p8, T_on (by decide) (by decide) px7, T_on (by decide) (by decide) px9⟩
      · refine RI.wpOp_plain rfl rfl ?_
        go_simp
        exact ⟨u9, u10, u11, _, u13, u14, u15, u16, F5, F6, rfl, hS, h5, h6, (fun h => q5 (by rwa [RI.don_other _ _ _ (by decide)] at h)), (fun h => q6 (by rwa [RI.don_other _ _ _ (by decide)] at h)), RI.keep (by decide) p0, RI.keep (by decide) p1, RI.keep (by decide) p2, fun _ => rfl, RI.keep (by decide) p4, RI.keep (by decide) p5, RI.keep (by decide) p6, RI.keep (by decide) p8, T_on (by decide) (by decide) px7, T_on (by decide) (by decide) px9⟩
      · have hd := hd _ rfl
        simp [Region.binds] at hd
        obtain rfl := p3 (by simp [hd])
        refine RI.wpOp_plain rfl rfl ?_
        have h7 : d 9 = false := by
          cases h : d 9 with
          | false => rfl
          | true => exact absurd (px9 h).1 (by simp [hf])
        have e5 := q6 h7
        have c5 : wx.cell? ⟨g6, 3, none⟩ = some (.int .u64 (dg b 3)) := by have := h6.c 3 (by decide); rwa [e5] at this
        go_simp
        exact ⟨u9, u10, u11, _, _, u14, u15, u16, F5, F6, rfl, hS, h5, h6, (fun h => q5 (by rwa [RI.don_other _ _ _ (by decide)] at h)), (fun h => q6 (by rwa [RI.don_other _ _ _ (by decide)] at h)), RI.keep (by decide) p0, RI.keep (by decide) p1, RI.keep (by decide) p2, RI.keep (by decide) p3, fun _ => rfl, RI.keep (by decide) p5, RI.keep (by decide) p6, RI.keep (by decide) p8, T_on (by decide) (by decide) px7, (fun h => ⟨RI.don_same _ _, (px9 (by rwa [RI.don_other _ _ _ (by decide)] at h)).2⟩)⟩
      · have hd := hd _ rfl
        simp [Region.binds] at hd
        obtain rfl := p4 (by simp [hd])
        refine RI.wpOp_plain rfl rfl ?_
        go_simp
        exact ⟨u9, u10, u11, u12, _, _, u15, u16, F5, F6, rfl, hS, h5, h6, (fun h => q5 (by rwa [RI.don_other _ _ _ (by decide)] at h)), (fun h => q6 (by rwa [RI.don_other _ _ _ (by decide)] at h)), RI.keep (by decide) p0, RI.keep (by decide) p1, RI.keep (by decide) p2, RI.keep (by decide) p3, RI.keep (by decide) p4, fun _ => rfl, RI.keep (by decide) p6, RI.keep (by decide) p8, T_on (by decide) (by decide) px7, T_on (by decide) (by decide) px9⟩
      · have hd := hd _ rfl
        simp [Region.binds] at hd
        obtain rfl := p0 (by simp [hd])
        obtain rfl := p1 (by simp [hd])
        obtain rfl := p2 (by simp [hd])
        refine RI.wpOp_plain rfl rfl ?_
        go_simp
        exact ⟨_, _, _, u12, u13, u14, _, u16, F5, F6, rfl, hS, h5, h6, (fun h => q5 (by rwa [RI.don_other _ _ _ (by decide)] at h)), (fun h => q6 (by rwa [RI.don_other _ _ _ (by decide)] at h)), RI.keep (by decide) p0, RI.keep (by decide) p1, RI.keep (by decide) p2, RI.keep (by decide) p3, RI.keep (by decide) p4, RI.keep (by decide) p5, fun _ => rfl, RI.keep (by decide) p8, T_on (by decide) (by decide) px7, T_on (by decide) (by decide) px9⟩
      · have hd := hd _ rfl
        simp [Region.binds] at hd
        obtain rfl := p0 (by simp [hd])
        obtain rfl := p1 (by simp [hd])
        obtain rfl := p2 (by simp [hd])
        obtain rfl := p6 (by simp [hd])
        refine RI.wpOp_plain rfl rfl ?_
        obtain rfl := q5 hf
        have c5 := h5.c 3 (by decide)
        have f5 : ∀ o, wx.frozen? ⟨g5, o, none⟩ = false := h5.f
        have l5 : w.heap.size + 1 < g5 := h5.lo
        go_simp
        exact ⟨_, _, _, u12, u13, u14, _, u16, _, F6, rfl, S2_o1 hS l5, Vb_set h5 (by decide), Vb_other h6 hn, (fun h => absurd h (by simp [RI.don])), (fun h => q6 (by rwa [RI.don_other _ _ _ (by decide)] at h)), RI.keep (by decide) p0, RI.keep (by decide) p1, RI.keep (by decide) p2, RI.keep (by decide) p3, RI.keep (by decide) p4, RI.keep (by decide) p5, RI.keep (by decide) p6, RI.keep (by decide) p8, (fun _ => ⟨by simp [RI.don, hd], rfl⟩), T_on (by decide) (by decide) px9⟩
      · have hd := hd _ rfl
        simp [Region.binds] at hd
        obtain rfl := p0 (by simp [hd])
        obtain rfl := p1 (by simp [hd])
        obtain rfl := p2 (by simp [hd])
        obtain rfl := p3 (by simp [hd])
        obtain rfl := p4 (by simp [hd])
        obtain rfl := p5 (by simp [hd])
        obtain rfl := p6 (by simp [hd])
        refine RI.wpOp_plain rfl rfl ?_
        go_simp
        exact ⟨_, _, _, _, _, _, _, _, F5, F6, rfl, hS, h5, h6, (fun h => q5 (by rwa [RI.don_other _ _ _ (by decide)] at h)), (fun h => q6 (by rwa [RI.don_other _ _ _ (by decide)] at h)), RI.keep (by decide) p0, RI.keep (by decide) p1, RI.keep (by decide) p2, RI.keep (by decide) p3, RI.keep (by decide) p4, RI.keep (by decide) p5, RI.keep (by decide) p6, fun _ => rfl, T_on (by decide) (by decide) px7, T_on (by decide) (by decide) px9⟩
      · have hd := hd _ rfl
        simp [Region.binds] at hd
        obtain rfl := p0 (by simp [hd])
        obtain rfl := p1 (by simp [hd])
        obtain rfl := p2 (by simp [hd])
        obtain rfl := p3 (by simp [hd])
        obtain rfl := p4 (by simp [hd])
        obtain rfl := p5 (by simp [hd])
        obtain rfl := p6 (by simp [hd])
        obtain rfl := p8 (by simp [hd])
        refine RI.wpOp_plain rfl rfl ?_
        obtain rfl := q6 hf
        have c6 := h6.c 3 (by decide)
        have f6 : ∀ o, wx.frozen? ⟨g6, o, none⟩ = false := h6.f
        have l6 : w.heap.size + 1 < g6 := h6.lo
        go_simp
        exact ⟨_, _, _, _, _, _, _, _, F5, _, rfl, S2_o1 hS l6, Vb_other h5 hn.symm, Vb_set h6 (by decide), (fun h => q5 (by rwa [RI.don_other _ _ _ (by decide)] at h)), (fun h => absurd h (by simp [RI.don])), RI.keep (by decide) p0, RI.keep (by decide) p1, RI.keep (by decide) p2, RI.keep (by decide) p3, RI.keep (by decide) p4, RI.keep (by decide) p5, RI.keep (by decide) p6, RI.keep (by decide) p8, T_on (by decide) (by decide) px7, (fun _ => ⟨by simp [RI.don, hd], rfl⟩)⟩
    · clear hS v5 v6
      intro d x wx hI hd
      obtain ⟨u9, u10, u11, u12, u13, u14, u15, u16, F5, F6, rfl, hS, h5, h6, q5, q6, p0, p1, p2, p3, p4, p5, p6, p8, px7, px9⟩ := hI
      obtain rfl := p0 (hd 0 (by decide))
      obtain rfl := p1 (hd 1 (by decide))
      obtain rfl := p2 (hd 2 (by decide))
      obtain rfl := p3 (hd 3 (by decide))
      obtain rfl := p4 (hd 4 (by decide))
      obtain rfl := p5 (hd 5 (by decide))
      obtain rfl := p6 (hd 6 (by decide))
      obtain rfl := p8 (hd 8 (by decide))
      rw [(px7 (hd 7 (by decide))).2] at h5
      rw [(px9 (hd 9 (by decide))).2] at h6
      have c5 : ∀ o, o < 4 → wx.cell? ⟨g5, o, none⟩ = some (.int .u64 (dg X o)) := fun o ho => by rw [← E5.out o ho]; exact h5.c o ho
      have c6 : ∀ o, o < 4 → wx.cell? ⟨g6, o, none⟩ = some (.int .u64 (dg Y o)) := fun o ho => by rw [← E6.out o ho]; exact h6.c o ho
      have HS : Hid (S2 w a b wx) := hS
      clear p0 p1 p2 p3 p4 p5 p6 p8 px7 px9 q5 q6 h5 h6 hd hS E5 E6
      generalize bits .xor .u64 (dg a 3) 9223372036854775808 = PX
      generalize bits .xor .u64 (dg b 3) 9223372036854775808 = PY
      go_wp2_with fail
      refine (KC.out _).mono ?_
      rintro e w5 ⟨rfl, hb5⟩
      have HB : Hid (Below w.heap.size w w5) := (S2_below HS.out hb5).bel
      clear hb5 HS c5 c6
      go_wp2_with fail
      go_ret
      exact ⟨rfl, HB.out⟩
end Go.Proofs.Ytcoljaogemgnnab
