/- word.MulMod: the rest of the whole product. -/
import Derived.Test.YtcoljaogemgnnaaDivMod
import Derived.Test.YtcoljaogemgnnaaRegInv
namespace Go.Proofs.Ytcoljaogemgnnaa
open Go.RowKit Go.Shelf
attribute [local go_sem ↓] Go.wp_at_zero Go.wp_at_succ
theorem M4_start3 (w : World) (a b c : Nat) (T : TypeId) : M4 w a b c 0 ((((w.alloc (.cells #[.int .u64 (dg a 0), .int .u64 (dg a 1), .int .u64 (dg a 2), .int .u64 (dg a 3)] T)).alloc (.cells #[.int .u64 (dg b 0), .int .u64 (dg b 1), .int .u64 (dg b 2), .int .u64 (dg b 3)] T)).alloc (.cells #[.int .u64 (dg c 0), .int .u64 (dg c 1), .int .u64 (dg c 2), .int .u64 (dg c 3)] T)).alloc (.cells #[.int .u64 0, .int .u64 0, .int .u64 0, .int .u64 0] T)) := by
  refine ⟨Vb_al (Vb_al (Vb_al (Vb_new4 _ a w T (Nat.le_refl _)) _) _) _, Vb_al (Vb_al (Vb_new4e (by simp) (by omega)) _) _, Vb_al (Vb_new4e (by simp) (by omega)) _, ?_, ?_⟩
  · exact Vb_new4e (n := 0) (by simp) (by omega)
  · repeat (first | exact Below.refl _ _ | refine Below.alloc ?_ (by simp <;> omega) _)
theorem result_mulmod (tm : Array Value) (W : World) (g y : Nat) (h : tm.getD 6 undef = .pointer (some ⟨g, 0, none⟩)) (c : CF g 4 (dg y) W) : (results Try.f11 tm).run Try.prog W = .ok (Wd y) W := by
  have c2 : ∀ o, o < 4 → W.cell? ⟨g, o, none⟩ = some (.int .u64 (dg y o)) := c
  simp at h
  simp [Wd, results, Try.results11, go_sem, h, c2]
/-- What holds while the region of MulMod goes on. -/
def MMI (w : World) (a b c V N R : Nat) (d : Nat → Bool) (x : Act) (wx : World) : Prop :=
  ∃ (u7 u8 u9 u10 u11 u12 u13 u14 u15 u16 : Value) (g7 g8 : Nat) (F7 F8 : Nat → Int),
    x = { tmps := #[.agg #[.int .u64 (dg a 0), .int .u64 (dg a 1), .int .u64 (dg a 2), .int .u64 (dg a 3)], .agg #[.int .u64 (dg b 0), .int .u64 (dg b 1), .int .u64 (dg b 2), .int .u64 (dg b 3)], .agg #[.int .u64 (dg c 0), .int .u64 (dg c 1), .int .u64 (dg c 2), .int .u64 (dg c 3)], .pointer (some ⟨w.heap.size, 0, none⟩), .pointer (some ⟨w.heap.size + 1, 0, none⟩), .pointer (some ⟨w.heap.size + 1 + 1, 0, none⟩), .pointer (some ⟨w.heap.size + 1 + 1 + 1, 0, none⟩), u7, u8, u9, u10, u11, u12, u13, u14, u15, u16, undef], defers := [] } ∧
    M4 w a b c 0 wx ∧
    (d 0 = true → u10 = Wd a) ∧ (d 1 = true → u11 = Wd b) ∧ (d 2 = true → u12 = Wi V) ∧ (d 3 = true → u13 = Wd c) ∧ (d 4 = true → u14 = .tuple #[Wi N, Wd R]) ∧ (d 5 = true → u9 = .tuple #[Wi N, Wd R]) ∧ (d 6 = true → u15 = Wi N) ∧ (d 7 = true → u16 = Wd R) ∧
    (d 8 = true → u7 = .pointer (some ⟨g7, 0, none⟩) ∧ Vb (w.heap.size + 1 + 1 + 1 + 1) g7 8 F7 wx) ∧
    (d 9 = true → u8 = .pointer (some ⟨g8, 0, none⟩) ∧ Vb (w.heap.size + 1 + 1 + 1 + 1) g8 4 F8 wx) ∧
    (d 8 = true → d 9 = true → g7 ≠ g8) ∧ (d 11 = true → d 9 = true ∧ F8 = dg R)
set_option maxHeartbeats 8000000 in
set_option maxRecDepth 100000 in
theorem mulmod_any (a b c : Nat) (ha : a < 2 ^ 256) (hb : b < 2 ^ 256) (hc : c < 2 ^ 256) (w : World) :
    Calls Try.prog 11 #[Wd a, Wd b, Wd c] w fun e w' => e = .returned (Wd (md (a * b) c)) ∧ Below w.heap.size w w' := by
  obtain ⟨e, he⟩ : ∃ e, e = 512 := ⟨_, rfl⟩
  obtain ⟨R, hR⟩ : ∃ R, R = md (a * b) c := ⟨_, rfl⟩
  obtain ⟨N, hN⟩ : ∃ N, N = (a * b) / c := ⟨_, rfl⟩
  obtain ⟨V, hV⟩ : ∃ V, V = a * b := ⟨_, rfl⟩
  have h5 : V < 2 ^ e := by
    obtain ⟨f, hf⟩ : ∃ f, f = 256 := ⟨_, rfl⟩
    rw [hV, show e = f + f by omega, Nat.pow_add, hf]
    exact Nat.mul_lt_mul'' ha hb
  have KS : Hid (∀ w : World, Calls Try.prog 41 #[Wd a, Wd b] w fun e w' => e = .returned (Wi V) ∧ Below w.heap.size w w') := fun w => by rw [hV]; exact product_any a b ha hb w
  have KD : Hid (∀ w : World, Calls Try.prog 36 #[Wi V, Wd c] w fun e w' => e = .returned (.tuple #[Wi N, Wd R]) ∧ Below w.heap.size w w') := fun w => by rw [hN, hR, ← hV]; exact divide_all V c e he h5 hc w
  rw [← hR]
  clear ha hb hc hN hR hV h5 he e
  have m0 := M4_start3 w a b c 24
  conv => arg 3; unfold Wd
  go_enter Try.func11, Try.ntmps11
  go_wp2_with fail
  generalize (((w.alloc (.cells #[.int .u64 (dg a 0), .int .u64 (dg a 1), .int .u64 (dg a 2), .int .u64 (dg a 3)] 24)).alloc (.cells #[.int .u64 (dg b 0), .int .u64 (dg b 1), .int .u64 (dg b 2), .int .u64 (dg b 3)] 24)).alloc (.cells #[.int .u64 (dg c 0), .int .u64 (dg c 1), .int .u64 (dg c 2), .int .u64 (dg c 3)] 24)).alloc (.cells #[.int .u64 0, .int .u64 0, .int .u64 0, .int .u64 0] 24) = W0 at m0 ⊢
  refine RI.wp_region_inv (MMI w a b c V N R) (by kernel_rfl) (by kernel_rfl) ?_ ?_ ?_
  · exact ⟨undef, undef, undef, undef, undef, undef, undef, undef, undef, undef, 0, 0, fun _ => 0, fun _ => 0, rfl, M4_drew m0, nofun, nofun, nofun, nofun, nofun, nofun, nofun, nofun, nofun, nofun, nofun, nofun⟩
  · intro d x wx i hI hi hm
    obtain ⟨u7, u8, u9, u10, u11, u12, u13, u14, u15, u16, g7, g8, F7, F8, rfl, hM, p0, p1, p2, p3, p4, p5, p6, p7, p8, p9, p89, p11⟩ := hI
    have hi' : i = 0 ∨ i = 1 ∨ i = 2 ∨ i = 3 ∨ i = 4 ∨ i = 5 ∨ i = 6 ∨ i = 7 ∨ i = 8 ∨ i = 9 ∨ i = 10 ∨ i = 11 := by simp at hi; omega
    have hd := hm.2
    have hn := hm.1
    clear hm hi
    rcases hi' with rfl | rfl | rfl | rfl | rfl | rfl | rfl | rfl | rfl | rfl | rfl | rfl
    · refine RI.wpOp_plain rfl rfl ?_
      have c0 : ∀ o, o < 4 → wx.cell? ⟨w.heap.size, o, none⟩ = some (.int .u64 (dg a o)) := hM.v0.c
      go_simp
      exact ⟨u7, u8, u9, _, u11, u12, u13, u14, u15, u16, g7, g8, F7, F8, rfl, hM, fun _ => rfl, RI.keep (by decide) p1, RI.keep (by decide) p2, RI.keep (by decide) p3, RI.keep (by decide) p4, RI.keep (by decide) p5, RI.keep (by decide) p6, RI.keep (by decide) p7, RI.keep (by decide) p8, RI.keep (by decide) p9, RI.keep (by decide) fun h8 => RI.keep (by decide) fun h9 => p89 h8 h9, RI.keep (by decide) fun h => ⟨by simp [RI.don, (p11 h).1], (p11 h).2⟩⟩
    · refine RI.wpOp_plain rfl rfl ?_
      have c0 : ∀ o, o < 4 → wx.cell? ⟨w.heap.size + 1, o, none⟩ = some (.int .u64 (dg b o)) := hM.v1.c
      go_simp
      exact ⟨u7, u8, u9, u10, _, u12, u13, u14, u15, u16, g7, g8, F7, F8, rfl, hM, RI.keep (by decide) p0, fun _ => rfl, RI.keep (by decide) p2, RI.keep (by decide) p3, RI.keep (by decide) p4, RI.keep (by decide) p5, RI.keep (by decide) p6, RI.keep (by decide) p7, RI.keep (by decide) p8, RI.keep (by decide) p9, RI.keep (by decide) fun h8 => RI.keep (by decide) fun h9 => p89 h8 h9, RI.keep (by decide) fun h => ⟨by simp [RI.don, (p11 h).1], (p11 h).2⟩⟩
    · have hd := hd _ rfl
      simp [Region.binds] at hd
      refine RI.wpOp_plain rfl rfl ?_
      obtain rfl := p0 (by simp [hd])
      obtain rfl := p1 (by simp [hd])
      go_simp
      refine (KS.out _).mono ?_
      rintro e w1 ⟨rfl, hb1⟩
      exact ⟨u7, u8, u9, _, _, _, u13, u14, u15, u16, g7, g8, F7, F8, rfl, M4_below hM hb1, RI.keep (by decide) p0, RI.keep (by decide) p1, fun _ => rfl, RI.keep (by decide) p3, RI.keep (by decide) p4, RI.keep (by decide) p5, RI.keep (by decide) p6, RI.keep (by decide) p7, RI.keep (by decide) (fun h => ⟨(p8 h).1, Vb_below (p8 h).2 hb1⟩), RI.keep (by decide) (fun h => ⟨(p9 h).1, Vb_below (p9 h).2 hb1⟩), RI.keep (by decide) fun h8 => RI.keep (by decide) fun h9 => p89 h8 h9, RI.keep (by decide) fun h => ⟨by simp [RI.don, (p11 h).1], (p11 h).2⟩⟩
    · refine RI.wpOp_plain rfl rfl ?_
      have c0 : ∀ o, o < 4 → wx.cell? ⟨w.heap.size + 1 + 1, o, none⟩ = some (.int .u64 (dg c o)) := hM.v2.c
      go_simp
      exact ⟨u7, u8, u9, u10, u11, u12, _, u14, u15, u16, g7, g8, F7, F8, rfl, hM, RI.keep (by decide) p0, RI.keep (by decide) p1, RI.keep (by decide) p2, fun _ => rfl, RI.keep (by decide) p4, RI.keep (by decide) p5, RI.keep (by decide) p6, RI.keep (by decide) p7, RI.keep (by decide) p8, RI.keep (by decide) p9, RI.keep (by decide) fun h8 => RI.keep (by decide) fun h9 => p89 h8 h9, RI.keep (by decide) fun h => ⟨by simp [RI.don, (p11 h).1], (p11 h).2⟩⟩
    · have hd := hd _ rfl
      simp [Region.binds] at hd
      refine RI.wpOp_plain rfl rfl ?_
      obtain rfl := p2 (by simp [hd])
      obtain rfl := p3 (by simp [hd])
      go_simp
      refine (KD.out _).mono ?_
      rintro e w1 ⟨rfl, hb1⟩
      exact ⟨u7, u8, u9, u10, u11, _, _, _, u15, u16, g7, g8, F7, F8, rfl, M4_below hM hb1, RI.keep (by decide) p0, RI.keep (by decide) p1, RI.keep (by decide) p2, RI.keep (by decide) p3, fun _ => rfl, RI.keep (by decide) p5, RI.keep (by decide) p6, RI.keep (by decide) p7, RI.keep (by decide) (fun h => ⟨(p8 h).1, Vb_below (p8 h).2 hb1⟩), RI.keep (by decide) (fun h => ⟨(p9 h).1, Vb_below (p9 h).2 hb1⟩), RI.keep (by decide) fun h8 => RI.keep (by decide) fun h9 => p89 h8 h9, RI.keep (by decide) fun h => ⟨by simp [RI.don, (p11 h).1], (p11 h).2⟩⟩
    · have hd := hd _ rfl
      simp [Region.binds] at hd
      refine RI.wpOp_plain rfl rfl ?_
      obtain rfl := p4 (by simp [hd])
      go_simp
      exact ⟨u7, u8, _, u10, u11, u12, u13, _, u15, u16, g7, g8, F7, F8, rfl, hM, RI.keep (by decide) p0, RI.keep (by decide) p1, RI.keep (by decide) p2, RI.keep (by decide) p3, RI.keep (by decide) p4, fun _ => rfl, RI.keep (by decide) p6, RI.keep (by decide) p7, RI.keep (by decide) p8, RI.keep (by decide) p9, RI.keep (by decide) fun h8 => RI.keep (by decide) fun h9 => p89 h8 h9, RI.keep (by decide) fun h => ⟨by simp [RI.don, (p11 h).1], (p11 h).2⟩⟩
    · have hd := hd _ rfl
      simp [Region.binds] at hd
      refine RI.wpOp_plain rfl rfl ?_
      obtain rfl := p5 (by simp [hd])
      go_simp
      exact ⟨u7, u8, _, u10, u11, u12, u13, u14, _, u16, g7, g8, F7, F8, rfl, hM, RI.keep (by decide) p0, RI.keep (by decide) p1, RI.keep (by decide) p2, RI.keep (by decide) p3, RI.keep (by decide) p4, RI.keep (by decide) p5, fun _ => rfl, RI.keep (by decide) p7, RI.keep (by decide) p8, RI.keep (by decide) p9, RI.keep (by decide) fun h8 => RI.keep (by decide) fun h9 => p89 h8 h9, RI.keep (by decide) fun h => ⟨by simp [RI.don, (p11 h).1], (p11 h).2⟩⟩
    · have hd := hd _ rfl
      simp [Region.binds] at hd
      refine RI.wpOp_plain rfl rfl ?_
      obtain rfl := p5 (by simp [hd])
      go_simp
      exact ⟨u7, u8, _, u10, u11, u12, u13, u14, u15, _, g7, g8, F7, F8, rfl, hM, RI.keep (by decide) p0, RI.keep (by decide) p1, RI.keep (by decide) p2, RI.keep (by decide) p3, RI.keep (by decide) p4, RI.keep (by decide) p5, RI.keep (by decide) p6, fun _ => rfl, RI.keep (by decide) p8, RI.keep (by decide) p9, RI.keep (by decide) fun h8 => RI.keep (by decide) fun h9 => p89 h8 h9, RI.keep (by decide) fun h => ⟨by simp [RI.don, (p11 h).1], (p11 h).2⟩⟩
    · refine RI.wpOp_plain rfl rfl ?_
      go_simp
      exact ⟨_, u8, u9, u10, u11, u12, u13, u14, u15, u16, wx.heap.size, g8, dg 0, F8, rfl, M4_al hM _, RI.keep (by decide) p0, RI.keep (by decide) p1, RI.keep (by decide) p2, RI.keep (by decide) p3, RI.keep (by decide) p4, RI.keep (by decide) p5, RI.keep (by decide) p6, RI.keep (by decide) p7, fun _ => ⟨rfl, Vb_new80 _ wx _ hM.v3.hi⟩, RI.keep (by decide) fun h => ⟨(p9 h).1, Vb_al (p9 h).2 _⟩, fun _ => RI.keep (by decide) fun h9 => Nat.ne_of_gt (p9 h9).2.hi, RI.keep (by decide) fun h => ⟨by simp [RI.don, (p11 h).1], (p11 h).2⟩⟩
    · refine RI.wpOp_plain rfl rfl ?_
      go_simp
      exact ⟨u7, _, u9, u10, u11, u12, u13, u14, u15, u16, g7, wx.heap.size, F7, dg 0, rfl, M4_al hM _, RI.keep (by decide) p0, RI.keep (by decide) p1, RI.keep (by decide) p2, RI.keep (by decide) p3, RI.keep (by decide) p4, RI.keep (by decide) p5, RI.keep (by decide) p6, RI.keep (by decide) p7, RI.keep (by decide) fun h => ⟨(p8 h).1, Vb_al (p8 h).2 _⟩, fun _ => ⟨rfl, Vb_new0 _ wx _ hM.v3.hi⟩, RI.keep (by decide) fun h8 _ => Nat.ne_of_lt (p8 h8).2.hi, RI.keep (by decide) fun h => absurd (p11 h).1 (by simp [hn])⟩
    · have hd := hd _ rfl
      simp [Region.binds] at hd
      refine RI.wpOp_plain rfl rfl ?_
      obtain ⟨rfl, v7⟩ := p8 (by simp [hd])
      obtain ⟨rfl, v8⟩ := p9 (by simp [hd])
      obtain rfl := p6 (by simp [hd])
      obtain rfl := p0 (by simp [hd])
      obtain rfl := p1 (by simp [hd])
      obtain rfl := p2 (by simp [hd])
      obtain rfl := p3 (by simp [hd])
      obtain rfl := p4 (by simp [hd])
      obtain rfl := p5 (by simp [hd])
      have hne := p89 (by simp [hd]) (by simp [hd])
      have c0 : ∀ o, o < 8 → wx.cell? ⟨g7, o, none⟩ = some (.int .u64 (F7 o)) := v7.c
      have f0 : ∀ o, wx.frozen? ⟨g7, o, none⟩ = false := v7.f
      unfold Wi
      go_simp
      exact ⟨_, _, _, _, _, _, _, _, _, _, g7, g8, dg N, F8, rfl, M4_o8 hM v7.lo, RI.keep (by decide) p0, RI.keep (by decide) p1, RI.keep (by decide) p2, RI.keep (by decide) p3, RI.keep (by decide) p4, RI.keep (by decide) p5, RI.keep (by decide) p6, RI.keep (by decide) p7, fun _ => ⟨rfl, Vb_set8 v7⟩, fun _ => ⟨rfl, Vb_o8 v8 hne⟩, fun _ _ => hne, RI.keep (by decide) fun h => ⟨by simp [RI.don, (p11 h).1], (p11 h).2⟩⟩
    · have hd := hd _ rfl
      simp [Region.binds] at hd
      refine RI.wpOp_plain rfl rfl ?_
      obtain ⟨rfl, v8⟩ := p9 (by simp [hd])
      obtain ⟨rfl, v7⟩ := p8 (by simp [hd])
      obtain rfl := p7 (by simp [hd])
      obtain rfl := p6 (by simp [hd])
      obtain rfl := p0 (by simp [hd])
      obtain rfl := p1 (by simp [hd])
      obtain rfl := p2 (by simp [hd])
      obtain rfl := p3 (by simp [hd])
      obtain rfl := p4 (by simp [hd])
      obtain rfl := p5 (by simp [hd])
      have hne := p89 (by simp [hd]) (by simp [hd])
      have c0 : ∀ o, o < 4 → wx.cell? ⟨g8, o, none⟩ = some (.int .u64 (F8 o)) := v8.c
      have f0 : ∀ o, wx.frozen? ⟨g8, o, none⟩ = false := v8.f
      unfold Wd
      go_simp
      exact ⟨_, _, _, _, _, _, _, _, _, _, g7, g8, F7, dg R, rfl, M4_o4 hM v8.lo, RI.keep (by decide) p0, RI.keep (by decide) p1, RI.keep (by decide) p2, RI.keep (by decide) p3, RI.keep (by decide) p4, RI.keep (by decide) p5, RI.keep (by decide) p6, RI.keep (by decide) p7, fun _ => ⟨rfl, Vb_o4 v7 (Ne.symm hne)⟩, fun _ => ⟨rfl, Vb_set4 v8⟩, fun _ _ => hne, fun _ => ⟨by simp [RI.don, hd], rfl⟩⟩
  · intro d x wx hI hd
    obtain ⟨u7, u8, u9, u10, u11, u12, u13, u14, u15, u16, g7, g8, F7, F8, rfl, hM, p0, p1, p2, p3, p4, p5, p6, p7, p8, p9, p89, p11⟩ := hI
    obtain ⟨rfl, v8⟩ := p9 (hd 9 (by decide))
    obtain rfl := (p11 (hd 11 (by decide))).2
    clear p0 p1 p2 p3 p4 p5 p6 p7 p8 p9 p89 p11 KS KD m0 hd
    have cg : ∀ o, o < 4 → wx.cell? ⟨g8, o, none⟩ = some (.int .u64 (dg R o)) := v8.c
    have c3 : ∀ o, o < 4 → wx.cell? ⟨w.heap.size + 1 + 1 + 1, o, none⟩ = some (.int .u64 (dg 0 o)) := hM.v3.c
    have f3 : ∀ o, wx.frozen? ⟨w.heap.size + 1 + 1 + 1, o, none⟩ = false := hM.v3.f
    have HM : Hid (M4 w a b c 0 wx) := hM
    clear v8 hM
    go_wp2_with fail
    have m5 := M4_set3 (m := R) HM.out
    exact bodyPost_ret (v := Wd R) (result_mulmod _ _ (w.heap.size + 1 + 1 + 1) R rfl m5.v3.c) rfl ⟨rfl, m5.bel⟩
end Go.Proofs.Ytcoljaogemgnnaa
