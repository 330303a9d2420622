/- twos.SCmp and lampbearerref.TSCmp: the order of words with signs. -/
import Derived.Test.YtblodmjnhmfjeaaTwA
import Derived.Test.YtblodmjnhmfjeaaRegInv
import Derived.Test.YtblodmjnhmfjeaaWCmp
import Derived.Test.YtblodmjnhmfjeaaAdd
namespace Go.Proofs.Ytblodmjnhmfjeaa
open Go.RowKit Go.Shelf
/-- 2^255 more, rest 2^256. -/
def hf (a : Nat) : Nat := (a + 2 ^ 255) % 2 ^ 256
theorem hf_lt (a : Nat) : hf a < 2 ^ 256 := Nat.mod_lt _ (by decide)
theorem half_parts (H : Nat) (h : H = 2 ^ 255) : dg H 0 = 0 ∧ dg H 1 = 0 ∧ dg H 2 = 0 ∧ dg H 3 = 9223372036854775808 := by subst h; decide
/-- What holds while the two are moved up and held against each other. -/
def SC2 (w : World) (a b H X Y : Nat) (C : Int) (d : Nat → Bool) (x : Act) (wx : World) : Prop :=
  ∃ (u4 u7 u8 u9 u10 u11 u12 u13 : Value) (v6 : Value),
    x = { tmps := #[.agg #[.int .u64 (dg a 0), .int .u64 (dg a 1), .int .u64 (dg a 2), .int .u64 (dg a 3)], .agg #[.int .u64 (dg b 0), .int .u64 (dg b 1), .int .u64 (dg b 2), .int .u64 (dg b 3)], .pointer (some ⟨w.heap.size, 0, none⟩), .pointer (some ⟨w.heap.size + 1, 0, none⟩), u4, .pointer (some ⟨w.heap.size + 1 + 1, 0, none⟩), v6, u7, u8, u9, u10, u11, u12, u13], defers := [] } ∧
    (S3 w a b H wx) ∧
    (d 0 = true → u7 = Wd a) ∧ (d 1 = true → u8 = Wd H) ∧ (d 2 = true → u9 = Wd X) ∧ (d 3 = true → u10 = Wd b) ∧ (d 4 = true → u11 = Wd H) ∧ (d 5 = true → u12 = Wd Y) ∧ (d 6 = true → u13 = .int .i64 C) ∧ (d 7 = true → u4 = .int .i64 C)
set_option maxHeartbeats 4000000 in
set_option maxRecDepth 100000 in
theorem scmp_any (a b : Nat) (ha : a < 2 ^ 256) (hb : b < 2 ^ 256) (w : World) :
    Calls Try.prog 25 #[Wd a, Wd b] w fun e w' => e = .returned (.int .i64 (cm (hf a : Int) (hf b : Int))) ∧ Below w.heap.size w w' := by
  obtain ⟨H, hH⟩ : ∃ H, H = 2 ^ 255 := ⟨_, rfl⟩
  have hl : H < 2 ^ 256 := by rw [hH]; decide
  have KX : Hid (∀ w : World, Calls Try.prog 14 #[Wd a, Wd H] w fun e w' => e = .returned (Wd (hf a)) ∧ Below w.heap.size w w') := fun w => by
    have k := add_any a H ha hl w
    rw [← Wd_mod (a + H), hH] at k
    rw [hH]
    exact k
  have KY : Hid (∀ w : World, Calls Try.prog 14 #[Wd b, Wd H] w fun e w' => e = .returned (Wd (hf b)) ∧ Below w.heap.size w w') := fun w => by
    have k := add_any b H hb hl w
    rw [← Wd_mod (b + H), hH] at k
    rw [hH]
    exact k
  have KC : Hid (∀ w : World, Calls Try.prog 19 #[Wd (hf a), Wd (hf b)] w fun e w' => e = .returned (.int .i64 (cm (hf a : Int) (hf b : Int))) ∧ Below w.heap.size w w') := fun w => cmp_any _ _ (hf_lt a) (hf_lt b) w
  obtain ⟨e0, e1, e2, e3⟩ := half_parts H hH
  have m0 := S3_start w a b H
  rw [e0, e1, e2, e3] at m0
  clear ha hb hl hH e0 e1 e2 e3
  generalize cm (hf a : Int) (hf b : Int) = C at *
  generalize hf a = X at *
  generalize hf b = Y at *
  conv => arg 3; unfold Wd
  go_enter Try.func25, Try.ntmps25
  go_upto_region 2 with fail
  generalize ((w.alloc (.cells #[.int .u64 (dg a 0), .int .u64 (dg a 1), .int .u64 (dg a 2), .int .u64 (dg a 3)] 24)).alloc (.cells #[.int .u64 (dg b 0), .int .u64 (dg b 1), .int .u64 (dg b 2), .int .u64 (dg b 3)] 24)).alloc (.cells #[.int .u64 0, .int .u64 0, .int .u64 0, .int .u64 9223372036854775808] 24) = W0 at m0 ⊢
  refine RI.wp_region_inv (SC2 w a b H X Y C) (by kernel_rfl) (by kernel_rfl) ?_ ?_ ?_
  · exact ⟨.int .i64 0, undef, undef, undef, undef, undef, undef, undef, _, rfl, S3_drew m0, nofun, nofun, nofun, nofun, nofun, nofun, nofun, nofun⟩
  · clear m0
    intro d x wx i hI hi hm
    obtain ⟨u4, u7, u8, u9, u10, u11, u12, u13, v6, rfl, hS, p0, p1, p2, p3, p4, p5, p6, p7⟩ := hI
    have hi' : i = 0 ∨ i = 1 ∨ i = 2 ∨ i = 3 ∨ i = 4 ∨ i = 5 ∨ i = 6 ∨ i = 7 := by simp at hi; omega
    have hd := hm.2
    clear hm hi
    rcases hi' with rfl | rfl | rfl | rfl | rfl | rfl | rfl | rfl
    · refine RI.wpOp_plain rfl rfl ?_
      have c0 : ∀ o, o < 4 → wx.cell? ⟨w.heap.size, o, none⟩ = some (.int .u64 (dg a o)) := hS.c0
      go_simp
      exact ⟨u4, _, u8, u9, u10, u11, u12, u13, v6, rfl, hS, fun _ => rfl, RI.keep (by decide) p1, RI.keep (by decide) p2, RI.keep (by decide) p3, RI.keep (by decide) p4, RI.keep (by decide) p5, RI.keep (by decide) p6, RI.keep (by decide) p7⟩
    · refine RI.wpOp_plain rfl rfl ?_
      have c2 : ∀ o, o < 4 → wx.cell? ⟨w.heap.size + 1 + 1, o, none⟩ = some (.int .u64 (dg H o)) := hS.c2
      go_simp
      exact ⟨u4, u7, _, u9, u10, u11, u12, u13, v6, rfl, hS, RI.keep (by decide) p0, fun _ => rfl, RI.keep (by decide) p2, RI.keep (by decide) p3, RI.keep (by decide) p4, RI.keep (by decide) p5, RI.keep (by decide) p6, RI.keep (by decide) p7⟩
    · have hd := hd _ rfl
      simp [Region.binds] at hd
      obtain rfl := p0 (by simp [hd])
      obtain rfl := p1 (by simp [hd])
      refine RI.wpOp_plain rfl rfl ?_
      go_simp
      refine (KX.out _).mono ?_
      rintro e w1 ⟨rfl, hb1⟩
      exact ⟨u4, _, _, _, u10, u11, u12, u13, v6, rfl, S3_below hS hb1, RI.keep (by decide) p0, RI.keep (by decide) p1, fun _ => rfl, RI.keep (by decide) p3, RI.keep (by decide) p4, RI.keep (by decide) p5, RI.keep (by decide) p6, RI.keep (by decide) p7⟩
    · refine RI.wpOp_plain rfl rfl ?_
      have c1 : ∀ o, o < 4 → wx.cell? ⟨w.heap.size + 1, o, none⟩ = some (.int .u64 (dg b o)) := hS.c1
      go_simp
      exact ⟨u4, u7, u8, u9, _, u11, u12, u13, v6, rfl, hS, RI.keep (by decide) p0, RI.keep (by decide) p1, RI.keep (by decide) p2, fun _ => rfl, RI.keep (by decide) p4, RI.keep (by decide) p5, RI.keep (by decide) p6, RI.keep (by decide) p7⟩
    · refine RI.wpOp_plain rfl rfl ?_
      have c2 : ∀ o, o < 4 → wx.cell? ⟨w.heap.size + 1 + 1, o, none⟩ = some (.int .u64 (dg H o)) := hS.c2
      go_simp
      exact ⟨u4, u7, u8, u9, u10, _, u12, u13, v6, rfl, hS, RI.keep (by decide) p0, RI.keep (by decide) p1, RI.keep (by decide) p2, RI.keep (by decide) p3, fun _ => rfl, RI.keep (by decide) p5, RI.keep (by decide) p6, RI.keep (by decide) p7⟩
    · have hd := hd _ rfl
      simp [Region.binds] at hd
      obtain rfl := p2 (by simp [hd])
      obtain rfl := p3 (by simp [hd])
      obtain rfl := p4 (by simp [hd])
      refine RI.wpOp_plain rfl rfl ?_
      go_simp
      refine (KY.out _).mono ?_
      rintro e w1 ⟨rfl, hb1⟩
      exact ⟨u4, u7, u8, _, _, _, _, u13, v6, rfl, S3_below hS hb1, RI.keep (by decide) p0, RI.keep (by decide) p1, RI.keep (by decide) p2, RI.keep (by decide) p3, RI.keep (by decide) p4, fun _ => rfl, RI.keep (by decide) p6, RI.keep (by decide) p7⟩
    · have hd := hd _ rfl
      simp [Region.binds] at hd
      obtain rfl := p2 (by simp [hd])
      obtain rfl := p5 (by simp [hd])
      refine RI.wpOp_plain rfl rfl ?_
      go_simp
      refine (KC.out _).mono ?_
      rintro e w1 ⟨rfl, hb1⟩
      exact ⟨u4, u7, u8, _, u10, u11, _, _, v6, rfl, S3_below hS hb1, RI.keep (by decide) p0, RI.keep (by decide) p1, RI.keep (by decide) p2, RI.keep (by decide) p3, RI.keep (by decide) p4, RI.keep (by decide) p5, fun _ => rfl, RI.keep (by decide) p7⟩
    · have hd := hd _ rfl
      simp [Region.binds] at hd
      obtain rfl := p0 (by simp [hd])
      obtain rfl := p1 (by simp [hd])
      obtain rfl := p2 (by simp [hd])
      obtain rfl := p3 (by simp [hd])
      obtain rfl := p4 (by simp [hd])
      obtain rfl := p5 (by simp [hd])
      obtain rfl := p6 (by simp [hd])
      refine RI.wpOp_plain rfl rfl ?_
      go_simp
      exact ⟨_, _, _, _, _, _, _, _, v6, rfl, hS, RI.keep (by decide) p0, RI.keep (by decide) p1, RI.keep (by decide) p2, RI.keep (by decide) p3, RI.keep (by decide) p4, RI.keep (by decide) p5, RI.keep (by decide) p6, fun _ => rfl⟩
  · clear m0
    intro d x wx hI hd
    obtain ⟨u4, u7, u8, u9, u10, u11, u12, u13, v6, rfl, hS, p0, p1, p2, p3, p4, p5, p6, p7⟩ := hI
    obtain rfl := p7 (hd 7 (by decide))
    have HB : Hid (Below w.heap.size w wx) := hS.bel
    clear p0 p1 p2 p3 p4 p5 p6 p7 hS hd
    go_wp2_with fail
    go_ret
    exact ⟨rfl, HB.out⟩
end Go.Proofs.Ytblodmjnhmfjeaa
