/- twos.part, atMost, split: what a shift goes by. -/
import Derived.Test.YtblodmjnhmfjeaaTwA
import Derived.Test.YtblodmjnhmfjeaaCmp
import Derived.Test.YtblodmjnhmfjeaaInt
import Derived.Test.YtblodmjnhmfjeaaRegInv
namespace Go.Proofs.Ytblodmjnhmfjeaa
open Go.RowKit Go.Shelf
theorem part_out (a : Nat) (i : Int) (h : i < 0 ∨ 4 ≤ i) (w : World) :
    Calls Try.prog 41 #[Wd a, .int .i64 i] w fun e w' => e = .returned (.int .u64 0) ∧ Below w.heap.size w w' := by
  conv => arg 3; unfold Wd
  by_cases h0 : i < 0
  · go_enter Try.func41, Try.ntmps41
    go_wp2_with fail
    go_ret
    exact ⟨rfl, (Below.refl _ _).alloc (Nat.le_refl _) _⟩
  · have h1 : 4 ≤ i := by omega
    clear h
    go_enter Try.func41, Try.ntmps41
    go_wp2_with fail
    go_ret
    exact ⟨rfl, (Below.refl _ _).alloc (Nat.le_refl _) _⟩
theorem part_in (a i : Nat) (h : i < 4) (w : World) :
    Calls Try.prog 41 #[Wd a, .int .i64 (i : Int)] w fun e w' => e = .returned (.int .u64 (dg a i)) ∧ Below w.heap.size w w' := by
  conv => arg 3; unfold Wd
  have : i = 0 ∨ i = 1 ∨ i = 2 ∨ i = 3 := by omega
  clear h
  rcases this with rfl | rfl | rfl | rfl
  all_goals
    go_enter Try.func41, Try.ntmps41
    go_wp2_with fail
    go_ret
    exact ⟨rfl, (Below.refl _ _).alloc (Nat.le_refl _) _⟩
theorem dg_low (n m : Nat) (hm : m < 18446744073709551616) (h : n ≤ m) : dg n 0 = (n : Int) := by
  unfold dg
  rw [Nat.mul_zero, Nat.pow_zero, Nat.div_one, Nat.mod_eq_of_lt (by omega)]
theorem cm_pos (a b : Nat) : decide (0 < cm (a : Int) (b : Int)) = decide (b < a) := by
  rw [decide_eq_decide]; unfold cm
  split
  · constructor <;> intro _ <;> omega
  · split <;> constructor <;> intro _ <;> omega
/-- What holds while the two are held against each other. -/
def AM1 (w : World) (n m : Nat) (C : Int) (v : Bool) (d : Nat → Bool) (x : Act) (wx : World) : Prop :=
  ∃ (u5 u6 u7 u8 u9 : Value),
    x = { tmps := #[.agg #[.int .u64 (dg n 0), .int .u64 (dg n 1), .int .u64 (dg n 2), .int .u64 (dg n 3)], .int .u64 (m : Int), .pointer (some ⟨w.heap.size, 0, none⟩), undef, .int .u64 0, u5, u6, u7, u8, u9, undef, undef, undef], defers := [] } ∧
    (S1 w n wx) ∧
    (d 0 = true → u5 = Wd n) ∧ (d 1 = true → u6 = .int .u64 (m : Int)) ∧ (d 2 = true → u7 = Wd m) ∧ (d 3 = true → u8 = .int .i64 C) ∧ (d 4 = true → u9 = .bool v)
set_option maxRecDepth 100000 in
theorem atmost_any (n m : Nat) (hn : n < 2 ^ 256) (hm : m < 18446744073709551616) (w : World) :
    Calls Try.prog 47 #[Wd n, .int .u64 (m : Int)] w fun e w' => e = .returned (.int .u64 ((min n m : Nat) : Int)) ∧ Below w.heap.size w w' := by
  have KI : Hid (∀ w : World, Calls Try.prog 16 #[.int .u64 (m : Int)] w fun e w' => e = .returned (Wd m) ∧ Below w.heap.size w w') := fun w => int_any m hm w
  have KC : Hid (∀ w : World, Calls Try.prog 19 #[Wd n, Wd m] w fun e w' => e = .returned (.int .i64 (cm (n : Int) (m : Int))) ∧ Below w.heap.size w w') := fun w => cmp_any n m hn (by omega) w
  have R1 : Hid (decide (0 < cm (n : Int) (m : Int)) = decide (m < n)) := cm_pos n m
  have E : Hid (if decide (m < n) = true then min n m = m else (min n m = n ∧ dg n 0 = (n : Int))) := by
    by_cases h : m < n
    · rw [decide_eq_true h]; exact (if_pos rfl).mpr (by omega)
    · rw [decide_eq_false h]; exact ⟨by omega, dg_low n m hm (by omega)⟩
  clear hn hm
  have m0 := S1_start w n
  generalize cm (n : Int) (m : Int) = C at *
  generalize decide (m < n) = v at *
  generalize min n m = z at *
  conv => arg 3; unfold Wd
  go_enter Try.func47, Try.ntmps47
  go_upto_region 1 with fail
  generalize w.alloc (.cells #[.int .u64 (dg n 0), .int .u64 (dg n 1), .int .u64 (dg n 2), .int .u64 (dg n 3)] 24) = W0 at m0 ⊢
  refine RI.wp_region_inv (AM1 w n m C v) (by kernel_rfl) (by kernel_rfl) ?_ ?_ ?_
  · exact ⟨undef, undef, undef, undef, undef, rfl, S1_drew m0, nofun, nofun, nofun, nofun, nofun⟩
  · clear m0
    intro d x wx i hI hi hm
    obtain ⟨u5, u6, u7, u8, u9, rfl, hS, p0, p1, p2, p3, p4⟩ := hI
    have hi' : i = 0 ∨ i = 1 ∨ i = 2 ∨ i = 3 ∨ i = 4 := by simp at hi; omega
    have hd := hm.2
    clear hm hi
    rcases hi' with rfl | rfl | rfl | rfl | rfl
    · refine RI.wpOp_plain rfl rfl ?_
      have c0 : ∀ o, o < 4 → wx.cell? ⟨w.heap.size, o, none⟩ = some (.int .u64 (dg n o)) := hS.c0
      go_simp
      exact ⟨_, u6, u7, u8, u9, rfl, hS, fun _ => rfl, RI.keep (by decide) p1, RI.keep (by decide) p2, RI.keep (by decide) p3, RI.keep (by decide) p4⟩
    · refine RI.wpOp_plain rfl rfl ?_
      go_simp
      exact ⟨u5, _, u7, u8, u9, rfl, hS, RI.keep (by decide) p0, fun _ => rfl, RI.keep (by decide) p2, RI.keep (by decide) p3, RI.keep (by decide) p4⟩
    · have hd := hd _ rfl
      simp [Region.binds] at hd
      obtain rfl := p1 (by simp [hd])
      refine RI.wpOp_plain rfl rfl ?_
      go_simp
      refine (KI.out _).mono ?_
      rintro e w1 ⟨rfl, hb1⟩
      exact ⟨u5, _, _, u8, u9, rfl, S1_below hS hb1, RI.keep (by decide) p0, RI.keep (by decide) p1, fun _ => rfl, RI.keep (by decide) p3, RI.keep (by decide) p4⟩
    · have hd := hd _ rfl
      simp [Region.binds] at hd
      obtain rfl := p0 (by simp [hd])
      obtain rfl := p2 (by simp [hd])
      refine RI.wpOp_plain rfl rfl ?_
      go_simp
      refine (KC.out _).mono ?_
      rintro e w1 ⟨rfl, hb1⟩
      exact ⟨_, u6, _, _, u9, rfl, S1_below hS hb1, RI.keep (by decide) p0, RI.keep (by decide) p1, RI.keep (by decide) p2, fun _ => rfl, RI.keep (by decide) p4⟩
    · have hd := hd _ rfl
      simp [Region.binds] at hd
      obtain rfl := p3 (by simp [hd])
      refine RI.wpOp_plain rfl rfl ?_
      have r1 := R1.out
      go_simp
      exact ⟨u5, u6, u7, _, _, rfl, hS, RI.keep (by decide) p0, RI.keep (by decide) p1, RI.keep (by decide) p2, RI.keep (by decide) p3, fun _ => rfl⟩
  · clear m0
    intro d x wx hI hd
    obtain ⟨u5, u6, u7, u8, u9, rfl, hS, p0, p1, p2, p3, p4⟩ := hI
    obtain rfl := p0 (hd 0 (by decide))
    obtain rfl := p1 (hd 1 (by decide))
    obtain rfl := p2 (hd 2 (by decide))
    obtain rfl := p3 (hd 3 (by decide))
    obtain rfl := p4 (hd 4 (by decide))
    have HB : Hid (Below w.heap.size w wx) := hS.bel
    have c0 : ∀ o, o < 4 → wx.cell? ⟨w.heap.size, o, none⟩ = some (.int .u64 (dg n o)) := hS.c0
    clear p0 p1 p2 p3 p4 hd hS R1
    cases v
    · obtain ⟨e1, e2⟩ : z = n ∧ dg n 0 = (n : Int) := E.out
      clear E
      go_wp2_with fail
      go_ret
      exact ⟨by rw [e1]; rfl, HB.out⟩
    · have e1 : z = m := E.out
      clear E c0
      go_wp2_with fail
      go_ret
      exact ⟨by rw [e1]; rfl, HB.out⟩
theorem split_any (n : Nat) (hn : n < 2 ^ 256) (w : World) :
    Calls Try.prog 40 #[Wd n] w fun e w' => e = .returned (.tuple #[.int .i64 ((min n 256 / 64 : Nat) : Int), .int .u64 ((min n 256 % 64 : Nat) : Int)]) ∧ Below w.heap.size w w' := by
  have K : Hid (∀ w : World, Calls Try.prog 47 #[Wd n, .int .u64 256] w fun e w' => e = .returned (.int .u64 ((min n 256 : Nat) : Int)) ∧ Below w.heap.size w w') := fun w => atmost_any n 256 hn (by decide) w
  have hz : min n 256 ≤ 256 := Nat.min_le_right _ _
  clear hn
  generalize min n 256 = z at *
  have m0 := S1_start w n
  conv => arg 3; unfold Wd
  go_enter Try.func40, Try.ntmps40
  go_wp2_with fail
  generalize w.alloc (.cells #[.int .u64 (dg n 0), .int .u64 (dg n 1), .int .u64 (dg n 2), .int .u64 (dg n 3)] 24) = W0 at m0 ⊢
  refine (K.out _).mono ?_
  rintro e w1 ⟨rfl, hb⟩
  have HB : Hid (Below w.heap.size w w1) := (S1_below m0 hb).bel
  clear hb m0
  go_wp2_with fail
  refine bodyPost_ret (v := .tuple #[.int .i64 ((z / 64 : Nat) : Int), .int .u64 ((z % 64 : Nat) : Int)]) ?_ rfl ⟨rfl, HB.out⟩
  simp [results, Try.results40, go_sem]
end Go.Proofs.Ytblodmjnhmfjeaa
