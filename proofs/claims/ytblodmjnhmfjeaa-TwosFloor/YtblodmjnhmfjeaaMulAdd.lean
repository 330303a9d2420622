/- word.multiplyAdd: x times y + c + d, in two parts. -/
import Derived.Test.YtblodmjnhmfjeaaBase
namespace Go.Proofs.Ytblodmjnhmfjeaa
open Go.RowKit Go.Shelf
theorem sm_nn (x y c : Int) : 0 ≤ sm x y c := by unfold sm; omega
theorem prod_le (x y : Nat) (hx : x < 18446744073709551616) (hy : y < 18446744073709551616) : x * y ≤ 18446744073709551615 * 18446744073709551615 := Nat.mul_le_mul (by omega) (by omega)
theorem muladd_hi (x y c d h l : Nat) (hx : x < 18446744073709551616) (hy : y < 18446744073709551616) (hc : c < 18446744073709551616) (hd : d < 18446744073709551616) (hh : h = x * y / 18446744073709551616) (hl : l = x * y % 18446744073709551616) :
    IntKind.u64.wrap (IntKind.u64.wrap ((h : Int) + cy l c 0) + cy (sm l c 0) d 0) = (((x * y + c + d) / 18446744073709551616 : Nat) : Int) := by
  have := prod_le x y hx hy
  rw [IntKind.wrap_u64, IntKind.wrap_u64]
  unfold cy sm
  generalize x * y = n at *
  omega
theorem muladd_lo (x y c d l : Nat) (hl : l = x * y % 18446744073709551616) : sm (sm l c 0) d 0 = (((x * y + c + d) % 18446744073709551616 : Nat) : Int) := by
  unfold sm
  generalize x * y = n at *
  omega
set_option maxHeartbeats 1000000 in
set_option maxRecDepth 100000 in
theorem muladd_any (x y c d : Nat) (w : World) (hx : x < 18446744073709551616) (hy : y < 18446744073709551616) (hc : c < 18446744073709551616) (hd : d < 18446744073709551616) :
    Calls Try.prog 50 #[.int .u64 x, .int .u64 y, .int .u64 c, .int .u64 d] w fun e w' => e = .returned (.tuple #[.int .u64 (((x * y + c + d) / 18446744073709551616 : Nat) : Int), .int .u64 (((x * y + c + d) % 18446744073709551616 : Nat) : Int)]) ∧ w' = w := by
  have Hx : Hid (x < 18446744073709551616) := hx
  have Hy : Hid (y < 18446744073709551616) := hy
  have Hc : Hid (c < 18446744073709551616) := hc
  have Hd : Hid (d < 18446744073709551616) := hd
  clear hx hy hc hd
  obtain ⟨h, hh⟩ : ∃ h, h = x * y / 18446744073709551616 := ⟨_, rfl⟩
  obtain ⟨l, hl⟩ : ∃ l, l = x * y % 18446744073709551616 := ⟨_, rfl⟩
  have HH : Hid (h = x * y / 18446744073709551616) := hh
  have HL : Hid (l = x * y % 18446744073709551616) := hl
  go_enter Try.func50, Try.ntmps50
  go_wp2_with fail
  refine (Try.bits_Mul64 x y Hx.out Hy.out _).mono ?_
  rw [← hh, ← hl]
  clear hh hl
  rintro e w1 ⟨rfl, rfl⟩
  go_wp2_with (first | simp only [add64 (l : Int) (c : Int) 0 (Int.natCast_nonneg _) (Int.natCast_nonneg _) (Int.le_refl 0) (by decide)] | simp only [add64 (sm (l : Int) (c : Int) 0) (d : Int) 0 (sm_nn _ _ _) (Int.natCast_nonneg _) (Int.le_refl 0) (by decide)])
  go_ret2
  exact ⟨tup2 (int_of (muladd_hi x y c d h l Hx.out Hy.out Hc.out Hd.out HH.out HL.out)) (int_of (muladd_lo x y c d l HL.out)), rfl⟩
end Go.Proofs.Ytblodmjnhmfjeaa
