/- math/bits.RotateLeft64, sponge.turned and the document's own turning, bit by bit. -/
import Derived.Test.YtjikibeacbkkjaaSpKit
namespace Go.Proofs.Ytjikibeacbkkjaa
namespace Sp
open Go.RowKit
theorem ret_int {k : IntKind} {a b : Int} (h : a = b) : Ending.returned (.int k a) = .returned (.int k b) := by rw [h]
theorem int_of {k : IntKind} {p q : Int} (h : p = q) : Value.int k p = .int k q := by rw [h]
theorem rot_eq (x : Int) (hx : U x) (n : Nat) (A B : Int) (hn : n ≤ 64) (hA : A = ((2 ^ n : Nat) : Int)) (hB : B = ((2 ^ (64 - n) : Nat) : Int)) : bits .or .u64 (IntKind.u64.wrap (x * A)) (x / B) = tun n x := by
  obtain ⟨x0, x1⟩ := hx
  obtain ⟨x, rfl⟩ := Int.eq_ofNat_of_zero_le x0
  subst hA hB
  have hx : x < 2 ^ 64 := by omega
  have e : (18446744073709551616 : Nat) = 2 ^ (64 - n) * 2 ^ n := by rw [← Nat.pow_add, show 64 - n + n = 64 by omega]
  have hq : x / 2 ^ (64 - n) < 2 ^ n := by
    rw [Nat.div_lt_iff_lt_mul (Nat.two_pow_pos _), ← Nat.pow_add, show n + (64 - n) = 64 by omega]; exact hx
  have hl : (2 : Nat) ^ n ≤ 18446744073709551616 := Nat.le_trans (Nat.pow_le_pow_right (by decide) hn) (by decide)
  rw [tun_eq x hx n hn, IntKind.wrap_u64]
  have e1 : (x : Int) * ((2 ^ n : Nat) : Int) % 18446744073709551616 = ((x % 2 ^ (64 - n) * 2 ^ n : Nat) : Int) := by
    rw [← Nat.mul_mod_mul_right, ← e]; omega
  have hm : x % 2 ^ (64 - n) * 2 ^ n < 18446744073709551616 := by
    rw [e]; exact (Nat.mul_lt_mul_right (Nat.two_pow_pos _)).2 (Nat.mod_lt _ (Nat.two_pow_pos _))
  rw [e1, ← Int.natCast_ediv, u64_or_nat _ _ hm (by omega), nat_join n _ _ (Nat.mul_mod_left _ _) hq]
set_option maxHeartbeats 400000 in
theorem rot_any (x : Int) (i : Nat) (hi : i < 8) (hx : U x) (w : World) :
    Calls Try.prog 30 #[.int .u64 x, .int .i64 (5 * i + 3)] w fun e w' => e = .returned (.int .u64 (tun (5 * i + 3) x)) ∧ w = w' := by
  obtain ⟨x0, x1⟩ := hx
  have : i = 0 ∨ i = 1 ∨ i = 2 ∨ i = 3 ∨ i = 4 ∨ i = 5 ∨ i = 6 ∨ i = 7 := by omega
  clear hi
  have m0 : bits .and .u64 3 63 = 3 := by decide +kernel
  have m1 : bits .and .u64 8 63 = 8 := by decide +kernel
  have m2 : bits .and .u64 13 63 = 13 := by decide +kernel
  have m3 : bits .and .u64 18 63 = 18 := by decide +kernel
  have m4 : bits .and .u64 23 63 = 23 := by decide +kernel
  have m5 : bits .and .u64 28 63 = 28 := by decide +kernel
  have m6 : bits .and .u64 33 63 = 33 := by decide +kernel
  have m7 : bits .and .u64 38 63 = 38 := by decide +kernel
  rcases this with rfl | rfl | rfl | rfl | rfl | rfl | rfl | rfl
  all_goals
    go_enter Try.func30, Try.ntmps30
    go_wp2
    go_ret
    exact ⟨ret_int (rot_eq x ⟨x0, x1⟩ _ _ _ (by decide) (by decide +kernel) (by decide +kernel)), rfl⟩
set_option maxHeartbeats 400000 in
theorem turnUp_any (x : Int) (n : Nat) (hx : U x) (hn : (n : Int) ≤ 1000000) (w : World) :
    Calls Try.prog 23 #[.int .u64 x, .int .i64 n] w fun e w' => e = .returned (.int .u64 (tun n x)) ∧ w = w' := by
  go_enter Try.func23, Try.ntmps23
  go_wp2
  go_loop [0, 6] (fun a s => ∃ k : Nat, k ≤ n ∧ s = .int .i64 k ∧ a = .int .u64 (tun k x)) (fun _ s => n - (intOf s).toNat)
  case atStart => exact ⟨0, Nat.zero_le _, rfl, rfl⟩
  case round =>
    obtain ⟨k, hk, rfl, rfl⟩ := hrel
    have hu := U_tun k x hx
    obtain ⟨u0, u1⟩ := hu
    by_cases hlt : k < n
    · go_wp2
      go_round
      case rel => exact ⟨k + 1, by omega, by go_num, int_of (by rw [tun]; unfold tu; simp only [IntKind.wrap_u64])⟩
      case measure => simp [intOf]; omega
    · have hkn : k = n := by omega
      subst hkn
      go_wp2
      go_ret
      exact ⟨rfl, rfl⟩
end Sp
end Go.Proofs.Ytjikibeacbkkjaa
