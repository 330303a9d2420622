/- Plain arithmetic of the sponge: parts turned up, states mixed and back. No program is named here. -/
import Derived.Below
import Derived.Laws.BitsAllLaws
namespace Go.Proofs.Ytblodmjnhmfjeaa
namespace Sp
/-- A part: 64 bits. -/
def U (x : Int) : Prop := 0 ≤ x ∧ x < 18446744073709551616
def upd (F : Nat → Int) (k : Nat) (v : Int) : Nat → Int := fun o => if o = k then v else F o
/-- x, turned up by one bit. -/
def tu (x : Int) : Int := (x * 2 % 18446744073709551616 + x / 9223372036854775808) % 18446744073709551616
def tun : Nat → Int → Int
  | 0, x => x
  | n + 1, x => tu (tun n x)
theorem U_mod (x : Int) : U (x % 18446744073709551616) := ⟨by omega, by omega⟩
theorem U_tu (x : Int) : U (tu x) := U_mod _
theorem U_tun (n : Nat) (x : Int) (h : U x) : U (tun n x) := by
  cases n with
  | zero => exact h
  | succ n => exact U_tu _
theorem U_xor (a b : Int) (ha : U a) (hb : U b) : U (bits .xor .u64 a b) := by
  obtain ⟨a0, a1⟩ := ha; obtain ⟨b0, b1⟩ := hb
  rw [u64_xor a b a0 a1 b0 b1]
  have := Nat.xor_lt_two_pow (n := 64) (x := a.toNat) (y := b.toNat) (by omega) (by omega)
  exact ⟨by omega, by omega⟩
theorem xor_back (a b : Int) (ha : U a) (hb : U b) : bits .xor .u64 (bits .xor .u64 a b) b = a := by
  have hx := U_xor a b ha hb
  have e : bits .xor .u64 a b = ((a.toNat ^^^ b.toNat : Nat) : Int) := u64_xor a b ha.1 ha.2 hb.1 hb.2
  rw [u64_xor _ b hx.1 hx.2 hb.1 hb.2, e, Int.toNat_natCast, Nat.xor_assoc, Nat.xor_self, Nat.xor_zero]
  have := ha.1
  omega
theorem tu_lo (x : Int) (h0 : 0 ≤ x) (h1 : x < 9223372036854775808) : tu x = x * 2 := by
  unfold tu
  have e1 : x * 2 % 18446744073709551616 = x * 2 := by omega
  have e2 : x / 9223372036854775808 = 0 := by omega
  rw [e1, e2]; omega
theorem tu_hi (x : Int) (h0 : 0 ≤ x) (h1 : x < 9223372036854775808) : tu (9223372036854775808 + x) = x * 2 + 1 := by
  unfold tu
  have e1 : (9223372036854775808 + x) * 2 % 18446744073709551616 = x * 2 := by omega
  have e2 : (9223372036854775808 + x) / 9223372036854775808 = 1 := by omega
  rw [e1, e2]; omega
/-- Turned up by n bits at once. -/
theorem tu_step (q r b n m : Nat) (hq : q < 2 ^ n) (hb : b < 2) (hr : r < 2 ^ m) (hnm : n + m = 63) : tu (((b * 2 ^ m + r) * 2 ^ n + q : Nat) : Int) = ((r * 2 ^ (n + 1) + (2 * q + b) : Nat) : Int) := by
  have e : 2 ^ m * 2 ^ n = (9223372036854775808 : Nat) := by rw [← Nat.pow_add, Nat.add_comm m n, hnm]
  have e1 : (b * 2 ^ m + r) * 2 ^ n = b * 9223372036854775808 + r * 2 ^ n := by rw [Nat.add_mul, Nat.mul_assoc, e]
  have h1 : r * 2 ^ n + q < 9223372036854775808 := by
    have := Nat.mul_le_mul_right (2 ^ n) (show r + 1 ≤ 2 ^ m from hr)
    rw [e, Nat.add_mul] at this
    omega
  rw [e1, Nat.pow_succ, ← Nat.mul_assoc]
  clear e1
  generalize r * 2 ^ n = z at *
  have : b = 0 ∨ b = 1 := by omega
  rcases this with rfl | rfl
  · rw [show ((0 * 9223372036854775808 + z + q : Nat) : Int) = ((z + q : Nat) : Int) by omega, tu_lo _ (by omega) (by omega)]; omega
  · rw [show ((1 * 9223372036854775808 + z + q : Nat) : Int) = 9223372036854775808 + ((z + q : Nat) : Int) by omega, tu_hi _ (by omega) (by omega)]; omega
theorem tun_eq (x : Nat) (hx : x < 2 ^ 64) : ∀ n, n ≤ 64 → tun n (x : Int) = ((x % 2 ^ (64 - n) * 2 ^ n + x / 2 ^ (64 - n) : Nat) : Int)
  | 0, _ => by
    have h1 : x / 2 ^ 64 = 0 := Nat.div_eq_of_lt hx
    have h2 : x % 2 ^ 64 = x := Nat.mod_eq_of_lt hx
    simp only [tun, Nat.sub_zero, h1, h2]; omega
  | n + 1, h => by
    rw [tun, tun_eq x hx n (by omega)]
    have em : 64 - n = (64 - (n + 1)) + 1 := by omega
    generalize hm : 64 - (n + 1) = m at *
    have hq : x / 2 ^ (m + 1) < 2 ^ n := by
      rw [Nat.div_lt_iff_lt_mul (Nat.two_pow_pos _), ← Nat.pow_add, show n + (m + 1) = 64 by omega]; exact hx
    have hr : x % 2 ^ m < 2 ^ m := Nat.mod_lt _ (Nat.two_pow_pos _)
    have d1 : x % 2 ^ (m + 1) = (x / 2 ^ m % 2) * 2 ^ m + x % 2 ^ m := by
      rw [Nat.pow_succ, Nat.mod_mul, Nat.mul_comm (2 ^ m)]; omega
    have d2 : x / 2 ^ m = 2 * (x / 2 ^ (m + 1)) + x / 2 ^ m % 2 := by
      rw [Nat.pow_succ, ← Nat.div_div_eq_div_mul]; omega
    rw [em, d1, tu_step (x / 2 ^ (m + 1)) (x % 2 ^ m) (x / 2 ^ m % 2) n m hq (by omega) hr (by omega), ← d2]
/-- What part i is made greater by. -/
def tn (F : Nat → Int) (i : Nat) : Int := tun (5 * i + 3) (bits .xor .u64 (F ((i + 1) % 8)) (F ((i + 5) % 8)))
def st (F : Nat → Int) (i : Nat) : Nat → Int := upd F i ((F i + tn F i) % 18446744073709551616)
def ts (F : Nat → Int) (i : Nat) : Nat → Int := upd F i ((F i - tn F i) % 18446744073709551616)
def sts (F : Nat → Int) : Nat → Nat → Int
  | 0 => F
  | k + 1 => st (sts F k) k
def tss (F : Nat → Int) : Nat → Nat → Int
  | 0 => F
  | k + 1 => ts (tss F k) (7 - k)
def kr (r : Nat) : Int := (((r * 11400714819323198485 : Nat) : Int)) % 18446744073709551616
def sx (F : Nat → Int) (r : Nat) : Nat → Int := upd F 0 (bits .xor .u64 (F 0) (kr r))
def mixs (F : Nat → Int) : Nat → Nat → Int
  | 0 => F
  | k + 1 => sts (sx (mixs F k) (k + 1)) 8
def umixs (F : Nat → Int) : Nat → Nat → Int
  | 0 => F
  | k + 1 => sx (tss (umixs F k) 8) (12 - k)
def mix (F : Nat → Int) : Nat → Int := mixs F 12
def umix (F : Nat → Int) : Nat → Int := umixs F 12
/-- All parts are parts. -/
def UF (F : Nat → Int) : Prop := ∀ o, U (F o)
theorem UF_upd {F : Nat → Int} {v : Int} (h : UF F) (k : Nat) (hv : U v) : UF (upd F k v) := fun o => by unfold upd; split; exact hv; exact h o
theorem U_kr (r : Nat) : U (kr r) := U_mod _
theorem UF_st {F : Nat → Int} (h : UF F) (i : Nat) : UF (st F i) := UF_upd h i (U_mod _)
theorem UF_ts {F : Nat → Int} (h : UF F) (i : Nat) : UF (ts F i) := UF_upd h i (U_mod _)
theorem UF_sts {F : Nat → Int} (h : UF F) : ∀ k, UF (sts F k)
  | 0 => h
  | k + 1 => UF_st (UF_sts h k) k
theorem UF_tss {F : Nat → Int} (h : UF F) : ∀ k, UF (tss F k)
  | 0 => h
  | k + 1 => UF_ts (UF_tss h k) (7 - k)
theorem UF_sx {F : Nat → Int} (h : UF F) (r : Nat) : UF (sx F r) := UF_upd h 0 (U_xor _ _ (h 0) (U_kr r))
theorem UF_mixs {F : Nat → Int} (h : UF F) : ∀ k, UF (mixs F k)
  | 0 => h
  | k + 1 => UF_sts (UF_sx (UF_mixs h k) _) 8
theorem UF_umixs {F : Nat → Int} (h : UF F) : ∀ k, UF (umixs F k)
  | 0 => h
  | k + 1 => UF_sx (UF_tss (UF_umixs h k) 8) _
theorem UF_mix {F : Nat → Int} (h : UF F) : UF (mix F) := UF_mixs h 12
theorem UF_umix {F : Nat → Int} (h : UF F) : UF (umix F) := UF_umixs h 12
theorem tn_upd (F : Nat → Int) (i : Nat) (v : Int) (_hi : i < 8) : tn (upd F i v) i = tn F i := by
  unfold tn upd
  rw [if_neg (by omega), if_neg (by omega)]
theorem upd_same (F : Nat → Int) (i : Nat) (v x : Int) (h : x = F i) : upd (upd F i v) i x = F := by
  funext o
  unfold upd
  split
  · rename_i e; rw [h, e]
  · rfl
theorem upd_at (F : Nat → Int) (i : Nat) (v : Int) : upd F i v i = v := by unfold upd; rw [if_pos rfl]
theorem ts_st {F : Nat → Int} (h : UF F) (i : Nat) (hi : i < 8) : ts (st F i) i = F := by
  unfold ts st
  rw [tn_upd _ _ _ hi, upd_at]
  refine upd_same F i _ _ ?_
  have := h i
  unfold U at this
  omega
theorem st_ts {F : Nat → Int} (h : UF F) (i : Nat) (hi : i < 8) : st (ts F i) i = F := by
  unfold st ts
  rw [tn_upd _ _ _ hi, upd_at]
  refine upd_same F i _ _ ?_
  have := h i
  unfold U at this
  omega
theorem sx_sx {F : Nat → Int} (h : UF F) (r : Nat) : sx (sx F r) r = F := by
  unfold sx
  rw [upd_at]
  exact upd_same F 0 _ _ (xor_back _ _ (h 0) (U_kr r))
theorem tss_sts {F : Nat → Int} (h : UF F) : ∀ k, k ≤ 8 → tss (sts F 8) k = sts F (8 - k)
  | 0, _ => rfl
  | k + 1, hk => by
    rw [tss, tss_sts h k (by omega), show 8 - k = (7 - k) + 1 by omega, sts, ts_st (UF_sts h _) _ (by omega), show 8 - (k + 1) = 7 - k by omega]
theorem sts_tss {F : Nat → Int} (h : UF F) : ∀ k, k ≤ 8 → sts (tss F 8) k = tss F (8 - k)
  | 0, _ => rfl
  | k + 1, hk => by
    have e : 8 - k = (8 - (k + 1)) + 1 := by omega
    have e2 : 7 - (8 - (k + 1)) = k := by omega
    rw [sts, sts_tss h k (by omega), e, tss, e2, st_ts (UF_tss h _) _ (by omega)]
theorem umix_mix {F : Nat → Int} (h : UF F) : umix (mix F) = F := by
  have H : ∀ k, k ≤ 12 → umixs (mix F) k = mixs F (12 - k) := by
    intro k
    induction k with
    | zero => intro _; rfl
    | succ k ih =>
      intro hk
      have e : 12 - k = (12 - (k + 1)) + 1 := by omega
      rw [umixs, ih (by omega), e, mixs, tss_sts (UF_sx (UF_mixs h _) _) 8 (by omega), Nat.sub_self, sts, sx_sx (UF_mixs h _)]
  exact H 12 (by omega)
theorem mix_umix {F : Nat → Int} (h : UF F) : mix (umix F) = F := by
  have H : ∀ k, k ≤ 12 → mixs (umix F) k = umixs F (12 - k) := by
    intro k
    induction k with
    | zero => intro _; rfl
    | succ k ih =>
      intro hk
      have e : 12 - k = (12 - (k + 1)) + 1 := by omega
      have e2 : 12 - (12 - (k + 1)) = k + 1 := by omega
      rw [mixs, ih (by omega), e, umixs, e2, sx_sx (UF_tss (UF_umixs h _) 8), sts_tss (UF_umixs h _) 8 (by omega), Nat.sub_self, tss]
  exact H 12 (by omega)
/-- A state as a value. -/
def Sv (F : Nat → Int) : Value := .agg #[.int .u64 (F 0), .int .u64 (F 1), .int .u64 (F 2), .int .u64 (F 3), .int .u64 (F 4), .int .u64 (F 5), .int .u64 (F 6), .int .u64 (F 7)]
end Sp
end Go.Proofs.Ytblodmjnhmfjeaa
