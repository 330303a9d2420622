/- Plain arithmetic of a product of parts, row by row. -/
import Derived.Test.YtblodmjnhmfjeaaArith
namespace Go.Proofs.Ytblodmjnhmfjeaa
open Go.RowKit
/-- x is a part: 64 bits. -/
def U (x : Int) : Prop := 0 ≤ x ∧ x < 18446744073709551616
theorem U_dg (n i : Nat) : U (dg n i) := ⟨dg_nn n i, dg_lt n i⟩
theorem U_zero : U 0 := by unfold U; decide
/-- The number of eight parts. -/
def val8 (F : Nat → Int) : Int := F 0 + F 1 * 18446744073709551616 + F 2 * 340282366920938463463374607431768211456 + F 3 * 6277101735386680763835789423207666416102355444464034512896 + F 4 * 115792089237316195423570985008687907853269984665640564039457584007913129639936 + F 5 * 2135987035920910082395021706169552114602704522356652769947041607822219725780640550022962086936576 + F 6 * 39402006196394479212279040100143613805079739270465446667948293404245721771497210611414266254884915640806627990306816 + F 7 * 726838724295606890549323807888004534353641360687318060281490199180639288113397923326191050713763565560762521606266177933534601628614656
/-- F with v at place k. -/
def upd (F : Nat → Int) (k : Nat) (v : Int) : Nat → Int := fun o => if o = k then v else F o
theorem upd_U {F : Nat → Int} {k : Nat} {v : Int} (h : ∀ o, U (F o)) (hv : U v) : ∀ o, U (upd F k v o) := fun o => by
  unfold upd; split <;> first | exact hv | exact h o
/-- 2^(64 k). -/
def Mp (k : Nat) : Int := ((2 ^ (64 * k) : Nat) : Int)
theorem Mp_add (i j : Nat) : Mp (i + j) = Mp j * Mp i := by
  unfold Mp; rw [← Int.natCast_mul, Nat.mul_add, Nat.pow_add, Nat.mul_comm]
theorem Mp_succ (k : Nat) : Mp (k + 1) = 18446744073709551616 * Mp k := by
  rw [Nat.add_comm, Mp_add]; unfold Mp; rw [Int.mul_comm]; rfl
theorem Mp0 : Mp 0 = 1 := by unfold Mp; simp
theorem Mp1 : Mp 1 = 18446744073709551616 := by unfold Mp; simp
theorem Mp2 : Mp 2 = 340282366920938463463374607431768211456 := by unfold Mp; simp
theorem Mp3 : Mp 3 = 6277101735386680763835789423207666416102355444464034512896 := by unfold Mp; simp
theorem Mp4 : Mp 4 = 115792089237316195423570985008687907853269984665640564039457584007913129639936 := by unfold Mp; simp
theorem Mp5 : Mp 5 = 2135987035920910082395021706169552114602704522356652769947041607822219725780640550022962086936576 := by rw [Mp_succ, Mp4]; rfl
theorem Mp6 : Mp 6 = 39402006196394479212279040100143613805079739270465446667948293404245721771497210611414266254884915640806627990306816 := by rw [Mp_succ, Mp5]; rfl
theorem Mp7 : Mp 7 = 726838724295606890549323807888004534353641360687318060281490199180639288113397923326191050713763565560762521606266177933534601628614656 := by rw [Mp_succ, Mp6]; rfl
theorem val8_upd (F : Nat → Int) (k : Nat) (v : Int) (hk : k < 8) : val8 (upd F k v) = val8 F + (v - F k) * Mp k := by
  have h : k = 0 ∨ k = 1 ∨ k = 2 ∨ k = 3 ∨ k = 4 ∨ k = 5 ∨ k = 6 ∨ k = 7 := by omega
  rcases h with rfl | rfl | rfl | rfl | rfl | rfl | rfl | rfl
  · rw [Mp0]; simp [val8, upd]; omega
  · rw [Mp1]; simp [val8, upd]; omega
  · rw [Mp2]; simp [val8, upd]; omega
  · rw [Mp3]; simp [val8, upd]; omega
  · rw [Mp4]; simp [val8, upd]; omega
  · rw [Mp5]; simp [val8, upd]; omega
  · rw [Mp6]; simp [val8, upd]; omega
  · rw [Mp7]; simp [val8, upd]; omega
/-- n, rest 2^(64 k). -/
def lowp (n k : Nat) : Int := ((n % 2 ^ (64 * k) : Nat) : Int)
theorem lowp_succ (n k : Nat) : lowp n (k + 1) = lowp n k + dg n k * Mp k := by
  unfold lowp dg Mp
  rw [← Int.natCast_mul, ← Int.natCast_add, Nat.mul_add, Nat.pow_add, Nat.mod_mul, Nat.mul_comm (2 ^ (64 * k))]
theorem lowp_zero (n : Nat) : lowp n 0 = 0 := by unfold lowp; simp [Nat.mod_one]
theorem lowp_four (n : Nat) (h : n < 2 ^ 256) : lowp n 4 = n := by
  unfold lowp; rw [show 64 * 4 = 256 by decide, Nat.mod_eq_of_lt h]
/-- What stands in the product behind j parts of row i. -/
def PI (a b i j : Nat) (F : Nat → Int) (c : Int) : Prop := (∀ o, U (F o)) ∧ U c ∧ (∀ o, i + 4 ≤ o → F o = 0) ∧ val8 F + c * Mp (i + j) = lowp a i * b + dg a i * lowp b j * Mp i
theorem PI_step {a b i j : Nat} {F : Nat → Int} {c h l : Int} (H : PI a b i j F c) (hi : i < 4) (hj : j < 4) (uh : U h) (ul : U l) (e : h * 18446744073709551616 + l = dg a i * dg b j + F (i + j) + c) : PI a b i (j + 1) (upd F (i + j) l) h := by
  obtain ⟨h1, _, h3, h4⟩ := H
  refine ⟨upd_U h1 ul, uh, fun o ho => ?_, ?_⟩
  · unfold upd; rw [if_neg (by omega)]; exact h3 o ho
  · rw [val8_upd F (i + j) l (by omega), show i + (j + 1) = (i + j) + 1 by omega, Mp_succ, lowp_succ]
    have e3 := Mp_add i j
    grind
theorem PI_row {a b i : Nat} {F : Nat → Int} {c : Int} (H : PI a b i 4 F c) (hb : b < 2 ^ 256) (hi : i < 4) : PI a b (i + 1) 0 (upd F (i + 4) c) 0 := by
  obtain ⟨h1, h2, h3, h4⟩ := H
  refine ⟨upd_U h1 h2, U_zero, fun o ho => ?_, ?_⟩
  · unfold upd; rw [if_neg (by omega)]; exact h3 o (by omega)
  · rw [val8_upd F (i + 4) c (by omega), h3 (i + 4) (by omega), lowp_zero, lowp_succ]
    rw [lowp_four b hb] at h4
    grind
theorem PI_start (a b : Nat) : PI a b 0 0 (fun _ => 0) 0 := ⟨fun _ => U_zero, U_zero, fun _ _ => rfl, by simp [val8, lowp_zero]⟩
theorem dg4 (n : Nat) : dg n 4 = (n : Int) / 115792089237316195423570985008687907853269984665640564039457584007913129639936 % 18446744073709551616 := by unfold dg; simp
theorem pow5 : (2 : Nat) ^ (64 * 5) = 2135987035920910082395021706169552114602704522356652769947041607822219725780640550022962086936576 := by
  have := Mp5
  unfold Mp at this
  exact Int.ofNat.inj this
theorem dg5 (n : Nat) : dg n 5 = (n : Int) / 2135987035920910082395021706169552114602704522356652769947041607822219725780640550022962086936576 % 18446744073709551616 := by unfold dg; rw [pow5]; simp
theorem pow6 : (2 : Nat) ^ (64 * 6) = 39402006196394479212279040100143613805079739270465446667948293404245721771497210611414266254884915640806627990306816 := by
  have := Mp6
  unfold Mp at this
  exact Int.ofNat.inj this
theorem dg6 (n : Nat) : dg n 6 = (n : Int) / 39402006196394479212279040100143613805079739270465446667948293404245721771497210611414266254884915640806627990306816 % 18446744073709551616 := by unfold dg; rw [pow6]; simp
theorem pow7 : (2 : Nat) ^ (64 * 7) = 726838724295606890549323807888004534353641360687318060281490199180639288113397923326191050713763565560762521606266177933534601628614656 := by
  have := Mp7
  unfold Mp at this
  exact Int.ofNat.inj this
theorem dg7 (n : Nat) : dg n 7 = (n : Int) / 726838724295606890549323807888004534353641360687318060281490199180639288113397923326191050713763565560762521606266177933534601628614656 % 18446744073709551616 := by unfold dg; rw [pow7]; simp
theorem val8_dg (n : Nat) (F : Nat → Int) (hU : ∀ o, U (F o)) (h : val8 F = n) : ∀ k, k < 8 → F k = dg n k := by
  have u0 := hU 0; have u1 := hU 1; have u2 := hU 2; have u3 := hU 3; have u4 := hU 4; have u5 := hU 5; have u6 := hU 6; have u7 := hU 7
  unfold U at u0 u1 u2 u3 u4 u5 u6 u7
  unfold val8 at h
  intro k hk
  have hk' : k = 0 ∨ k = 1 ∨ k = 2 ∨ k = 3 ∨ k = 4 ∨ k = 5 ∨ k = 6 ∨ k = 7 := by omega
  rcases hk' with rfl | rfl | rfl | rfl | rfl | rfl | rfl | rfl
  · rw [dg0]; omega
  · rw [dg1]; omega
  · rw [dg2]; omega
  · rw [dg3]; omega
  · rw [dg4]; omega
  · rw [dg5]; omega
  · rw [dg6]; omega
  · rw [dg7]; omega
theorem PI_end {a b : Nat} {F : Nat → Int} (H : PI a b 4 0 F 0) (ha : a < 2 ^ 256) : ∀ k, k < 8 → F k = dg (a * b) k := by
  refine val8_dg _ F H.1 ?_
  have h := H.2.2.2
  rw [lowp_zero, lowp_four a ha] at h
  rw [Int.natCast_mul]
  grind
end Go.Proofs.Ytblodmjnhmfjeaa
