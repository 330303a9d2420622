/- word.Int and lampbearerref.WInt; word.bitLength. -/
import Derived.Test.YtblodmjnhmfjeaaProduct
namespace Go.Proofs.Ytblodmjnhmfjeaa
open Go.RowKit Go.Shelf
theorem dg_small (n : Nat) (h : n < 18446744073709551616) : dg n 0 = (n : Int) ∧ dg n 1 = 0 ∧ dg n 2 = 0 ∧ dg n 3 = 0 := by
  rw [dg0, dg1, dg2, dg3]; omega
theorem wd_small (n : Nat) (h : n < 18446744073709551616) : Value.agg #[.int .u64 (n : Int), .int .u64 0, .int .u64 0, .int .u64 0] = Wd n := by
  obtain ⟨h0, h1, h2, h3⟩ := dg_small n h
  exact wd_of h0.symm h1.symm h2.symm h3.symm
set_option maxHeartbeats 400000 in
theorem int_any (n : Nat) (h : n < 18446744073709551616) (w : World) :
    Calls Try.prog 16 #[.int .u64 n] w fun e w' => e = .returned (Wd n) ∧ Below w.heap.size w w' := by
  rw [← wd_small n h]
  clear h
  go_enter Try.func16, Try.ntmps16
  go_wp2
  refine bodyPost_ret (v := .agg #[.int .u64 (n : Int), .int .u64 0, .int .u64 0, .int .u64 0]) (by simp [results, Try.results16, go_sem]) rfl ⟨rfl, ?_⟩
  exact (Below.refl _ _).alloc (Nat.le_refl _) _
theorem mul_mod (a b : Nat) (w : World) :
    Calls Try.prog 15 #[Wd a, Wd b] w fun e w' => e = .returned (Wd (a * b)) ∧ Below w.heap.size w w' := by
  rw [← Wd_mod a, ← Wd_mod b]
  refine (mul_any (a % 2 ^ 256) (b % 2 ^ 256) (Nat.mod_lt _ (by decide)) (Nat.mod_lt _ (by decide)) w).mono ?_
  rintro e w' ⟨rfl, h⟩
  exact ⟨congrArg _ (by rw [← Wd_mod (a * b), Nat.mul_mod, ← Wd_mod (a % 2 ^ 256 * (b % 2 ^ 256))]), h⟩
/-- Where the parts above i are 0, and part i is not: how many bits a has. -/
theorem bl_at (a i : Nat) (ha : a < 2 ^ (64 * (i + 1))) : (dg a i).toNat = a / 2 ^ (64 * i) := by
  unfold dg
  rw [Int.toNat_natCast, Nat.mod_eq_of_lt]
  rw [Nat.div_lt_iff_lt_mul (Nat.two_pow_pos _), show (18446744073709551616 : Nat) = 2 ^ 64 by decide, ← Nat.pow_add]
  have : 64 + 64 * i = 64 * (i + 1) := by omega
  rw [this]; exact ha
theorem bitLenAux_zero : ∀ f, Lib.bitLenAux f 0 = 0
  | 0 => rfl
  | _ + 1 => by simp [Lib.bitLenAux]
theorem bitLenAux_spec : ∀ (f x : Nat), x < 2 ^ f → Lib.bitLenAux f x ≤ f ∧ x < 2 ^ Lib.bitLenAux f x ∧ (x ≠ 0 → 1 ≤ Lib.bitLenAux f x ∧ 2 ^ (Lib.bitLenAux f x - 1) ≤ x)
  | 0, x, h => by
    have : x = 0 := by simpa using h
    subst this
    simp [Lib.bitLenAux]
  | f + 1, x, h => by
    by_cases h0 : x = 0
    · subst h0; simp [Lib.bitLenAux]
    · obtain ⟨h1, h2, h3⟩ := bitLenAux_spec f (x / 2) (by rw [Nat.pow_succ] at h; omega)
      simp only [Lib.bitLenAux, h0, if_false]
      by_cases hx : x / 2 = 0
      · rw [hx, bitLenAux_zero]
        have : x = 1 := by omega
        subst this
        simp
      · obtain ⟨h4, h5⟩ := h3 hx
        generalize Lib.bitLenAux f (x / 2) = m at *
        refine ⟨by omega, by rw [Nat.add_comm, Nat.pow_succ]; omega, fun _ => ⟨by omega, ?_⟩⟩
        rw [show 1 + m - 1 = (m - 1) + 1 by omega, Nat.pow_succ]
        omega
theorem bitLen_spec (x : Nat) (h : x < 18446744073709551616) : Lib.bitLen x ≤ 64 ∧ x < 2 ^ Lib.bitLen x ∧ (x ≠ 0 → 1 ≤ Lib.bitLen x ∧ 2 ^ (Lib.bitLen x - 1) ≤ x) := bitLenAux_spec 64 x (by simpa using h)
/-- L bits are a's, and none fewer. -/
def BL2 (a L : Nat) : Prop := L ≤ 256 ∧ a < 2 ^ L ∧ (a ≠ 0 → 1 ≤ L ∧ 2 ^ (L - 1) ≤ a)
theorem BL2_part (a i : Nat) (hi : i < 4) (ha : a < 2 ^ (64 * (i + 1))) (h0 : dg a i ≠ 0) : BL2 a (64 * i + Lib.bitLen (dg a i).toNat) := by
  have hb := bl_at a i ha
  have hn := dg_nn a i
  have hl := dg_lt a i
  obtain ⟨h1, h2, h3⟩ := bitLen_spec (dg a i).toNat (by omega)
  obtain ⟨h4, h5⟩ := h3 (by omega)
  rw [hb] at h1 h2 h4 h5 ⊢
  generalize Lib.bitLen (a / 2 ^ (64 * i)) = m at *
  have hp : 0 < 2 ^ (64 * i) := Nat.two_pow_pos _
  refine ⟨by omega, ?_, fun _ => ⟨by omega, ?_⟩⟩
  · rw [Nat.pow_add, Nat.mul_comm]; exact (Nat.div_lt_iff_lt_mul hp).1 h2
  · rw [show 64 * i + m - 1 = 64 * i + (m - 1) by omega, Nat.pow_add, Nat.mul_comm]; exact (Nat.le_div_iff_mul_le hp).1 h5
theorem lt_part (a i : Nat) (ha : a < 2 ^ (64 * (i + 1))) (h0 : dg a i = 0) : a < 2 ^ (64 * i) := by
  have hb := bl_at a i ha
  rw [h0] at hb
  exact Nat.lt_of_div_eq_zero (Nat.two_pow_pos _) (by simpa using hb.symm)
set_option maxHeartbeats 400000 in
set_option maxRecDepth 100000 in
theorem bitlen_any (a : Nat) (ha : a < 2 ^ 256) (w : World) :
    Calls Try.prog 38 #[Wd a] w fun e w' => ∃ L : Nat, e = .returned (.int .i64 L) ∧ BL2 a L ∧ Below w.heap.size w w' := by
  have Ha : Hid (a < 2 ^ 256) := ha
  clear ha
  conv => arg 3; unfold Wd
  go_enter Try.func38, Try.ntmps38
  go_wp2
  go_loop [3] (fun i => ∃ k : Nat, k ≤ 4 ∧ i = .int .i64 ((k : Int) - 1) ∧ Hid (a < 2 ^ (64 * k))) (fun i => (intOf i + 1).toNat)
  case atStart => exact ⟨4, by omega, rfl, Ha⟩
  case round =>
    obtain ⟨k, hk, hi, hlt⟩ := hrel
    cases k with
    | zero =>
      subst hi
      have h0 : a = 0 := by have := hlt.out; simpa using this
      go_wp2
      go_ret
      refine ⟨0, rfl, ?_, (Below.refl _ _).alloc (Nat.le_refl _) _⟩
      subst h0
      exact ⟨by omega, by simp, fun h => absurd rfl h⟩
    | succ p =>
      have e : ((p + 1 : Nat) : Int) - 1 = (p : Int) := by omega
      rw [e] at hi
      subst hi
      have hc : (w.alloc (.cells #[.int .u64 (dg a 0), .int .u64 (dg a 1), .int .u64 (dg a 2), .int .u64 (dg a 3)] 24)).cell? ⟨w.heap.size, p, none⟩ = some (.int .u64 (dg a p)) := C4_alloc a w _ p (by omega)
      have hn := dg_nn a p
      by_cases h0 : dg a p = 0
      · have HL : Hid (a < 2 ^ (64 * p)) := lt_part a p hlt.out h0
        have hb0 : (dg a p == 0) = true := by simp [h0]
        have hb1 : (dg a p != 0) = false := by simp [h0]
        clear h0
        go_wp2_with fail
        go_round
        case rel => exact ⟨p, by omega, by go_num, HL⟩
        case measure => simp [intOf]
      · have HL := BL2_part a p (by omega) hlt.out h0
        have hb0 : (dg a p == 0) = false := by simp [h0]
        have hb1 : (dg a p != 0) = true := by simp [h0]
        have hl := dg_lt a p
        have HU : Hid (dg a p ≤ 18446744073709551615) := (by omega : dg a p ≤ 18446744073709551615)
        have hm := bitLen_spec (dg a p).toNat (by omega)
        have hm1 := hm.1
        clear h0 hm hl
        go_wp2_with fail
        refine (Try.bits_Len64 (dg a p) _ hn HU.out).mono ?_
        rintro e w1 ⟨rfl, rfl⟩
        generalize Lib.bitLen (dg a p).toNat = m at *
        go_wp2_with fail
        go_ret
        exact ⟨64 * p + m, congrArg _ (int_of (by omega)), HL, (Below.refl _ _).alloc (Nat.le_refl _) _⟩
end Go.Proofs.Ytblodmjnhmfjeaa
