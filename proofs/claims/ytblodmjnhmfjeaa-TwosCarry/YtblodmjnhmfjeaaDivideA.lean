/- word.divide: the long division of eight parts by a word. -/
import Derived.Test.YtblodmjnhmfjeaaMovedDown
import Derived.Test.YtblodmjnhmfjeaaDvArith
import Derived.Test.YtblodmjnhmfjeaaLawSums
import Derived.Deep.DeepCutAuto
namespace Go.Proofs.Ytblodmjnhmfjeaa
open Go.RowKit Go.Shelf
attribute [local go_sem ↓] Go.wp_at_zero Go.wp_at_succ
theorem eq_no (b : Nat) (hb : b < 2 ^ 256) (h0 : b ≠ 0) (w : World) : (binOp .eql 24 (.agg #[.int .u64 (dg b 0), .int .u64 (dg b 1), .int .u64 (dg b 2), .int .u64 (dg b 3)]) (.agg #[.int .u64 0, .int .u64 0, .int .u64 0, .int .u64 0])).run Try.prog w = .ok (.bool false) w := by
  obtain ⟨i, hi⟩ := Try.infoU64
  rw [run_eql_struct, run_equalIn_array w 9999 _ _ Try.underlying24 hi, Try.cellsU64]
  by_cases h1 : dg b 0 = 0
  · by_cases h2 : dg b 1 = 0
    · by_cases h3 : dg b 2 = 0
      · by_cases h4 : dg b 3 = 0
        · exact absurd (by rw [dg0] at h1; rw [dg1] at h2; rw [dg2] at h3; rw [dg3] at h4; omega) h0
        · simp [Op.eqItems, go_sem, List.range, List.range.loop, h1, h2, h3, h4]
      · simp [Op.eqItems, go_sem, List.range, List.range.loop, h1, h2, h3]
    · simp [Op.eqItems, go_sem, List.range, List.range.loop, h1, h2]
  · simp [Op.eqItems, go_sem, List.range, List.range.loop, h1]
theorem eq_guard2 (op : BinOp) (x y : Operand) (xs ys : Array Value) (w : World) : (eqGuard op 24 x y (.agg xs) (.agg ys)).run Try.prog w = .ok () w := run_eqGuard_agg w op _ x y _ _ Try.eqGuardWord
/-- Where the bits of b end: which part is the uppermost, and how far it is from the top. -/
theorem top_part (b L : Nat) (h0 : b ≠ 0) (hL : BL2 b L) : 1 ≤ (L + 63) / 64 ∧ (L + 63) / 64 ≤ 4 ∧ 2 ^ (64 * ((L + 63) / 64 - 1)) ≤ b ∧ b < 2 ^ (64 * ((L + 63) / 64)) := by
  obtain ⟨h1, h2, h3⟩ := hL
  obtain ⟨h4, h5⟩ := h3 h0
  refine ⟨by omega, by omega, Nat.le_trans (Nat.pow_le_pow_right (by decide) (by omega)) h5, Nat.lt_of_lt_of_le h2 (Nat.pow_le_pow_right (by decide) (by omega))⟩
/-- Moved up so far, the uppermost bit of b is set, and nothing is lost. -/
theorem top_shift (b n : Nat) (hn : 1 ≤ n) (h1 : 2 ^ (64 * (n - 1)) ≤ b) (h2 : b < 2 ^ (64 * n)) : Lib.bitLen (dg b (n - 1)).toNat ≤ 64 ∧ 1 ≤ Lib.bitLen (dg b (n - 1)).toNat ∧ b * 2 ^ (64 - Lib.bitLen (dg b (n - 1)).toNat) < 2 ^ (64 * n) ∧ 9223372036854775808 ≤ dg (b * 2 ^ (64 - Lib.bitLen (dg b (n - 1)).toNat)) (n - 1) := by
  obtain ⟨k, rfl⟩ : ∃ k, n = k + 1 := ⟨n - 1, by omega⟩
  rw [show k + 1 - 1 = k by omega] at *
  have hX := bl_at b k h2
  have hp : 0 < 2 ^ (64 * k) := Nat.two_pow_pos _
  have hXp : 1 ≤ b / 2 ^ (64 * k) := (Nat.le_div_iff_mul_le hp).2 (by omega)
  have hl := dg_lt b k
  obtain ⟨m1, m2, m3⟩ := bitLen_spec (dg b k).toNat (by omega)
  rw [hX] at m1 m2 m3 ⊢
  obtain ⟨m4, m5⟩ := m3 (by omega)
  generalize Lib.bitLen (b / 2 ^ (64 * k)) = m at *
  have hb1 : b < 2 ^ m * 2 ^ (64 * k) := (Nat.div_lt_iff_lt_mul hp).1 m2
  have hlt : b * 2 ^ (64 - m) < 2 ^ (64 * (k + 1)) := by
    have := Nat.mul_lt_mul_of_pos_right hb1 (Nat.two_pow_pos (64 - m))
    rw [← Nat.pow_add, ← Nat.pow_add, show m + 64 * k + (64 - m) = 64 * (k + 1) by omega] at this
    exact this
  refine ⟨m1, m4, hlt, ?_⟩
  have h3 := bl_at (b * 2 ^ (64 - m)) k hlt
  have h4 : 9223372036854775808 ≤ b * 2 ^ (64 - m) / 2 ^ (64 * k) := by
    rw [Nat.le_div_iff_mul_le hp]
    have h5 : 2 ^ (m - 1) * 2 ^ (64 * k) ≤ b := (Nat.le_div_iff_mul_le hp).1 m5
    have h6 := Nat.mul_le_mul_right (2 ^ (64 - m)) h5
    rw [Nat.mul_right_comm, ← Nat.pow_add, show m - 1 + (64 - m) = 63 by omega] at h6
    exact h6
  have hn := dg_nn (b * 2 ^ (64 - m)) k
  omega
theorem dg_zero (i : Nat) : dg 0 i = 0 := by unfold dg; rw [Nat.zero_div]; rfl
/-- What the division's own variables hold. -/
structure D0 (w : World) (a b : Nat) (Q : Nat → Int) (wx : World) : Prop where
  sz : w.heap.size + 1 + 1 + 1 < wx.heap.size
  cA : CF w.heap.size 8 (dg a) wx
  cB : C4 (w.heap.size + 1) b wx
  cQ : CF (w.heap.size + 1 + 1) 8 Q wx
  cR : C4 (w.heap.size + 1 + 1 + 1) 0 wx
  fB : Fz (w.heap.size + 1) wx
  fQ : Fz (w.heap.size + 1 + 1) wx
  fR : Fz (w.heap.size + 1 + 1 + 1) wx
  bel : Below w.heap.size w wx
theorem D0_start (w : World) (a b : Nat) (T8 T4 : TypeId) : D0 w a b (fun _ => 0) ((((w.alloc (.cells #[.int .u64 (dg a 0), .int .u64 (dg a 1), .int .u64 (dg a 2), .int .u64 (dg a 3), .int .u64 (dg a 4), .int .u64 (dg a 5), .int .u64 (dg a 6), .int .u64 (dg a 7)] T8)).alloc (.cells #[.int .u64 (dg b 0), .int .u64 (dg b 1), .int .u64 (dg b 2), .int .u64 (dg b 3)] T4)).alloc (.cells #[.int .u64 0, .int .u64 0, .int .u64 0, .int .u64 0, .int .u64 0, .int .u64 0, .int .u64 0, .int .u64 0] T8)).alloc (.cells #[.int .u64 0, .int .u64 0, .int .u64 0, .int .u64 0] T4)) := by
  refine ⟨by simp, fun o ho => ?_, fun o ho => ?_, fun o ho => ?_, fun o ho => ?_, fun o => by simp [go_sem], fun o => by simp [go_sem], fun o => by simp [go_sem], ?_⟩
  · have : o = 0 ∨ o = 1 ∨ o = 2 ∨ o = 3 ∨ o = 4 ∨ o = 5 ∨ o = 6 ∨ o = 7 := by omega
    rcases this with rfl | rfl | rfl | rfl | rfl | rfl | rfl | rfl <;> simp [go_sem]
  · have : o = 0 ∨ o = 1 ∨ o = 2 ∨ o = 3 := by omega
    rcases this with rfl | rfl | rfl | rfl <;> simp [go_sem]
  · have : o = 0 ∨ o = 1 ∨ o = 2 ∨ o = 3 ∨ o = 4 ∨ o = 5 ∨ o = 6 ∨ o = 7 := by omega
    rcases this with rfl | rfl | rfl | rfl | rfl | rfl | rfl | rfl <;> simp [go_sem]
  · have : o = 0 ∨ o = 1 ∨ o = 2 ∨ o = 3 := by omega
    rcases this with rfl | rfl | rfl | rfl <;> simp [go_sem, dg_zero]
  · repeat (first | exact Below.refl _ _ | refine Below.alloc ?_ (by simp <;> omega) _)
theorem D0_below {w : World} {a b : Nat} {Q : Nat → Int} {w1 w2 : World} (h : D0 w a b Q w1) (k : Below w1.heap.size w1 w2) : D0 w a b Q w2 := by
  have sz := h.sz
  have := k.size
  exact ⟨by omega, CF_below h.cA k (by omega), C4_below h.cB k (by omega), CF_below h.cQ k (by omega), C4_below h.cR k sz, Fz_below h.fB k (by omega), Fz_below h.fQ k (by omega), Fz_below h.fR k sz, h.bel.trans (k.mono (by omega))⟩
theorem CF_gb {g h n : Nat} {F : Nat → Int} {w w' : World} (c : CF h n F w) (k : w.grownBy w' (some g)) (hne : h ≠ g) (hlt : h < w.heap.size) : CF h n F w' := fun o ho => (World.cell?_of_block (a := ⟨h, o, none⟩) (k.block h hlt (fun e => hne (by simpa using e)))).trans (c o ho)
theorem D0_gb {w : World} {a b g : Nat} {Q : Nat → Int} {w1 w2 : World} (h : D0 w a b Q w1) (k : w1.grownBy w2 (some g)) (hg : w.heap.size + 1 + 1 + 1 < g) : D0 w a b Q w2 := by
  have sz := h.sz
  have := k.size
  exact ⟨by omega, CF_gb h.cA k (by omega) (by omega), C4_gb h.cB k (by omega) (by omega), CF_gb h.cQ k (by omega) (by omega), C4_gb h.cR k (by omega) sz, Fz_gb h.fB k (by omega) (by omega), Fz_gb h.fQ k (by omega) (by omega), Fz_gb h.fR k (by omega) sz, h.bel.grown k (by omega) (fun j hj => by simp at hj; omega)⟩
theorem D0_al {w : World} {a b : Nat} {Q : Nat → Int} {w1 : World} (h : D0 w a b Q w1) (o : Obj) : D0 w a b Q (w1.alloc o) := D0_below h ((Below.refl _ _).alloc (Nat.le_refl _) o)
theorem D0_drew {w : World} {a b : Nat} {Q : Nat → Int} {w1 : World} (h : D0 w a b Q w1) : D0 w a b Q w1.drew := D0_below h (Below.refl _ _).drew
theorem D0_setB {w : World} {a b m : Nat} {Q : Nat → Int} {w1 : World} (h : D0 w a b Q w1) : D0 w a m Q ((((w1.setCell ⟨w.heap.size + 1, 0, none⟩ (.int .u64 (dg m 0))).setCell ⟨w.heap.size + 1, 1, none⟩ (.int .u64 (dg m 1))).setCell ⟨w.heap.size + 1, 2, none⟩ (.int .u64 (dg m 2))).setCell ⟨w.heap.size + 1, 3, none⟩ (.int .u64 (dg m 3))) := by
  have sz := h.sz
  exact ⟨by simp; omega, CF_other (CF_other (CF_other (CF_other h.cA (by dsimp only; omega)) (by dsimp only; omega)) (by dsimp only; omega)) (by dsimp only; omega), C4_set h.cB, CF_other (CF_other (CF_other (CF_other h.cQ (by dsimp only; omega)) (by dsimp only; omega)) (by dsimp only; omega)) (by dsimp only; omega), C4_set_other h.cR (by omega), Fz_set4 h.fB, Fz_set4 h.fQ, Fz_set4 h.fR, Bel_set4 h.bel (by omega)⟩
theorem D0_setQ {w : World} {a b j : Nat} {Q : Nat → Int} {t : Int} {w1 : World} (h : D0 w a b Q w1) (hj : j < 8) : D0 w a b (upd Q j t) (w1.setCell ⟨w.heap.size + 1 + 1, j, none⟩ (.int .u64 t)) := by
  have sz := h.sz
  exact ⟨by simpa using sz, CF_other h.cA (by dsimp only; omega), C4_other h.cB (by dsimp only; omega), CF_set h.cQ hj, C4_other h.cR (by dsimp only; omega), Fz_set h.fB, Fz_set h.fQ, Fz_set h.fR, h.bel.setCell (by dsimp only; omega) _⟩
theorem C9_alloc (n : Nat) (w : World) (T : TypeId) : CF w.heap.size 9 (dg n) (w.alloc (.cells #[.int .u64 (dg n 0), .int .u64 (dg n 1), .int .u64 (dg n 2), .int .u64 (dg n 3), .int .u64 (dg n 4), .int .u64 (dg n 5), .int .u64 (dg n 6), .int .u64 (dg n 7), .int .u64 (dg n 8)] T)) := fun o ho => by
  have : o = 0 ∨ o = 1 ∨ o = 2 ∨ o = 3 ∨ o = 4 ∨ o = 5 ∨ o = 6 ∨ o = 7 ∨ o = 8 := by omega
  rcases this with rfl | rfl | rfl | rfl | rfl | rfl | rfl | rfl | rfl <;> simp
end Go.Proofs.Ytblodmjnhmfjeaa
