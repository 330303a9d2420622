/- Plain arithmetic of a long division, part by part from the uppermost on. -/
import Derived.Test.YtcgjkombefhjmaaPackA
import Derived.ChangeKeysEq
import Derived.Deep.DeepCutAuto
import Derived.Laws.OwnMore
import Derived.Laws.IdiomStrings
import Derived.Deep.Upon
import Derived.Laws.IdiomCopy
import Derived.Tactics
namespace Go.Proofs.Ytcgjkombefhjmaa
theorem vr_put {F : Nat → Int} {v : Int} (k : Nat) : ∀ K, k < K → vr (upd F k v) 0 K = vr F 0 K + (v - F k) * Mp k
  | 0, h => by omega
  | K + 1, h => by
    rw [vr, vr, Nat.zero_add]
    by_cases e : k = K
    · subst e
      rw [vr_congr (G := F) (fun i hi => by unfold upd; rw [if_neg (by omega)])]
      unfold upd
      rw [if_pos rfl]
      grind
    · rw [vr_put k K (by omega)]
      have : upd F k v K = F K := by unfold upd; rw [if_neg (by omega)]
      rw [this]
      grind
theorem vr_zero {F : Nat → Int} {j : Nat} : ∀ k, (∀ i, i < k → F (j + i) = 0) → vr F j k = 0
  | 0, _ => rfl
  | k + 1, h => by rw [vr, vr_zero k (fun i hi => h i (by omega)), h k (by omega)]; simp
/-- What stands behind the quotient's parts from k on. -/
def DV (N B : Int) (n k : Nat) (F Q : Nat → Int) : Prop := (∀ o, U (F o)) ∧ (∀ o, U (Q o)) ∧ (∀ o, o < k → Q o = 0) ∧ (∀ o, k + n ≤ o → o < 9 → F o = 0) ∧ vr F k n < B ∧ vr F 0 9 + B * vr Q 0 8 = N
theorem DV_lt {N B : Int} {n j : Nat} {F Q : Nat → Int} (H : DV N B n (j + 1) F Q) : vr F j (n + 1) < B * 18446744073709551616 := by
  obtain ⟨h1, _, _, _, h5, _⟩ := H
  rw [show n + 1 = 1 + n by omega, vr_split, Mp1]
  have e : vr F j 1 = F j := by simp [vr, Mp]
  rw [e]
  have hu := h1 j
  unfold U at hu
  omega
theorem DV_step {N B t : Int} {n j : Nat} {F G Q : Nat → Int} (H : DV N B n (j + 1) F Q) (hn1 : 1 ≤ n) (hn : j + n ≤ 8) (hB : 0 < B) (hBn : B < Mp n) (hG : ∀ o, U (G o)) (ho : ∀ o, o < j ∨ j + n < o → G o = F o) (hv : vr G j (n + 1) = vr F j (n + 1) % B) (ht : t = vr F j (n + 1) / B) : DV N B n j G (upd Q j t) := by
  have hlt := DV_lt H
  obtain ⟨h1, h2, h3, h4, h5, h6⟩ := H
  have hA0 := (vr_bound h1 j (n + 1)).1
  have ut : U t := by
    rw [ht]
    exact ⟨Int.ediv_nonneg hA0 (Int.le_of_lt hB), Int.ediv_lt_of_lt_mul hB (by rw [Int.mul_comm]; exact hlt)⟩
  have hr0 := Int.emod_nonneg (vr F j (n + 1)) (show B ≠ 0 by omega)
  have hr1 := Int.emod_lt_of_pos (vr F j (n + 1)) hB
  have hsp : vr G j (n + 1) = vr G j n + G (j + n) * Mp n := rfl
  have hn0 := (vr_bound hG j n).1
  have hu := hG (j + n)
  have hp := Mp_pos n
  have hz : G (j + n) = 0 := by
    apply Int.le_antisymm _ hu.1
    apply Int.not_lt.1
    intro hgt
    have := Int.mul_le_mul_of_nonneg_right (show (1 : Int) ≤ G (j + n) by omega) (Int.le_of_lt hp)
    omega
  refine ⟨hG, upd_U h2 ut, fun o hlo => ?_, fun o hlo ho9 => ?_, ?_, ?_⟩
  · unfold upd; rw [if_neg (by omega)]; exact h3 o (by omega)
  · by_cases e : o = j + n
    · rw [e]; exact hz
    · rw [ho o (by omega)]; exact h4 o (by omega) ho9
  · rw [hz] at hsp; omega
  · rw [vr_put j 8 (by omega), h3 j (by omega)]
    have sF : vr F 0 9 = vr F 0 j + Mp j * (vr F j (n + 1) + Mp (n + 1) * vr F (j + (n + 1)) (9 - j - (n + 1))) := by
      have a := vr_split F 0 j (9 - j)
      have b := vr_split F j (n + 1) (9 - j - (n + 1))
      rw [show j + (9 - j) = 9 by omega, Nat.zero_add] at a
      rw [show n + 1 + (9 - j - (n + 1)) = 9 - j by omega] at b
      rw [a, b]
    have sG : vr G 0 9 = vr G 0 j + Mp j * (vr G j (n + 1) + Mp (n + 1) * vr G (j + (n + 1)) (9 - j - (n + 1))) := by
      have a := vr_split G 0 j (9 - j)
      have b := vr_split G j (n + 1) (9 - j - (n + 1))
      rw [show j + (9 - j) = 9 by omega, Nat.zero_add] at a
      rw [show n + 1 + (9 - j - (n + 1)) = 9 - j by omega] at b
      rw [a, b]
    have c1 : vr G 0 j = vr F 0 j := vr_congr (fun i hi => ho _ (by omega))
    have c2 : vr G (j + (n + 1)) (9 - j - (n + 1)) = vr F (j + (n + 1)) (9 - j - (n + 1)) := vr_congr (fun i hi => ho _ (by omega))
    have e := Int.mul_ediv_add_emod (vr F j (n + 1)) B
    rw [← ht, ← hv] at e
    rw [sG, c1, c2]
    rw [sF] at h6
    grind
theorem DV_end {N B : Nat} {n : Nat} {F Q : Nat → Int} (H : DV N B n 0 F Q) (hn : n ≤ 9) (hB : 0 < B) : (∀ k, k < 9 → F k = dg (N % B) k) ∧ (∀ k, k < 8 → Q k = dg (N / B) k) := by
  obtain ⟨h1, h2, h3, h4, h5, h6⟩ := H
  have hs : vr F 0 9 = vr F 0 n := by
    have a := vr_split F 0 n (9 - n)
    rw [show n + (9 - n) = 9 by omega] at a
    have z : vr F (0 + n) (9 - n) = 0 := vr_zero _ (fun i hi => h4 _ (by omega) (by omega))
    rw [a, z]
    simp
  have h0 := (vr_bound h1 0 9).1
  obtain ⟨q1, q2⟩ := quo_rest (N := N) (Q := vr Q 0 8) (R := vr F 0 9) (y := B) (by omega) (by rw [← h6]; grind) h0 (by omega)
  exact ⟨vr_dg h1 (by rw [← q2]; rfl), vr_dg h2 (by rw [← q1]; rfl)⟩
theorem DV_start {a b s n e : Nat} (he : e = 512) (hn1 : 1 ≤ n) (hn : n ≤ 4) (ha : a < 2 ^ e) (hb : 2 ^ (64 * (n - 1)) ≤ b) (hs : s < 64) : DV ((a * 2 ^ s : Nat) : Int) ((b * 2 ^ s : Nat) : Int) n (9 - n) (dg (a * 2 ^ s)) (fun _ => 0) := by
  refine ⟨fun o => U_dg _ o, fun _ => U_zero, fun _ _ => rfl, fun o h1 h2 => by omega, ?_, ?_⟩
  · have hN : a * 2 ^ s < 2 ^ (e + s) := by rw [Nat.pow_add]; exact Nat.mul_lt_mul_of_pos_right ha (Nat.two_pow_pos s)
    have hsp := vr_split (dg (a * 2 ^ s)) 0 (9 - n) n
    rw [show 9 - n + n = 9 by omega, vr_low, vr_low, Nat.zero_add] at hsp
    have hlow : lowp (a * 2 ^ s) 9 ≤ ((a * 2 ^ s : Nat) : Int) := by unfold lowp; exact Int.ofNat_le.2 (Nat.mod_le _ _)
    have hl0 : 0 ≤ lowp (a * 2 ^ s) (9 - n) := Int.natCast_nonneg _
    apply Int.not_le.1
    intro hge
    have hm := Int.mul_le_mul_of_nonneg_left hge (Int.le_of_lt (Mp_pos (9 - n)))
    have hbig : 2 ^ (e + s) ≤ 2 ^ (64 * (9 - n)) * (b * 2 ^ s) := by
      have h1 : 2 ^ (64 * (n - 1)) * 2 ^ s ≤ b * 2 ^ s := Nat.mul_le_mul_right _ hb
      have h2 := Nat.mul_le_mul_left (2 ^ (64 * (9 - n))) h1
      rw [← Nat.pow_add, ← Nat.pow_add, show 64 * (9 - n) + (64 * (n - 1) + s) = e + s by omega] at h2
      exact h2
    have hM : Mp (9 - n) * ((b * 2 ^ s : Nat) : Int) = ((2 ^ (64 * (9 - n)) * (b * 2 ^ s) : Nat) : Int) := by unfold Mp; exact (Int.natCast_mul _ _).symm
    rw [hM] at hm
    have hc := Int.ofNat_le.2 hbig
    have hd := Int.ofNat_lt.2 hN
    omega
  · have : vr (fun _ => (0 : Int)) 0 8 = 0 := vr_zero _ (fun _ _ => rfl)
    rw [this, vr_low, Int.mul_zero, Int.add_zero]
    unfold lowp
    rw [Nat.mod_eq_of_lt]
    have hN : a * 2 ^ s < 2 ^ (e + s) := by rw [Nat.pow_add]; exact Nat.mul_lt_mul_of_pos_right ha (Nat.two_pow_pos s)
    generalize hk : 64 * 9 = K
    exact Nat.lt_of_lt_of_le hN (Nat.pow_le_pow_right (by decide) (by omega))
end Go.Proofs.Ytcgjkombefhjmaa
/- word.Sub: the difference of two words, rest 2^256. -/
namespace Go.Proofs.Ytcgjkombefhjmaa
open Go.RowKit Go.Shelf
attribute [local go_sem ↓] Go.wp_at_zero Go.wp_at_succ

end Go.Proofs.Ytcgjkombefhjmaa
/- lampbearerlaw.WordSums: word.Add, Sub and Mul answer as the document's own do. -/
namespace Go.Proofs.Ytcgjkombefhjmaa
open Go.RowKit Go.Shelf
attribute [local go_sem ↓] Go.wp_at_zero Go.wp_at_succ
theorem Try.infoU64 : ∃ i, Try.prog.info? 39 = some i := by
  have h : (Try.prog.info? 39).isSome = true := by kernel_rfl
  exact Option.isSome_iff_exists.1 h
theorem Try.cellsU64 : Try.prog.cellsOf 39 = 1 := by kernel_rfl
end Go.Proofs.Ytcgjkombefhjmaa
/- word.divide: the long division of eight parts by a word. -/
namespace Go.Proofs.Ytcgjkombefhjmaa
open Go.RowKit Go.Shelf
attribute [local go_sem ↓] Go.wp_at_zero Go.wp_at_succ
/-- Where the bits of b end: which part is the uppermost, and how far it is from the top. -/
theorem top_part (b L : Nat) (h0 : b ≠ 0) (hL : BL2 b L) : 1 ≤ (L + 63) / 64 ∧ (L + 63) / 64 ≤ 4 ∧ 2 ^ (64 * ((L + 63) / 64 - 1)) ≤ b ∧ b < 2 ^ (64 * ((L + 63) / 64)) := by
  obtain ⟨h1, h2, h3⟩ := hL
  obtain ⟨h4, h5⟩ := h3 h0
  refine ⟨by omega, by omega, Nat.le_trans (Nat.pow_le_pow_right (by decide) (by omega)) h5, Nat.lt_of_lt_of_le h2 (Nat.pow_le_pow_right (by decide) (by omega))⟩
/-- Moved up so far, the uppermost bit of b is set, and nothing is lost. -/
theorem top_shift (b n : Nat) (hn : 1 ≤ n) (h1 : 2 ^ (64 * (n - 1)) ≤ b) (h2 : b < 2 ^ (64 * n)) : Lib.bitLen (dg b (n - 1)).toNat ≤ 64 ∧ 1 ≤ Lib.bitLen (dg b (n - 1)).toNat ∧ b * 2 ^ (64 - Lib.bitLen (dg b (n - 1)).toNat) < 2 ^ (64 * n) ∧ 9223372036854775808 ≤ dg (b * 2 ^ (64 - Lib.bitLen (dg b (n - 1)).toNat)) (n - 1) := by
  obtain ⟨k, rfl⟩ : ∃ k, n = k + 1 := ⟨n - 1, by omega⟩
  rw [show k + 1 - 1 = k by omega] at *
  have hX := bl_at b k h2
  have hp : 0 < 2 ^ (64 * k) := Nat.two_pow_pos _
  have hXp : 1 ≤ b / 2 ^ (64 * k) := (Nat.le_div_iff_mul_le hp).2 (by omega)
  have hl := dg_lt b k
  obtain ⟨m1, m2, m3⟩ := bitLen_spec (dg b k).toNat (by omega)
  rw [hX] at m1 m2 m3 ⊢
  obtain ⟨m4, m5⟩ := m3 (by omega)
  generalize Lib.bitLen (b / 2 ^ (64 * k)) = m at *
  have hb1 : b < 2 ^ m * 2 ^ (64 * k) := (Nat.div_lt_iff_lt_mul hp).1 m2
  have hlt : b * 2 ^ (64 - m) < 2 ^ (64 * (k + 1)) := by
    have := Nat.mul_lt_mul_of_pos_right hb1 (Nat.two_pow_pos (64 - m))
    rw [← Nat.pow_add, ← Nat.pow_add, show m + 64 * k + (64 - m) = 64 * (k + 1) by omega] at this
    exact this
  refine ⟨m1, m4, hlt, ?_⟩
  have h3 := bl_at (b * 2 ^ (64 - m)) k hlt
  have h4 : 9223372036854775808 ≤ b * 2 ^ (64 - m) / 2 ^ (64 * k) := by
    rw [Nat.le_div_iff_mul_le hp]
    have h5 : 2 ^ (m - 1) * 2 ^ (64 * k) ≤ b := (Nat.le_div_iff_mul_le hp).1 m5
    have h6 := Nat.mul_le_mul_right (2 ^ (64 - m)) h5
    rw [Nat.mul_right_comm, ← Nat.pow_add, show m - 1 + (64 - m) = 63 by omega] at h6
    exact h6
  have hn := dg_nn (b * 2 ^ (64 - m)) k
  omega
theorem dg_zero (i : Nat) : dg 0 i = 0 := by unfold dg; rw [Nat.zero_div]; rfl
/-- What the division's own variables hold. -/
structure D0 (w : World) (a b : Nat) (Q : Nat → Int) (wx : World) : Prop where
  sz : w.heap.size + 1 + 1 + 1 < wx.heap.size
  cA : CF w.heap.size 8 (dg a) wx
  cB : C4 (w.heap.size + 1) b wx
  cQ : CF (w.heap.size + 1 + 1) 8 Q wx
  cR : C4 (w.heap.size + 1 + 1 + 1) 0 wx
  fB : Fz (w.heap.size + 1) wx
  fQ : Fz (w.heap.size + 1 + 1) wx
  fR : Fz (w.heap.size + 1 + 1 + 1) wx
  bel : Below w.heap.size w wx
theorem D0_start (w : World) (a b : Nat) (T8 T4 : TypeId) : D0 w a b (fun _ => 0) ((((w.alloc (.cells #[.int .u64 (dg a 0), .int .u64 (dg a 1), .int .u64 (dg a 2), .int .u64 (dg a 3), .int .u64 (dg a 4), .int .u64 (dg a 5), .int .u64 (dg a 6), .int .u64 (dg a 7)] T8)).alloc (.cells #[.int .u64 (dg b 0), .int .u64 (dg b 1), .int .u64 (dg b 2), .int .u64 (dg b 3)] T4)).alloc (.cells #[.int .u64 0, .int .u64 0, .int .u64 0, .int .u64 0, .int .u64 0, .int .u64 0, .int .u64 0, .int .u64 0] T8)).alloc (.cells #[.int .u64 0, .int .u64 0, .int .u64 0, .int .u64 0] T4)) := by
  refine ⟨by simp, fun o ho => ?_, fun o ho => ?_, fun o ho => ?_, fun o ho => ?_, fun o => by simp [go_sem], fun o => by simp [go_sem], fun o => by simp [go_sem], ?_⟩
  · have : o = 0 ∨ o = 1 ∨ o = 2 ∨ o = 3 ∨ o = 4 ∨ o = 5 ∨ o = 6 ∨ o = 7 := by omega
    rcases this with rfl | rfl | rfl | rfl | rfl | rfl | rfl | rfl <;> simp [go_sem]
  · have : o = 0 ∨ o = 1 ∨ o = 2 ∨ o = 3 := by omega
    rcases this with rfl | rfl | rfl | rfl <;> simp [go_sem]
  · have : o = 0 ∨ o = 1 ∨ o = 2 ∨ o = 3 ∨ o = 4 ∨ o = 5 ∨ o = 6 ∨ o = 7 := by omega
    rcases this with rfl | rfl | rfl | rfl | rfl | rfl | rfl | rfl <;> simp [go_sem]
  · have : o = 0 ∨ o = 1 ∨ o = 2 ∨ o = 3 := by omega
    rcases this with rfl | rfl | rfl | rfl <;> simp [go_sem, dg_zero]
  · repeat (first | exact Below.refl _ _ | refine Below.alloc ?_ (by simp <;> omega) _)
theorem D0_below {w : World} {a b : Nat} {Q : Nat → Int} {w1 w2 : World} (h : D0 w a b Q w1) (k : Below w1.heap.size w1 w2) : D0 w a b Q w2 := by
  have sz := h.sz
  have := k.size
  exact ⟨by omega, CF_below h.cA k (by omega), C4_below h.cB k (by omega), CF_below h.cQ k (by omega), C4_below h.cR k sz, Fz_below h.fB k (by omega), Fz_below h.fQ k (by omega), Fz_below h.fR k sz, h.bel.trans (k.mono (by omega))⟩
theorem CF_gb {g h n : Nat} {F : Nat → Int} {w w' : World} (c : CF h n F w) (k : w.grownBy w' (some g)) (hne : h ≠ g) (hlt : h < w.heap.size) : CF h n F w' := fun o ho => (World.cell?_of_block (a := ⟨h, o, none⟩) (k.block h hlt (fun e => hne (by simpa using e)))).trans (c o ho)
theorem D0_gb {w : World} {a b g : Nat} {Q : Nat → Int} {w1 w2 : World} (h : D0 w a b Q w1) (k : w1.grownBy w2 (some g)) (hg : w.heap.size + 1 + 1 + 1 < g) : D0 w a b Q w2 := by
  have sz := h.sz
  have := k.size
  exact ⟨by omega, CF_gb h.cA k (by omega) (by omega), C4_gb h.cB k (by omega) (by omega), CF_gb h.cQ k (by omega) (by omega), C4_gb h.cR k (by omega) sz, Fz_gb h.fB k (by omega) (by omega), Fz_gb h.fQ k (by omega) (by omega), Fz_gb h.fR k (by omega) sz, h.bel.grown k (by omega) (fun j hj => by simp at hj; omega)⟩
theorem D0_al {w : World} {a b : Nat} {Q : Nat → Int} {w1 : World} (h : D0 w a b Q w1) (o : Obj) : D0 w a b Q (w1.alloc o) := D0_below h ((Below.refl _ _).alloc (Nat.le_refl _) o)
theorem D0_drew {w : World} {a b : Nat} {Q : Nat → Int} {w1 : World} (h : D0 w a b Q w1) : D0 w a b Q w1.drew := D0_below h (Below.refl _ _).drew
theorem D0_setB {w : World} {a b m : Nat} {Q : Nat → Int} {w1 : World} (h : D0 w a b Q w1) : D0 w a m Q ((((w1.setCell ⟨w.heap.size + 1, 0, none⟩ (.int .u64 (dg m 0))).setCell ⟨w.heap.size + 1, 1, none⟩ (.int .u64 (dg m 1))).setCell ⟨w.heap.size + 1, 2, none⟩ (.int .u64 (dg m 2))).setCell ⟨w.heap.size + 1, 3, none⟩ (.int .u64 (dg m 3))) := by
  have sz := h.sz
  exact ⟨by simp; omega, CF_other (CF_other (CF_other (CF_other h.cA (by dsimp only; omega)) (by dsimp only; omega)) (by dsimp only; omega)) (by dsimp only; omega), C4_set h.cB, CF_other (CF_other (CF_other (CF_other h.cQ (by dsimp only; omega)) (by dsimp only; omega)) (by dsimp only; omega)) (by dsimp only; omega), C4_set_other h.cR (by omega), Fz_set4 h.fB, Fz_set4 h.fQ, Fz_set4 h.fR, Bel_set4 h.bel (by omega)⟩
theorem D0_setQ {w : World} {a b j : Nat} {Q : Nat → Int} {t : Int} {w1 : World} (h : D0 w a b Q w1) (hj : j < 8) : D0 w a b (upd Q j t) (w1.setCell ⟨w.heap.size + 1 + 1, j, none⟩ (.int .u64 t)) := by
  have sz := h.sz
  exact ⟨by simpa using sz, CF_other h.cA (by dsimp only; omega), C4_other h.cB (by dsimp only; omega), CF_set h.cQ hj, C4_other h.cR (by dsimp only; omega), Fz_set h.fB, Fz_set h.fQ, Fz_set h.fR, h.bel.setCell (by dsimp only; omega) _⟩
theorem C9_alloc (n : Nat) (w : World) (T : TypeId) : CF w.heap.size 9 (dg n) (w.alloc (.cells #[.int .u64 (dg n 0), .int .u64 (dg n 1), .int .u64 (dg n 2), .int .u64 (dg n 3), .int .u64 (dg n 4), .int .u64 (dg n 5), .int .u64 (dg n 6), .int .u64 (dg n 7), .int .u64 (dg n 8)] T)) := fun o ho => by
  have : o = 0 ∨ o = 1 ∨ o = 2 ∨ o = 3 ∨ o = 4 ∨ o = 5 ∨ o = 6 ∨ o = 7 ∨ o = 8 := by omega
  rcases this with rfl | rfl | rfl | rfl | rfl | rfl | rfl | rfl | rfl <;> simp
end Go.Proofs.Ytcgjkombefhjmaa
/- word.divide: the long division of eight parts by a word. -/
namespace Go.Proofs.Ytcgjkombefhjmaa
open Go.RowKit Go.Shelf
attribute [local go_sem ↓] Go.wp_at_zero Go.wp_at_succ

end Go.Proofs.Ytcgjkombefhjmaa
/- Variables of a call's own in memory: what they hold, and what leaves them alone. -/
namespace Go.Proofs.Ytcgjkombefhjmaa
open Go.RowKit Go.Shelf
theorem CF_al {g n : Nat} {F : Nat → Int} {w : World} (h : CF g n F w) (hg : g < w.heap.size) (o : Obj) : CF g n F (w.alloc o) := CF_below h ((Below.refl _ _).alloc (Nat.le_refl _) o) hg
/-- Block g is the call's own, is not frozen, and its first n cells are F's. -/
structure Vb (B g n : Nat) (F : Nat → Int) (wx : World) : Prop where
  lo : B ≤ g
  hi : g < wx.heap.size
  c : CF g n F wx
  f : Fz g wx
theorem Vb_below {B g n : Nat} {F : Nat → Int} {w1 w2 : World} (h : Vb B g n F w1) (hb : Below w1.heap.size w1 w2) : Vb B g n F w2 := ⟨h.lo, Nat.lt_of_lt_of_le h.hi hb.size, CF_below h.c hb h.hi, Fz_below h.f hb h.hi⟩
theorem Vb_al {B g n : Nat} {F : Nat → Int} {w1 : World} (h : Vb B g n F w1) (o : Obj) : Vb B g n F (w1.alloc o) := Vb_below h ((Below.refl _ _).alloc (Nat.le_refl _) o)
theorem Vb_drew {B g n : Nat} {F : Nat → Int} {w1 : World} (h : Vb B g n F w1) : Vb B g n F w1.drew := Vb_below h (Below.refl _ _).drew
theorem Vb_gb {B g n k : Nat} {F : Nat → Int} {w1 w2 : World} (h : Vb B g n F w1) (hb : w1.grownBy w2 (some k)) (hne : g ≠ k) : Vb B g n F w2 := ⟨h.lo, Nat.lt_of_lt_of_le h.hi hb.size, CF_gb h.c hb hne h.hi, Fz_gb h.f hb hne h.hi⟩
theorem Vb_other {B g n : Nat} {F : Nat → Int} {w1 : World} {a : Addr} {v : Value} (h : Vb B g n F w1) (hne : a.block ≠ g) : Vb B g n F (w1.setCell a v) := ⟨h.lo, by simpa using h.hi, CF_other h.c hne, Fz_set h.f⟩
theorem Vb_set {B g n k : Nat} {F : Nat → Int} {w1 : World} {v : Int} (h : Vb B g n F w1) (hk : k < n) : Vb B g n (upd F k v) (w1.setCell ⟨g, k, none⟩ (.int .u64 v)) := ⟨h.lo, by simpa using h.hi, CF_set h.c hk, Fz_set h.f⟩
theorem Vb_set4 {B g m : Nat} {F : Nat → Int} {w1 : World} (h : Vb B g 4 F w1) : Vb B g 4 (dg m) ((((w1.setCell ⟨g, 0, none⟩ (.int .u64 (dg m 0))).setCell ⟨g, 1, none⟩ (.int .u64 (dg m 1))).setCell ⟨g, 2, none⟩ (.int .u64 (dg m 2))).setCell ⟨g, 3, none⟩ (.int .u64 (dg m 3))) := by
  have k := Vb_set (v := dg m 3) (Vb_set (v := dg m 2) (Vb_set (v := dg m 1) (Vb_set (v := dg m 0) h (show 0 < 4 by omega)) (show 1 < 4 by omega)) (show 2 < 4 by omega)) (show 3 < 4 by omega)
  refine ⟨k.lo, k.hi, CF_ext k.c fun o ho => ?_, k.f⟩
  have : o = 0 ∨ o = 1 ∨ o = 2 ∨ o = 3 := by omega
  rcases this with rfl | rfl | rfl | rfl <;> simp [upd]
theorem Vb_set8 {B g m : Nat} {F : Nat → Int} {w1 : World} (h : Vb B g 8 F w1) : Vb B g 8 (dg m) ((((((((w1.setCell ⟨g, 0, none⟩ (.int .u64 (dg m 0))).setCell ⟨g, 1, none⟩ (.int .u64 (dg m 1))).setCell ⟨g, 2, none⟩ (.int .u64 (dg m 2))).setCell ⟨g, 3, none⟩ (.int .u64 (dg m 3))).setCell ⟨g, 4, none⟩ (.int .u64 (dg m 4))).setCell ⟨g, 5, none⟩ (.int .u64 (dg m 5))).setCell ⟨g, 6, none⟩ (.int .u64 (dg m 6))).setCell ⟨g, 7, none⟩ (.int .u64 (dg m 7))) := ⟨h.lo, by simpa using h.hi, C8_set h.c, Fz_set (Fz_set (Fz_set (Fz_set (Fz_set (Fz_set (Fz_set (Fz_set h.f)))))))⟩
theorem Vb_o4 {B g n k m : Nat} {F : Nat → Int} {w1 : World} (h : Vb B g n F w1) (hne : k ≠ g) : Vb B g n F ((((w1.setCell ⟨k, 0, none⟩ (.int .u64 (dg m 0))).setCell ⟨k, 1, none⟩ (.int .u64 (dg m 1))).setCell ⟨k, 2, none⟩ (.int .u64 (dg m 2))).setCell ⟨k, 3, none⟩ (.int .u64 (dg m 3))) := Vb_other (Vb_other (Vb_other (Vb_other h hne) hne) hne) hne
theorem Vb_o8 {B g n k m : Nat} {F : Nat → Int} {w1 : World} (h : Vb B g n F w1) (hne : k ≠ g) : Vb B g n F ((((((((w1.setCell ⟨k, 0, none⟩ (.int .u64 (dg m 0))).setCell ⟨k, 1, none⟩ (.int .u64 (dg m 1))).setCell ⟨k, 2, none⟩ (.int .u64 (dg m 2))).setCell ⟨k, 3, none⟩ (.int .u64 (dg m 3))).setCell ⟨k, 4, none⟩ (.int .u64 (dg m 4))).setCell ⟨k, 5, none⟩ (.int .u64 (dg m 5))).setCell ⟨k, 6, none⟩ (.int .u64 (dg m 6))).setCell ⟨k, 7, none⟩ (.int .u64 (dg m 7))) := Vb_other (Vb_other (Vb_other (Vb_other (Vb_other (Vb_other (Vb_other (Vb_other h hne) hne) hne) hne) hne) hne) hne) hne
theorem Vb_new4 (B n : Nat) (w1 : World) (T : TypeId) (hB : B ≤ w1.heap.size) : Vb B w1.heap.size 4 (dg n) (w1.alloc (.cells #[.int .u64 (dg n 0), .int .u64 (dg n 1), .int .u64 (dg n 2), .int .u64 (dg n 3)] T)) := ⟨hB, by simp, C4_alloc n w1 T, Fz_alloc w1 _ T⟩
theorem Vb_new0 (B : Nat) (w1 : World) (T : TypeId) (hB : B ≤ w1.heap.size) : Vb B w1.heap.size 4 (dg 0) (w1.alloc (.cells #[.int .u64 0, .int .u64 0, .int .u64 0, .int .u64 0] T)) := Vb_new4 B 0 w1 T hB
theorem Vb_new8 (B n : Nat) (w1 : World) (T : TypeId) (hB : B ≤ w1.heap.size) : Vb B w1.heap.size 8 (dg n) (w1.alloc (.cells #[.int .u64 (dg n 0), .int .u64 (dg n 1), .int .u64 (dg n 2), .int .u64 (dg n 3), .int .u64 (dg n 4), .int .u64 (dg n 5), .int .u64 (dg n 6), .int .u64 (dg n 7)] T)) := ⟨hB, by simp, fun o ho => by
  have : o = 0 ∨ o = 1 ∨ o = 2 ∨ o = 3 ∨ o = 4 ∨ o = 5 ∨ o = 6 ∨ o = 7 := by omega
  rcases this with rfl | rfl | rfl | rfl | rfl | rfl | rfl | rfl <;> simp, Fz_alloc w1 _ T⟩
theorem Vb_new8e {B n g : Nat} {w1 : World} {T : TypeId} (hg : g = w1.heap.size) (hB : B ≤ g) : Vb B g 8 (dg n) (w1.alloc (.cells #[.int .u64 (dg n 0), .int .u64 (dg n 1), .int .u64 (dg n 2), .int .u64 (dg n 3), .int .u64 (dg n 4), .int .u64 (dg n 5), .int .u64 (dg n 6), .int .u64 (dg n 7)] T)) := by subst hg; exact Vb_new8 B n w1 T hB
theorem Vb_new4e {B n g : Nat} {w1 : World} {T : TypeId} (hg : g = w1.heap.size) (hB : B ≤ g) : Vb B g 4 (dg n) (w1.alloc (.cells #[.int .u64 (dg n 0), .int .u64 (dg n 1), .int .u64 (dg n 2), .int .u64 (dg n 3)] T)) := by subst hg; exact Vb_new4 B n w1 T hB
theorem Vb_new80 (B : Nat) (w1 : World) (T : TypeId) (hB : B ≤ w1.heap.size) : Vb B w1.heap.size 8 (dg 0) (w1.alloc (.cells #[.int .u64 0, .int .u64 0, .int .u64 0, .int .u64 0, .int .u64 0, .int .u64 0, .int .u64 0, .int .u64 0] T)) := by
  have k := Vb_new8 B 0 w1 T hB
  simp only [dg_zero] at k
  exact k
theorem Vb_new80e {B g : Nat} {w1 : World} {T : TypeId} (hg : g = w1.heap.size) (hB : B ≤ g) : Vb B g 8 (dg 0) (w1.alloc (.cells #[.int .u64 0, .int .u64 0, .int .u64 0, .int .u64 0, .int .u64 0, .int .u64 0, .int .u64 0, .int .u64 0] T)) := by subst hg; exact Vb_new80 B w1 T hB
theorem Vb_new0e {B g : Nat} {w1 : World} {T : TypeId} (hg : g = w1.heap.size) (hB : B ≤ g) : Vb B g 4 (dg 0) (w1.alloc (.cells #[.int .u64 0, .int .u64 0, .int .u64 0, .int .u64 0] T)) := by subst hg; exact Vb_new0 B w1 T hB
theorem Bel_set8 {h m B : Nat} {w w1 : World} (c : Below B w w1) (hB : B ≤ h) : Below B w ((((((((w1.setCell ⟨h, 0, none⟩ (.int .u64 (dg m 0))).setCell ⟨h, 1, none⟩ (.int .u64 (dg m 1))).setCell ⟨h, 2, none⟩ (.int .u64 (dg m 2))).setCell ⟨h, 3, none⟩ (.int .u64 (dg m 3))).setCell ⟨h, 4, none⟩ (.int .u64 (dg m 4))).setCell ⟨h, 5, none⟩ (.int .u64 (dg m 5))).setCell ⟨h, 6, none⟩ (.int .u64 (dg m 6))).setCell ⟨h, 7, none⟩ (.int .u64 (dg m 7))) := (((((((c.setCell hB _).setCell hB _).setCell hB _).setCell hB _).setCell hB _).setCell hB _).setCell hB _).setCell hB _
theorem K_other {g n : Nat} {F : Nat → Int} {w : World} {a : Addr} {v : Value} (h : ∀ o, o < n → w.cell? ⟨g, o, none⟩ = some (.int .u64 (F o))) (hne : a.block ≠ g) : ∀ o, o < n → (w.setCell a v).cell? ⟨g, o, none⟩ = some (.int .u64 (F o)) := CF_other h hne
theorem K_drew {g n : Nat} {F : Nat → Int} {w : World} (h : ∀ o, o < n → w.cell? ⟨g, o, none⟩ = some (.int .u64 (F o))) : ∀ o, o < n → w.drew.cell? ⟨g, o, none⟩ = some (.int .u64 (F o)) := h
theorem K_al {g n : Nat} {F : Nat → Int} {w : World} (h : ∀ o, o < n → w.cell? ⟨g, o, none⟩ = some (.int .u64 (F o))) (hg : g < w.heap.size) (x : Obj) : ∀ o, o < n → (w.alloc x).cell? ⟨g, o, none⟩ = some (.int .u64 (F o)) := CF_al h hg x
theorem K_o4 {g n k m : Nat} {F : Nat → Int} {w : World} (h : ∀ o, o < n → w.cell? ⟨g, o, none⟩ = some (.int .u64 (F o))) (hne : k ≠ g) : ∀ o, o < n → ((((w.setCell ⟨k, 0, none⟩ (.int .u64 (dg m 0))).setCell ⟨k, 1, none⟩ (.int .u64 (dg m 1))).setCell ⟨k, 2, none⟩ (.int .u64 (dg m 2))).setCell ⟨k, 3, none⟩ (.int .u64 (dg m 3))).cell? ⟨g, o, none⟩ = some (.int .u64 (F o)) := CF_other (CF_other (CF_other (CF_other h hne) hne) hne) hne
theorem K_o8 {g n k m : Nat} {F : Nat → Int} {w : World} (h : ∀ o, o < n → w.cell? ⟨g, o, none⟩ = some (.int .u64 (F o))) (hne : k ≠ g) : ∀ o, o < n → ((((((((w.setCell ⟨k, 0, none⟩ (.int .u64 (dg m 0))).setCell ⟨k, 1, none⟩ (.int .u64 (dg m 1))).setCell ⟨k, 2, none⟩ (.int .u64 (dg m 2))).setCell ⟨k, 3, none⟩ (.int .u64 (dg m 3))).setCell ⟨k, 4, none⟩ (.int .u64 (dg m 4))).setCell ⟨k, 5, none⟩ (.int .u64 (dg m 5))).setCell ⟨k, 6, none⟩ (.int .u64 (dg m 6))).setCell ⟨k, 7, none⟩ (.int .u64 (dg m 7))).cell? ⟨g, o, none⟩ = some (.int .u64 (F o)) := CF_other (CF_other (CF_other (CF_other (CF_other (CF_other (CF_other (CF_other h hne) hne) hne) hne) hne) hne) hne) hne
/-- Four words in a row, from block B on: two handed in, two still 0. -/
structure M4 (w : World) (x0 x1 x2 x3 : Nat) (wx : World) : Prop where
  v0 : Vb w.heap.size w.heap.size 4 (dg x0) wx
  v1 : Vb w.heap.size (w.heap.size + 1) 4 (dg x1) wx
  v2 : Vb w.heap.size (w.heap.size + 1 + 1) 4 (dg x2) wx
  v3 : Vb w.heap.size (w.heap.size + 1 + 1 + 1) 4 (dg x3) wx
  bel : Below w.heap.size w wx
theorem M4_below {w : World} {x0 x1 x2 x3 : Nat} {w1 w2 : World} (h : M4 w x0 x1 x2 x3 w1) (k : Below w1.heap.size w1 w2) : M4 w x0 x1 x2 x3 w2 := ⟨Vb_below h.v0 k, Vb_below h.v1 k, Vb_below h.v2 k, Vb_below h.v3 k, h.bel.trans (k.mono (Nat.le_of_lt h.v0.hi))⟩
theorem M4_al {w : World} {x0 x1 x2 x3 : Nat} {w1 : World} (h : M4 w x0 x1 x2 x3 w1) (o : Obj) : M4 w x0 x1 x2 x3 (w1.alloc o) := M4_below h ((Below.refl _ _).alloc (Nat.le_refl _) o)
theorem M4_drew {w : World} {x0 x1 x2 x3 : Nat} {w1 : World} (h : M4 w x0 x1 x2 x3 w1) : M4 w x0 x1 x2 x3 w1.drew := M4_below h (Below.refl _ _).drew
theorem M4_start (w : World) (a b : Nat) (T : TypeId) : M4 w a b 0 0 ((((w.alloc (.cells #[.int .u64 (dg a 0), .int .u64 (dg a 1), .int .u64 (dg a 2), .int .u64 (dg a 3)] T)).alloc (.cells #[.int .u64 (dg b 0), .int .u64 (dg b 1), .int .u64 (dg b 2), .int .u64 (dg b 3)] T)).alloc (.cells #[.int .u64 0, .int .u64 0, .int .u64 0, .int .u64 0] T)).alloc (.cells #[.int .u64 0, .int .u64 0, .int .u64 0, .int .u64 0] T)) := by
  have e1 : ∀ o, (w.alloc o).heap.size = w.heap.size + 1 := fun o => by simp
  have e2 : ∀ o p, ((w.alloc o).alloc p).heap.size = w.heap.size + 1 + 1 := fun o p => by simp
  have e3 : ∀ o p q, (((w.alloc o).alloc p).alloc q).heap.size = w.heap.size + 1 + 1 + 1 := fun o p q => by simp
  refine ⟨Vb_al (Vb_al (Vb_al (Vb_new4 _ a w T (Nat.le_refl _)) _) _) _, ?_, ?_, ?_, ?_⟩
  · have k := Vb_al (Vb_al (Vb_new4 w.heap.size b (w.alloc (.cells #[.int .u64 (dg a 0), .int .u64 (dg a 1), .int .u64 (dg a 2), .int .u64 (dg a 3)] T)) T (by simp)) (.cells #[.int .u64 0, .int .u64 0, .int .u64 0, .int .u64 0] T)) (.cells #[.int .u64 0, .int .u64 0, .int .u64 0, .int .u64 0] T)
    rw [e1] at k; exact k
  · have k := Vb_al (Vb_new0 w.heap.size ((w.alloc (.cells #[.int .u64 (dg a 0), .int .u64 (dg a 1), .int .u64 (dg a 2), .int .u64 (dg a 3)] T)).alloc (.cells #[.int .u64 (dg b 0), .int .u64 (dg b 1), .int .u64 (dg b 2), .int .u64 (dg b 3)] T)) T (by simp <;> omega)) (.cells #[.int .u64 0, .int .u64 0, .int .u64 0, .int .u64 0] T)
    rw [e2] at k; exact k
  · have k := Vb_new0 w.heap.size (((w.alloc (.cells #[.int .u64 (dg a 0), .int .u64 (dg a 1), .int .u64 (dg a 2), .int .u64 (dg a 3)] T)).alloc (.cells #[.int .u64 (dg b 0), .int .u64 (dg b 1), .int .u64 (dg b 2), .int .u64 (dg b 3)] T)).alloc (.cells #[.int .u64 0, .int .u64 0, .int .u64 0, .int .u64 0] T)) T (by simp <;> omega)
    rw [e3] at k; exact k
  · repeat (first | exact Below.refl _ _ | refine Below.alloc ?_ (by simp <;> omega) _)
theorem M4_o8 {w : World} {x0 x1 x2 x3 k m : Nat} {w1 : World} (h : M4 w x0 x1 x2 x3 w1) (hk : w.heap.size + 1 + 1 + 1 < k) : M4 w x0 x1 x2 x3 ((((((((w1.setCell ⟨k, 0, none⟩ (.int .u64 (dg m 0))).setCell ⟨k, 1, none⟩ (.int .u64 (dg m 1))).setCell ⟨k, 2, none⟩ (.int .u64 (dg m 2))).setCell ⟨k, 3, none⟩ (.int .u64 (dg m 3))).setCell ⟨k, 4, none⟩ (.int .u64 (dg m 4))).setCell ⟨k, 5, none⟩ (.int .u64 (dg m 5))).setCell ⟨k, 6, none⟩ (.int .u64 (dg m 6))).setCell ⟨k, 7, none⟩ (.int .u64 (dg m 7))) := ⟨Vb_o8 h.v0 (by omega), Vb_o8 h.v1 (by omega), Vb_o8 h.v2 (by omega), Vb_o8 h.v3 (by omega), Bel_set8 h.bel (by omega)⟩
theorem M4_o4 {w : World} {x0 x1 x2 x3 k m : Nat} {w1 : World} (h : M4 w x0 x1 x2 x3 w1) (hk : w.heap.size + 1 + 1 + 1 < k) : M4 w x0 x1 x2 x3 ((((w1.setCell ⟨k, 0, none⟩ (.int .u64 (dg m 0))).setCell ⟨k, 1, none⟩ (.int .u64 (dg m 1))).setCell ⟨k, 2, none⟩ (.int .u64 (dg m 2))).setCell ⟨k, 3, none⟩ (.int .u64 (dg m 3))) := ⟨Vb_o4 h.v0 (by omega), Vb_o4 h.v1 (by omega), Vb_o4 h.v2 (by omega), Vb_o4 h.v3 (by omega), Bel_set4 h.bel (by omega)⟩
theorem M4_set3 {w : World} {x0 x1 x2 x3 m : Nat} {w1 : World} (h : M4 w x0 x1 x2 x3 w1) : M4 w x0 x1 x2 m ((((w1.setCell ⟨w.heap.size + 1 + 1 + 1, 0, none⟩ (.int .u64 (dg m 0))).setCell ⟨w.heap.size + 1 + 1 + 1, 1, none⟩ (.int .u64 (dg m 1))).setCell ⟨w.heap.size + 1 + 1 + 1, 2, none⟩ (.int .u64 (dg m 2))).setCell ⟨w.heap.size + 1 + 1 + 1, 3, none⟩ (.int .u64 (dg m 3))) := ⟨Vb_o4 h.v0 (by omega), Vb_o4 h.v1 (by omega), Vb_o4 h.v2 (by omega), Vb_set4 h.v3, Bel_set4 h.bel (by omega)⟩
theorem M4_set2 {w : World} {x0 x1 x2 x3 m : Nat} {w1 : World} (h : M4 w x0 x1 x2 x3 w1) : M4 w x0 x1 m x3 ((((w1.setCell ⟨w.heap.size + 1 + 1, 0, none⟩ (.int .u64 (dg m 0))).setCell ⟨w.heap.size + 1 + 1, 1, none⟩ (.int .u64 (dg m 1))).setCell ⟨w.heap.size + 1 + 1, 2, none⟩ (.int .u64 (dg m 2))).setCell ⟨w.heap.size + 1 + 1, 3, none⟩ (.int .u64 (dg m 3))) := ⟨Vb_o4 h.v0 (by omega), Vb_o4 h.v1 (by omega), Vb_set4 h.v2, Vb_o4 h.v3 (by omega), Bel_set4 h.bel (by omega)⟩
end Go.Proofs.Ytcgjkombefhjmaa
/- What a call holds in memory: a list of blocks of its own, each with its cells; all below the call's start is as it was. -/
namespace Go.Proofs.Ytcgjkombefhjmaa
namespace Hm
open Go.RowKit
structure Bk where
  g : Nat
  n : Nat
  F : Nat → Value
structure Ok (B : Nat) (k : Bk) (wx : World) : Prop where
  lo : B ≤ k.g
  hi : k.g < wx.heap.size
  c : ∀ o, o < k.n → wx.cell? ⟨k.g, o, none⟩ = some (k.F o)
  f : ∀ o, wx.frozen? ⟨k.g, o, none⟩ = false
structure Hd (w : World) (L : List Bk) (wx : World) : Prop where
  bel : Below w.heap.size w wx
  ok : ∀ k, k ∈ L → Ok w.heap.size k wx
/-- A word's block. -/
def W4 (g x : Nat) : Bk := ⟨g, 4, fun o => .int .u64 (dg x o)⟩
def updv (F : Nat → Value) (k : Nat) (v : Value) : Nat → Value := fun o => if o = k then v else F o
theorem Ok_below {B : Nat} {k : Bk} {w1 w2 : World} (h : Ok B k w1) (hb : Below w1.heap.size w1 w2) : Ok B k w2 :=
  ⟨h.lo, Nat.lt_of_lt_of_le h.hi hb.size, fun o ho => (hb.cell (p := ⟨k.g, o, none⟩) h.hi).trans (h.c o ho), fun o => (hb.frozen (p := ⟨k.g, o, none⟩) h.hi).trans (h.f o)⟩
theorem Ok_other {B : Nat} {k : Bk} {w1 : World} {a : Addr} {v : Value} (h : Ok B k w1) (hne : a.block ≠ k.g) : Ok B k (w1.setCell a v) :=
  ⟨h.lo, by simpa using h.hi, fun o ho => by rw [World.cell?_setCell_other w1 a _ v (fun e => hne (by rw [e]))]; exact h.c o ho, fun o => by rw [World.frozen?_setCell]; exact h.f o⟩
theorem Ok_set {B i : Nat} {k : Bk} {w1 : World} {v : Value} (h : Ok B k w1) (hi : i < k.n) : Ok B ⟨k.g, k.n, updv k.F i v⟩ (w1.setCell ⟨k.g, i, none⟩ v) :=
  ⟨h.lo, by simpa using h.hi, fun o ho => by
    unfold updv
    by_cases e : o = i
    · subst e
      have := World.cell?_setCell_same w1 ⟨k.g, o, none⟩ v (h.c o hi)
      simpa using this
    · have := World.cell?_setCell_other w1 ⟨k.g, i, none⟩ ⟨k.g, o, none⟩ v (fun e' => e (by simpa using e'.symm))
      simp only [if_neg e]
      exact this.trans (h.c o ho), fun o => by rw [World.frozen?_setCell]; exact h.f o⟩
theorem Ok_ext {B : Nat} {k : Bk} {G : Nat → Value} {w1 : World} (h : Ok B k w1) (e : ∀ o, o < k.n → k.F o = G o) : Ok B ⟨k.g, k.n, G⟩ w1 :=
  ⟨h.lo, h.hi, fun o ho => (h.c o ho).trans (congrArg some (e o ho)), h.f⟩
theorem below {w : World} {L : List Bk} {w1 w2 : World} (h : Hd w L w1) (hb : Below w1.heap.size w1 w2) : Hd w L w2 :=
  ⟨h.bel.trans (hb.mono h.bel.size), fun k hk => Ok_below (h.ok k hk) hb⟩
theorem drew {w : World} {L : List Bk} {w1 : World} (h : Hd w L w1) : Hd w L w1.drew := below h (Below.refl _ _).drew
theorem al {w : World} {L : List Bk} {w1 : World} (h : Hd w L w1) (o : Obj) : Hd w L (w1.alloc o) := below h ((Below.refl _ _).alloc (Nat.le_refl _) o)
theorem start (w : World) : Hd w [] w := ⟨Below.refl _ _, fun _ h => by cases h⟩
theorem sub {w : World} {L M : List Bk} {w1 : World} (h : Hd w L w1) (hs : ∀ k, k ∈ M → k ∈ L) : Hd w M w1 := ⟨h.bel, fun k hk => h.ok k (hs k hk)⟩
theorem new4 {w : World} {L : List Bk} {w1 : World} {g n : Nat} {T : TypeId} (h : Hd w L w1) (hg : g = w1.heap.size) : Hd w (W4 g n :: L) (w1.alloc (.cells #[.int .u64 (dg n 0), .int .u64 (dg n 1), .int .u64 (dg n 2), .int .u64 (dg n 3)] T)) := by
  subst hg
  refine ⟨(al h _).bel, fun k hk => ?_⟩
  rcases List.mem_cons.1 hk with rfl | hk
  · have v := Vb_new4 w.heap.size n w1 T h.bel.size
    exact ⟨v.lo, v.hi, v.c, v.f⟩
  · exact (al h _).ok k hk
theorem new0 {w : World} {L : List Bk} {w1 : World} {g : Nat} {T : TypeId} (h : Hd w L w1) (hg : g = w1.heap.size) : Hd w (W4 g 0 :: L) (w1.alloc (.cells #[.int .u64 0, .int .u64 0, .int .u64 0, .int .u64 0] T)) := new4 (n := 0) h hg
/-- A cell of the first block is set. -/
theorem set {w : World} {g n : Nat} {F : Nat → Value} {L : List Bk} {w1 : World} {i : Nat} {v : Value} (h : Hd w (⟨g, n, F⟩ :: L) w1) (hi : i < n) (hne : ∀ b, b ∈ L → g ≠ b.g) : Hd w (⟨g, n, updv F i v⟩ :: L) (w1.setCell ⟨g, i, none⟩ v) := by
  have h0 := h.ok _ (List.mem_cons_self ..)
  refine ⟨h.bel.setCell h0.lo _, fun b hb => ?_⟩
  rcases List.mem_cons.1 hb with rfl | hb
  · exact Ok_set h0 hi
  · exact Ok_other (h.ok b (List.mem_cons_of_mem _ hb)) (hne b hb)
theorem ext {w : World} {k : Bk} {G : Nat → Value} {L : List Bk} {w1 : World} (h : Hd w (k :: L) w1) (e : ∀ o, o < k.n → k.F o = G o) : Hd w (⟨k.g, k.n, G⟩ :: L) w1 := by
  refine ⟨h.bel, fun b hb => ?_⟩
  rcases List.mem_cons.1 hb with rfl | hb
  · exact Ok_ext (h.ok k (List.mem_cons_self ..)) e
  · exact h.ok b (List.mem_cons_of_mem _ hb)
/-- A word is laid into the first block. -/
theorem set4 {w : World} {g m : Nat} {F : Nat → Value} {L : List Bk} {w1 : World} (h : Hd w (⟨g, 4, F⟩ :: L) w1) (hne : ∀ b, b ∈ L → g ≠ b.g) : Hd w (W4 g m :: L) ((((w1.setCell ⟨g, 0, none⟩ (.int .u64 (dg m 0))).setCell ⟨g, 1, none⟩ (.int .u64 (dg m 1))).setCell ⟨g, 2, none⟩ (.int .u64 (dg m 2))).setCell ⟨g, 3, none⟩ (.int .u64 (dg m 3))) := by
  have h1 := set (i := 0) (v := .int .u64 (dg m 0)) h (by decide) hne
  have h2 := set (i := 1) (v := .int .u64 (dg m 1)) h1 (by decide) hne
  have h3 := set (i := 2) (v := .int .u64 (dg m 2)) h2 (by decide) hne
  have h4 := set (i := 3) (v := .int .u64 (dg m 3)) h3 (by decide) hne
  refine ext h4 (fun o ho => ?_)
  have : o = 0 ∨ o = 1 ∨ o = 2 ∨ o = 3 := by have : o < 4 := ho; omega
  rcases this with rfl | rfl | rfl | rfl <;> rfl
end Hm
namespace RS
open RI
variable {P : Program} {ops : Array Oper} {Q : Exit → Act → World → Prop}
/-- S till operation k is done, T from then on; k comes last. -/
def Two (S T : World → Prop) (k : Nat) (d : Nat → Bool) (w : World) : Prop := (d k = false → S w) ∧ (d k = true → T w ∧ ∀ j, j < k → d j = true)
theorem two0 {S T : World → Prop} {k : Nat} {w : World} (h : S w) : Two S T k (fun _ => false) w := ⟨fun _ => h, fun h => by cases h⟩
theorem two_step {S T : World → Prop} {k i : Nat} {o : Oper} {a : Act} {v : Value} (hik : i < k)
    (h : ∀ (K : Value → World → Prop) w, S w → (∀ w', S w' → K v w') → upv P K ((execOp a.eval o).run P w)) : ∀ (K : Value → World → Prop) d w, Two S T k d w → may ops d i → (∀ w', Two S T k (don d i) w' → K v w') → upv P K ((execOp a.eval o).run P w) := by
  intro K d w hI hmay hK
  have hdk : d k = false := by
    cases hd : d k with
    | false => rfl
    | true => have := (hI.2 hd).2 i hik; rw [hmay.1] at this; cases this
  exact h K w (hI.1 hdk) (fun w' hS' => hK w' ⟨fun _ => hS', fun h => by rw [don_other _ _ _ (by omega), hdk] at h; cases h⟩)
theorem go2 {S T : World → Prop} {k : Nat} {E : Act → Prop} {i : Nat} {o : Oper} {r : List Oper} {a a' : Act} {v : Value} (hik : i < k) (hg : o.guard = none)
    (h : ∀ (K : Value → World → Prop) w, S w → (∀ w', S w' → K v w') → upv P K ((execOp a.eval o).run P w)) (he : a.put o.dst v = a')
    (hr : Seq P ops (Two S T k) E (i + 1) r a') : Seq P ops (Two S T k) E i (o :: r) a :=
  ⟨v, .inl ⟨by simp [Region.wanted, hg], two_step hik h⟩, he ▸ hr⟩
theorem go2g {S T : World → Prop} {k : Nat} {E : Act → Prop} {i : Nat} {o : Oper} {r : List Oper} {a a' : Act} {v : Value} (hik : i < k) (hg : Region.wanted o (yielded ops a.tmps) = true)
    (h : ∀ (K : Value → World → Prop) w, S w → (∀ w', S w' → K v w') → upv P K ((execOp a.eval o).run P w)) (he : a.put o.dst v = a')
    (hr : Seq P ops (Two S T k) E (i + 1) r a') : Seq P ops (Two S T k) E i (o :: r) a :=
  ⟨v, .inl ⟨hg, two_step hik h⟩, he ▸ hr⟩
theorem go2z {S T : World → Prop} {k : Nat} {E : Act → Prop} {i : Nat} {o : Oper} {r : List Oper} {a a' : Act} (hik : i < k) (hg : Region.wanted o (yielded ops a.tmps) = false) (he : a.put o.dst undef = a')
    (hr : Seq P ops (Two S T k) E (i + 1) r a') : Seq P ops (Two S T k) E i (o :: r) a := by
  refine ⟨undef, .inr ⟨hg, rfl, fun d w hI hmay => ?_⟩, he ▸ hr⟩
  have hdk : d k = false := by
    cases hd : d k with
    | false => rfl
    | true => have := (hI.2 hd).2 i hik; rw [hmay.1] at this; cases this
  exact And.intro (fun _ => hI.1 hdk) (fun h => by rw [don_other _ _ _ (by omega), hdk] at h; cases h)
/-- The last one leads from S to T. -/
theorem go2_last {S T : World → Prop} {k : Nat} {E : Act → Prop} {o : Oper} {a a' : Act} {v : Value} (hg : o.guard = none) (hb : ((List.range k).all fun j => bindsOn o j) = true) (hk : ops[k]? = some o)
    (h : ∀ (K : Value → World → Prop) w, S w → (∀ w', T w' → K v w') → upv P K ((execOp a.eval o).run P w)) (he : a.put o.dst v = a')
    (hr : E a') : Seq P ops (Two S T k) E k [o] a := by
  refine ⟨v, .inl ⟨by simp [Region.wanted, hg], fun K d w hI hmay hK => h K w (hI.1 hmay.1) (fun w' hT => hK w' (And.intro (fun h => by rw [don_same] at h; exact absurd h (by decide)) (fun _ => And.intro hT (fun j hj => ?_))))⟩, he ▸ hr⟩
  rw [don_other _ _ _ (by omega)]
  have h1 := List.all_eq_true.1 hb j (List.mem_range.2 hj)
  unfold bindsOn at h1
  rw [Array.any_eq_true'] at h1
  obtain ⟨e, e1, e2⟩ := h1
  rw [Bool.and_eq_true, beq_iff_eq] at e2
  have h2 := hmay.2 o hk
  rw [Array.all_eq_true_iff_forall_mem] at h2
  have h3 := h2 e e1
  rw [e2.1, e2.2] at h3
  simpa using h3
theorem wp_region_two {id : Nat} {a : Act} {w : World} (S T : World → Prop) (k : Nat) (hm : P.follows .mixedOrders = true) (hok : okOps ops = true) (hk : k < ops.size) (h0 : S w.drew)
    (hs : Seq P ops (Two S T k) (fun a' => ∀ w', T w' → Q .normal a' w') 0 ops.toList a) : (Code.region id ops true).wp P Q a w := by
  refine wp_region_seq (Two S T k) hm hok (two0 h0) ?_
  have : ∀ l i a, Seq P ops (Two S T k) (fun a' => ∀ w', T w' → Q .normal a' w') i l a → Seq P ops (Two S T k) (fun a' => ∀ d w', Two S T k d w' → (∀ i, i < ops.size → d i = true) → Q .normal a' w') i l a := by
    intro l
    induction l with
    | nil => intro i a h d w' hI hall; exact h w' (hI.2 (hall k hk)).1
    | cons o r ih => intro i a h; obtain ⟨v, h1, h2⟩ := h; exact ⟨v, h1, ih _ _ h2⟩
  exact this _ _ _ hs
theorem wp_region_one {id : Nat} {a : Act} {w : World} (S : World → Prop) (hm : P.follows .mixedOrders = true) (hok : okOps ops = true) (h0 : S w.drew)
    (hs : Seq P ops (fun _ => S) (fun a' => ∀ w', S w' → Q .normal a' w') 0 ops.toList a) : (Code.region id ops true).wp P Q a w := by
  refine wp_region_seq (fun _ => S) hm hok h0 ?_
  have : ∀ l i a, Seq P ops (fun _ => S) (fun a' => ∀ w', S w' → Q .normal a' w') i l a → Seq P ops (fun _ => S) (fun a' => ∀ (d : Nat → Bool) w', S w' → (∀ i, i < ops.size → d i = true) → Q .normal a' w') i l a := by
    intro l
    induction l with
    | nil => intro i a h d w' hI _; exact h w' hI
    | cons o r ih => intro i a h; obtain ⟨v, h1, h2⟩ := h; exact ⟨v, h1, ih _ _ h2⟩
  exact this _ _ _ hs
end RS
end Go.Proofs.Ytcgjkombefhjmaa
/- bloom.Within; lampbearerref.JHas. -/
namespace Go.Proofs.Ytcgjkombefhjmaa
namespace Bl
open Go.RowKit Sp
set_option maxHeartbeats 2000000 in
set_option maxRecDepth 100000 in
theorem within_any (P Q : Nat → Bool) (w : World) :
    Calls Try.prog 11 #[Hv (FB P), Hv (FB Q)] w fun e w' => e = .returned (.bool (wi P Q)) ∧ Below w.heap.size w w' := by
  have K1 : Hid (∀ w : World, Calls Try.prog 9 #[Hv (FB P), Hv (FB Q)] w fun e w' => e = .returned (Hv (FB (jn P Q))) ∧ Below w.heap.size w w') := fun w => join_any P Q w
  have E1 : Hid (same 32 (FB (jn P Q)) (FB Q) = wi P Q) := same_wi P Q
  go_enter Try.func11, Try.ntmps11
  go_upto_region 1 with fail
  dsimp only [Hv]
  have m0 := Mem_nil w
  have m1 := Mem_box m0 (P) 24
  have z1 : (w.alloc (.cells (h32 (FB (P))).toArray 24)).heap.size = w.heap.size + 1 := by simp
  generalize w.alloc (.cells (h32 (FB (P))).toArray 24) = W1 at m1 z1 ⊢
  have m2 := Mem_box m1 (Q) 24
  have z2 : (W1.alloc (.cells (h32 (FB (Q))).toArray 24)).heap.size = w.heap.size + 2 := by simp [z1]
  rw [z1] at m2
  generalize W1.alloc (.cells (h32 (FB (Q))).toArray 24) = W2 at m2 z2 ⊢
  generalize (h32 (FB (P))).toArray = c0
  generalize (h32 (FB (Q))).toArray = c1
  clear m1 z1 m0 z2
  refine RS.wp_region_one (Mem w [(w.heap.size + 1, Q), (w.heap.size, P)]) (by kernel_rfl) (by kernel_rfl) (Mem_drew m2) ?_
  dsimp only [List.toList_toArray]
  refine RS.go1 (v := ?_) (a' := ?_) rfl ?_ ?_ ?_
  rotate_left 2
  · intro K wx hS hK
    refine ld rfl rfl (hS.v (w.heap.size, P) (by simp)).c ?_
    exact hK _ hS
  · simp only [Act.put, List.setIfInBounds_toArray, List.set_cons_succ, List.set_cons_zero]
    rfl
  refine RS.go1 (v := ?_) (a' := ?_) rfl ?_ ?_ ?_
  rotate_left 2
  · intro K wx hS hK
    refine ld rfl rfl (hS.v (w.heap.size + 1, Q) (by simp)).c ?_
    exact hK _ hS
  · simp only [Act.put, List.setIfInBounds_toArray, List.set_cons_succ, List.set_cons_zero]
    rfl
  refine RS.go1 (v := ?_) (a' := ?_) rfl ?_ ?_ ?_
  rotate_left 2
  · intro K wx hS hK
    go_simp
    refine (K1.out wx).mono (fun e w2 he => ?_)
    refine ⟨_, he.1, ?_⟩
    exact hK _ (Mem_below hS he.2)
  · simp only [Act.put, List.setIfInBounds_toArray, List.set_cons_succ, List.set_cons_zero]
    rfl
  refine RS.go1 (v := ?_) (a' := ?_) rfl ?_ ?_ ?_
  rotate_left 2
  · intro K wx hS hK
    refine ld rfl rfl (hS.v (w.heap.size + 1, Q) (by simp)).c ?_
    exact hK _ hS
  · simp only [Act.put, List.setIfInBounds_toArray, List.set_cons_succ, List.set_cons_zero]
    rfl
  refine RS.go1 (v := ?_) (a' := ?_) rfl ?_ ?_ ?_
  rotate_left 2
  · intro K wx hS hK
    refine eq (b := wi P Q) rfl rfl rfl (E1.out) ?_
    exact hK _ hS
  · simp only [Act.put, List.setIfInBounds_toArray, List.set_cons_succ, List.set_cons_zero]
    rfl
  refine RS.go1 (v := ?_) (a' := ?_) rfl ?_ ?_ ?_
  rotate_left 2
  · intro K wx hS hK
    go_simp
    exact hK _ hS
  · simp only [Act.put, List.setIfInBounds_toArray, List.set_cons_succ, List.set_cons_zero]
    rfl
  refine RS.go_end ?_
  intro w9 m9
  have b9 := m9.b
  clear m9 m2
  go_wp2_with fail
  go_ret
  exact ⟨rfl, b9⟩
theorem bit_val : ∀ x : Nat, x < 256 → ∀ i : Nat, i < 8 → (((x : Int) / 2 ^ i).tmod 2 == 1) = x.testBit i := by decide +kernel
set_option maxHeartbeats 2000000 in
set_option maxRecDepth 100000 in
theorem has_any (P : Nat → Bool) (n : Nat) (hn : n < 256) (w : World) :
    Calls Try.prog 19 #[Hv (FB P), .int .i64 (n : Int)] w fun e w' => e = .returned (.bool (P n)) ∧ Below w.heap.size w w' := by
  go_enter Try.func19, Try.ntmps19
  go_upto_region 1 with fail
  dsimp only [Hv]
  have m0 := Mem_nil w
  have m1 := Mem_box m0 (P) 24
  have z1 : (w.alloc (.cells (h32 (FB (P))).toArray 24)).heap.size = w.heap.size + 1 := by simp
  generalize w.alloc (.cells (h32 (FB (P))).toArray 24) = W1 at m1 z1 ⊢
  generalize (h32 (FB (P))).toArray = c0
  clear  m0 z1
  have c1 := (m1.v (w.heap.size, P) (by simp)).c (n / 8) (by omega)
  have b1 := m1.b
  have d2 : (0 : Int) ≤ (n : Int) / 8 := by omega
  have d3 : (n : Int) / 8 < 32 := by omega
  have t1 : ((n : Int) / 8).toNat = n / 8 := by omega
  have d4 : (0 : Int) ≤ (n : Int) % 8 := by omega
  have t2 : ((n : Int) % 8).toNat = n % 8 := by omega
  clear m1
  go_wp2_with fail
  go_ret
  refine ⟨?_, b1⟩
  show Ending.returned (Value.bool ((((by8 P (n / 8) : Nat) : Int) / 2 ^ (n % 8)).tmod 2 == 1)) = _
  rw [bit_val _ (by8_lt _ _) _ (Nat.mod_lt _ (by decide)), by8_bit, show 8 * (n / 8) + n % 8 = n by omega, decide_eq_true (Nat.mod_lt _ (by decide)), Bool.true_and]
end Bl
end Go.Proofs.Ytcgjkombefhjmaa
/- sponge.eachBlock, with soak: where what is left lies. -/
namespace Go.Proofs.Ytcgjkombefhjmaa
namespace Sp
open Go.RowKit
set_option maxHeartbeats 2000000 in
set_option maxRecDepth 100000 in
theorem eachBlock_cap (g h off n cap : Nat) (ao : Option Addr) (F f : Nat → Int) (R : Value) (w : World) (hF : UF F) (hf : ∀ j, 0 ≤ f j ∧ f j < 256) (hs : Sk g F R w) (hne0 : 0 < n → h ≠ g) (hlt0 : 0 < n → h < w.heap.size)
    (hn : n ≤ cap) (hcap : (cap : Int) ≤ 9223372036854775807) (hao : 0 < cap → ao = some ⟨h, off, none⟩) (hc : ∀ j, j < n → w.cell? ⟨h, off + j, none⟩ = some (.int .u8 (f j))) :
    Calls Try.prog 24 #[.slice ao n cap, .func (Fn.func 26) #[.pointer (some ⟨g, 0, none⟩)] #[]] w fun e w' => ∃ a', e = .returned (.slice a' (n % 32) (cap - 32 * (n / 32))) ∧ (0 < cap - 32 * (n / 32) → a' = some ⟨h, off + 32 * (n / 32), none⟩) ∧ Sk g (ab F f (n / 32)) R w' ∧ w.grownBy w' (some g) := by
  have HC : Hid (∀ j, j < n → w.cell? ⟨h, off + j, none⟩ = some (.int .u8 (f j))) := hc
  have HF : Hid (∀ j, 0 ≤ f j ∧ f j < 256) := hf
  clear hc hf
  go_enter Try.func24, Try.ntmps24
  go_wp2_with fail
  go_loopw [0] (fun s wr => ∃ (k m c : Nat) (ax : Option Addr), Hid (32 * k + m = n) ∧ Hid (32 * k + c = cap) ∧ m ≤ c ∧ s = .slice ax m c ∧ (0 < c → ax = some ⟨h, off + 32 * k, none⟩) ∧ Sk g (ab F f k) R wr ∧ w.grownBy wr (some g)) (fun s _ => match s with | .slice _ m _ => m | _ => 0)
  case atStart => exact ⟨0, n, cap, ao, Nat.zero_add _, Nat.zero_add _, hn, rfl, hao, hs, gb_refl _ _⟩
  case round =>
    obtain ⟨k, m, c, ax, e1, e2, hmc, rfl, hax, s0, b0⟩ := hrel
    have uk := UF_ab (f := f) hF k
    have hc63 : (c : Int) ≤ 9223372036854775807 := by have := e2.out; omega
    by_cases hlt : 32 ≤ m
    · have hn0 : 0 < n := by have := e1.out; omega
      have hne := hne0 hn0
      have hlw := hlt0 hn0
      clear hne0 hlt0 hn0
      obtain rfl := hax (by omega)
      have hd : decide ((32 : Int) ≤ (m : Int)) = true := by simp; omega
      have hcc : (32 : Int) ≤ (c : Int) := by omega
      have cx : ∀ j, j < 32 → wr.cell? ⟨h, off + 32 * k + j, none⟩ = some (.int .u8 (f (32 * k + j))) := fun j hj => by
        rw [Nat.add_assoc]; exact cell_gb (HC.out (32 * k + j) (by have := e1.out; omega)) b0 hne hlw
      go_wp2_with fail
      refine (soak_any g h (off + 32 * k) c (ab F f k) (fun j => f (32 * k + j)) R _ uk (fun j => HF.out _) s0 hne (Nat.lt_of_lt_of_le hlw b0.size) cx).mono ?_
      rintro e w1 ⟨rfl, s1, b1⟩
      have B1 : Hid (w.grownBy w1 (some g)) := gb_trans b0 b1
      have S1 : Hid (Sk g (ab F f (k + 1)) R w1) := s1
      have E1 : Hid (32 * (k + 1) + (m - 32) = n) := by show _ = _; have := e1.out; omega
      have E2 : Hid (32 * (k + 1) + (c - 32) = cap) := by show _ = _; have := e2.out; omega
      clear s0 b0 s1 b1 cx uk
      by_cases hc32 : c = 32
      · subst hc32
        go_wp2_with fail
        go_roundw
        case rel => exact ⟨k + 1, 0, 0, _, (by show _ = _; have := E1.out; omega), (by show _ = _; have := E2.out; omega), Nat.le_refl _, rfl, fun h => absurd h (by omega), S1.out, B1.out⟩
        case measure => dsimp only; omega
      · go_wp2_with fail
        go_roundw
        case rel => exact ⟨k + 1, m - 32, c - 32, _, E1, E2, by omega, rfl, fun _ => rfl, S1.out, B1.out⟩
        case measure => dsimp only; omega
    · have hd : decide ((32 : Int) ≤ (m : Int)) = false := by simp; omega
      have ek : Hid (n / 32 = k) := by show n / 32 = k; have := e1.out; omega
      have em : Hid (n % 32 = m) := by show n % 32 = m; have := e1.out; omega
      have ec : Hid (cap - 32 * k = c) := by show _ = _; have := e2.out; omega
      have S0 : Hid (Sk g (ab F f k) R wr) := s0
      have HA : Hid (0 < c → ax = some ⟨h, off + 32 * k, none⟩) := hax
      clear s0 hax uk
      go_wp2_with fail
      go_ret
      refine ⟨ax, ?_, ?_, ?_, b0⟩
      · rw [ek.out, em.out, ec.out]; rfl
      · rw [ek.out, ec.out]; exact HA.out
      · rw [ek.out]; exact S0.out
end Sp
end Go.Proofs.Ytcgjkombefhjmaa
/- Slices that read as bytes, wherever they lie. -/
namespace Go.Proofs.Ytcgjkombefhjmaa
namespace Pk
open Go.RowKit
theorem lt_of_heap {W : World} {g : Nat} {o : Obj} (h : W.heap[g]? = some o) : g < W.heap.size := by
  obtain ⟨h1, _⟩ := Array.getElem?_eq_some_iff.1 h
  exact h1
/-- A slice of bytes that reads as b. -/
def Sl (b : List UInt8) (v : Value) (w : World) : Prop := ∃ (ao : Option Addr) (cap : Nat), v = .slice ao b.length cap ∧ b.length ≤ cap ∧ Sp.Vw b ao w
theorem Sl_below {b : List UInt8} {v : Value} {w w' : World} (h : Sl b v w) (hb : Below w.heap.size w w') : Sl b v w' := by
  obtain ⟨ao, cap, h1, h2, h3⟩ := h
  exact ⟨ao, cap, h1, h2, Sp.Vw_below h3 hb⟩
theorem Sl_nil (w : World) : Sl [] (.slice none 0 0) w := ⟨none, 0, rfl, Nat.le_refl _, Sp.Vw_nil _ _⟩
theorem Sl_conv {b : List UInt8} {v : Value} {w : World} (h : Sl b v w) : (convert 25 9 v).run Try.prog w = .ok (.string ⟨b.toArray⟩) w := by
  obtain ⟨ao, cap, rfl, h2, h3⟩ := h
  by_cases h0 : 0 < b.length
  · obtain ⟨g, off, rfl, hg, hc⟩ := h3 h0
    exact run_convert_bytes_back (P := Try.prog) w 25 9 5 ⟨g, off, none⟩ cap b Try.underlying25 Try.underlying5 Try.underlying9 (fun j hj => by
      have ea : (⟨g, off, none⟩ : Addr).add j = ⟨g, off + j, none⟩ := by unfold Addr.add; split <;> simp_all
      rw [ea, hc j hj]
      simp [Sp.bz, hj])
  · have e : b = [] := List.length_eq_zero_iff.1 (by omega)
    subst e
    rw [run_convert_bytes_string w 25 9 5 ao _ cap Try.underlying25 Try.underlying5 Try.underlying9]
    cases ao <;> rfl
theorem Try.infoU8' : (Try.prog.info? 5).map (fun i => (i.zero, i.size, i.bytes)) = some (some (.int .u8 0), 1, 1) := by kernel_rfl
/-- Bytes as cells. -/
def bcs (l : List UInt8) : List Value := l.map fun c => .int .u8 (c.toNat : Int)
theorem bcs_len (l : List UInt8) : (bcs l).length = l.length := by simp [bcs]
theorem bcs_app (l m : List UInt8) : bcs (l ++ m) = bcs l ++ bcs m := by simp [bcs]
theorem ownb {base e size n : Nat} {v : Value} {xs : List Value} {w1 w2 : World} (h : w1.ownsRow base e size v n xs) (hb : Below w1.heap.size w1 w2) : w2.ownsRow base e size v n xs := by
  refine ⟨h.1, ?_⟩
  rcases h.2 with h2 | ⟨g, cap, cur, h2, h3, h4, h5⟩
  · exact .inl h2
  · refine .inr ⟨g, cap, cur, h2, h3, ?_, h5⟩
    rw [hb.block g (lt_of_heap h4)]
    exact h4
theorem own_sl {base : Nat} {l : List UInt8} {v : Value} {w : World} (h : w.ownsRow base 5 1 v l.length (bcs l)) : Sl l v w := by
  rcases h.2 with ⟨h3, h4⟩ | ⟨g, cap, cur, h3, h5⟩
  · have e : l = [] := List.length_eq_zero_iff.1 h4
    subst e
    exact ⟨none, 0, h3, Nat.le_refl _, Sp.Vw_nil _ _⟩
  · subst h3
    refine ⟨some ⟨g, 0, none⟩, cap, rfl, h5.2.2.1, fun _ => ⟨g, 0, rfl, lt_of_heap h5.2.1, fun j hj => ?_⟩⟩
    rw [Nat.zero_add, h.cellAt j (by omega)]
    simp [bcs, hj, Sp.bz]
theorem app_sl {base : Nat} {x b : List UInt8} {v vb : Value} {w : World} (ty : TypeId) (h : w.ownsRow base 5 1 v x.length (bcs x)) (hb : Sl b vb w) (hbase : base ≤ w.heap.size) (hlen : x.length + b.length ≤ 4194304) :
    ∃ v' w', (Builtin.append_ #[25, 25] ty #[v, vb]).run Try.prog w = .ok v' w' ∧ w'.ownsRow base 5 1 v' (x ++ b).length (bcs (x ++ b)) ∧ Below base w w' := by
  obtain ⟨i0, hi, hz0, hz1, hz2⟩ := info_parts Try.infoU8'
  obtain ⟨ao, cap, rfl, hcap, vw⟩ := hb
  by_cases h0 : 0 < b.length
  · obtain ⟨g, off, rfl, hg, hc⟩ := vw h0
    obtain ⟨v', w', hr, ho, hgr, _⟩ := run_append_own (P := Try.prog) w base 25 ty 5 i0 (.int .u8 0) 1 1 Try.underlying25 hi hz0 hz1 hz2 rfl (by decide) v x.length (bcs x) h ⟨g, off, none⟩ b.length cap (bcs b) (by rw [bcs_len, Nat.mul_one])
      (fun j u hj => by
        have hj' : j < b.length := by
          have := (List.getElem?_eq_some_iff.1 hj).1
          rwa [bcs_len] at this
        have ea : (⟨g, off, none⟩ : Addr).add j = ⟨g, off + j, none⟩ := by unfold Addr.add; split <;> simp_all
        rw [ea, hc j hj', ← hj]
        simp [bcs, hj', Sp.bz]) (fun u hu => by
          obtain ⟨c, _, rfl⟩ := List.mem_map.1 hu
          rfl) (by unfold maxLen; omega) (by omega) hbase
    refine ⟨v', w', hr, ?_, ?_⟩
    · rw [List.length_append, bcs_app]
      exact ho
    · refine (Below.refl _ _).grown hgr hbase (fun k hk => ?_)
      rcases h.2 with ⟨h3, _⟩ | ⟨g', cap', cur, h3, h5⟩
      · subst h3; cases hk
      · subst h3
        cases hk
        exact h5.1
  · have e : b = [] := List.length_eq_zero_iff.1 (by omega)
    subst e
    rw [List.append_nil]
    refine ⟨v, w, ?_, h, Below.refl _ _⟩
    have hs : Src Try.prog i0.size 25 (.slice ao 0 cap) 0 [] w := by
      cases ao with
      | none => exact Src.ofNil w Try.underlying25 cap
      | some ad => exact Src.ofSlice w Try.underlying25 ad 0 cap [] (by simp) (fun j u hj => by simp at hj) (fun u hu => by cases hu)
    rcases h.2 with ⟨h3, h4⟩ | ⟨g', cap', cur, h3, h5⟩
    · subst h3
      exact run_append_nothing w 25 25 ty 5 i0 Try.underlying25 hi none 0 0 (Nat.le_refl _) _ hs
    · subst h3
      exact run_append_nothing w 25 25 ty 5 i0 Try.underlying25 hi _ _ _ h5.2.2.1 _ hs
end Pk
end Go.Proofs.Ytcgjkombefhjmaa
/- What a soaker was given behind its whole blocks: a row that grows at its end and loses whole blocks ahead. -/
namespace Go.Proofs.Ytcgjkombefhjmaa
namespace Sp
open Go.RowKit
/-- v reads as r; its array k, where it has room, is the call's own, and not the soaker g. -/
def Rs (B g : Nat) (r : List UInt8) (v : Value) (k : Option Nat) (w : World) : Prop :=
  ∃ (ao : Option Addr) (cap : Nat), v = .slice ao r.length cap ∧ r.length ≤ cap ∧ (cap : Int) ≤ 9223372036854775807 ∧
    ((cap = 0 ∧ k = none) ∨ ∃ h off, 0 < cap ∧ k = some h ∧ ao = some ⟨h, off, none⟩ ∧ B ≤ h ∧ h ≠ g ∧ h < w.heap.size ∧ Fz h w ∧ (∀ j, j < cap → (w.cell? ⟨h, off + j, none⟩).isSome = true) ∧ ∀ j, j < r.length → w.cell? ⟨h, off + j, none⟩ = some (.int .u8 (bz r j)))
theorem Rs_nil (B g : Nat) (w : World) : Rs B g [] (.slice none 0 0) none w := ⟨none, 0, rfl, Nat.le_refl _, by decide, .inl ⟨rfl, rfl⟩⟩
theorem Rs_gb {B g : Nat} {r : List UInt8} {v : Value} {k x : Option Nat} {w w' : World} (h : Rs B g r v k w) (b : w.grownBy w' x) (hx : ∀ i, k = some i → x ≠ some i) : Rs B g r v k w' := by
  obtain ⟨ao, cap, h1, h2, h3, h4 | ⟨h, off, a1, a2, a3, a4, a5, a6, a7, a8, a9⟩⟩ := h
  · exact ⟨ao, cap, h1, h2, h3, .inl h4⟩
  · have hb : w'.heap[h]? = w.heap[h]? := b.block h a6 (fun e => hx h a2 e.symm)
    refine ⟨ao, cap, h1, h2, h3, .inr ⟨h, off, a1, a2, a3, a4, a5, Nat.lt_of_lt_of_le a6 b.size, fun o => ?_, fun j hj => ?_, fun j hj => ?_⟩⟩
    · exact (World.frozen?_of_block (a := ⟨h, o, none⟩) hb).trans (a7 o)
    · rw [World.cell?_of_block (a := ⟨h, off + j, none⟩) hb]; exact a8 j hj
    · rw [World.cell?_of_block (a := ⟨h, off + j, none⟩) hb]; exact a9 j hj
theorem Rs_below {B g : Nat} {r : List UInt8} {v : Value} {k : Option Nat} {w w' : World} (h : Rs B g r v k w) (b : Below w.heap.size w w') : Rs B g r v k w' := Rs_gb (x := none) h (gb_below b) (fun _ _ e => by cases e)
theorem gb_sets (g : Nat) : ∀ (vs : List Value) (o : Nat) (w : World), w.grownBy (w.setCells g o vs) (some g)
  | [], _, w => gb_refl w _
  | v :: vs, o, w => gb_trans (gb_set w g o v) (gb_sets g vs (o + 1) (w.setCell ⟨g, o, none⟩ v))
theorem bcs_get (l : List UInt8) (j : Nat) (h : j < l.length) : (Pk.bcs l)[j]? = some (.int .u8 (bz l j)) := by simp [Pk.bcs, h, bz]
theorem bz_left (r t : List UInt8) (j : Nat) (h : j < r.length) : bz (r ++ t) j = bz r j := by
  simp only [bz, List.getD_eq_getElem?_getD, List.getElem?_append_left h]
theorem bz_right (r t : List UInt8) (j : Nat) : bz (r ++ t) (r.length + j) = bz t j := by
  simp only [bz, List.getD_eq_getElem?_getD]
  rw [List.getElem?_append_right (by omega), Nat.add_sub_cancel_left]
theorem add_lit (g off j : Nat) : (⟨g, off, none⟩ : Addr).add j = ⟨g, off + j, none⟩ := by unfold Addr.add; split <;> simp_all
theorem fz_new (w : World) (o : Array Value) (T : TypeId) : Fz w.heap.size (w.alloc (.cells o T)) := fun j => by
  have h := heap_alloc_new w (.cells o T)
  simp only [World.frozen?, h]
  simp
theorem app_rs {B g : Nat} {r t : List UInt8} {v vt : Value} {k : Option Nat} {w : World} (ty : TypeId) (h : Rs B g r v k w) (ht : Pk.Sl t vt w) (hB : B ≤ w.heap.size) (hg : g < w.heap.size) (hlen : r.length + t.length ≤ 4194304) :
    ∃ v' w' k', (Builtin.append_ #[25, 25] ty #[v, vt]).run Try.prog w = .ok v' w' ∧ Rs B g (r ++ t) v' k' w' ∧ w.grownBy w' k ∧ (k' = k ∨ k' = some w.heap.size) := by
  obtain ⟨i0, hi, hz0, hz1, hz2⟩ := info_parts Pk.Try.infoU8'
  obtain ⟨ao, cap, rfl, h2, h3, h4⟩ := h
  obtain ⟨aot, capt, rfl, hct, vt⟩ := ht
  by_cases h0 : 0 < t.length
  · obtain ⟨gt, ot, rfl, hgt, hc⟩ := vt h0
    have hs : Src Try.prog i0.size 25 (.slice (some ⟨gt, ot, none⟩) t.length capt) t.length (Pk.bcs t) w := by
      refine Src.ofSlice w Try.underlying25 ⟨gt, ot, none⟩ t.length capt (Pk.bcs t) (by rw [Pk.bcs_len, hz1, Nat.mul_one]) (fun j u hj => ?_) (fun u hu => ?_)
      · have hj' : j < t.length := by
          have := (List.getElem?_eq_some_iff.1 hj).1
          rwa [Pk.bcs_len] at this
        rw [add_lit, hc j hj', ← hj, bcs_get t j hj']
      · obtain ⟨c, _, rfl⟩ := List.mem_map.1 hu
        rfl
    by_cases hroom : r.length + t.length ≤ cap
    · rcases h4 with ⟨h5, _⟩ | ⟨h, off, a1, rfl, rfl, a4, a5, a6, a7, a8, a9⟩
      · omega
      · have hr := run_append_room_src (P := Try.prog) w 25 25 ty 5 i0 Try.underlying25 hi h off r.length cap _ t.length (Pk.bcs t) hs hroom
          (fun j hj => by rw [Pk.bcs_len] at hj; rw [hz1, Nat.mul_one, Nat.add_assoc]; exact a8 _ (by omega)) (fun j _ => a7 _)
        rw [hz1, Nat.mul_one] at hr
        have hsome : ∀ j, j < (Pk.bcs t).length → (w.cell? ⟨h, off + r.length + j, none⟩).isSome = true := fun j hj => by rw [Pk.bcs_len] at hj; rw [Nat.add_assoc]; exact a8 _ (by omega)
        have hin := World.cell?_setCells_in h (Pk.bcs t) (off + r.length) w hsome
        refine ⟨_, _, some h, hr, ⟨some ⟨h, off, none⟩, cap, by rw [List.length_append], by rw [List.length_append]; exact hroom, h3, .inr ⟨h, off, a1, rfl, rfl, a4, a5, by rw [size_setCells]; exact a6, Fz_sets a7 _ _, fun j hj => ?_, fun j hj => ?_⟩⟩, gb_sets h _ _ _, .inl rfl⟩
        · by_cases hin2 : r.length ≤ j ∧ j < r.length + t.length
          · obtain ⟨q, rfl⟩ : ∃ q, j = r.length + q := ⟨j - r.length, by omega⟩
            rw [← Nat.add_assoc, hin q (by rw [Pk.bcs_len]; omega)]
            rfl
          · rw [World.cell?_setCells_out h (Pk.bcs t) (off + r.length) w ⟨h, off + j, none⟩ (fun _ _ => by rw [Pk.bcs_len]; dsimp only; omega)]
            exact a8 j hj
        · rw [List.length_append] at hj
          by_cases hj2 : j < r.length
          · rw [World.cell?_setCells_out h (Pk.bcs t) (off + r.length) w ⟨h, off + j, none⟩ (fun _ _ => by dsimp only; omega), bz_left r t j hj2]
            exact a9 j hj2
          · obtain ⟨q, rfl⟩ : ∃ q, j = r.length + q := ⟨j - r.length, by omega⟩
            have hq : q < t.length := by omega
            rw [← Nat.add_assoc, hin q (by rw [Pk.bcs_len]; omega), bz_right]
            have := bcs_get t q hq
            rw [List.getElem?_eq_getElem (by rw [Pk.bcs_len]; exact hq)] at this
            exact this
    · have hold : (Builtin.firstCells i0.size r.length (.slice ao r.length cap)).run Try.prog w.drew = .ok (Pk.bcs r).toArray w.drew := by
        rcases h4 with ⟨h5, _⟩ | ⟨h, off, a1, _, rfl, a4, a5, a6, a7, a8, a9⟩
        · have e : r = [] := List.length_eq_zero_iff.1 (by omega)
          subst e
          cases ao with
          | none => exact run_firstCells_none _ _ _ _ _
          | some ad => exact run_firstCells_some _ _ _ ad _ _ [] (by simp) (fun j u hj => by simp at hj)
        · refine run_firstCells_some _ _ _ ⟨h, off, none⟩ _ _ (Pk.bcs r) (by rw [Pk.bcs_len, hz1, Nat.mul_one]) (fun j u hj => ?_)
          have hj' : j < r.length := by
            have := (List.getElem?_eq_some_iff.1 hj).1
            rwa [Pk.bcs_len] at this
          rw [add_lit, ← hj, bcs_get r j hj', ← a9 j hj']
          simp
      have hr := run_append_grow_src (P := Try.prog) w 25 25 ty 5 i0 (.int .u8 0) Try.underlying25 hi hz0 ao r.length cap (Pk.bcs r) hold _ t.length (Pk.bcs t) hs (by omega) (by omega) (by
        have := nextslicecap_le (need := r.length + t.length) (old := cap) (by omega)
        rw [hz2]
        omega)
      have hge := grownCap_ge w (r.length + t.length) cap 5
      have hle := grownCap_le_maxLen w (r.length + t.length) cap 5 (by unfold maxLen; omega)
      generalize grownCap w (r.length + t.length) cap 5 = C at hr hge hle
      have hcell : ∀ j, (w.drew.alloc (.cells ((Pk.bcs r ++ Pk.bcs t).toArray ++ Builtin.zeroCells (Value.int .u8 0).cells (C - (r.length + t.length))) 5)).cell? ⟨w.heap.size, j, none⟩ = ((Pk.bcs r ++ Pk.bcs t).toArray ++ Builtin.zeroCells (Value.int .u8 0).cells (C - (r.length + t.length)))[j]? := fun j => by
        have h := heap_alloc_new w.drew (.cells ((Pk.bcs r ++ Pk.bcs t).toArray ++ Builtin.zeroCells (Value.int .u8 0).cells (C - (r.length + t.length))) 5)
        rw [show w.drew.heap.size = w.heap.size from rfl] at h
        simp only [World.cell?, h]
        exact if_neg (by decide)
      have hsz : ((Pk.bcs r ++ Pk.bcs t).toArray ++ Builtin.zeroCells (Value.int .u8 0).cells (C - (r.length + t.length))).size = C := by
        have hz : (Value.int .u8 0).cells.size = 1 := rfl
        simp only [Array.size_append, List.size_toArray, List.length_append, Pk.bcs_len, size_zeroCells, hz, Nat.mul_one]
        omega
      refine ⟨_, _, some w.heap.size, hr, ⟨some ⟨w.heap.size, 0, none⟩, C, by rw [List.length_append], by rw [List.length_append]; exact hge, by unfold maxLen at hle; omega, .inr ⟨w.heap.size, 0, by omega, rfl, rfl, hB, by omega, by simp, ?_, fun j hj => ?_, fun j hj => ?_⟩⟩, ⟨rfl, rfl, rfl, by simp, fun k hk _ => heap_alloc_old w.drew _ hk⟩, .inr rfl⟩
      · exact fz_new w.drew _ _
      · rw [Nat.zero_add, hcell, Array.getElem?_eq_getElem (by rw [hsz]; exact hj)]
        rfl
      · rw [List.length_append] at hj
        rw [Nat.zero_add, hcell, Array.getElem?_append_left (by simp [Pk.bcs_len]; omega), ← Pk.bcs_app, List.getElem?_toArray, bcs_get (r ++ t) j (by rw [List.length_append]; exact hj)]
  · have e : t = [] := List.length_eq_zero_iff.1 (by omega)
    subst e
    rw [List.append_nil]
    have hs : Src Try.prog i0.size 25 (.slice aot 0 capt) 0 [] w := by
      cases aot with
      | none => exact Src.ofNil w Try.underlying25 capt
      | some ad => exact Src.ofSlice w Try.underlying25 ad 0 capt [] (by simp) (fun j u hj => by simp at hj) (fun u hu => by cases hu)
    exact ⟨_, w, k, run_append_nothing w 25 25 ty 5 i0 Try.underlying25 hi _ _ _ h2 _ hs, ⟨ao, cap, rfl, h2, h3, h4⟩, gb_refl _ _, .inl rfl⟩
end Sp
end Go.Proofs.Ytcgjkombefhjmaa
/- soaker.take. -/
namespace Go.Proofs.Ytcgjkombefhjmaa
namespace Sp
open Go.RowKit
theorem ab_add (F f : Nat → Int) (k : Nat) : ∀ m, ab (ab F f k) (fun j => f (32 * k + j)) m = ab F f (k + m)
  | 0 => rfl
  | m + 1 => by
    rw [ab, ab_add F f k m, ← Nat.add_assoc, ab]
    congr 1
    funext i
    congr 1
    omega
/-- The state that whole blocks of a lead to, and what is left of a. -/
def St (a : List UInt8) : Nat → Int := ab (fun _ => 0) (bz a) (a.length / 32)
def rest (a : List UInt8) : List UInt8 := a.drop (32 * (a.length / 32))
theorem UF_St (a : List UInt8) : UF (St a) := UF_ab UF_zero _
theorem rest_len (a : List UInt8) : (rest a).length = a.length % 32 := by unfold rest; rw [List.length_drop]; omega
theorem bz_drop (l : List UInt8) (k j : Nat) : bz (l.drop k) j = bz l (k + j) := by simp [bz, List.getD_eq_getElem?_getD, List.getElem?_drop]
theorem rest_app (a t : List UInt8) : rest a ++ t = (a ++ t).drop (32 * (a.length / 32)) := by
  unfold rest
  rw [List.drop_append_of_le_length (by omega)]
theorem St_take (a t : List UInt8) : ab (St a) (bz (rest a ++ t)) ((rest a ++ t).length / 32) = St (a ++ t) := by
  have e1 : ab (fun _ => 0) (bz a) (a.length / 32) = ab (fun _ => 0) (bz (a ++ t)) (a.length / 32) := ab_congr _ (fun j hj => (bz_left a t j (by omega)).symm)
  have e2 : bz (rest a ++ t) = fun j => bz (a ++ t) (32 * (a.length / 32) + j) := by
    funext j
    rw [rest_app, bz_drop]
  unfold St
  rw [e1, e2, ab_add]
  congr 1
  rw [List.length_append, List.length_append, rest_len]
  omega
theorem rest_take (a t : List UInt8) : (rest a ++ t).drop (32 * ((rest a ++ t).length / 32)) = rest (a ++ t) := by
  have e : (rest a ++ t).length = a.length % 32 + t.length := by rw [List.length_append, rest_len]
  rw [e, rest_app, List.drop_drop]
  unfold rest
  congr 1
  rw [List.length_append]
  omega
/-- What take and the like change: the soaker g, and the row k. -/
structure Fr2 (w w' : World) (g : Nat) (k : Option Nat) : Prop where
  os : w'.os = w.os
  tape : w'.tape = w.tape
  output : w'.output = w.output
  size : w.heap.size ≤ w'.heap.size
  block : ∀ j, j < w.heap.size → j ≠ g → some j ≠ k → w'.heap[j]? = w.heap[j]?
theorem fr2_of {w w1 w2 : World} {g : Nat} {k : Option Nat} (h1 : w.grownBy w1 k) (h2 : w1.grownBy w2 (some g)) : Fr2 w w2 g k :=
  ⟨h2.os.trans h1.os, h2.tape.trans h1.tape, h2.output.trans h1.output, Nat.le_trans h1.size h2.size, fun j hj hg hk => (h2.block j (Nat.lt_of_lt_of_le hj h1.size) (fun e => hg (by simpa using e))).trans (h1.block j hj hk)⟩
theorem wpList_app {P : Program} {ops : Array Oper} {rest : List Oper} {o : Oper} {a : Act} {Q : Exit → Act → World → Prop} {s x : Operand} {t : TypeId} {v v2 v' : Value} {w w' : World} (hgd : o.guard = none) (ho : o.op = .call { callee := .builtin .append, args := #[s, x], argTypes := #[t, t] }) (hs : a.eval s = v) (hx : a.eval x = v2)
    (hr : (Builtin.append_ #[t, t] o.type #[v, v2]).run P w = .ok v' w') (h : wpList P ops Q rest (a.put o.dst v') w') : wpList P ops Q (o :: rest) a w := by
  refine wpList_plain hgd fun _ hK => ?_
  unfold Oper.wp execOp
  simp only [ho, resolve, invoke, builtin, Sem.run_bind, Sem.run_pure, Result.andThen_ok, List.map_toArray, List.map_cons, List.map_nil, hs, hx, hr]
  exact hK _ _ h
theorem Sk_gb {g : Nat} {F : Nat → Int} {R : Value} {k : Option Nat} {w w' : World} (h : Sk g F R w) (b : w.grownBy w' k) (hk : k ≠ some g) : Sk g F R w' := by
  have hb : w'.heap[g]? = w.heap[g]? := b.block g h.hi (fun e => hk e.symm)
  exact ⟨Nat.lt_of_lt_of_le h.hi b.size, fun o ho => (World.cell?_of_block (a := ⟨g, o, none⟩) hb).trans (h.c o ho), (World.cell?_of_block (a := ⟨g, 8, none⟩) hb).trans h.r, fun o => (World.frozen?_of_block (a := ⟨g, o, none⟩) hb).trans (h.f o)⟩
theorem Sk_rest {g : Nat} {F : Nat → Int} {R R' : Value} {w : World} (h : Sk g F R w) : Sk g F R' (w.setCell ⟨g, 8, none⟩ R') := by
  refine ⟨by simpa using h.hi, fun o ho => ?_, ?_, fun o => ?_⟩
  · rw [World.cell?_setCell_other _ _ _ _ (by simp <;> omega)]; exact h.c o ho
  · exact World.cell?_setCell_same _ _ _ h.r
  · rw [World.frozen?_setCell]; exact h.f o
theorem Rs_tail {B g h off cap : Nat} {r : List UInt8} {ao a' : Option Addr} {k : Option Nat} {w : World} (m : Nat) (hm : m ≤ r.length) (hr : Rs B g r (.slice ao r.length cap) k w) (hk : 0 < cap → ao = some ⟨h, off, none⟩) (ha : 0 < cap - m → a' = some ⟨h, off + m, none⟩) :
    ∃ k', Rs B g (r.drop m) (.slice a' (r.length - m) (cap - m)) k' w ∧ (k' = k ∨ k' = none) := by
  obtain ⟨ao2, cap2, e, h2, h3, h4⟩ := hr
  cases e
  have hl : (r.drop m).length = r.length - m := List.length_drop ..
  by_cases hc : cap - m = 0
  · exact ⟨none, ⟨a', cap - m, by rw [hl], by rw [hl]; omega, by omega, .inl ⟨hc, rfl⟩⟩, .inr rfl⟩
  · rcases h4 with ⟨h5, _⟩ | ⟨h', off', a1, a2, a3, a4, a5, a6, a7, a8, a9⟩
    · omega
    · have e1 := hk (by omega)
      rw [a3] at e1
      cases e1
      refine ⟨k, ⟨a', cap - m, by rw [hl], by rw [hl]; omega, by omega, .inr ⟨h, off + m, by omega, a2, ha (by omega), a4, a5, a6, a7, fun j hj => ?_, fun j hj => ?_⟩⟩, .inl rfl⟩
      · rw [Nat.add_assoc]; exact a8 _ (by omega)
      · rw [hl] at hj
        rw [Nat.add_assoc, bz_drop]; exact a9 _ (by omega)
end Sp
end Go.Proofs.Ytcgjkombefhjmaa
/- soaker.sum. -/
namespace Go.Proofs.Ytcgjkombefhjmaa
namespace Sp
open Go.RowKit
theorem pad_rest (a : List UInt8) : (pad a).drop (32 * (a.length / 32)) = pad (rest a) := by
  have hl := rest_len a
  have e : (a.length + 33) / 32 * 32 - a.length - 2 = ((rest a).length + 33) / 32 * 32 - (rest a).length - 2 := by rw [hl]; omega
  unfold pad
  rw [List.drop_append_of_le_length (by omega), e]
  rfl
theorem sum_rest (a : List UInt8) : hb (ab (St a) (bz (pad (rest a))) ((pad (rest a)).length / 32)) = sumf a := by
  have e1 : St a = ab (fun _ => 0) (bz (pad a)) (a.length / 32) := ab_congr _ (fun j hj => by
    unfold pad
    rw [bz_left a _ j (by omega)])
  have e2 : bz (pad (rest a)) = fun j => bz (pad a) (32 * (a.length / 32) + j) := by
    funext j
    rw [← pad_rest, bz_drop]
  have e3 : a.length / 32 + (pad (rest a)).length / 32 = (pad a).length / 32 := by
    rw [pad_length, pad_length, rest_len]
    omega
  rw [e1, e2, ab_add, e3]
  rfl
theorem Sk_new8 (w : World) (F : Nat → Int) (R : Value) (T : TypeId) : Sk w.heap.size F R (w.alloc (.cells #[.int .u64 (F 0), .int .u64 (F 1), .int .u64 (F 2), .int .u64 (F 3), .int .u64 (F 4), .int .u64 (F 5), .int .u64 (F 6), .int .u64 (F 7), R] T)) := by
  have h := heap_alloc_new w (.cells #[.int .u64 (F 0), .int .u64 (F 1), .int .u64 (F 2), .int .u64 (F 3), .int .u64 (F 4), .int .u64 (F 5), .int .u64 (F 6), .int .u64 (F 7), R] T)
  refine ⟨by simp, fun o ho => ?_, ?_, fun o => ?_⟩
  · simp only [World.cell?, h]
    have : o = 0 ∨ o = 1 ∨ o = 2 ∨ o = 3 ∨ o = 4 ∨ o = 5 ∨ o = 6 ∨ o = 7 := by omega
    rcases this with rfl | rfl | rfl | rfl | rfl | rfl | rfl | rfl <;> rfl
  · simp only [World.cell?, h]
    rfl
  · exact fz_new w _ _ o
theorem Rs_sl {B g : Nat} {r : List UInt8} {v : Value} {k : Option Nat} {w : World} (h : Rs B g r v k w) : Pk.Sl r v w := by
  obtain ⟨ao, cap, h1, h2, _, h4⟩ := h
  refine ⟨ao, cap, h1, h2, fun h0 => ?_⟩
  rcases h4 with ⟨h5, _⟩ | ⟨h, off, a1, a2, a3, a4, a5, a6, a7, a8, a9⟩
  · omega
  · exact ⟨h, off, a3, a6, a9⟩
end Sp
end Go.Proofs.Ytcgjkombefhjmaa
/- lampbearerref.SPad: the document's own filling up. -/
namespace Go.Proofs.Ytcgjkombefhjmaa
namespace Sp
open Go.RowKit
set_option maxHeartbeats 1000000 in
set_option maxRecDepth 100000 in
theorem spad_any (l : List UInt8) (ao : Option Addr) (cap : Nat) (w : World) (hl : (l.length : Int) ≤ 140737488355328) (hv : Vw l ao w) :
    Calls Try.prog 22 #[.slice ao l.length cap] w fun e w' => ∃ g, e = .returned (.slice (some ⟨g, 0, none⟩) (pad l).length (pad l).length) ∧ Vb .u8 w.heap.size g (pad l).length (bz (pad l)) w' ∧ Below w.heap.size w w' := by
  obtain ⟨N, hN⟩ : ∃ N, N = (l.length + 33) / 32 * 32 := ⟨_, rfl⟩
  have HP : Hid ((pad l).length = N) := by show _ = _; rw [pad_length, hN]
  have h1 : l.length + 2 ≤ N := by omega
  have h2 : (N : Int) ≤ 140737488355392 := by omega
  have HN : Hid (N = (l.length + 33) / 32 * 32) := hN
  have hmk := run_make_row' (P := Try.prog) 25 5 (.int .u8 0) 1 Try.underlying25 info8 rfl .i64 .i64 N (by omega) (by omega)
  obtain ⟨W2, hcp, v2, b2⟩ := copy_run l ao cap N w (by omega) hv
  clear hv
  rw [HP.out]
  have c1 := v2.c l.length (by omega)
  have f1 := v2.f l.length
  have v3 := Vb_set (v := 1) (i := l.length) v2 (by omega)
  have c2 := v3.c (N - 1) (by omega)
  have f2 := v3.f (N - 1)
  have v4 := Vb_set (v := 128) (i := N - 1) v3 (by omega)
  have b4 := (b2.setCell (p := ⟨w.heap.size, l.length, none⟩) (Nat.le_refl _) (.int .u8 1)).setCell (p := ⟨w.heap.size, N - 1, none⟩) (Nat.le_refl _) (.int .u8 128)
  have HV : Hid (Vb .u8 w.heap.size w.heap.size N (bz (pad l)) ((W2.setCell ⟨w.heap.size, l.length, none⟩ (.int .u8 1)).setCell ⟨w.heap.size, N - 1, none⟩ (.int .u8 128))) := ⟨v4.lo, v4.hi, CK_ext v4.c (fun o _ => pad_cells l N HN.out o), v4.f⟩
  have HB : Hid (Below w.heap.size w ((W2.setCell ⟨w.heap.size, l.length, none⟩ (.int .u8 1)).setCell ⟨w.heap.size, N - 1, none⟩ (.int .u8 128))) := b4
  clear v2 v3 v4 b2 b4
  have i1 : (l.length : Int) < (N : Int) := by omega
  have i2 : (0 : Int) ≤ (N : Int) - 1 := by omega
  have i3 : (N : Int) - 1 < (N : Int) := by omega
  have t1 : ((N : Int) - 1).toNat = N - 1 := by omega
  by_cases h31 : l.length % 32 = 31
  · have e1 : ((l.length : Int) / 32 + 1) * 32 + 32 = (N : Int) := by omega
    have d1 : ((l.length : Int) % 32 == 31) = true := by simp; omega
    clear hN h31
    go_enter Try.func22, Try.ntmps22
    go_wp2
    go_ret
    exact ⟨_, rfl, HV.out, HB.out⟩
  · have e1 : ((l.length : Int) / 32 + 1) * 32 = (N : Int) := by omega
    have d1 : ((l.length : Int) % 32 == 31) = false := by simp; omega
    clear hN h31
    go_enter Try.func22, Try.ntmps22
    go_wp2
    go_ret
    exact ⟨_, rfl, HV.out, HB.out⟩
end Sp
end Go.Proofs.Ytcgjkombefhjmaa
/- lampbearerref.SMix: the document's own mixing. -/
namespace Go.Proofs.Ytcgjkombefhjmaa
namespace Sp
open Go.RowKit
theorem Vb_st0 {B g i : Nat} {F : Nat → Int} {w1 : World} (h : Vb .u64 B g 8 F w1) (hi : i < 8) : Vb .u64 B g 8 (st F i) (w1.setCell ⟨g, i, none⟩ (.int .u64 (IntKind.u64.wrap (F i + tn F i)))) := by
  rw [IntKind.wrap_u64]; exact Vb_set h hi
theorem Vb_ts0 {B g i : Nat} {F : Nat → Int} {w1 : World} (h : Vb .u64 B g 8 F w1) (hi : i < 8) : Vb .u64 B g 8 (ts F i) (w1.setCell ⟨g, i, none⟩ (.int .u64 (IntKind.u64.wrap (F i - tn F i)))) := by
  rw [IntKind.wrap_u64]; exact Vb_set h hi
theorem turnUp_at (x : Int) (i : Nat) (hi : i < 8) (hx : U x) (w : World) :
    Calls Try.prog 28 #[.int .u64 x, .int .i64 (5 * i + 3)] w fun e w' => e = .returned (.int .u64 (tun (5 * i + 3) x)) ∧ w = w' := by
  have e : (5 * (i : Int) + 3) = ((5 * i + 3 : Nat) : Int) := by omega
  rw [e]
  exact turnUp_any x (5 * i + 3) hx (by omega) w
theorem and7 (i c : Nat) (hi : i < 8) (hc : c = 1 ∨ c = 5) : bits .and .i64 ((i : Int) + c) 7 = ((i : Int) + c) % 8 := by
  have : i = 0 ∨ i = 1 ∨ i = 2 ∨ i = 3 ∨ i = 4 ∨ i = 5 ∨ i = 6 ∨ i = 7 := by omega
  rcases hc with rfl | rfl <;> rcases this with rfl | rfl | rfl | rfl | rfl | rfl | rfl | rfl <;> decide +kernel
set_option maxHeartbeats 4000000 in
set_option maxRecDepth 100000 in
theorem smix_any (F : Nat → Int) (hF : UF F) (w : World) :
    Calls Try.prog 23 #[Sv F] w fun e w' => e = .returned (Sv (mix F)) ∧ Below w.heap.size w w' := by
  conv => arg 3; unfold Sv
  go_enter Try.func23, Try.ntmps23
  go_wp2_with fail
  go_loopw [4] (fun s wr => ∃ k : Nat, k ≤ 12 ∧ s = .int .u64 (k + 1) ∧ Vb .u64 w.heap.size w.heap.size 8 (mixs F k) wr ∧ Vb .u64 w.heap.size (w.heap.size + 1) 8 (fun _ => 0) wr ∧ Below w.heap.size w wr) (fun s _ => (13 - intOf s).toNat)
  case atStart =>
    refine ⟨0, by omega, rfl, ?_, ?_, ?_⟩
    · exact Vb_al (Vb_new8 w.heap.size F w 41 (Nat.le_refl _)) _
    · have k := Vb_new8 w.heap.size (fun _ => 0) (w.alloc (.cells #[.int .u64 (F 0), .int .u64 (F 1), .int .u64 (F 2), .int .u64 (F 3), .int .u64 (F 4), .int .u64 (F 5), .int .u64 (F 6), .int .u64 (F 7)] 41)) 41 (by simp)
      simp only [World.size_alloc] at k
      exact k
    · repeat (first | exact Below.refl _ _ | refine Below.alloc ?_ (by simp <;> omega) _)
  case round =>
    obtain ⟨k, hk, rfl, v0, v1, hb⟩ := hrel
    by_cases hlt : k < 12
    · have hd : decide ((k : Int) + 1 ≤ 12) = true := by simp; omega
      have uk := UF_mixs hF k
      have c0 := v0.c 0 (by omega)
      have f0 := v0.f 0
      have ek : IntKind.u64.wrap (((k : Int) + 1) * 11400714819323198485) = kr (k + 1) := by rw [IntKind.wrap_u64]; unfold kr; omega
      go_wp2_with fail
      go_loopw [5, 6] (fun s t wr => ∃ i : Nat, i ≤ 8 ∧ s = .int .i64 i ∧ t = .int .i64 (5 * i + 3) ∧ Vb .u64 w.heap.size w.heap.size 8 (sts (sx (mixs F k) (k + 1)) i) wr ∧ Vb .u64 w.heap.size (w.heap.size + 1) 8 (fun _ => 0) wr ∧ Below w.heap.size w wr) (fun s _ _ => (8 - intOf s).toNat)
      case atStart =>
        refine ⟨0, by omega, rfl, rfl, ?_, ?_, ?_⟩
        · exact Vb_set v0 (by omega)
        · exact Vb_other v1 (by dsimp only; omega)
        · exact hb.setCell (by dsimp only; omega) _
      case round =>
        clear v0 v1 hb c0 f0
        obtain ⟨i, hi, rfl, rfl, v0, v1, hb⟩ := hrel
        have ui := UF_sts (UF_sx uk (k + 1)) i
        by_cases hli : i < 8
        · have c0 := v0.c i hli
          have f0 := v0.f i
          have b1 : (i : Int) < 8 := by omega
          have a1 : bits .and .i64 ((i : Int) + 1) 7 = ((i : Int) + 1) % 8 := and7 i 1 hli (.inl rfl)
          have a2 : bits .and .i64 ((i : Int) + 5) 7 = ((i : Int) + 5) % 8 := and7 i 5 hli (.inr rfl)
          have y1 : IntKind.i64.wrap ((i : Int) + 1) = (i : Int) + 1 := by rw [IntKind.wrap_i64]; omega
          have y5 : IntKind.i64.wrap ((i : Int) + 5) = (i : Int) + 5 := by rw [IntKind.wrap_i64]; omega
          have d1 : (0 : Int) ≤ ((i : Int) + 1) % 8 := by omega
          have d2 : ((i : Int) + 1) % 8 < 8 := by omega
          have d3 : (0 : Int) ≤ ((i : Int) + 5) % 8 := by omega
          have d4 : ((i : Int) + 5) % 8 < 8 := by omega
          have t1 : (((i : Int) + 1) % 8).toNat = (i + 1) % 8 := by omega
          have t2 : (((i : Int) + 5) % 8).toNat = (i + 5) % 8 := by omega
          have c1 := v0.c ((i + 1) % 8) (by omega)
          have c2 := v0.c ((i + 5) % 8) (by omega)
          have HU : Hid (U (bits .xor .u64 (sts (sx (mixs F k) (k + 1)) i ((i + 1) % 8)) (sts (sx (mixs F k) (k + 1)) i ((i + 5) % 8)))) := U_xor _ _ (ui _) (ui _)
          go_wp2_with fail
          go_region_with (go_at_call 28; refine (turnUp_at _ i hli HU.out _).mono ?_; rintro e w1 ⟨rfl, hw1⟩; subst hw1)
          all_goals
            clear a1 a2 y1 y5 d1 d2 d3 d4 t1 t2 c0 c1 c2 f0 HU
            go_wp2_with fail
            go_roundw
            case rel =>
              first | exact ⟨i + 1, by omega, by go_num, by go_num, Vb_drew (Vb_st0 v0 hli), Vb_drew (Vb_other v1 (by dsimp only; omega)), (hb.setCell (by dsimp only; omega) _).drew⟩ | ((repeat apply Exists.intro); exact ⟨⟨i + 1, by omega, by go_num, by go_num, Vb_drew (Vb_st0 v0 hli), Vb_drew (Vb_other v1 (by dsimp only; omega)), (hb.setCell (by dsimp only; omega) _).drew⟩, rfl⟩)
            case measure => simp [intOf]; omega
        · have hi8 : i = 8 := by omega
          subst hi8
          go_wp2_with fail
          go_roundw
          case rel => exact ⟨k + 1, by omega, by go_num, v0, v1, hb⟩
          case measure => simp [intOf]; omega
    · have hk12 : k = 12 := by omega
      subst hk12
      have c0 : ∀ o, o < 8 → wr.cell? ⟨w.heap.size, o, none⟩ = some (.int .u64 (mixs F 12 o)) := v0.c
      have c1 : ∀ o, o < 8 → wr.cell? ⟨w.heap.size + 1, o, none⟩ = some (.int .u64 0) := v1.c
      have f1 : ∀ o, wr.frozen? ⟨w.heap.size + 1, o, none⟩ = false := v1.f
      have HB : Hid (Below w.heap.size w wr) := hb
      have V1 : Hid (Vb .u64 w.heap.size (w.heap.size + 1) 8 (fun _ => 0) wr) := v1
      clear hb v0 v1
      have ka : ∀ wx : World, (Instr.arrayAt 41 (.slice (some ⟨w.heap.size, 0, none⟩) 8 8)).run Try.prog wx = .ok (.pointer (some ⟨w.heap.size, 0, none⟩)) wx := fun _ => by kernel_rfl
      go_wp2_with fail
      refine bodyPost_ret (v := Sv (mix F)) (result8 _ _ _ (w.heap.size + 1) 2 _ rfl rfl (CK_set8 V1.out.c)) rfl ⟨rfl, ?_⟩
      exact Bel_set8 HB.out (by omega)
end Sp
end Go.Proofs.Ytcgjkombefhjmaa
/- lampbearerref.SSum: the document's own sum. -/
namespace Go.Proofs.Ytcgjkombefhjmaa
namespace Sp
open Go.RowKit
/-- What stands during a sum: the answer, still noughts; the state; the text. -/
structure Z3 (w : World) (h n : Nat) (F f : Nat → Int) (wx : World) : Prop where
  v0 : Vb .u8 w.heap.size w.heap.size 32 (fun _ => 0) wx
  v1 : Vb .u64 w.heap.size (w.heap.size + 1) 8 F wx
  v2 : Vb .u8 w.heap.size h n f wx
  bel : Below w.heap.size w wx
theorem Z3_below {w : World} {h n : Nat} {F f : Nat → Int} {w1 w2 : World} (z : Z3 w h n F f w1) (k : Below w1.heap.size w1 w2) : Z3 w h n F f w2 := ⟨Vb_below z.v0 k, Vb_below z.v1 k, Vb_below z.v2 k, z.bel.trans (k.mono (Nat.le_of_lt z.v0.hi))⟩
theorem Z3_drew {w : World} {h n : Nat} {F f : Nat → Int} {w1 : World} (z : Z3 w h n F f w1) : Z3 w h n F f w1.drew := Z3_below z (Below.refl _ _).drew
theorem Z3_set {w : World} {h n i : Nat} {F f : Nat → Int} {w1 : World} {v : Int} (z : Z3 w h n F f w1) (hi : i < 8) (hne : w.heap.size + 1 ≠ h) : Z3 w h n (upd F i v) f (w1.setCell ⟨w.heap.size + 1, i, none⟩ (.int .u64 v)) :=
  ⟨Vb_other z.v0 (by dsimp only; omega), Vb_set z.v1 hi, Vb_other z.v2 hne, z.bel.setCell (by dsimp only; omega) _⟩
theorem Z3_skb {w : World} {h n i : Nat} {F f b : Nat → Int} {w1 : World} (z : Z3 w h n (skb F b i) f w1) (hi : i < 32) (hne : w.heap.size + 1 ≠ h) : Z3 w h n (skb F b (i + 1)) f (w1.setCell ⟨w.heap.size + 1, i / 8, none⟩ (.int .u64 (bits .xor .u64 (skb F b i (i / 8)) (IntKind.u64.wrap (b i * 2 ^ (8 * (i % 8))))))) := by
  rw [IntKind.wrap_u64]; exact Z3_set z (by omega) hne
theorem Z3_set8 {w : World} {h n : Nat} {F G f : Nat → Int} {w1 : World} (z : Z3 w h n F f w1) (hne : w.heap.size + 1 ≠ h) : Z3 w h n G f ((((((((w1.setCell ⟨w.heap.size + 1, 0, none⟩ (.int .u64 (G 0))).setCell ⟨w.heap.size + 1, 1, none⟩ (.int .u64 (G 1))).setCell ⟨w.heap.size + 1, 2, none⟩ (.int .u64 (G 2))).setCell ⟨w.heap.size + 1, 3, none⟩ (.int .u64 (G 3))).setCell ⟨w.heap.size + 1, 4, none⟩ (.int .u64 (G 4))).setCell ⟨w.heap.size + 1, 5, none⟩ (.int .u64 (G 5))).setCell ⟨w.heap.size + 1, 6, none⟩ (.int .u64 (G 6))).setCell ⟨w.heap.size + 1, 7, none⟩ (.int .u64 (G 7))) := by
  have k := Z3_set (v := G 7) (Z3_set (v := G 6) (Z3_set (v := G 5) (Z3_set (v := G 4) (Z3_set (v := G 3) (Z3_set (v := G 2) (Z3_set (v := G 1) (Z3_set (v := G 0) z (show 0 < 8 by decide) hne) (show 1 < 8 by decide) hne) (show 2 < 8 by decide) hne) (show 3 < 8 by decide) hne) (show 4 < 8 by decide) hne) (show 5 < 8 by decide) hne) (show 6 < 8 by decide) hne) (show 7 < 8 by decide) hne
  refine ⟨k.v0, ⟨k.v1.lo, k.v1.hi, CK_ext k.v1.c fun o ho => ?_, k.v1.f⟩, k.v2, k.bel⟩
  have : o = 0 ∨ o = 1 ∨ o = 2 ∨ o = 3 ∨ o = 4 ∨ o = 5 ∨ o = 6 ∨ o = 7 := by omega
  rcases this with rfl | rfl | rfl | rfl | rfl | rfl | rfl | rfl <;> simp [upd]
theorem Vb_byte' {B g k : Nat} {F : Nat → Int} {w1 : World} (h : Vb .u8 B g 32 (upto (hb F) k) w1) (hk : k < 32) : Vb .u8 B g 32 (upto (hb F) (k + 1)) (w1.setCell ⟨g, k, none⟩ (.int .u8 (F (k / 8) / 2 ^ (8 * (k % 8)) % 256))) := by
  rw [← upto_step]; exact Vb_set h hk
set_option maxHeartbeats 4000000 in
set_option maxRecDepth 100000 in
theorem ssum_any (l : List UInt8) (ao : Option Addr) (cap : Nat) (w : World) (hl : (l.length : Int) ≤ 140737488355328) (hv : Vw l ao w) :
    Calls Try.prog 18 #[.slice ao l.length cap] w fun e w' => e = .returned (Hv (sumf l)) ∧ Below w.heap.size w w' := by
  have K1 : Hid (∀ w : World, Vw l ao w → Calls Try.prog 22 #[.slice ao l.length cap] w fun e w' => ∃ g, e = .returned (.slice (some ⟨g, 0, none⟩) (pad l).length (pad l).length) ∧ Vb .u8 w.heap.size g (pad l).length (bz (pad l)) w' ∧ Below w.heap.size w w') := fun w hv => spad_any l ao cap w hl hv
  have hp : ((pad l).length : Int) ≤ 9223372036854775000 := by rw [pad_length]; omega
  have HM : Hid ((pad l).length % 32 = 0) := pad_32 l
  have HS : Hid (sumf l = hb (ab (fun _ => 0) (bz (pad l)) ((pad l).length / 32))) := rfl
  clear hl
  generalize pad l = p at *
  go_enter Try.func18, Try.ntmps18
  go_wp2_with fail
  have v1 := Vb_zero32 w.heap.size w 24 (Nat.le_refl _)
  have b1 : Below w.heap.size w (w.alloc (.cells #[.int .u8 0, .int .u8 0, .int .u8 0, .int .u8 0, .int .u8 0, .int .u8 0, .int .u8 0, .int .u8 0, .int .u8 0, .int .u8 0, .int .u8 0, .int .u8 0, .int .u8 0, .int .u8 0, .int .u8 0, .int .u8 0, .int .u8 0, .int .u8 0, .int .u8 0, .int .u8 0, .int .u8 0, .int .u8 0, .int .u8 0, .int .u8 0, .int .u8 0, .int .u8 0, .int .u8 0, .int .u8 0, .int .u8 0, .int .u8 0, .int .u8 0, .int .u8 0] 24)) := (Below.refl _ _).alloc (Nat.le_refl _) _
  have z1 : (w.alloc (.cells #[.int .u8 0, .int .u8 0, .int .u8 0, .int .u8 0, .int .u8 0, .int .u8 0, .int .u8 0, .int .u8 0, .int .u8 0, .int .u8 0, .int .u8 0, .int .u8 0, .int .u8 0, .int .u8 0, .int .u8 0, .int .u8 0, .int .u8 0, .int .u8 0, .int .u8 0, .int .u8 0, .int .u8 0, .int .u8 0, .int .u8 0, .int .u8 0, .int .u8 0, .int .u8 0, .int .u8 0, .int .u8 0, .int .u8 0, .int .u8 0, .int .u8 0, .int .u8 0] 24)).heap.size = w.heap.size + 1 := by simp
  have w1 := Vw_below hv b1
  generalize w.alloc (.cells #[.int .u8 0, .int .u8 0, .int .u8 0, .int .u8 0, .int .u8 0, .int .u8 0, .int .u8 0, .int .u8 0, .int .u8 0, .int .u8 0, .int .u8 0, .int .u8 0, .int .u8 0, .int .u8 0, .int .u8 0, .int .u8 0, .int .u8 0, .int .u8 0, .int .u8 0, .int .u8 0, .int .u8 0, .int .u8 0, .int .u8 0, .int .u8 0, .int .u8 0, .int .u8 0, .int .u8 0, .int .u8 0, .int .u8 0, .int .u8 0, .int .u8 0, .int .u8 0] 24) = W1 at v1 b1 z1 w1 ⊢
  have s2 := Vb_new8 w.heap.size (fun _ => 0) W1 41 (by omega)
  rw [z1] at s2
  have v2 := Vb_al v1 (.cells #[.int .u64 0, .int .u64 0, .int .u64 0, .int .u64 0, .int .u64 0, .int .u64 0, .int .u64 0, .int .u64 0] 41)
  have b2 := b1.alloc (o := .cells #[.int .u64 0, .int .u64 0, .int .u64 0, .int .u64 0, .int .u64 0, .int .u64 0, .int .u64 0, .int .u64 0] 41) (by omega)
  have w2 := Vw_al w1 (.cells #[.int .u64 0, .int .u64 0, .int .u64 0, .int .u64 0, .int .u64 0, .int .u64 0, .int .u64 0, .int .u64 0] 41)
  generalize W1.alloc (.cells #[.int .u64 0, .int .u64 0, .int .u64 0, .int .u64 0, .int .u64 0, .int .u64 0, .int .u64 0, .int .u64 0] 41) = W2 at s2 v2 b2 w2 ⊢
  clear v1 b1 w1 hv z1
  refine (K1.out _ w2).mono ?_
  rintro e w3 ⟨h, rfl, q3, hb3⟩
  have hne : w.heap.size + 1 ≠ h := by have := s2.hi; have := q3.lo; omega
  have z3 : Z3 w h p.length (fun _ => 0) (bz p) w3 := ⟨Vb_below v2 hb3, Vb_below s2 hb3, ⟨by have := s2.hi; have := q3.lo; omega, q3.hi, q3.c, q3.f⟩, b2.trans (hb3.mono (by have := s2.hi; omega))⟩
  clear hb3 s2 v2 b2 w2 q3
  go_wp2_with fail
  go_loopw [5] (fun s wr => ∃ k : Nat, 32 * k ≤ p.length ∧ s = .int .i64 (32 * k) ∧ Z3 w h p.length (ab (fun _ => 0) (bz p) k) (bz p) wr) (fun s _ => (p.length - intOf s).toNat)
  case atStart => exact ⟨0, Nat.zero_le _, rfl, z3⟩
  case round =>
    clear z3
    obtain ⟨k, hk, rfl, z3⟩ := hrel
    have uk := UF_ab (f := bz p) UF_zero k
    by_cases hlt : 32 * k < p.length
    · have hk32 : 32 * k + 32 ≤ p.length := by have := HM.out; omega
      have hd : decide (32 * (k : Int) < (p.length : Int)) = true := by simp; omega
      go_wp2_with fail
      go_loopw [17] (fun s wr => ∃ i : Nat, i ≤ 32 ∧ s = .int .i64 i ∧ Z3 w h p.length (skb (ab (fun _ => 0) (bz p) k) (fun i => bz p (32 * k + i)) i) (bz p) wr) (fun s _ => (32 - intOf s).toNat)
      case atStart => exact ⟨0, Nat.zero_le _, rfl, z3⟩
      case round =>
        clear z3
        obtain ⟨i, hi, rfl, z3⟩ := hrel
        by_cases hli : i < 32
        · have c0 := z3.v1.c (i / 8) (by omega)
          have f0 := z3.v1.f (i / 8)
          have c1 := z3.v2.c (32 * k + i) (by omega)
          have d1 : (i : Int) < 32 := by omega
          have d2 : (0 : Int) ≤ (i : Int) / 8 := by omega
          have d3 : (i : Int) / 8 < 8 := by omega
          have t1 : ((i : Int) / 8).toNat = i / 8 := by omega
          have d4 : (0 : Int) ≤ (i : Int) % 8 * 8 := by omega
          have d5 : (i : Int) % 8 * 8 ≤ 64 := by omega
          have t2 : ((i : Int) % 8 * 8).toNat = 8 * (i % 8) := by omega
          have y2 : IntKind.i64.wrap ((i : Int) % 8 * 8) = (i : Int) % 8 * 8 := by rw [IntKind.wrap_i64]; omega
          have y3 : IntKind.i64.wrap (32 * (k : Int) + i) = 32 * (k : Int) + i := by rw [IntKind.wrap_i64]; omega
          have d6 : (0 : Int) ≤ 32 * (k : Int) + i := by omega
          have d7 : 32 * (k : Int) + i < (p.length : Int) := by omega
          have t3 : (32 * (k : Int) + i).toNat = 32 * k + i := by omega
          have y1 : IntKind.u64.wrap (bz p (32 * k + i)) = bz p (32 * k + i) := by rw [IntKind.wrap_u64]; have := bz_nn p (32 * k + i); have := bz_lt p (32 * k + i); omega
          go_wp2_with fail
          go_region
          all_goals
            clear c0 f0 c1 d1 d2 d3 t1 d4 d5 t2 y2 y3 d6 d7 t3 y1
            go_wp2_with fail
            go_roundw
            case rel =>
              first | exact ⟨i + 1, by omega, by go_num, Z3_drew (Z3_skb z3 hli hne)⟩ | ((repeat apply Exists.intro); exact ⟨⟨i + 1, by omega, by go_num, Z3_drew (Z3_skb z3 hli hne)⟩, rfl⟩)
            case measure => simp [intOf]; omega
        · have hi32 : i = 32 := by omega
          subst hi32
          have c0 : ∀ o, o < 8 → wr.cell? ⟨w.heap.size + 1, o, none⟩ = some (.int .u64 (skb (ab (fun _ => 0) (bz p) k) (fun i => bz p (32 * k + i)) 32 o)) := z3.v1.c
          have us := UF_skb (f := fun i => bz p (32 * k + i)) uk 32
          have Z : Hid (Z3 w h p.length (skb (ab (fun _ => 0) (bz p) k) (fun i => bz p (32 * k + i)) 32) (bz p) wr) := z3
          clear z3
          go_wp2_with fail
          refine (smix_any _ us _).mono ?_
          rintro e w4 ⟨rfl, hb4⟩
          have z4 := Z3_below Z.out hb4
          have c1 : ∀ o, o < 8 → w4.cell? ⟨w.heap.size + 1, o, none⟩ = some (.int .u64 (skb (ab (fun _ => 0) (bz p) k) (fun i => bz p (32 * k + i)) 32 o)) := z4.v1.c
          have f1 : ∀ o, w4.frozen? ⟨w.heap.size + 1, o, none⟩ = false := z4.v1.f
          have Z4 : Hid (Z3 w h p.length (skb (ab (fun _ => 0) (bz p) k) (fun i => bz p (32 * k + i)) 32) (bz p) w4) := z4
          clear z4 c0 hb4 Z us
          unfold Sv
          go_wp2_with fail
          go_roundw
          case rel => exact ⟨k + 1, by omega, by go_num, Z3_set8 Z4.out hne⟩
          case measure => simp [intOf]; omega
    · have hkp : Hid (p.length / 32 = k) := by show p.length / 32 = k; omega
      rw [hkp.out] at HS
      have hd : decide (32 * (k : Int) < (p.length : Int)) = false := by simp; omega
      go_wp2_with fail
      have zo := Vb_zero32 w.heap.size wr 24 (Nat.le_of_lt z3.v0.hi)
      have zz := Z3_below z3 ((Below.refl wr.heap.size wr).alloc (Nat.le_refl _) (.cells #[.int .u8 0, .int .u8 0, .int .u8 0, .int .u8 0, .int .u8 0, .int .u8 0, .int .u8 0, .int .u8 0, .int .u8 0, .int .u8 0, .int .u8 0, .int .u8 0, .int .u8 0, .int .u8 0, .int .u8 0, .int .u8 0, .int .u8 0, .int .u8 0, .int .u8 0, .int .u8 0, .int .u8 0, .int .u8 0, .int .u8 0, .int .u8 0, .int .u8 0, .int .u8 0, .int .u8 0, .int .u8 0, .int .u8 0, .int .u8 0, .int .u8 0, .int .u8 0] 24))
      have hB : w.heap.size + 1 < wr.heap.size := z3.v1.hi
      clear z3
      generalize wr.alloc (.cells #[.int .u8 0, .int .u8 0, .int .u8 0, .int .u8 0, .int .u8 0, .int .u8 0, .int .u8 0, .int .u8 0, .int .u8 0, .int .u8 0, .int .u8 0, .int .u8 0, .int .u8 0, .int .u8 0, .int .u8 0, .int .u8 0, .int .u8 0, .int .u8 0, .int .u8 0, .int .u8 0, .int .u8 0, .int .u8 0, .int .u8 0, .int .u8 0, .int .u8 0, .int .u8 0, .int .u8 0, .int .u8 0, .int .u8 0, .int .u8 0, .int .u8 0, .int .u8 0] 24) = W4 at zo zz ⊢
      generalize wr.heap.size = g at zo hB ⊢
      generalize ab (fun _ => 0) (bz p) k = F at *
      go_loopw [40] (fun s wx => ∃ j : Nat, j ≤ 32 ∧ s = .int .i64 j ∧ Vb .u8 w.heap.size w.heap.size 32 (fun _ => 0) wx ∧ Vb .u64 w.heap.size (w.heap.size + 1) 8 F wx ∧ Below w.heap.size w wx ∧ Vb .u8 w.heap.size g 32 (upto (hb F) j) wx) (fun s _ => (32 - intOf s).toNat)
      case atStart => exact ⟨0, Nat.zero_le _, rfl, zz.v0, zz.v1, zz.bel, zo⟩
      case round =>
        clear zz zo
        obtain ⟨j, hj, rfl, y0, y1, yb, zo⟩ := hrel
        by_cases hlj : j < 32
        · have c0 := y1.c (j / 8) (by omega)
          have c1 := zo.c j hlj
          have f1 := zo.f j
          obtain ⟨u1, u2⟩ := uk (j / 8)
          have d1 : (j : Int) < 32 := by omega
          have d2 : (0 : Int) ≤ (j : Int) / 8 := by omega
          have d3 : (j : Int) / 8 < 8 := by omega
          have t1 : ((j : Int) / 8).toNat = j / 8 := by omega
          have d4 : (0 : Int) ≤ (j : Int) % 8 * 8 := by omega
          have d5 : (j : Int) % 8 * 8 ≤ 64 := by omega
          have t2 : ((j : Int) % 8 * 8).toNat = 8 * (j % 8) := by omega
          go_wp2_with fail
          go_roundw
          case rel => exact ⟨j + 1, by omega, by go_num, Vb_other y0 (by dsimp only; omega), Vb_other y1 (by dsimp only; omega), yb.setCell (by dsimp only; omega) _, by first | exact Vb_byte zo hlj | exact Vb_byte' zo hlj⟩
          case measure => simp [intOf]; omega
        · have hj32 : j = 32 := by omega
          subst hj32
          have r1 := range32 (CK_upto zo.c)
          have t1 := there32a (G := hb F) y0.c y0.f
          have C0 : CK .u8 w.heap.size 32 (hb F) (wr.setCells w.heap.size 0 (h32 (hb F)).toArray.toList) := CK_set32 (G := hb F) y0.c y0.f
          have HB : Below w.heap.size w (wr.setCells w.heap.size 0 (h32 (hb F)).toArray.toList) := Bel_sets (w0 := w) (Nat.le_refl _) (h32 (hb F)) 0 _ yb
          clear y0 y1 yb zo
          go_upto_region 18 with fail
          refine wp_region_lit ?_
          refine wpList_load_mid rfl 24 (.tmp 7) rfl g 0 rfl (h32 (hb F)) _ r1 Try.underlying24 rfl info32 ?_
          refine wpList_store_mid rfl 24 (.tmp 2) (.tmp 55) rfl w.heap.size 0 (h32 (hb F)).toArray rfl rfl t1 info32a (all_oneCell_toArray (h32_one (hb F))) ?_
          refine wpList_nil ?_
          clear r1 t1
          rw [← HS.out] at C0 HB ⊢
          generalize wr.setCells w.heap.size 0 (h32 (sumf l)).toArray.toList = W6 at C0 HB ⊢
          generalize (h32 (sumf l)).toArray = cs
          have HC : Hid (CK .u8 w.heap.size 32 (sumf l) W6) := C0
          have HD : Hid (Below w.heap.size w W6) := HB
          clear C0 HB
          go_wp2_with fail
          exact bodyPost_ret (v := Hv (sumf l)) (result32 _ _ _ w.heap.size 2 _ rfl rfl HC.out) rfl ⟨rfl, HD.out⟩
end Sp
end Go.Proofs.Ytcgjkombefhjmaa
/- Rows of texts, and rows of sums. -/
namespace Go.Proofs.Ytcgjkombefhjmaa
namespace Sp
open Go.RowKit
/-- A slice of slices of bytes that reads as ps. -/
def Ls (ps : List (List UInt8)) (v : Value) (w : World) : Prop := ∃ (ao : Option Addr) (cap : Nat), v = .slice ao ps.length cap ∧ (0 < ps.length → ∃ g off, ao = some ⟨g, off, none⟩ ∧ g < w.heap.size ∧ ∀ i, i < ps.length → ∃ vi, w.cell? ⟨g, off + i, none⟩ = some vi ∧ Pk.Sl (ps.getD i []) vi w)
theorem Ls_below {ps : List (List UInt8)} {v : Value} {w w' : World} (h : Ls ps v w) (hb : Below w.heap.size w w') : Ls ps v w' := by
  obtain ⟨ao, cap, h1, h2⟩ := h
  refine ⟨ao, cap, h1, fun h0 => ?_⟩
  obtain ⟨g, off, h3, h4, h5⟩ := h2 h0
  refine ⟨g, off, h3, Nat.lt_of_lt_of_le h4 hb.size, fun i hi => ?_⟩
  obtain ⟨vi, h6, h7⟩ := h5 i hi
  exact ⟨vi, (hb.cell (p := ⟨g, off + i, none⟩) h4).trans h6, Pk.Sl_below h7 hb⟩
/-- The first k texts, one behind the other. -/
def pre (ps : List (List UInt8)) (k : Nat) : List UInt8 := (ps.take k).flatten
theorem pre_zero (ps : List (List UInt8)) : pre ps 0 = [] := by simp [pre]
theorem pre_succ (ps : List (List UInt8)) (k : Nat) (h : k < ps.length) : pre ps (k + 1) = pre ps k ++ ps.getD k [] := by
  unfold pre
  rw [List.take_succ_eq_append_getElem h, List.flatten_append]
  simp [h]
theorem pre_le (ps : List (List UInt8)) (k : Nat) : (pre ps k).length ≤ ps.flatten.length := by
  unfold pre
  conv => rhs; rw [← List.take_append_drop k ps, List.flatten_append, List.length_append]
  omega
/-- The cells of a row of n sums, of which the first k are laid. -/
def HF (ps : List (List UInt8)) (k x : Nat) : Int := if x / 32 < k then sumf (pre ps (x / 32 + 1)) (x % 32) else 0
theorem HF_zero (ps : List (List UInt8)) : HF ps 0 = fun _ => 0 := by funext x; simp [HF]
theorem infoH : (Try.prog.info? 24).map (fun i => (i.zero, i.size, i.bytes)) = some (some (.agg #[.int .u8 0, .int .u8 0, .int .u8 0, .int .u8 0, .int .u8 0, .int .u8 0, .int .u8 0, .int .u8 0, .int .u8 0, .int .u8 0, .int .u8 0, .int .u8 0, .int .u8 0, .int .u8 0, .int .u8 0, .int .u8 0, .int .u8 0, .int .u8 0, .int .u8 0, .int .u8 0, .int .u8 0, .int .u8 0, .int .u8 0, .int .u8 0, .int .u8 0, .int .u8 0, .int .u8 0, .int .u8 0, .int .u8 0, .int .u8 0, .int .u8 0, .int .u8 0]), 32, 32) := by kernel_rfl
end Sp
end Go.Proofs.Ytcgjkombefhjmaa
/- sponge.Each. -/
namespace Go.Proofs.Ytcgjkombefhjmaa
namespace Pk
open Go.RowKit
theorem msr (k n : Nat) (h : k < n) (v : Int) (hv : v = (k : Int) + 1) : ((n : Int) - intOf (.int .i64 v)).toNat < ((n : Int) - intOf (.int .i64 (k : Int))).toNat := by
  show ((n : Int) - v).toNat < ((n : Int) - (k : Int)).toNat
  omega
theorem step_w9 (k n : Nat) (h : k < n) (hn : Hid (n ≤ 1048576)) : Hid (wrap64 ((k : Int) + 1) = k + 1) := by
  have := hn.out
  show _ = _
  unfold wrap64; omega
theorem step_v (k : Nat) (v : Int) (h : v = (k : Int) + 1) : Value.int .i64 v = .int .i64 ((k + 1 : Nat) : Int) := by rw [h]; rfl
end Pk
namespace Sp
open Go.RowKit
theorem Vb_fr2 {k : IntKind} {B O n g : Nat} {F : Nat → Int} {kk : Option Nat} {w w' : World} (h : Vb k B O n F w) (f : Fr2 w w' g kk) (h1 : O ≠ g) (h2 : kk ≠ some O) : Vb k B O n F w' := by
  have hb : w'.heap[O]? = w.heap[O]? := f.block O h.hi h1 (fun e => h2 e.symm)
  exact ⟨h.lo, Nat.lt_of_lt_of_le h.hi f.size, fun o ho => (World.cell?_of_block (a := ⟨O, o, none⟩) hb).trans (h.c o ho), fun o => (World.frozen?_of_block (a := ⟨O, o, none⟩) hb).trans (h.f o)⟩
theorem Rs_lo {B g : Nat} {r : List UInt8} {v : Value} {k : Option Nat} {w : World} (h : Rs B g r v k w) : ∀ i, k = some i → B ≤ i ∧ i < w.heap.size := by
  obtain ⟨_, _, _, _, _, ⟨_, e⟩ | ⟨h', _, _, e, _, a4, _, a6, _⟩⟩ := h
  · intro i e2; rw [e] at e2; cases e2
  · intro i e2; rw [e] at e2; cases e2; exact ⟨a4, a6⟩
theorem below_fr2 {B g : Nat} {kk : Option Nat} {w w1 w2 : World} (h : Below B w w1) (f : Fr2 w1 w2 g kk) (hB : B ≤ w1.heap.size) (hg : B ≤ g) (hk : ∀ i, kk = some i → B ≤ i) : Below B w w2 :=
  h.trans ⟨f.os, f.tape, f.output, f.size, fun j hj => f.block j (by omega) (by omega) (fun e => by have := hk j e.symm; omega)⟩
theorem HF_step (ps : List (List UInt8)) (k x : Nat) : HF ps (k + 1) x = if x / 32 = k then sumf (pre ps (k + 1)) (x % 32) else HF ps k x := by
  unfold HF
  by_cases h : x / 32 = k
  · rw [if_pos h, if_pos (by omega), h]
  · rw [if_neg h]
    by_cases h2 : x / 32 < k
    · rw [if_pos h2, if_pos (by omega)]
    · rw [if_neg h2, if_neg (by omega)]
theorem Vb_lay {B O n k : Nat} {ps : List (List UInt8)} {w : World} (h : Vb .u8 B O (32 * n) (HF ps k) w) (hk : k < n) : Vb .u8 B O (32 * n) (HF ps (k + 1)) (w.setCells O (32 * k) (h32 (sumf (pre ps (k + 1)))).toArray.toList) := by
  refine ⟨h.lo, by rw [size_setCells]; exact h.hi, fun o ho => ?_, Fz_sets h.f _ _⟩
  rw [HF_step]
  by_cases e : o / 32 = k
  · have hin := World.cell?_setCells_in O (h32 (sumf (pre ps (k + 1)))).toArray.toList (32 * k) w (fun j hj => by
      rw [List.toList_toArray, h32_length] at hj
      have := h.c (32 * k + j) (by omega)
      rw [this]
      rfl) (o % 32) (by rw [List.toList_toArray, h32_length]; omega)
    rw [show 32 * k + o % 32 = o by omega] at hin
    rw [hin, if_pos e]
    have := h32_get (sumf (pre ps (k + 1))) (o % 32) (by omega)
    rw [List.getElem?_eq_getElem (by rw [h32_length]; omega)] at this
    exact this
  · rw [World.cell?_setCells_out O _ (32 * k) w ⟨O, o, none⟩ (fun _ _ => by rw [List.toList_toArray, h32_length]; dsimp only; omega), if_neg e]
    exact h.c o ho
end Sp
end Go.Proofs.Ytcgjkombefhjmaa
/- bloom.bitsOf. -/
namespace Go.Proofs.Ytcgjkombefhjmaa
namespace Bl
open Go.RowKit Sp
/-- The first i bits of a text. -/
def tk (l : List UInt8) : Nat → Nat → Bool
  | 0 => fun _ => false
  | i + 1 => ad (tk l i) (sumf l i).toNat
theorem tk_tb (l : List UInt8) : tk l 3 = tb l := by
  funext n
  have h0 := sumf_nn l 0
  have h1 := sumf_nn l 1
  have h2 := sumf_nn l 2
  unfold tb
  simp only [tk, ad, Bool.false_or]
  congr 1
  · congr 1
    · rw [decide_eq_decide]; omega
    · rw [decide_eq_decide]; omega
  · rw [decide_eq_decide]; omega
theorem FB_none : FB (fun _ => false) = fun _ => 0 := by
  funext j
  show ((by8 (fun _ => false) j : Nat) : Int) = 0
  have : by8 (fun _ => false) j = 0 := by
    apply Nat.eq_of_testBit_eq
    intro i
    rw [by8_bit, Bool.and_false, Nat.zero_testBit]
  rw [this]; rfl
theorem FB_or {B g N : Nat} {P : Nat → Bool} {x : Int} {w : World} (h : Sp.Vb .u8 B g 32 (FB P) w) (hN : N < 256) (hx : x = bits .or .u8 (FB P (N / 8)) (((2 ^ (N % 8) : Nat)) : Int)) : Sp.Vb .u8 B g 32 (FB (ad P N)) (w.setCell ⟨g, N / 8, none⟩ (.int .u8 x)) := by
  have k := Sp.Vb_set (v := x) h (i := N / 8) (by omega)
  refine ⟨k.lo, k.hi, Sp.CK_ext k.c (fun o _ => ?_), k.f⟩
  unfold Sp.upd
  by_cases e : o = N / 8
  · subst e
    rw [if_pos rfl, hx]
    unfold FB
    rw [u8_or_nat _ _ (by8_lt _ _) (Nat.lt_of_lt_of_le (Nat.pow_lt_pow_right (by decide) (Nat.mod_lt N (by decide : 8 > 0))) (by decide)), by8_ad]
  · rw [if_neg e]
    unfold FB
    rw [by8_ad_other _ _ _ e]
theorem sh_val : ∀ i : Nat, i < 8 → (2 ^ i : Int) % 256 = ((2 ^ i : Nat) : Int) := by decide +kernel
set_option maxHeartbeats 2000000 in
set_option maxRecDepth 100000 in
theorem bitsOf_any (l : List UInt8) (ao : Option Addr) (cap : Nat) (w : World) (hl : (l.length : Int) ≤ 140737488355328) (hv : Sp.Vw l ao w) :
    Calls Try.prog 17 #[.slice ao l.length cap] w fun e w' => e = .returned (Hv (FB (tb l))) ∧ Below w.heap.size w w' := by
  have K1 : Hid (∀ w : World, Sp.Vw l ao w → Calls Try.prog 21 #[.slice ao l.length cap] w fun e w' => e = .returned (Hv (sumf l)) ∧ Below w.heap.size w w') := fun w hv => Sp.sum_any l ao cap w hl hv
  clear hl
  go_enter Try.func17, Try.ntmps17
  go_upto_region 1 with fail
  have v1 := Sp.Vb_zero32 w.heap.size w 24 (Nat.le_refl _)
  have b1 : Below w.heap.size w (w.alloc (.cells #[.int .u8 0, .int .u8 0, .int .u8 0, .int .u8 0, .int .u8 0, .int .u8 0, .int .u8 0, .int .u8 0, .int .u8 0, .int .u8 0, .int .u8 0, .int .u8 0, .int .u8 0, .int .u8 0, .int .u8 0, .int .u8 0, .int .u8 0, .int .u8 0, .int .u8 0, .int .u8 0, .int .u8 0, .int .u8 0, .int .u8 0, .int .u8 0, .int .u8 0, .int .u8 0, .int .u8 0, .int .u8 0, .int .u8 0, .int .u8 0, .int .u8 0, .int .u8 0] 24)) := (Below.refl _ _).alloc (Nat.le_refl _) _
  have z1 : (w.alloc (.cells #[.int .u8 0, .int .u8 0, .int .u8 0, .int .u8 0, .int .u8 0, .int .u8 0, .int .u8 0, .int .u8 0, .int .u8 0, .int .u8 0, .int .u8 0, .int .u8 0, .int .u8 0, .int .u8 0, .int .u8 0, .int .u8 0, .int .u8 0, .int .u8 0, .int .u8 0, .int .u8 0, .int .u8 0, .int .u8 0, .int .u8 0, .int .u8 0, .int .u8 0, .int .u8 0, .int .u8 0, .int .u8 0, .int .u8 0, .int .u8 0, .int .u8 0, .int .u8 0] 24)).heap.size = w.heap.size + 1 := by simp
  have w1 := Sp.Vw_below hv b1
  generalize w.alloc (.cells #[.int .u8 0, .int .u8 0, .int .u8 0, .int .u8 0, .int .u8 0, .int .u8 0, .int .u8 0, .int .u8 0, .int .u8 0, .int .u8 0, .int .u8 0, .int .u8 0, .int .u8 0, .int .u8 0, .int .u8 0, .int .u8 0, .int .u8 0, .int .u8 0, .int .u8 0, .int .u8 0, .int .u8 0, .int .u8 0, .int .u8 0, .int .u8 0, .int .u8 0, .int .u8 0, .int .u8 0, .int .u8 0, .int .u8 0, .int .u8 0, .int .u8 0, .int .u8 0] 24) = W1 at v1 b1 z1 w1 ⊢
  go_upto_region 2 with fail
  have v2 := Sp.Vb_zero32 w.heap.size W1 24 b1.size
  have u2 := Sp.Vb_al v1 (.cells #[.int .u8 0, .int .u8 0, .int .u8 0, .int .u8 0, .int .u8 0, .int .u8 0, .int .u8 0, .int .u8 0, .int .u8 0, .int .u8 0, .int .u8 0, .int .u8 0, .int .u8 0, .int .u8 0, .int .u8 0, .int .u8 0, .int .u8 0, .int .u8 0, .int .u8 0, .int .u8 0, .int .u8 0, .int .u8 0, .int .u8 0, .int .u8 0, .int .u8 0, .int .u8 0, .int .u8 0, .int .u8 0, .int .u8 0, .int .u8 0, .int .u8 0, .int .u8 0] 24)
  have b2 := b1.alloc (o := .cells #[.int .u8 0, .int .u8 0, .int .u8 0, .int .u8 0, .int .u8 0, .int .u8 0, .int .u8 0, .int .u8 0, .int .u8 0, .int .u8 0, .int .u8 0, .int .u8 0, .int .u8 0, .int .u8 0, .int .u8 0, .int .u8 0, .int .u8 0, .int .u8 0, .int .u8 0, .int .u8 0, .int .u8 0, .int .u8 0, .int .u8 0, .int .u8 0, .int .u8 0, .int .u8 0, .int .u8 0, .int .u8 0, .int .u8 0, .int .u8 0, .int .u8 0, .int .u8 0] 24) b1.size
  have z2 : (W1.alloc (.cells #[.int .u8 0, .int .u8 0, .int .u8 0, .int .u8 0, .int .u8 0, .int .u8 0, .int .u8 0, .int .u8 0, .int .u8 0, .int .u8 0, .int .u8 0, .int .u8 0, .int .u8 0, .int .u8 0, .int .u8 0, .int .u8 0, .int .u8 0, .int .u8 0, .int .u8 0, .int .u8 0, .int .u8 0, .int .u8 0, .int .u8 0, .int .u8 0, .int .u8 0, .int .u8 0, .int .u8 0, .int .u8 0, .int .u8 0, .int .u8 0, .int .u8 0, .int .u8 0] 24)).heap.size = w.heap.size + 2 := by simp [z1]
  have w2 := Sp.Vw_al w1 (.cells #[.int .u8 0, .int .u8 0, .int .u8 0, .int .u8 0, .int .u8 0, .int .u8 0, .int .u8 0, .int .u8 0, .int .u8 0, .int .u8 0, .int .u8 0, .int .u8 0, .int .u8 0, .int .u8 0, .int .u8 0, .int .u8 0, .int .u8 0, .int .u8 0, .int .u8 0, .int .u8 0, .int .u8 0, .int .u8 0, .int .u8 0, .int .u8 0, .int .u8 0, .int .u8 0, .int .u8 0, .int .u8 0, .int .u8 0, .int .u8 0, .int .u8 0, .int .u8 0] 24)
  rw [z1] at v2
  generalize W1.alloc (.cells #[.int .u8 0, .int .u8 0, .int .u8 0, .int .u8 0, .int .u8 0, .int .u8 0, .int .u8 0, .int .u8 0, .int .u8 0, .int .u8 0, .int .u8 0, .int .u8 0, .int .u8 0, .int .u8 0, .int .u8 0, .int .u8 0, .int .u8 0, .int .u8 0, .int .u8 0, .int .u8 0, .int .u8 0, .int .u8 0, .int .u8 0, .int .u8 0, .int .u8 0, .int .u8 0, .int .u8 0, .int .u8 0, .int .u8 0, .int .u8 0, .int .u8 0, .int .u8 0] 24) = W2 at v2 u2 b2 z2 w2 ⊢
  clear v1 b1 w1 hv
  go_wp2_with fail
  refine (K1.out _ w2).mono ?_
  rintro e w3 ⟨rfl, hb3⟩
  have v3 := Sp.Vb_below v2 hb3
  have u3 := Sp.Vb_below u2 hb3
  have b3 := b2.trans (hb3.mono b2.size)
  have hz3 : w.heap.size + 2 ≤ w3.heap.size := by have := hb3.size; omega
  clear v2 u2 b2 w2 z1 hb3
  dsimp only
  go_step
  go_step
  go_step
  have v4 := Sp.Vb_al v3 (.cells #[.int .u8 0, .int .u8 0, .int .u8 0, .int .u8 0, .int .u8 0, .int .u8 0, .int .u8 0, .int .u8 0, .int .u8 0, .int .u8 0, .int .u8 0, .int .u8 0, .int .u8 0, .int .u8 0, .int .u8 0, .int .u8 0, .int .u8 0, .int .u8 0, .int .u8 0, .int .u8 0, .int .u8 0, .int .u8 0, .int .u8 0, .int .u8 0, .int .u8 0, .int .u8 0, .int .u8 0, .int .u8 0, .int .u8 0, .int .u8 0, .int .u8 0, .int .u8 0] 24)
  have u4 := Sp.Vb_al u3 (.cells #[.int .u8 0, .int .u8 0, .int .u8 0, .int .u8 0, .int .u8 0, .int .u8 0, .int .u8 0, .int .u8 0, .int .u8 0, .int .u8 0, .int .u8 0, .int .u8 0, .int .u8 0, .int .u8 0, .int .u8 0, .int .u8 0, .int .u8 0, .int .u8 0, .int .u8 0, .int .u8 0, .int .u8 0, .int .u8 0, .int .u8 0, .int .u8 0, .int .u8 0, .int .u8 0, .int .u8 0, .int .u8 0, .int .u8 0, .int .u8 0, .int .u8 0, .int .u8 0] 24)
  have s4 := Sp.Vb_zero32 w.heap.size w3 24 b3.size
  have b4 := b3.alloc (o := .cells #[.int .u8 0, .int .u8 0, .int .u8 0, .int .u8 0, .int .u8 0, .int .u8 0, .int .u8 0, .int .u8 0, .int .u8 0, .int .u8 0, .int .u8 0, .int .u8 0, .int .u8 0, .int .u8 0, .int .u8 0, .int .u8 0, .int .u8 0, .int .u8 0, .int .u8 0, .int .u8 0, .int .u8 0, .int .u8 0, .int .u8 0, .int .u8 0, .int .u8 0, .int .u8 0, .int .u8 0, .int .u8 0, .int .u8 0, .int .u8 0, .int .u8 0, .int .u8 0] 24) b3.size
  clear v3 u3 b3
  generalize hg : w3.heap.size = g at hz3 s4 ⊢
  generalize w3.alloc (.cells #[.int .u8 0, .int .u8 0, .int .u8 0, .int .u8 0, .int .u8 0, .int .u8 0, .int .u8 0, .int .u8 0, .int .u8 0, .int .u8 0, .int .u8 0, .int .u8 0, .int .u8 0, .int .u8 0, .int .u8 0, .int .u8 0, .int .u8 0, .int .u8 0, .int .u8 0, .int .u8 0, .int .u8 0, .int .u8 0, .int .u8 0, .int .u8 0, .int .u8 0, .int .u8 0, .int .u8 0, .int .u8 0, .int .u8 0, .int .u8 0, .int .u8 0, .int .u8 0] 24) = W4 at v4 u4 s4 b4 ⊢
  clear hg
  have t1 : W4.there g 0 (h32 (sumf l)).toArray.size := Sp.there32a s4.c s4.f
  have C0 : Sp.CK .u8 g 32 (sumf l) (W4.setCells g 0 (h32 (sumf l)).toArray.toList) := Sp.CK_set32 s4.c s4.f
  have v5 := Sp.Vb_gb v4 (gb_sets g (h32 (sumf l)).toArray.toList 0 W4) (by simp; omega)
  have u5 := Sp.Vb_gb u4 (gb_sets g (h32 (sumf l)).toArray.toList 0 W4) (by simp; omega)
  have b5 : Below w.heap.size w (W4.setCells g 0 (h32 (sumf l)).toArray.toList) := Sp.Bel_sets (by omega) _ _ _ b4
  have hi5 : g < (W4.setCells g 0 (h32 (sumf l)).toArray.toList).heap.size := by rw [size_setCells]; exact s4.hi
  go_step
  refine wpList_store_mid rfl 24 (.tmp 4) (.tmp 8) rfl g 0 (h32 (sumf l)).toArray rfl rfl t1 Sp.info32a (all_oneCell_toArray (h32_one (sumf l))) ?_
  refine wpList_nil ?_
  generalize W4.setCells g 0 (h32 (sumf l)).toArray.toList = W5 at C0 v5 u5 b5 hi5 ⊢
  clear t1 s4 v4 u4 b4
  go_upto_region 4 with fail
  go_loopw [11] (fun s wr => ∃ i : Nat, i ≤ 3 ∧ s = .int .i64 i ∧ Sp.Vb .u8 w.heap.size (w.heap.size + 1) 32 (FB (tk l i)) wr ∧ Sp.Vb .u8 w.heap.size w.heap.size 32 (fun _ => 0) wr ∧ Sp.CK .u8 g 32 (sumf l) wr ∧ g < wr.heap.size ∧ Below w.heap.size w wr) (fun s _ => (3 - intOf s).toNat)
  case atStart => exact ⟨0, by omega, rfl, by show Sp.Vb _ _ _ _ (FB fun _ => false) _; rw [FB_none]; exact v5, u5, C0, hi5, b5⟩
  case round =>
    clear v5 u5 C0 hi5 b5
    obtain ⟨k, hk, rfl, v0, u0, c0, hi, b0⟩ := hrel
    by_cases hlt : k < 3
    · obtain ⟨N, hN⟩ : ∃ N : Nat, sumf l k = (N : Int) := ⟨(sumf l k).toNat, by have := sumf_nn l k; omega⟩
      have hN2 : N < 256 := by have := sumf_lt l k; omega
      have c1 := c0 k (by omega)
      rw [hN] at c1
      have c2 := v0.c (N / 8) (by omega)
      have f2 := v0.f (N / 8)
      have e2 : tk l (k + 1) = ad (tk l k) N := by show ad (tk l k) (sumf l k).toNat = _; rw [hN]; rfl
      have d1 : (k : Int) < 3 := by omega
      have d0 : (0 : Int) ≤ (k : Int) := by omega
      have d2 : (0 : Int) ≤ (N : Int) / 8 := by omega
      have d3 : (N : Int) / 8 < 32 := by omega
      have t1 : ((N : Int) / 8).toNat = N / 8 := by omega
      have d4 : (0 : Int) ≤ (N : Int) % 8 := by omega
      have t2 : ((N : Int) % 8).toNat = N % 8 := by omega
      have HC : Hid (Sp.CK .u8 g 32 (sumf l) wr) := c0
      clear c0 hN
      go_wp2_with fail
      go_roundw
      case rel =>
        refine ⟨k + 1, by omega, by go_num, ?_, Sp.Vb_other u0 (by dsimp only; omega), Sp.CK_other HC.out (by dsimp only; omega), by simpa using hi, b0.setCell (by dsimp only; omega) _⟩
        rw [e2]
        refine FB_or v0 hN2 ?_
        rw [sh_val _ (Nat.mod_lt _ (by decide))]
      case measure => simp [intOf]; omega
    · have hk3 : k = 3 := by omega
      subst hk3
      rw [tk_tb] at v0
      have r1 := Sp.range32 v0.c
      have t1 : wr.there w.heap.size 0 (h32 (FB (tb l))).toArray.size := Sp.there32a u0.c u0.f
      have C0 : Hid (Sp.CK .u8 w.heap.size 32 (FB (tb l)) (wr.setCells w.heap.size 0 (h32 (FB (tb l))).toArray.toList)) := Sp.CK_set32 u0.c u0.f
      have HB : Hid (Below w.heap.size w (wr.setCells w.heap.size 0 (h32 (FB (tb l))).toArray.toList)) := Sp.Bel_sets (Nat.le_refl _) _ _ _ b0
      clear v0 u0 b0 c0
      go_upto_region 8 with fail
      refine wp_region_lit ?_
      refine wpList_load_mid rfl 24 (.tmp 3) rfl (w.heap.size + 1) 0 rfl (h32 (FB (tb l))) _ r1 Try.underlying24 rfl Sp.info32 ?_
      refine wpList_store_mid rfl 24 (.tmp 2) (.tmp 25) rfl w.heap.size 0 (h32 (FB (tb l))).toArray rfl rfl t1 Sp.info32a (all_oneCell_toArray (h32_one (FB (tb l)))) ?_
      refine wpList_nil ?_
      generalize wr.setCells w.heap.size 0 (h32 (FB (tb l))).toArray.toList = W4 at C0 HB ⊢
      generalize (h32 (FB (tb l))).toArray = cs
      go_wp2_with fail
      refine bodyPost_ret (v := Hv (FB (tb l))) (Sp.result32 _ _ _ w.heap.size 2 _ rfl rfl C0.out) rfl ⟨rfl, HB.out⟩
end Bl
end Go.Proofs.Ytcgjkombefhjmaa
/- bloom.May, bloom.Of. -/
namespace Go.Proofs.Ytcgjkombefhjmaa
namespace Bl
open Go.RowKit Sp
set_option maxRecDepth 100000 in
theorem st {K : Value → World → Prop} {a : Act} {o : Oper} {s g : Nat} {V : Operand} {F G : Nat → Int} {w : World} (ho : o.op = .store 24 (.tmp s) V) (ha : a.eval (.tmp s) = .pointer (some ⟨g, 0, none⟩)) (hv : a.eval V = Hv G)
    (hc : Sp.CK .u8 g 32 F w) (hf : Sp.Fz g w) (hK : K undef (w.setCells g 0 (h32 G).toArray.toList)) : RS.upv Try.prog K ((execOp a.eval o).run Try.prog w) := by
  obtain ⟨dst, op, ty, pos, after, guard⟩ := o
  simp only at ho
  subst ho
  generalize a.eval = ρ at *
  unfold execOp
  simp only [ha, hv, Hv, Instr.storeAt, Instr.sureAddr, Sem.run_bind, Sem.run_pure, Result.andThen_ok, run_storeVar_mid w g 0 24 (h32 G).toArray (there32a hc hf) info32a (all_oneCell_toArray (h32_one G))]
  exact hK
theorem Mem_set {w : World} {g : Nat} {P Q : Nat → Bool} {L : List (Nat × (Nat → Bool))} {w1 : World} (h : Mem w ((g, P) :: L) w1) (hL : ∀ x ∈ L, x.1 ≠ g) : Mem w ((g, Q) :: L) (w1.setCells g 0 (h32 (FB Q)).toArray.toList) := by
  have v := h.v (g, P) (by simp)
  refine ⟨fun x hx => ?_, Bel_sets v.lo _ _ _ h.b⟩
  rcases List.mem_cons.1 hx with rfl | hx
  · exact ⟨v.lo, by rw [size_setCells]; exact v.hi, CK_set32 v.c v.f, Fz_sets v.f _ _⟩
  · exact Sp.Vb_gb (h.v x (List.mem_cons_of_mem _ hx)) (gb_sets g _ 0 w1) (hL x hx)
theorem Mem_sub {w : World} {L M : List (Nat × (Nat → Bool))} {w1 : World} (h : Mem w L w1) (hs : ∀ x ∈ M, x ∈ L) : Mem w M w1 := ⟨fun x hx => h.v x (hs x hx), h.b⟩
theorem Mem_zero {w : World} {L : List (Nat × (Nat → Bool))} {w1 : World} (h : Mem w L w1) : Mem w ((w1.heap.size, fun _ => false) :: L) (w1.alloc (.cells #[.int .u8 0, .int .u8 0, .int .u8 0, .int .u8 0, .int .u8 0, .int .u8 0, .int .u8 0, .int .u8 0, .int .u8 0, .int .u8 0, .int .u8 0, .int .u8 0, .int .u8 0, .int .u8 0, .int .u8 0, .int .u8 0, .int .u8 0, .int .u8 0, .int .u8 0, .int .u8 0, .int .u8 0, .int .u8 0, .int .u8 0, .int .u8 0, .int .u8 0, .int .u8 0, .int .u8 0, .int .u8 0, .int .u8 0, .int .u8 0, .int .u8 0, .int .u8 0] 24)) := by
  refine ⟨fun x hx => ?_, h.b.alloc h.b.size _⟩
  rcases List.mem_cons.1 hx with rfl | hx
  · show Sp.Vb _ _ _ _ (FB fun _ => false) _
    rw [FB_none]
    exact Sp.Vb_zero32 _ _ _ h.b.size
  · exact Sp.Vb_al (h.v x hx) _
/-- What a function answers: a filter in its variable. -/
theorem Mem_CK {w : World} {g : Nat} {P : Nat → Bool} {L : List (Nat × (Nat → Bool))} {w1 : World} (h : Mem w L w1) (hm : (g, P) ∈ L) : Sp.CK .u8 g 32 (FB P) w1 := (h.v (g, P) hm).c
set_option maxHeartbeats 2000000 in
set_option maxRecDepth 100000 in
theorem may_any (P : Nat → Bool) (l : List UInt8) (ao : Option Addr) (cap : Nat) (w : World) (hl : (l.length : Int) ≤ 140737488355328) (hv : Sp.Vw l ao w) :
    Calls Try.prog 13 #[Hv (FB P), .slice ao l.length cap] w fun e w' => e = .returned (.bool (wi (tb l) P)) ∧ Below w.heap.size w w' := by
  have K1 : Hid (∀ w : World, Sp.Vw l ao w → Calls Try.prog 17 #[.slice ao l.length cap] w fun e w' => e = .returned (Hv (FB (tb l))) ∧ Below w.heap.size w w') := fun w hv => bitsOf_any l ao cap w hl hv
  have K2 : Hid (∀ w : World, Calls Try.prog 11 #[Hv (FB (tb l)), Hv (FB P)] w fun e w' => e = .returned (.bool (wi (tb l) P)) ∧ Below w.heap.size w w') := fun w => within_any (tb l) P w
  clear hl
  go_enter Try.func13, Try.ntmps13
  go_upto_region 1 with fail
  dsimp only [Hv]
  have m0 := Mem_nil w
  have m1 := Mem_box m0 (P) 24
  have z1 : (w.alloc (.cells (h32 (FB (P))).toArray 24)).heap.size = w.heap.size + 1 := by simp
  generalize w.alloc (.cells (h32 (FB (P))).toArray 24) = W1 at m1 z1 ⊢
  generalize (h32 (FB (P))).toArray = c0
  clear  m0 z1
  refine RS.wp_region_one (Mem w [(w.heap.size, P)]) (by kernel_rfl) (by kernel_rfl) (Mem_drew m1) ?_
  dsimp only [List.toList_toArray]
  refine RS.go1 (v := ?_) (a' := ?_) rfl ?_ ?_ ?_
  rotate_left 2
  · intro K wx hS hK
    go_simp
    exact hK _ hS
  · simp only [Act.put, List.setIfInBounds_toArray, List.set_cons_succ, List.set_cons_zero]
    rfl
  refine RS.go1 (v := ?_) (a' := ?_) rfl ?_ ?_ ?_
  rotate_left 2
  · intro K wx hS hK
    go_simp
    refine (K1.out wx (Sp.Vw_below hv hS.b)).mono (fun e w2 he => ?_)
    refine ⟨_, he.1, ?_⟩
    exact hK _ (Mem_below hS he.2)
  · simp only [Act.put, List.setIfInBounds_toArray, List.set_cons_succ, List.set_cons_zero]
    rfl
  refine RS.go1 (v := ?_) (a' := ?_) rfl ?_ ?_ ?_
  rotate_left 2
  · intro K wx hS hK
    refine ld rfl rfl (hS.v (w.heap.size, P) (by simp)).c ?_
    exact hK _ hS
  · simp only [Act.put, List.setIfInBounds_toArray, List.set_cons_succ, List.set_cons_zero]
    rfl
  refine RS.go1 (v := ?_) (a' := ?_) rfl ?_ ?_ ?_
  rotate_left 2
  · intro K wx hS hK
    go_simp
    refine (K2.out wx).mono (fun e w2 he => ?_)
    refine ⟨_, he.1, ?_⟩
    exact hK _ (Mem_below hS he.2)
  · simp only [Act.put, List.setIfInBounds_toArray, List.set_cons_succ, List.set_cons_zero]
    rfl
  refine RS.go1 (v := ?_) (a' := ?_) rfl ?_ ?_ ?_
  rotate_left 2
  · intro K wx hS hK
    go_simp
    exact hK _ hS
  · simp only [Act.put, List.setIfInBounds_toArray, List.set_cons_succ, List.set_cons_zero]
    rfl
  refine RS.go_end ?_
  intro w9 m9
  have b9 := m9.b
  clear m9 m1
  go_wp2_with fail
  go_ret
  exact ⟨rfl, b9⟩
theorem step_wb (k n : Nat) (h : k < n) (hn : Hid (n ≤ 4194304)) : Hid (wrap64 ((k : Int) + 1) = k + 1) := by
  have := hn.out
  show _ = _
  unfold wrap64; omega
theorem of_take (ps : List (List UInt8)) (k : Nat) (h : k < ps.length) : of (ps.take (k + 1)) = jn (of (ps.take k)) (tb (ps.getD k [])) := by
  funext n
  unfold of jn
  rw [List.take_succ_eq_append_getElem h, List.any_append]
  simp [h]
theorem len_le {ps : List (List UInt8)} {k : Nat} (h : k < ps.length) : (ps.getD k []).length ≤ ps.flatten.length := by
  have := pre_succ ps k h
  have h2 := pre_le ps (k + 1)
  rw [this, List.length_append] at h2
  omega
set_option maxHeartbeats 2000000 in
set_option maxRecDepth 100000 in
theorem of_big (ps : List (List UInt8)) (v : Value) (w : World) (hps : Hid (ps.flatten.length ≤ 4194304)) (hn : Hid (ps.length ≤ 4194304)) (h : Ls ps v w) :
    Calls Try.prog 7 #[v] w fun e w' => e = .returned (Hv (FB (of ps))) ∧ Below w.heap.size w w' := by
  have HL : Hid (Ls ps v w) := h
  obtain ⟨ao, cap, rfl, hL⟩ := h
  clear hL
  obtain ⟨n, en⟩ : ∃ n, n = ps.length := ⟨_, rfl⟩
  rw [← en] at HL hn ⊢
  have EN : Hid (n = ps.length) := en
  clear en
  go_enter Try.func7, Try.ntmps7
  go_upto_region 1 with fail
  have m1 := Mem_zero (Mem_nil w)
  have z1 : (w.alloc (.cells #[.int .u8 0, .int .u8 0, .int .u8 0, .int .u8 0, .int .u8 0, .int .u8 0, .int .u8 0, .int .u8 0, .int .u8 0, .int .u8 0, .int .u8 0, .int .u8 0, .int .u8 0, .int .u8 0, .int .u8 0, .int .u8 0, .int .u8 0, .int .u8 0, .int .u8 0, .int .u8 0, .int .u8 0, .int .u8 0, .int .u8 0, .int .u8 0, .int .u8 0, .int .u8 0, .int .u8 0, .int .u8 0, .int .u8 0, .int .u8 0, .int .u8 0, .int .u8 0] 24)).heap.size = w.heap.size + 1 := by simp
  generalize w.alloc (.cells #[.int .u8 0, .int .u8 0, .int .u8 0, .int .u8 0, .int .u8 0, .int .u8 0, .int .u8 0, .int .u8 0, .int .u8 0, .int .u8 0, .int .u8 0, .int .u8 0, .int .u8 0, .int .u8 0, .int .u8 0, .int .u8 0, .int .u8 0, .int .u8 0, .int .u8 0, .int .u8 0, .int .u8 0, .int .u8 0, .int .u8 0, .int .u8 0, .int .u8 0, .int .u8 0, .int .u8 0, .int .u8 0, .int .u8 0, .int .u8 0, .int .u8 0, .int .u8 0] 24) = W1 at m1 z1 ⊢
  go_upto_region 2 with fail
  have m2 := Mem_zero m1
  rw [z1] at m2
  generalize W1.alloc (.cells #[.int .u8 0, .int .u8 0, .int .u8 0, .int .u8 0, .int .u8 0, .int .u8 0, .int .u8 0, .int .u8 0, .int .u8 0, .int .u8 0, .int .u8 0, .int .u8 0, .int .u8 0, .int .u8 0, .int .u8 0, .int .u8 0, .int .u8 0, .int .u8 0, .int .u8 0, .int .u8 0, .int .u8 0, .int .u8 0, .int .u8 0, .int .u8 0, .int .u8 0, .int .u8 0, .int .u8 0, .int .u8 0, .int .u8 0, .int .u8 0, .int .u8 0, .int .u8 0] 24) = W2 at m2 ⊢
  clear m1 z1
  go_upto_region 3 with fail
  go_loopw [8] (fun i wr => ∃ k : Nat, k ≤ n ∧ i = .int .i64 (k : Int) ∧ Mem w [(w.heap.size + 1, of (ps.take k)), (w.heap.size, fun _ => false)] wr) (fun i _ => ((n : Int) - intOf i).toNat)
  case atStart => exact ⟨0, Nat.zero_le _, rfl, m2⟩
  case round =>
    clear m2
    obtain ⟨k, hk, rfl, m0⟩ := hrel
    by_cases hlt : k < n
    · have en := EN.out
      have hLw := fun wx (hb : Below w.heap.size w wx) => Ls_below HL.out hb
      obtain ⟨ao2, cap2, e2, hL2⟩ := HL.out
      obtain ⟨gp, op, hao, hgp, hcell⟩ := hL2 (by omega)
      obtain ⟨vi, c1, hsl⟩ := hcell k (by omega)
      have hao2 : ao = some ⟨gp, op, none⟩ := by
        rw [← hao]
        injection e2
      subst hao2
      have c2 := (m0.b.cell (p := ⟨gp, op + k, none⟩) hgp).trans c1
      have htk := of_take ps k (by omega)
      have hln := len_le (ps := ps) (k := k) (by omega)
      have hps2 := hps.out
      obtain ⟨bo, bap, rfl, hbap, hvw⟩ := hsl
      generalize hP : of (ps.take k) = P at m0 htk
      generalize ht : ps.getD k [] = t at htk hln c2 hvw c1
      have K1 : Hid (∀ wx : World, Below w.heap.size w wx → Calls Try.prog 17 #[.slice bo t.length bap] wx fun e w' => e = .returned (Hv (FB (tb t))) ∧ Below wx.heap.size wx w') := fun wx hb => bitsOf_any t bo bap wx (by omega) (Sp.Vw_below hvw hb)
      have K2 : Hid (∀ wx : World, Calls Try.prog 9 #[Hv (FB P), Hv (FB (tb t))] wx fun e w' => e = .returned (Hv (FB (jn P (tb t)))) ∧ Below wx.heap.size wx w') := fun wx => join_any P (tb t) wx
      have HT : Hid (of (ps.take (k + 1)) = jn P (tb t)) := htk
      have d0 : (k : Int) < (n : Int) := by omega
      have d1 : (0 : Int) ≤ (k : Int) := by omega
      clear hcell hL2 e2 hao hgp en hLw c1 htk hln hps2 hbap hvw ht hP
      go_upto_region 5 with fail
      clear c2 d1
      refine RS.wp_region_two (Mem w [(w.heap.size + 1, P), (w.heap.size, fun _ => false)]) (Mem w [(w.heap.size + 1, jn P (tb t)), (w.heap.size, fun _ => false)]) 4 (by kernel_rfl) (by kernel_rfl) (by decide) (Mem_drew m0) ?_
      dsimp only [List.toList_toArray]
      refine RS.go2 (v := ?_) (a' := ?_) (by decide) rfl ?_ ?_ ?_
      rotate_left 2
      · intro K wx hS hK
        refine ld rfl rfl (hS.v (w.heap.size + 1, P) (by simp)).c ?_
        exact hK _ hS
      · simp only [Act.put, List.setIfInBounds_toArray, List.set_cons_succ, List.set_cons_zero]
        rfl
      refine RS.go2 (v := ?_) (a' := ?_) (by decide) rfl ?_ ?_ ?_
      rotate_left 2
      · intro K wx hS hK
        go_simp
        exact hK _ hS
      · simp only [Act.put, List.setIfInBounds_toArray, List.set_cons_succ, List.set_cons_zero]
        rfl
      refine RS.go2 (v := ?_) (a' := ?_) (by decide) rfl ?_ ?_ ?_
      rotate_left 2
      · intro K wx hS hK
        go_simp
        refine (K1.out wx hS.b).mono (fun e w2 he => ?_)
        refine ⟨_, he.1, ?_⟩
        exact hK _ (Mem_below hS he.2)
      · simp only [Act.put, List.setIfInBounds_toArray, List.set_cons_succ, List.set_cons_zero]
        rfl
      refine RS.go2 (v := ?_) (a' := ?_) (by decide) rfl ?_ ?_ ?_
      rotate_left 2
      · intro K wx hS hK
        go_simp
        refine (K2.out wx).mono (fun e w2 he => ?_)
        refine ⟨_, he.1, ?_⟩
        exact hK _ (Mem_below hS he.2)
      · simp only [Act.put, List.setIfInBounds_toArray, List.set_cons_succ, List.set_cons_zero]
        rfl
      refine RS.go2_last (v := ?_) (a' := ?_) rfl (by kernel_rfl) rfl ?_ ?_ ?_
      rotate_left 2
      · intro K wx hS hK
        refine st rfl rfl rfl (hS.v (w.heap.size + 1, P) (by simp)).c (hS.v (w.heap.size + 1, P) (by simp)).f ?_
        exact hK _ (Mem_set hS (by simp))
      · exact rfl
      intro w9 m9
      clear m0 K1 K2
      have hw := step_wb k n hlt hn
      have HM : Hid (Mem w [(w.heap.size + 1, jn P (tb t)), (w.heap.size, fun _ => false)] w9) := m9
      clear m9
      go_wp2_with fail
      go_roundw
      case rel => exact ⟨k + 1, hlt, Pk.step_v k _ hw.out, by rw [HT.out]; exact HM.out⟩
      case measure => exact Pk.msr k n hlt _ hw.out
    · have hkn : k = n := by omega
      subst hkn
      rw [EN.out, List.take_length] at m0
      have d0 : ¬ ((k : Int) < (k : Int)) := by omega
      have v0 := m0.v (w.heap.size, fun _ => false) (by simp)
      have r1 := range32 (Mem_CK m0 (g := w.heap.size + 1) (P := of ps) (by simp))
      have t1 : wr.there w.heap.size 0 (h32 (FB (of ps))).toArray.size := there32a v0.c v0.f
      have C0 : Hid (Sp.CK .u8 w.heap.size 32 (FB (of ps)) (wr.setCells w.heap.size 0 (h32 (FB (of ps))).toArray.toList)) := CK_set32 v0.c v0.f
      have HB : Hid (Below w.heap.size w (wr.setCells w.heap.size 0 (h32 (FB (of ps))).toArray.toList)) := Bel_sets (Nat.le_refl _) _ _ _ m0.b
      clear m0 v0
      go_upto_region 7 with fail
      refine wp_region_lit ?_
      refine wpList_load_mid rfl 24 (.tmp 3) rfl (w.heap.size + 1) 0 rfl (h32 (FB (of ps))) _ r1 Try.underlying24 rfl info32 ?_
      refine wpList_store_mid rfl 24 (.tmp 2) (.tmp 17) rfl w.heap.size 0 (h32 (FB (of ps))).toArray rfl rfl t1 info32a (all_oneCell_toArray (h32_one (FB (of ps)))) ?_
      refine wpList_nil ?_
      generalize wr.setCells w.heap.size 0 (h32 (FB (of ps))).toArray.toList = W4 at C0 HB ⊢
      generalize (h32 (FB (of ps))).toArray = cs
      go_wp2_with fail
      refine bodyPost_ret (v := Hv (FB (of ps))) (result32 _ _ _ w.heap.size 2 _ rfl rfl C0.out) rfl ⟨rfl, HB.out⟩
theorem of_any (ps : List (List UInt8)) (v : Value) (w : World) (hps : Hid (ps.flatten.length ≤ 1048576)) (hn : Hid (ps.length ≤ 1048576)) (h : Ls ps v w) :
    Calls Try.prog 7 #[v] w fun e w' => e = .returned (Hv (FB (of ps))) ∧ Below w.heap.size w w' := of_big ps v w (Nat.le_trans hps.out (by decide)) (Nat.le_trans hn.out (by decide)) h
end Bl
end Go.Proofs.Ytcgjkombefhjmaa
/- A region that draws its order among its first operations alone, the others one behind the other. -/
namespace Go.Proofs.Ytcgjkombefhjmaa
namespace RS
open RI
variable {P : Program} {ops : Array Oper} {Q : Exit → Act → World → Prop}
/-- From k on each operation is bound to all ahead of it. -/
def tailOk (ops : Array Oper) (k : Nat) : Bool := (List.range ops.size).all fun j => decide (j < k) || ((ops[j]?).map fun o => (List.range j).all fun i => bindsOn o i).getD true
theorem bindsOn_spec {x : Oper} {j : Nat} (h : bindsOn x j = true) : ∃ e, e ∈ x.after ∧ Region.binds .any e = true ∧ e.on = j := by
  unfold bindsOn at h
  rw [Array.any_eq_true'] at h
  obtain ⟨e, h1, h2⟩ := h
  rw [Bool.and_eq_true, beq_iff_eq] at h2
  exact ⟨e, h1, h2.1, h2.2⟩
/-- The first k in the text's order, whatever order is drawn; the others one behind the other. -/
theorem wp_region_tail {id : Nat} {a : Act} {w : World} (S : World → Prop) (k : Nat) (hm : P.follows .mixedOrders = true) (hok : okOps ops = true) (ht : tailOk ops k = true) (h0 : S w.drew)
    (hs : Seq P ops (fun _ => S) (fun a' => ∀ w', S w' → wpList P ops Q (ops.toList.drop k) a' w') 0 (ops.toList.take k) a) : (Code.region id ops true).wp P Q a w := by
  have hok' := hok
  unfold okOps at hok'
  rw [Bool.and_eq_true] at hok'
  obtain ⟨he, hp⟩ := hok'
  by_cases hk : k ≤ ops.size
  case neg =>
    refine wp_region_seq (fun _ => S) hm hok h0 ?_
    have e1 : ops.toList.take k = ops.toList := List.take_of_length_le (by simp; omega)
    have e2 : ops.toList.drop k = [] := List.drop_eq_nil_of_le (by simp; omega)
    rw [e1, e2] at hs
    have : ∀ l i a, Seq P ops (fun _ => S) (fun a' => ∀ w', S w' → wpList P ops Q [] a' w') i l a → Seq P ops (fun _ => S) (fun a' => ∀ (d : Nat → Bool) w', S w' → (∀ i, i < ops.size → d i = true) → Q .normal a' w') i l a := by
      intro l
      induction l with
      | nil => intro i a h d w' hI _; exact h w' hI
      | cons o r ih => intro i a h; obtain ⟨v, h1, h2⟩ := h; exact ⟨v, h1, ih _ _ h2⟩
    exact this _ _ _ hs
  have hlen : (ops.toList.take k).length = k := by simp; omega
  -- the first k alone
  have vals : ∀ (l : List Oper) (m : Nat) (V : Nat → Value), (∀ j o, l[j]? = some o → ops[m + j]? = some o) → Seq P ops (fun _ => S) (fun a' => ∀ w', S w' → wpList P ops Q (ops.toList.drop k) a' w') m l (fr ops V tt a m) →
      ∃ V', (∀ j, j < m → V' j = V j) ∧ (∀ j o, l[j]? = some o → Step P ops (fun _ => S) (m + j) o (V' (m + j)) (fr ops V' tt a (m + j))) ∧ ∀ w', S w' → wpList P ops Q (ops.toList.drop k) (fr ops V' tt a (m + l.length)) w' := by
    intro l
    induction l with
    | nil => intro m V _ h; exact ⟨V, fun _ _ => rfl, fun j o hj => by simp at hj, by simpa [Seq] using h⟩
    | cons o r ih =>
      intro m V hl h
      obtain ⟨v, h1, h2⟩ := h
      have hkm : ops[m]? = some o := by simpa using hl 0 o rfl
      have frV : ∀ V1 V2 : Nat → Value, ∀ n, (∀ j, j < n → V1 j = V2 j) → fr ops V1 tt a n = fr ops V2 tt a n := by
        intro V1 V2 n
        induction n with
        | zero => intro _; rfl
        | succ n ih => intro hv; rw [fr, fr, ih (fun j hj => hv j (by omega)), hv n (by omega)]
      let W : Nat → Value := fun j => if j = m then v else V j
      have hW : fr ops W tt a (m + 1) = (fr ops V tt a m).put o.dst v := by
        rw [fr, frV W V m (fun j hj => by simp only [W]; rw [if_neg (by omega)])]
        simp [tt, hkm, W]
      rw [← hW] at h2
      obtain ⟨V', e1, e2, e3⟩ := ih (m + 1) W (fun j o' hj => by have := hl (j + 1) o' (by simpa using hj); rwa [show m + (j + 1) = m + 1 + j by omega] at this) h2
      refine ⟨V', fun j hj => ?_, fun j o' hj => ?_, ?_⟩
      · rw [e1 j (by omega)]; simp only [W]; rw [if_neg (by omega)]
      · cases j with
        | zero =>
          have : o' = o := by simpa using hj.symm
          subst this
          rw [Nat.add_zero, e1 m (by omega), frV V' V m (fun j hj => by rw [e1 j (by omega)]; simp only [W]; rw [if_neg (by omega)])]
          simpa [W] using h1
        | succ j => rw [show m + (j + 1) = m + 1 + j by omega]; exact e2 j o' (by simpa using hj)
      · rw [show m + (o :: r).length = m + 1 + r.length by simp; omega]; exact e3
  obtain ⟨V, _, hst, hE⟩ := vals (ops.toList.take k) 0 (fun _ => undef) (fun j o hj => by
    rw [List.getElem?_take] at hj
    split at hj
    · simpa using hj
    · cases hj) hs
  simp only [Nat.zero_add] at hst hE
  rw [hlen] at hE
  have pair : ∀ (i j : Nat) (x y : Oper) (t : Nat), ops[i]? = some x → ops[j]? = some y → y.dst = some t → (x.dst = some t → i = j) ∧ (t ∈ x.looksAt ops → (j < i ∧ bindsOn x j = true) ∨ (i < j ∧ bindsOn y i = true)) := by
    intro i j x y t hx hy ht
    have hi : i < ops.size := (Array.getElem?_eq_some_iff.1 hx).1
    have hj : j < ops.size := (Array.getElem?_eq_some_iff.1 hy).1
    have h1 := List.all_eq_true.1 hp i (List.mem_range.2 hi)
    rw [Bool.and_eq_true] at h1
    have h2 := List.all_eq_true.1 h1.2 j (List.mem_range.2 hj)
    unfold pairOk at h2
    simp only [hx, hy, ht] at h2
    simp at h2
    refine ⟨fun e => h2.1.resolve_left (fun h => h e), fun hm => ?_⟩
    rcases h2.2 with (h | h) | h
    · exact absurd hm h
    · exact .inl h
    · exact .inr h
  have nosel : ∀ (i : Nat) (x : Oper) cs b, ops[i]? = some x → x.op ≠ .select cs b := by
    intro i x cs b hx hc
    have hi : i < ops.size := (Array.getElem?_eq_some_iff.1 hx).1
    have h1 := List.all_eq_true.1 hp i (List.mem_range.2 hi)
    rw [Bool.and_eq_true, hx] at h1
    simp [hc, isSel] at h1
  have tailb : ∀ (d : Nat → Bool) (j : Nat), k ≤ j → j < ops.size → may ops d j → ∀ i, i < j → d i = true := by
    intro d j hkj hj hmay i hij
    have h1 := List.all_eq_true.1 ht j (List.mem_range.2 hj)
    rw [Bool.or_eq_true, Array.getElem?_eq_getElem hj] at h1
    rcases h1 with h1 | h1
    · rw [decide_eq_true_eq] at h1; omega
    · simp only [Option.map_some, Option.getD_some] at h1
      obtain ⟨e, e1, e2, e3⟩ := bindsOn_spec (List.all_eq_true.1 h1 i (List.mem_range.2 hij))
      have h2 := hmay.2 _ (Array.getElem?_eq_getElem hj)
      rw [Array.all_eq_true_iff_forall_mem] at h2
      have h3 := h2 e e1
      rw [e2, e3] at h3
      simpa using h3
  let J1 : (Nat → Bool) → Act → World → Prop := fun d x wx => x = fr ops V d a ops.size ∧ S wx ∧ (∀ j o, ops[j]? = some o → d j = true → ∀ e, e ∈ o.after → Region.binds .any e = true → d e.on = true) ∧ (∀ j, k ≤ j → d j = false) ∧ ∃ j, j < k ∧ d j = false
  let J2 : (Nat → Bool) → Act → World → Prop := fun d x wx => ∃ m, k ≤ m ∧ (∀ j, d j = decide (j < m)) ∧ wpList P ops Q (ops.toList.drop m) x wx
  have enter : ∀ d x wx, x = fr ops V d a ops.size → S wx → (∀ j, k ≤ j → d j = false) → (∀ j, j < k → d j = true) → J2 d x wx := by
    intro d x wx hx hS hf htr
    refine ⟨k, Nat.le_refl _, fun j => ?_, ?_⟩
    · by_cases hj : j < k
      · rw [htr j hj, decide_eq_true hj]
      · rw [hf j (by omega), decide_eq_false hj]
    · have key : ∀ n, k ≤ n → fr ops V d a n = fr ops V tt a k := by
        intro n
        induction n with
        | zero => intro h; have : k = 0 := by omega
                  subst this; rfl
        | succ n ih =>
          intro h
          by_cases hn : k ≤ n
          · rw [fr, hf n hn, ih hn]; simp
          · have : k = n + 1 := by omega
            subst this
            exact fr_congr V a d tt (n + 1) (fun j hj => htr j hj)
      rw [hx, key ops.size hk]
      exact hE wx hS
  refine wp_region_inv (fun d x wx => J1 d x wx ∨ J2 d x wx) hm he ?_ ?_ ?_
  · have hz : fr ops V (fun _ => false) a ops.size = a := by
      have : ∀ k, fr ops V (fun _ => false) a k = a := by
        intro k
        induction k with
        | zero => rfl
        | succ k ih => rw [fr, ih]; simp
      exact this _
    by_cases hk0 : k = 0
    · exact .inr (enter _ _ _ hz.symm h0 (fun _ _ => rfl) (fun j hj => by omega))
    · exact .inl ⟨hz.symm, h0, (fun _ _ _ h => by cases h), (fun _ _ => rfl), 0, by omega, rfl⟩
  · rintro d x wx i (⟨rfl, hI, hcl, hfz, j0, hj0, hdj0⟩ | ⟨m, hkm, hd, hw⟩) hi hmay
    · have hik : i < k := by
        rcases Nat.lt_or_ge i k with h | h
        · exact h
        · have := tailb d i h hi hmay j0 (by omega)
          rw [hdj0] at this; cases this
      obtain ⟨o, ho⟩ : ∃ o, ops[i]? = some o := ⟨ops[i], Array.getElem?_eq_getElem hi⟩
      have hdeps : ∀ e, e ∈ o.after → Region.binds .any e = true → d e.on = true := by
        intro e h1 h2
        have := hmay.2 o ho
        rw [Array.all_eq_true_iff_forall_mem] at this
        have := this e h1
        rw [h2] at this
        simpa using this
      have hsame : ∀ t, t ∈ o.looksAt ops → (fr ops V d a ops.size).tmps[t]? = (fr ops V tt a i).tmps[t]? := by
        intro t ht
        have := fr_get (ops := ops) V a d i t ops.size (fun j hj hjt => by
          obtain ⟨y, hy⟩ : ∃ y, ops[j]? = some y := ⟨ops[j], Array.getElem?_eq_getElem hj⟩
          rw [hy] at hjt
          rcases (pair i j o y t ho hy hjt).2 ht with ⟨h1, h2⟩ | ⟨h1, h2⟩
          · obtain ⟨e, e1, e2, e3⟩ := bindsOn_spec h2
            exact .inl ⟨h1, e3 ▸ hdeps e e1 e2⟩
          · refine .inr ⟨h1, ?_⟩
            cases hdj : d j with
            | false => rfl
            | true =>
              obtain ⟨e, e1, e2, e3⟩ := bindsOn_spec h2
              have := hcl j y hy hdj e e1 e2
              rw [e3, hmay.1] at this; cases this)
        rw [this, show min ops.size i = i by omega]
      have hex : execOp (fr ops V d a ops.size).eval o = execOp (fr ops V tt a i).eval o := by
        refine execOp_congr o (fun cs b => nosel i o cs b ho) (fun x hx => ?_)
        cases x with
        | tmp t => exact eval_get (hsame t (mem_looks hx))
        | _ => rfl
      have hwa := wanted_get hsame
      have hput : ∀ v, v = V i → (fr ops V d a ops.size).put o.dst v = fr ops V (don d i) a ops.size := by
        rintro v rfl
        rw [fr_put V a d i hmay.1 ops.size (fun j hj hne t ht => fun hjt => ?_), if_pos hi, ho]
        · rfl
        · obtain ⟨y, hy⟩ : ∃ y, ops[j]? = some y := ⟨ops[j], Array.getElem?_eq_getElem hj⟩
          rw [hy] at hjt
          rw [ho] at ht
          exact hne ((pair i j o y t ho hy hjt).1 ht).symm
      have hclo : ∀ j o', ops[j]? = some o' → don d i j = true → ∀ e, e ∈ o'.after → Region.binds .any e = true → don d i e.on = true := by
        intro j o' hj hdj e e1 e2
        have : d e.on = true := by
          by_cases hji : j = i
          · subst hji
            rw [ho] at hj
            cases hj
            exact hdeps e e1 e2
          · rw [don_other _ _ _ hji] at hdj
            exact hcl j o' hj hdj e e1 e2
        unfold don; split
        · rfl
        · exact this
      have hnext : ∀ x w', x = fr ops V (don d i) a ops.size → S w' → J1 (don d i) x w' ∨ J2 (don d i) x w' := by
        intro x w' hx hS'
        have hf' : ∀ j, k ≤ j → don d i j = false := fun j hj => by rw [don_other _ _ _ (by omega)]; exact hfz j hj
        by_cases hall : ∀ j, j < k → don d i j = true
        · exact .inr (enter _ _ _ hx hS' hf' hall)
        · refine .inl ⟨hx, hS', hclo, hf', ?_⟩
          rw [Classical.not_forall] at hall
          obtain ⟨j, hj⟩ := hall
          rw [Classical.not_imp] at hj
          exact ⟨j, hj.1, by simpa using hj.2⟩
      unfold wpOp
      rw [ho]
      simp only
      rcases hst i o (by rw [List.getElem?_take, if_pos hik]; simpa using ho) with ⟨h1, h2⟩ | ⟨h1, h2, h3⟩
      · rw [hwa, h1, if_pos rfl]
        refine .inl ?_
        unfold Oper.wp
        rw [hex]
        exact upv_upon (h2 _ d wx hI hmay (fun w' hI' => hnext _ _ (hput _ rfl) hI'))
      · rw [hwa, h1]
        simp only [Bool.false_eq_true, if_false]
        exact hnext _ _ (hput _ h2.symm) (h3 d wx hI hmay)
    · have him : i = m := by
        have h1 : ¬ i < m := by intro h; have := hmay.1; rw [hd, decide_eq_true h] at this; cases this
        have h2 : ¬ m < i := by
          intro h
          have := tailb d i (by omega) hi hmay m h
          rw [hd, decide_eq_false (by omega)] at this; cases this
        omega
      subst him
      have hdr : ops.toList.drop i = ops[i] :: ops.toList.drop (i + 1) := by
        rw [List.drop_eq_getElem_cons (by simpa using hi)]; simp
      rw [hdr] at hw
      have key : ∀ x' w', wpList P ops Q (ops.toList.drop (i + 1)) x' w' → J1 (don d i) x' w' ∨ J2 (don d i) x' w' := fun x' w' h => .inr ⟨i + 1, by omega, fun j => by
        by_cases hj : j = i
        · subst hj; rw [don_same, decide_eq_true (by omega)]
        · rw [don_other _ _ _ hj, hd, decide_eq_decide]; omega, h⟩
      refine wpOp_mono key ?_
      unfold wpOp
      rw [Array.getElem?_eq_getElem hi]
      exact hw
  · rintro d x wx (⟨_, _, _, _, j, hj, hdj⟩ | ⟨m, hkm, hd, hw⟩) hall
    · have := hall j (by omega)
      rw [hdj] at this; cases this
    · have : ops.size ≤ m := by
        rcases Nat.lt_or_ge m ops.size with h | h
        · have := hall m h
          rw [hd, decide_eq_false (by omega)] at this; cases this
        · exact h
      rw [List.drop_eq_nil_of_le (by simpa using this)] at hw
      exact hw
/-- A region that draws nothing, its first k operations walked by their values. -/
theorem wp_region_flat {id : Nat} {a : Act} {w : World} (S : World → Prop) (k : Nat) (he : RI.early ops = true) (h0 : S w)
    (hs : Seq P ops (fun _ => S) (fun a' => ∀ w', S w' → wpList P ops Q (ops.toList.drop k) a' w') 0 (ops.toList.take k) a) : (Code.region id ops false).wp P Q a w := by
  refine wp_region_list ?_
  have key : ∀ (l : List Oper) (i : Nat) (a : Act) (w : World), (∀ j o, l[j]? = some o → ops[i + j]? = some o) → S w → Seq P ops (fun _ => S) (fun a' => ∀ w', S w' → wpList P ops Q (ops.toList.drop k) a' w') i l a → wpList P ops Q (l ++ ops.toList.drop k) a w := by
    intro l
    induction l with
    | nil => intro i a w _ hS h; exact h w hS
    | cons o r ih =>
      intro i a w hl hS h
      obtain ⟨v, h1, h2⟩ := h
      have hi : ops[i]? = some o := by simpa using hl 0 o rfl
      have hsz : i < ops.size := (Array.getElem?_eq_some_iff.1 hi).1
      have hmay : may ops (fun j => decide (j < i)) i := by
        refine ⟨by simp, fun o' ho' => ?_⟩
        have h3 := List.all_eq_true.1 he i (List.mem_range.2 hsz)
        rw [ho'] at h3
        simp only [Option.map_some, Option.getD_some] at h3
        exact h3
      have hr : ∀ a' w', S w' → a' = a.put o.dst v → wpList P ops Q (r ++ ops.toList.drop k) a' w' := fun a' w' hS' e => by
        subst e
        exact ih (i + 1) _ w' (fun j o' hj => by have := hl (j + 1) o' (by simpa using hj); rwa [show i + (j + 1) = i + 1 + j by omega] at this) hS' h2
      rw [List.cons_append]
      unfold wpList
      rcases h1 with ⟨h3, h4⟩ | ⟨h3, h4, h5⟩
      · rw [if_pos h3]
        refine .inl ?_
        unfold Oper.wp
        exact upv_upon (h4 _ _ w hS hmay (fun w' hS' => hr _ w' hS' rfl))
      · rw [if_neg (by rw [h3]; decide), ← h4]
        exact hr _ w hS rfl
  have := key (ops.toList.take k) 0 a w (fun j o hj => by
    rw [List.getElem?_take] at hj
    split at hj
    · simpa using hj
    · cases hj) h0 hs
  rwa [List.take_append_drop] at this
end RS
end Go.Proofs.Ytcgjkombefhjmaa
/- lampbearerref.JMay, JWithin, JJoin. -/
namespace Go.Proofs.Ytcgjkombefhjmaa
namespace Bl
open Go.RowKit Sp
theorem wi_tb (l : List UInt8) (P : Nat → Bool) (a b c : Nat) (ha : sumf l 0 = (a : Int)) (hb : sumf l 1 = (b : Int)) (hc : sumf l 2 = (c : Int)) : wi (tb l) P = (P a && P b && P c) := by
  have h0 := sumf_lt l 0
  have h1 := sumf_lt l 1
  have h2 := sumf_lt l 2
  rw [Bool.eq_iff_iff, wi_iff, Bool.and_eq_true, Bool.and_eq_true]
  have e : ∀ n : Nat, tb l n = true ↔ n = a ∨ n = b ∨ n = c := fun n => by
    unfold tb
    rw [ha, hb, hc, Bool.or_eq_true, Bool.or_eq_true, decide_eq_true_iff, decide_eq_true_iff, decide_eq_true_iff]
    omega
  constructor
  · intro h
    exact ⟨⟨h a (by omega) ((e a).2 (by simp)), h b (by omega) ((e b).2 (by simp))⟩, h c (by omega) ((e c).2 (by simp))⟩
  · rintro ⟨⟨x, y⟩, z⟩ n hn hp
    rcases (e n).1 hp with rfl | rfl | rfl <;> assumption
structure MS (w : World) (L : List (Nat × (Nat → Bool))) (g : Nat) (F : Nat → Int) (wx : World) : Prop where
  m : Mem w L wx
  c : Sp.CK .u8 g 32 F wx
  h : g < wx.heap.size
theorem MS_below {w : World} {L : List (Nat × (Nat → Bool))} {g : Nat} {F : Nat → Int} {w1 w2 : World} (h : MS w L g F w1) (hb : Below w1.heap.size w1 w2) : MS w L g F w2 := ⟨Mem_below h.m hb, Sp.CK_below h.c hb h.h, Nat.lt_of_lt_of_le h.h hb.size⟩
set_option maxHeartbeats 2000000 in
set_option maxRecDepth 100000 in
theorem jmay_a (P : Nat → Bool) (l : List UInt8) (ao : Option Addr) (cap a b c : Nat) (w : World) (hl : (l.length : Int) ≤ 140737488355328) (hv : Sp.Vw l ao w) (ha : sumf l 0 = (a : Int)) (hb : sumf l 1 = (b : Int)) (hc : sumf l 2 = (c : Int)) (pa : P a = false) :
    Calls Try.prog 14 #[Hv (FB P), .slice ao l.length cap] w fun e w' => e = .returned (.bool false) ∧ Below w.heap.size w w' := by
  have K1 : Hid (∀ w : World, Sp.Vw l ao w → Calls Try.prog 18 #[.slice ao l.length cap] w fun e w' => e = .returned (Hv (sumf l)) ∧ Below w.heap.size w w') := fun w hv => Sp.ssum_any l ao cap w hl hv
  clear hl
  have a2 : a < 256 := by have := sumf_lt l 0; omega
  have b2 : b < 256 := by have := sumf_lt l 1; omega
  have c2 : c < 256 := by have := sumf_lt l 2; omega
  have Ka : Hid (∀ w : World, Calls Try.prog 19 #[Hv (FB P), .int .i64 (a : Int)] w fun e w' => e = .returned (.bool false) ∧ Below w.heap.size w w') := fun w => by rw [← pa]; exact has_any P a a2 w
  have ya : IntKind.i64.wrap (a : Int) = a := by rw [IntKind.wrap_i64]; omega
  have yb : IntKind.i64.wrap (b : Int) = b := by rw [IntKind.wrap_i64]; omega
  have yc : IntKind.i64.wrap (c : Int) = c := by rw [IntKind.wrap_i64]; omega
  have HA : Hid (sumf l 0 = (a : Int)) := ha
  have HB : Hid (sumf l 1 = (b : Int)) := hb
  have HC : Hid (sumf l 2 = (c : Int)) := hc
  clear ha hb hc
  go_enter Try.func14, Try.ntmps14
  go_upto_region 1 with fail
  dsimp only [Hv]
  have m0 := Mem_nil w
  have m1 := Mem_box m0 (P) 24
  have z1 : (w.alloc (.cells (h32 (FB (P))).toArray 24)).heap.size = w.heap.size + 1 := by simp
  generalize w.alloc (.cells (h32 (FB (P))).toArray 24) = W1 at m1 z1 ⊢
  generalize (h32 (FB (P))).toArray = c0
  clear  m0 z1
  have vw := Sp.Vw_below hv m1.b
  go_wp2_with fail
  refine (K1.out _ vw).mono ?_
  rintro e w3 ⟨rfl, hb3⟩
  have m3 := Mem_below m1 hb3
  clear vw m1 hb3 hv
  dsimp only
  go_step
  go_step
  go_step
  have m4 := Mem_al m3 (.cells #[.int .u8 0, .int .u8 0, .int .u8 0, .int .u8 0, .int .u8 0, .int .u8 0, .int .u8 0, .int .u8 0, .int .u8 0, .int .u8 0, .int .u8 0, .int .u8 0, .int .u8 0, .int .u8 0, .int .u8 0, .int .u8 0, .int .u8 0, .int .u8 0, .int .u8 0, .int .u8 0, .int .u8 0, .int .u8 0, .int .u8 0, .int .u8 0, .int .u8 0, .int .u8 0, .int .u8 0, .int .u8 0, .int .u8 0, .int .u8 0, .int .u8 0, .int .u8 0] 24)
  have s4 := Sp.Vb_zero32 w.heap.size w3 24 m3.b.size
  have hz3 : w.heap.size + 1 ≤ w3.heap.size := (m3.v (w.heap.size, P) (by simp)).hi
  generalize hg : w3.heap.size = g at hz3 s4 ⊢
  generalize w3.alloc (.cells #[.int .u8 0, .int .u8 0, .int .u8 0, .int .u8 0, .int .u8 0, .int .u8 0, .int .u8 0, .int .u8 0, .int .u8 0, .int .u8 0, .int .u8 0, .int .u8 0, .int .u8 0, .int .u8 0, .int .u8 0, .int .u8 0, .int .u8 0, .int .u8 0, .int .u8 0, .int .u8 0, .int .u8 0, .int .u8 0, .int .u8 0, .int .u8 0, .int .u8 0, .int .u8 0, .int .u8 0, .int .u8 0, .int .u8 0, .int .u8 0, .int .u8 0, .int .u8 0] 24) = W4 at m4 s4 ⊢
  clear hg m3
  have t1 : W4.there g 0 (h32 (sumf l)).toArray.size := there32a s4.c s4.f
  have C0 : Sp.CK .u8 g 32 (sumf l) (W4.setCells g 0 (h32 (sumf l)).toArray.toList) := CK_set32 s4.c s4.f
  have v5 := Sp.Vb_gb (m4.v (w.heap.size, P) (by simp)) (gb_sets g (h32 (sumf l)).toArray.toList 0 W4) (by dsimp only; omega)
  have b5 : Below w.heap.size w (W4.setCells g 0 (h32 (sumf l)).toArray.toList) := Bel_sets (by omega) _ _ _ m4.b
  have hi5 : g < (W4.setCells g 0 (h32 (sumf l)).toArray.toList).heap.size := by rw [size_setCells]; exact s4.hi
  go_step
  refine wpList_store_mid rfl 24 (.tmp 5) (.tmp 7) rfl g 0 (h32 (sumf l)).toArray rfl rfl t1 info32a (all_oneCell_toArray (h32_one (sumf l))) ?_
  refine wpList_nil ?_
  generalize W4.setCells g 0 (h32 (sumf l)).toArray.toList = W5 at C0 v5 b5 hi5 ⊢
  clear t1 s4 m4
  have m5 : MS w [(w.heap.size, P)] g (sumf l) W5 := ⟨⟨fun x hx => by rw [List.mem_singleton.1 hx]; exact v5, b5⟩, C0, hi5⟩
  clear C0 v5 b5 hi5 a2 b2 c2
  generalize Hv (sumf l) = hs
  go_upto_region 2 with fail
  refine RS.wp_region_flat (MS w [(w.heap.size, P)] g (sumf l)) 20 (by kernel_rfl) (m5) ?_
  simp only [List.take_succ_cons, List.take_zero, List.drop_succ_cons, List.drop_zero]
  refine RS.go1 (v := ?_) (a' := ?_) rfl ?_ ?_ ?_
  rotate_left 2
  · intro K wx hS hK
    refine ld rfl rfl (hS.m.v (w.heap.size, P) (by simp)).c ?_
    exact hK _ hS
  · simp only [Act.put, List.setIfInBounds_toArray, List.set_cons_succ, List.set_cons_zero]
    rfl
  refine RS.go1 (v := ?_) (a' := ?_) rfl ?_ ?_ ?_
  rotate_left 2
  · intro K wx hS hK
    go_simp
    exact hK _ hS
  · simp only [Act.put, List.setIfInBounds_toArray, List.set_cons_succ, List.set_cons_zero]
    rfl
  refine RS.go1 (v := ?_) (a' := ?_) rfl ?_ ?_ ?_
  rotate_left 2
  · intro K wx hS hK
    have x0 := hS.c 0 (by decide)
    rw [HA.out] at x0
    go_simp
    exact hK _ hS
  · simp only [Act.put, List.setIfInBounds_toArray, List.set_cons_succ, List.set_cons_zero]
    rfl
  refine RS.go1 (v := ?_) (a' := ?_) rfl ?_ ?_ ?_
  rotate_left 2
  · intro K wx hS hK
    go_simp
    exact hK _ hS
  · simp only [Act.put, List.setIfInBounds_toArray, List.set_cons_succ, List.set_cons_zero]
    rfl
  refine RS.go1 (v := ?_) (a' := ?_) rfl ?_ ?_ ?_
  rotate_left 2
  · intro K wx hS hK
    go_simp
    refine (Ka.out wx).mono (fun e w2 he => ?_)
    refine ⟨_, he.1, ?_⟩
    exact hK _ (MS_below hS he.2)
  · simp only [Act.put, List.setIfInBounds_toArray, List.set_cons_succ, List.set_cons_zero]
    rfl
  refine RS.go1 (v := ?_) (a' := ?_) rfl ?_ ?_ ?_
  rotate_left 2
  · intro K wx hS hK
    go_simp
    exact hK _ hS
  · simp only [Act.put, List.setIfInBounds_toArray, List.set_cons_succ, List.set_cons_zero]
    rfl
  refine RS.go0 (a' := ?_) (by kernel_rfl) ?_ ?_
  rotate_left 1
  · simp only [Act.put, List.setIfInBounds_toArray, List.set_cons_succ, List.set_cons_zero]
    rfl
  refine RS.go0 (a' := ?_) (by kernel_rfl) ?_ ?_
  rotate_left 1
  · simp only [Act.put, List.setIfInBounds_toArray, List.set_cons_succ, List.set_cons_zero]
    rfl
  refine RS.go0 (a' := ?_) (by kernel_rfl) ?_ ?_
  rotate_left 1
  · simp only [Act.put, List.setIfInBounds_toArray, List.set_cons_succ, List.set_cons_zero]
    rfl
  refine RS.go0 (a' := ?_) (by kernel_rfl) ?_ ?_
  rotate_left 1
  · simp only [Act.put, List.setIfInBounds_toArray, List.set_cons_succ, List.set_cons_zero]
    rfl
  refine RS.go0 (a' := ?_) (by kernel_rfl) ?_ ?_
  rotate_left 1
  · simp only [Act.put, List.setIfInBounds_toArray, List.set_cons_succ, List.set_cons_zero]
    rfl
  refine RS.go1 (v := ?_) (a' := ?_) rfl ?_ ?_ ?_
  rotate_left 2
  · intro K wx hS hK
    go_simp
    exact hK _ hS
  · simp only [Act.put, List.setIfInBounds_toArray, List.set_cons_succ, List.set_cons_zero]
    rfl
  refine RS.go1 (v := ?_) (a' := ?_) rfl ?_ ?_ ?_
  rotate_left 2
  · intro K wx hS hK
    go_simp
    exact hK _ hS
  · simp only [Act.put, List.setIfInBounds_toArray, List.set_cons_succ, List.set_cons_zero]
    rfl
  refine RS.go0 (a' := ?_) (by kernel_rfl) ?_ ?_
  rotate_left 1
  · simp only [Act.put, List.setIfInBounds_toArray, List.set_cons_succ, List.set_cons_zero]
    rfl
  refine RS.go0 (a' := ?_) (by kernel_rfl) ?_ ?_
  rotate_left 1
  · simp only [Act.put, List.setIfInBounds_toArray, List.set_cons_succ, List.set_cons_zero]
    rfl
  refine RS.go0 (a' := ?_) (by kernel_rfl) ?_ ?_
  rotate_left 1
  · simp only [Act.put, List.setIfInBounds_toArray, List.set_cons_succ, List.set_cons_zero]
    rfl
  refine RS.go0 (a' := ?_) (by kernel_rfl) ?_ ?_
  rotate_left 1
  · simp only [Act.put, List.setIfInBounds_toArray, List.set_cons_succ, List.set_cons_zero]
    rfl
  refine RS.go0 (a' := ?_) (by kernel_rfl) ?_ ?_
  rotate_left 1
  · simp only [Act.put, List.setIfInBounds_toArray, List.set_cons_succ, List.set_cons_zero]
    rfl
  refine RS.go1 (v := ?_) (a' := ?_) rfl ?_ ?_ ?_
  rotate_left 2
  · intro K wx hS hK
    go_simp
    exact hK _ hS
  · simp only [Act.put, List.setIfInBounds_toArray, List.set_cons_succ, List.set_cons_zero]
    rfl
  refine RS.go1 (v := ?_) (a' := ?_) rfl ?_ ?_ ?_
  rotate_left 2
  · intro K wx hS hK
    go_simp
    exact hK _ hS
  · simp only [Act.put, List.setIfInBounds_toArray, List.set_cons_succ, List.set_cons_zero]
    rfl
  refine RS.go_end ?_
  intro w9 m9
  have b9 := m9.m.b
  clear m9 m5
  go_wp2_with fail
  go_ret
  exact ⟨rfl, b9⟩
set_option maxHeartbeats 2000000 in
set_option maxRecDepth 100000 in
theorem jmay_b (P : Nat → Bool) (l : List UInt8) (ao : Option Addr) (cap a b c : Nat) (w : World) (hl : (l.length : Int) ≤ 140737488355328) (hv : Sp.Vw l ao w) (ha : sumf l 0 = (a : Int)) (hb : sumf l 1 = (b : Int)) (hc : sumf l 2 = (c : Int)) (pa : P a = true) (pb : P b = false) :
    Calls Try.prog 14 #[Hv (FB P), .slice ao l.length cap] w fun e w' => e = .returned (.bool false) ∧ Below w.heap.size w w' := by
  have K1 : Hid (∀ w : World, Sp.Vw l ao w → Calls Try.prog 18 #[.slice ao l.length cap] w fun e w' => e = .returned (Hv (sumf l)) ∧ Below w.heap.size w w') := fun w hv => Sp.ssum_any l ao cap w hl hv
  clear hl
  have a2 : a < 256 := by have := sumf_lt l 0; omega
  have b2 : b < 256 := by have := sumf_lt l 1; omega
  have c2 : c < 256 := by have := sumf_lt l 2; omega
  have Ka : Hid (∀ w : World, Calls Try.prog 19 #[Hv (FB P), .int .i64 (a : Int)] w fun e w' => e = .returned (.bool true) ∧ Below w.heap.size w w') := fun w => by rw [← pa]; exact has_any P a a2 w
  have Kb : Hid (∀ w : World, Calls Try.prog 19 #[Hv (FB P), .int .i64 (b : Int)] w fun e w' => e = .returned (.bool false) ∧ Below w.heap.size w w') := fun w => by rw [← pb]; exact has_any P b b2 w
  have ya : IntKind.i64.wrap (a : Int) = a := by rw [IntKind.wrap_i64]; omega
  have yb : IntKind.i64.wrap (b : Int) = b := by rw [IntKind.wrap_i64]; omega
  have yc : IntKind.i64.wrap (c : Int) = c := by rw [IntKind.wrap_i64]; omega
  have HA : Hid (sumf l 0 = (a : Int)) := ha
  have HB : Hid (sumf l 1 = (b : Int)) := hb
  have HC : Hid (sumf l 2 = (c : Int)) := hc
  clear ha hb hc
  go_enter Try.func14, Try.ntmps14
  go_upto_region 1 with fail
  dsimp only [Hv]
  have m0 := Mem_nil w
  have m1 := Mem_box m0 (P) 24
  have z1 : (w.alloc (.cells (h32 (FB (P))).toArray 24)).heap.size = w.heap.size + 1 := by simp
  generalize w.alloc (.cells (h32 (FB (P))).toArray 24) = W1 at m1 z1 ⊢
  generalize (h32 (FB (P))).toArray = c0
  clear  m0 z1
  have vw := Sp.Vw_below hv m1.b
  go_wp2_with fail
  refine (K1.out _ vw).mono ?_
  rintro e w3 ⟨rfl, hb3⟩
  have m3 := Mem_below m1 hb3
  clear vw m1 hb3 hv
  dsimp only
  go_step
  go_step
  go_step
  have m4 := Mem_al m3 (.cells #[.int .u8 0, .int .u8 0, .int .u8 0, .int .u8 0, .int .u8 0, .int .u8 0, .int .u8 0, .int .u8 0, .int .u8 0, .int .u8 0, .int .u8 0, .int .u8 0, .int .u8 0, .int .u8 0, .int .u8 0, .int .u8 0, .int .u8 0, .int .u8 0, .int .u8 0, .int .u8 0, .int .u8 0, .int .u8 0, .int .u8 0, .int .u8 0, .int .u8 0, .int .u8 0, .int .u8 0, .int .u8 0, .int .u8 0, .int .u8 0, .int .u8 0, .int .u8 0] 24)
  have s4 := Sp.Vb_zero32 w.heap.size w3 24 m3.b.size
  have hz3 : w.heap.size + 1 ≤ w3.heap.size := (m3.v (w.heap.size, P) (by simp)).hi
  generalize hg : w3.heap.size = g at hz3 s4 ⊢
  generalize w3.alloc (.cells #[.int .u8 0, .int .u8 0, .int .u8 0, .int .u8 0, .int .u8 0, .int .u8 0, .int .u8 0, .int .u8 0, .int .u8 0, .int .u8 0, .int .u8 0, .int .u8 0, .int .u8 0, .int .u8 0, .int .u8 0, .int .u8 0, .int .u8 0, .int .u8 0, .int .u8 0, .int .u8 0, .int .u8 0, .int .u8 0, .int .u8 0, .int .u8 0, .int .u8 0, .int .u8 0, .int .u8 0, .int .u8 0, .int .u8 0, .int .u8 0, .int .u8 0, .int .u8 0] 24) = W4 at m4 s4 ⊢
  clear hg m3
  have t1 : W4.there g 0 (h32 (sumf l)).toArray.size := there32a s4.c s4.f
  have C0 : Sp.CK .u8 g 32 (sumf l) (W4.setCells g 0 (h32 (sumf l)).toArray.toList) := CK_set32 s4.c s4.f
  have v5 := Sp.Vb_gb (m4.v (w.heap.size, P) (by simp)) (gb_sets g (h32 (sumf l)).toArray.toList 0 W4) (by dsimp only; omega)
  have b5 : Below w.heap.size w (W4.setCells g 0 (h32 (sumf l)).toArray.toList) := Bel_sets (by omega) _ _ _ m4.b
  have hi5 : g < (W4.setCells g 0 (h32 (sumf l)).toArray.toList).heap.size := by rw [size_setCells]; exact s4.hi
  go_step
  refine wpList_store_mid rfl 24 (.tmp 5) (.tmp 7) rfl g 0 (h32 (sumf l)).toArray rfl rfl t1 info32a (all_oneCell_toArray (h32_one (sumf l))) ?_
  refine wpList_nil ?_
  generalize W4.setCells g 0 (h32 (sumf l)).toArray.toList = W5 at C0 v5 b5 hi5 ⊢
  clear t1 s4 m4
  have m5 : MS w [(w.heap.size, P)] g (sumf l) W5 := ⟨⟨fun x hx => by rw [List.mem_singleton.1 hx]; exact v5, b5⟩, C0, hi5⟩
  clear C0 v5 b5 hi5 a2 b2 c2
  generalize Hv (sumf l) = hs
  go_upto_region 2 with fail
  refine RS.wp_region_flat (MS w [(w.heap.size, P)] g (sumf l)) 20 (by kernel_rfl) (m5) ?_
  simp only [List.take_succ_cons, List.take_zero, List.drop_succ_cons, List.drop_zero]
  refine RS.go1 (v := ?_) (a' := ?_) rfl ?_ ?_ ?_
  rotate_left 2
  · intro K wx hS hK
    refine ld rfl rfl (hS.m.v (w.heap.size, P) (by simp)).c ?_
    exact hK _ hS
  · simp only [Act.put, List.setIfInBounds_toArray, List.set_cons_succ, List.set_cons_zero]
    rfl
  refine RS.go1 (v := ?_) (a' := ?_) rfl ?_ ?_ ?_
  rotate_left 2
  · intro K wx hS hK
    go_simp
    exact hK _ hS
  · simp only [Act.put, List.setIfInBounds_toArray, List.set_cons_succ, List.set_cons_zero]
    rfl
  refine RS.go1 (v := ?_) (a' := ?_) rfl ?_ ?_ ?_
  rotate_left 2
  · intro K wx hS hK
    have x0 := hS.c 0 (by decide)
    rw [HA.out] at x0
    go_simp
    exact hK _ hS
  · simp only [Act.put, List.setIfInBounds_toArray, List.set_cons_succ, List.set_cons_zero]
    rfl
  refine RS.go1 (v := ?_) (a' := ?_) rfl ?_ ?_ ?_
  rotate_left 2
  · intro K wx hS hK
    go_simp
    exact hK _ hS
  · simp only [Act.put, List.setIfInBounds_toArray, List.set_cons_succ, List.set_cons_zero]
    rfl
  refine RS.go1 (v := ?_) (a' := ?_) rfl ?_ ?_ ?_
  rotate_left 2
  · intro K wx hS hK
    go_simp
    refine (Ka.out wx).mono (fun e w2 he => ?_)
    refine ⟨_, he.1, ?_⟩
    exact hK _ (MS_below hS he.2)
  · simp only [Act.put, List.setIfInBounds_toArray, List.set_cons_succ, List.set_cons_zero]
    rfl
  refine RS.go1 (v := ?_) (a' := ?_) rfl ?_ ?_ ?_
  rotate_left 2
  · intro K wx hS hK
    go_simp
    exact hK _ hS
  · simp only [Act.put, List.setIfInBounds_toArray, List.set_cons_succ, List.set_cons_zero]
    rfl
  refine RS.go1g (v := ?_) (a' := ?_) (by kernel_rfl) ?_ ?_ ?_
  rotate_left 2
  · intro K wx hS hK
    refine ld rfl rfl (hS.m.v (w.heap.size, P) (by simp)).c ?_
    exact hK _ hS
  · simp only [Act.put, List.setIfInBounds_toArray, List.set_cons_succ, List.set_cons_zero]
    rfl
  refine RS.go1g (v := ?_) (a' := ?_) (by kernel_rfl) ?_ ?_ ?_
  rotate_left 2
  · intro K wx hS hK
    go_simp
    exact hK _ hS
  · simp only [Act.put, List.setIfInBounds_toArray, List.set_cons_succ, List.set_cons_zero]
    rfl
  refine RS.go1g (v := ?_) (a' := ?_) (by kernel_rfl) ?_ ?_ ?_
  rotate_left 2
  · intro K wx hS hK
    have x0 := hS.c 1 (by decide)
    rw [HB.out] at x0
    go_simp
    exact hK _ hS
  · simp only [Act.put, List.setIfInBounds_toArray, List.set_cons_succ, List.set_cons_zero]
    rfl
  refine RS.go1g (v := ?_) (a' := ?_) (by kernel_rfl) ?_ ?_ ?_
  rotate_left 2
  · intro K wx hS hK
    go_simp
    exact hK _ hS
  · simp only [Act.put, List.setIfInBounds_toArray, List.set_cons_succ, List.set_cons_zero]
    rfl
  refine RS.go1g (v := ?_) (a' := ?_) (by kernel_rfl) ?_ ?_ ?_
  rotate_left 2
  · intro K wx hS hK
    go_simp
    refine (Kb.out wx).mono (fun e w2 he => ?_)
    refine ⟨_, he.1, ?_⟩
    exact hK _ (MS_below hS he.2)
  · simp only [Act.put, List.setIfInBounds_toArray, List.set_cons_succ, List.set_cons_zero]
    rfl
  refine RS.go1 (v := ?_) (a' := ?_) rfl ?_ ?_ ?_
  rotate_left 2
  · intro K wx hS hK
    go_simp
    exact hK _ hS
  · simp only [Act.put, List.setIfInBounds_toArray, List.set_cons_succ, List.set_cons_zero]
    rfl
  refine RS.go1 (v := ?_) (a' := ?_) rfl ?_ ?_ ?_
  rotate_left 2
  · intro K wx hS hK
    go_simp
    exact hK _ hS
  · simp only [Act.put, List.setIfInBounds_toArray, List.set_cons_succ, List.set_cons_zero]
    rfl
  refine RS.go0 (a' := ?_) (by kernel_rfl) ?_ ?_
  rotate_left 1
  · simp only [Act.put, List.setIfInBounds_toArray, List.set_cons_succ, List.set_cons_zero]
    rfl
  refine RS.go0 (a' := ?_) (by kernel_rfl) ?_ ?_
  rotate_left 1
  · simp only [Act.put, List.setIfInBounds_toArray, List.set_cons_succ, List.set_cons_zero]
    rfl
  refine RS.go0 (a' := ?_) (by kernel_rfl) ?_ ?_
  rotate_left 1
  · simp only [Act.put, List.setIfInBounds_toArray, List.set_cons_succ, List.set_cons_zero]
    rfl
  refine RS.go0 (a' := ?_) (by kernel_rfl) ?_ ?_
  rotate_left 1
  · simp only [Act.put, List.setIfInBounds_toArray, List.set_cons_succ, List.set_cons_zero]
    rfl
  refine RS.go0 (a' := ?_) (by kernel_rfl) ?_ ?_
  rotate_left 1
  · simp only [Act.put, List.setIfInBounds_toArray, List.set_cons_succ, List.set_cons_zero]
    rfl
  refine RS.go1 (v := ?_) (a' := ?_) rfl ?_ ?_ ?_
  rotate_left 2
  · intro K wx hS hK
    go_simp
    exact hK _ hS
  · simp only [Act.put, List.setIfInBounds_toArray, List.set_cons_succ, List.set_cons_zero]
    rfl
  refine RS.go1 (v := ?_) (a' := ?_) rfl ?_ ?_ ?_
  rotate_left 2
  · intro K wx hS hK
    go_simp
    exact hK _ hS
  · simp only [Act.put, List.setIfInBounds_toArray, List.set_cons_succ, List.set_cons_zero]
    rfl
  refine RS.go_end ?_
  intro w9 m9
  have b9 := m9.m.b
  clear m9 m5
  go_wp2_with fail
  go_ret
  exact ⟨rfl, b9⟩
set_option maxHeartbeats 2000000 in
set_option maxRecDepth 100000 in
theorem jmay_c (P : Nat → Bool) (l : List UInt8) (ao : Option Addr) (cap a b c : Nat) (z : Bool) (w : World) (hl : (l.length : Int) ≤ 140737488355328) (hv : Sp.Vw l ao w) (ha : sumf l 0 = (a : Int)) (hb : sumf l 1 = (b : Int)) (hc : sumf l 2 = (c : Int)) (pa : P a = true) (pb : P b = true) (pc : P c = z) :
    Calls Try.prog 14 #[Hv (FB P), .slice ao l.length cap] w fun e w' => e = .returned (.bool z) ∧ Below w.heap.size w w' := by
  have K1 : Hid (∀ w : World, Sp.Vw l ao w → Calls Try.prog 18 #[.slice ao l.length cap] w fun e w' => e = .returned (Hv (sumf l)) ∧ Below w.heap.size w w') := fun w hv => Sp.ssum_any l ao cap w hl hv
  clear hl
  have a2 : a < 256 := by have := sumf_lt l 0; omega
  have b2 : b < 256 := by have := sumf_lt l 1; omega
  have c2 : c < 256 := by have := sumf_lt l 2; omega
  have Ka : Hid (∀ w : World, Calls Try.prog 19 #[Hv (FB P), .int .i64 (a : Int)] w fun e w' => e = .returned (.bool true) ∧ Below w.heap.size w w') := fun w => by rw [← pa]; exact has_any P a a2 w
  have Kb : Hid (∀ w : World, Calls Try.prog 19 #[Hv (FB P), .int .i64 (b : Int)] w fun e w' => e = .returned (.bool true) ∧ Below w.heap.size w w') := fun w => by rw [← pb]; exact has_any P b b2 w
  have Kc : Hid (∀ w : World, Calls Try.prog 19 #[Hv (FB P), .int .i64 (c : Int)] w fun e w' => e = .returned (.bool z) ∧ Below w.heap.size w w') := fun w => by rw [← pc]; exact has_any P c c2 w
  have ya : IntKind.i64.wrap (a : Int) = a := by rw [IntKind.wrap_i64]; omega
  have yb : IntKind.i64.wrap (b : Int) = b := by rw [IntKind.wrap_i64]; omega
  have yc : IntKind.i64.wrap (c : Int) = c := by rw [IntKind.wrap_i64]; omega
  have HA : Hid (sumf l 0 = (a : Int)) := ha
  have HB : Hid (sumf l 1 = (b : Int)) := hb
  have HC : Hid (sumf l 2 = (c : Int)) := hc
  clear ha hb hc
  go_enter Try.func14, Try.ntmps14
  go_upto_region 1 with fail
  dsimp only [Hv]
  have m0 := Mem_nil w
  have m1 := Mem_box m0 (P) 24
  have z1 : (w.alloc (.cells (h32 (FB (P))).toArray 24)).heap.size = w.heap.size + 1 := by simp
  generalize w.alloc (.cells (h32 (FB (P))).toArray 24) = W1 at m1 z1 ⊢
  generalize (h32 (FB (P))).toArray = c0
  clear  m0 z1
  have vw := Sp.Vw_below hv m1.b
  go_wp2_with fail
  refine (K1.out _ vw).mono ?_
  rintro e w3 ⟨rfl, hb3⟩
  have m3 := Mem_below m1 hb3
  clear vw m1 hb3 hv
  dsimp only
  go_step
  go_step
  go_step
  have m4 := Mem_al m3 (.cells #[.int .u8 0, .int .u8 0, .int .u8 0, .int .u8 0, .int .u8 0, .int .u8 0, .int .u8 0, .int .u8 0, .int .u8 0, .int .u8 0, .int .u8 0, .int .u8 0, .int .u8 0, .int .u8 0, .int .u8 0, .int .u8 0, .int .u8 0, .int .u8 0, .int .u8 0, .int .u8 0, .int .u8 0, .int .u8 0, .int .u8 0, .int .u8 0, .int .u8 0, .int .u8 0, .int .u8 0, .int .u8 0, .int .u8 0, .int .u8 0, .int .u8 0, .int .u8 0] 24)
  have s4 := Sp.Vb_zero32 w.heap.size w3 24 m3.b.size
  have hz3 : w.heap.size + 1 ≤ w3.heap.size := (m3.v (w.heap.size, P) (by simp)).hi
  generalize hg : w3.heap.size = g at hz3 s4 ⊢
  generalize w3.alloc (.cells #[.int .u8 0, .int .u8 0, .int .u8 0, .int .u8 0, .int .u8 0, .int .u8 0, .int .u8 0, .int .u8 0, .int .u8 0, .int .u8 0, .int .u8 0, .int .u8 0, .int .u8 0, .int .u8 0, .int .u8 0, .int .u8 0, .int .u8 0, .int .u8 0, .int .u8 0, .int .u8 0, .int .u8 0, .int .u8 0, .int .u8 0, .int .u8 0, .int .u8 0, .int .u8 0, .int .u8 0, .int .u8 0, .int .u8 0, .int .u8 0, .int .u8 0, .int .u8 0] 24) = W4 at m4 s4 ⊢
  clear hg m3
  have t1 : W4.there g 0 (h32 (sumf l)).toArray.size := there32a s4.c s4.f
  have C0 : Sp.CK .u8 g 32 (sumf l) (W4.setCells g 0 (h32 (sumf l)).toArray.toList) := CK_set32 s4.c s4.f
  have v5 := Sp.Vb_gb (m4.v (w.heap.size, P) (by simp)) (gb_sets g (h32 (sumf l)).toArray.toList 0 W4) (by dsimp only; omega)
  have b5 : Below w.heap.size w (W4.setCells g 0 (h32 (sumf l)).toArray.toList) := Bel_sets (by omega) _ _ _ m4.b
  have hi5 : g < (W4.setCells g 0 (h32 (sumf l)).toArray.toList).heap.size := by rw [size_setCells]; exact s4.hi
  go_step
  refine wpList_store_mid rfl 24 (.tmp 5) (.tmp 7) rfl g 0 (h32 (sumf l)).toArray rfl rfl t1 info32a (all_oneCell_toArray (h32_one (sumf l))) ?_
  refine wpList_nil ?_
  generalize W4.setCells g 0 (h32 (sumf l)).toArray.toList = W5 at C0 v5 b5 hi5 ⊢
  clear t1 s4 m4
  have m5 : MS w [(w.heap.size, P)] g (sumf l) W5 := ⟨⟨fun x hx => by rw [List.mem_singleton.1 hx]; exact v5, b5⟩, C0, hi5⟩
  clear C0 v5 b5 hi5 a2 b2 c2
  generalize Hv (sumf l) = hs
  go_upto_region 2 with fail
  refine RS.wp_region_flat (MS w [(w.heap.size, P)] g (sumf l)) 20 (by kernel_rfl) (m5) ?_
  simp only [List.take_succ_cons, List.take_zero, List.drop_succ_cons, List.drop_zero]
  refine RS.go1 (v := ?_) (a' := ?_) rfl ?_ ?_ ?_
  rotate_left 2
  · intro K wx hS hK
    refine ld rfl rfl (hS.m.v (w.heap.size, P) (by simp)).c ?_
    exact hK _ hS
  · simp only [Act.put, List.setIfInBounds_toArray, List.set_cons_succ, List.set_cons_zero]
    rfl
  refine RS.go1 (v := ?_) (a' := ?_) rfl ?_ ?_ ?_
  rotate_left 2
  · intro K wx hS hK
    go_simp
    exact hK _ hS
  · simp only [Act.put, List.setIfInBounds_toArray, List.set_cons_succ, List.set_cons_zero]
    rfl
  refine RS.go1 (v := ?_) (a' := ?_) rfl ?_ ?_ ?_
  rotate_left 2
  · intro K wx hS hK
    have x0 := hS.c 0 (by decide)
    rw [HA.out] at x0
    go_simp
    exact hK _ hS
  · simp only [Act.put, List.setIfInBounds_toArray, List.set_cons_succ, List.set_cons_zero]
    rfl
  refine RS.go1 (v := ?_) (a' := ?_) rfl ?_ ?_ ?_
  rotate_left 2
  · intro K wx hS hK
    go_simp
    exact hK _ hS
  · simp only [Act.put, List.setIfInBounds_toArray, List.set_cons_succ, List.set_cons_zero]
    rfl
  refine RS.go1 (v := ?_) (a' := ?_) rfl ?_ ?_ ?_
  rotate_left 2
  · intro K wx hS hK
    go_simp
    refine (Ka.out wx).mono (fun e w2 he => ?_)
    refine ⟨_, he.1, ?_⟩
    exact hK _ (MS_below hS he.2)
  · simp only [Act.put, List.setIfInBounds_toArray, List.set_cons_succ, List.set_cons_zero]
    rfl
  refine RS.go1 (v := ?_) (a' := ?_) rfl ?_ ?_ ?_
  rotate_left 2
  · intro K wx hS hK
    go_simp
    exact hK _ hS
  · simp only [Act.put, List.setIfInBounds_toArray, List.set_cons_succ, List.set_cons_zero]
    rfl
  refine RS.go1g (v := ?_) (a' := ?_) (by kernel_rfl) ?_ ?_ ?_
  rotate_left 2
  · intro K wx hS hK
    refine ld rfl rfl (hS.m.v (w.heap.size, P) (by simp)).c ?_
    exact hK _ hS
  · simp only [Act.put, List.setIfInBounds_toArray, List.set_cons_succ, List.set_cons_zero]
    rfl
  refine RS.go1g (v := ?_) (a' := ?_) (by kernel_rfl) ?_ ?_ ?_
  rotate_left 2
  · intro K wx hS hK
    go_simp
    exact hK _ hS
  · simp only [Act.put, List.setIfInBounds_toArray, List.set_cons_succ, List.set_cons_zero]
    rfl
  refine RS.go1g (v := ?_) (a' := ?_) (by kernel_rfl) ?_ ?_ ?_
  rotate_left 2
  · intro K wx hS hK
    have x0 := hS.c 1 (by decide)
    rw [HB.out] at x0
    go_simp
    exact hK _ hS
  · simp only [Act.put, List.setIfInBounds_toArray, List.set_cons_succ, List.set_cons_zero]
    rfl
  refine RS.go1g (v := ?_) (a' := ?_) (by kernel_rfl) ?_ ?_ ?_
  rotate_left 2
  · intro K wx hS hK
    go_simp
    exact hK _ hS
  · simp only [Act.put, List.setIfInBounds_toArray, List.set_cons_succ, List.set_cons_zero]
    rfl
  refine RS.go1g (v := ?_) (a' := ?_) (by kernel_rfl) ?_ ?_ ?_
  rotate_left 2
  · intro K wx hS hK
    go_simp
    refine (Kb.out wx).mono (fun e w2 he => ?_)
    refine ⟨_, he.1, ?_⟩
    exact hK _ (MS_below hS he.2)
  · simp only [Act.put, List.setIfInBounds_toArray, List.set_cons_succ, List.set_cons_zero]
    rfl
  refine RS.go1 (v := ?_) (a' := ?_) rfl ?_ ?_ ?_
  rotate_left 2
  · intro K wx hS hK
    go_simp
    exact hK _ hS
  · simp only [Act.put, List.setIfInBounds_toArray, List.set_cons_succ, List.set_cons_zero]
    rfl
  refine RS.go1 (v := ?_) (a' := ?_) rfl ?_ ?_ ?_
  rotate_left 2
  · intro K wx hS hK
    go_simp
    exact hK _ hS
  · simp only [Act.put, List.setIfInBounds_toArray, List.set_cons_succ, List.set_cons_zero]
    rfl
  refine RS.go1g (v := ?_) (a' := ?_) (by kernel_rfl) ?_ ?_ ?_
  rotate_left 2
  · intro K wx hS hK
    refine ld rfl rfl (hS.m.v (w.heap.size, P) (by simp)).c ?_
    exact hK _ hS
  · simp only [Act.put, List.setIfInBounds_toArray, List.set_cons_succ, List.set_cons_zero]
    rfl
  refine RS.go1g (v := ?_) (a' := ?_) (by kernel_rfl) ?_ ?_ ?_
  rotate_left 2
  · intro K wx hS hK
    go_simp
    exact hK _ hS
  · simp only [Act.put, List.setIfInBounds_toArray, List.set_cons_succ, List.set_cons_zero]
    rfl
  refine RS.go1g (v := ?_) (a' := ?_) (by kernel_rfl) ?_ ?_ ?_
  rotate_left 2
  · intro K wx hS hK
    have x0 := hS.c 2 (by decide)
    rw [HC.out] at x0
    go_simp
    exact hK _ hS
  · simp only [Act.put, List.setIfInBounds_toArray, List.set_cons_succ, List.set_cons_zero]
    rfl
  refine RS.go1g (v := ?_) (a' := ?_) (by kernel_rfl) ?_ ?_ ?_
  rotate_left 2
  · intro K wx hS hK
    go_simp
    exact hK _ hS
  · simp only [Act.put, List.setIfInBounds_toArray, List.set_cons_succ, List.set_cons_zero]
    rfl
  refine RS.go1g (v := ?_) (a' := ?_) (by kernel_rfl) ?_ ?_ ?_
  rotate_left 2
  · intro K wx hS hK
    go_simp
    refine (Kc.out wx).mono (fun e w2 he => ?_)
    refine ⟨_, he.1, ?_⟩
    exact hK _ (MS_below hS he.2)
  · simp only [Act.put, List.setIfInBounds_toArray, List.set_cons_succ, List.set_cons_zero]
    rfl
  refine RS.go1 (v := ?_) (a' := ?_) rfl ?_ ?_ ?_
  rotate_left 2
  · intro K wx hS hK
    go_simp
    exact hK _ hS
  · simp only [Act.put, List.setIfInBounds_toArray, List.set_cons_succ, List.set_cons_zero]
    rfl
  refine RS.go1 (v := ?_) (a' := ?_) rfl ?_ ?_ ?_
  rotate_left 2
  · intro K wx hS hK
    go_simp
    exact hK _ hS
  · simp only [Act.put, List.setIfInBounds_toArray, List.set_cons_succ, List.set_cons_zero]
    rfl
  refine RS.go_end ?_
  intro w9 m9
  have b9 := m9.m.b
  clear m9 m5
  go_wp2_with fail
  go_ret
  exact ⟨rfl, b9⟩
theorem jmay_any (P : Nat → Bool) (l : List UInt8) (ao : Option Addr) (cap : Nat) (w : World) (hl : (l.length : Int) ≤ 140737488355328) (hv : Sp.Vw l ao w) :
    Calls Try.prog 14 #[Hv (FB P), .slice ao l.length cap] w fun e w' => e = .returned (.bool (wi (tb l) P)) ∧ Below w.heap.size w w' := by
  obtain ⟨a, ha⟩ : ∃ N : Nat, sumf l 0 = (N : Int) := ⟨(sumf l 0).toNat, by have := sumf_nn l 0; omega⟩
  obtain ⟨b, hb⟩ : ∃ N : Nat, sumf l 1 = (N : Int) := ⟨(sumf l 1).toNat, by have := sumf_nn l 1; omega⟩
  obtain ⟨c, hc⟩ : ∃ N : Nat, sumf l 2 = (N : Int) := ⟨(sumf l 2).toNat, by have := sumf_nn l 2; omega⟩
  rw [wi_tb l P a b c ha hb hc]
  cases pa : P a
  · exact jmay_a P l ao cap a b c w hl hv ha hb hc pa
  · cases pb : P b
    · exact jmay_b P l ao cap a b c w hl hv ha hb hc pa pb
    · exact jmay_c P l ao cap a b c (P c) w hl hv ha hb hc pa pb rfl
end Bl
end Go.Proofs.Ytcgjkombefhjmaa
