/- Plain arithmetic of a long division, part by part from the uppermost on. -/
import Derived.Test.YtblodmjnhmfjeaaUArith
namespace Go.Proofs.Ytblodmjnhmfjeaa
theorem vr_put {F : Nat → Int} {v : Int} (k : Nat) : ∀ K, k < K → vr (upd F k v) 0 K = vr F 0 K + (v - F k) * Mp k
  | 0, h => by omega
  | K + 1, h => by
    rw [vr, vr, Nat.zero_add]
    by_cases e : k = K
    · subst e
      rw [vr_congr (G := F) (fun i hi => by unfold upd; rw [if_neg (by omega)])]
      unfold upd
      rw [if_pos rfl]
      grind
    · rw [vr_put k K (by omega)]
      have : upd F k v K = F K := by unfold upd; rw [if_neg (by omega)]
      rw [this]
      grind
theorem vr_zero {F : Nat → Int} {j : Nat} : ∀ k, (∀ i, i < k → F (j + i) = 0) → vr F j k = 0
  | 0, _ => rfl
  | k + 1, h => by rw [vr, vr_zero k (fun i hi => h i (by omega)), h k (by omega)]; simp
/-- What stands behind the quotient's parts from k on. -/
def DV (N B : Int) (n k : Nat) (F Q : Nat → Int) : Prop := (∀ o, U (F o)) ∧ (∀ o, U (Q o)) ∧ (∀ o, o < k → Q o = 0) ∧ (∀ o, k + n ≤ o → o < 9 → F o = 0) ∧ vr F k n < B ∧ vr F 0 9 + B * vr Q 0 8 = N
theorem DV_lt {N B : Int} {n j : Nat} {F Q : Nat → Int} (H : DV N B n (j + 1) F Q) : vr F j (n + 1) < B * 18446744073709551616 := by
  obtain ⟨h1, _, _, _, h5, _⟩ := H
  rw [show n + 1 = 1 + n by omega, vr_split, Mp1]
  have e : vr F j 1 = F j := by simp [vr, Mp]
  rw [e]
  have hu := h1 j
  unfold U at hu
  omega
theorem DV_step {N B t : Int} {n j : Nat} {F G Q : Nat → Int} (H : DV N B n (j + 1) F Q) (hn1 : 1 ≤ n) (hn : j + n ≤ 8) (hB : 0 < B) (hBn : B < Mp n) (hG : ∀ o, U (G o)) (ho : ∀ o, o < j ∨ j + n < o → G o = F o) (hv : vr G j (n + 1) = vr F j (n + 1) % B) (ht : t = vr F j (n + 1) / B) : DV N B n j G (upd Q j t) := by
  have hlt := DV_lt H
  obtain ⟨h1, h2, h3, h4, h5, h6⟩ := H
  have hA0 := (vr_bound h1 j (n + 1)).1
  have ut : U t := by
    rw [ht]
    exact ⟨Int.ediv_nonneg hA0 (Int.le_of_lt hB), Int.ediv_lt_of_lt_mul hB (by rw [Int.mul_comm]; exact hlt)⟩
  have hr0 := Int.emod_nonneg (vr F j (n + 1)) (show B ≠ 0 by omega)
  have hr1 := Int.emod_lt_of_pos (vr F j (n + 1)) hB
  have hsp : vr G j (n + 1) = vr G j n + G (j + n) * Mp n := rfl
  have hn0 := (vr_bound hG j n).1
  have hu := hG (j + n)
  have hp := Mp_pos n
  have hz : G (j + n) = 0 := by
    apply Int.le_antisymm _ hu.1
    apply Int.not_lt.1
    intro hgt
    have := Int.mul_le_mul_of_nonneg_right (show (1 : Int) ≤ G (j + n) by omega) (Int.le_of_lt hp)
    omega
  refine ⟨hG, upd_U h2 ut, fun o hlo => ?_, fun o hlo ho9 => ?_, ?_, ?_⟩
  · unfold upd; rw [if_neg (by omega)]; exact h3 o (by omega)
  · by_cases e : o = j + n
    · rw [e]; exact hz
    · rw [ho o (by omega)]; exact h4 o (by omega) ho9
  · rw [hz] at hsp; omega
  · rw [vr_put j 8 (by omega), h3 j (by omega)]
    have sF : vr F 0 9 = vr F 0 j + Mp j * (vr F j (n + 1) + Mp (n + 1) * vr F (j + (n + 1)) (9 - j - (n + 1))) := by
      have a := vr_split F 0 j (9 - j)
      have b := vr_split F j (n + 1) (9 - j - (n + 1))
      rw [show j + (9 - j) = 9 by omega, Nat.zero_add] at a
      rw [show n + 1 + (9 - j - (n + 1)) = 9 - j by omega] at b
      rw [a, b]
    have sG : vr G 0 9 = vr G 0 j + Mp j * (vr G j (n + 1) + Mp (n + 1) * vr G (j + (n + 1)) (9 - j - (n + 1))) := by
      have a := vr_split G 0 j (9 - j)
      have b := vr_split G j (n + 1) (9 - j - (n + 1))
      rw [show j + (9 - j) = 9 by omega, Nat.zero_add] at a
      rw [show n + 1 + (9 - j - (n + 1)) = 9 - j by omega] at b
      rw [a, b]
    have c1 : vr G 0 j = vr F 0 j := vr_congr (fun i hi => ho _ (by omega))
    have c2 : vr G (j + (n + 1)) (9 - j - (n + 1)) = vr F (j + (n + 1)) (9 - j - (n + 1)) := vr_congr (fun i hi => ho _ (by omega))
    have e := Int.mul_ediv_add_emod (vr F j (n + 1)) B
    rw [← ht, ← hv] at e
    rw [sG, c1, c2]
    rw [sF] at h6
    grind
theorem DV_end {N B : Nat} {n : Nat} {F Q : Nat → Int} (H : DV N B n 0 F Q) (hn : n ≤ 9) (hB : 0 < B) : (∀ k, k < 9 → F k = dg (N % B) k) ∧ (∀ k, k < 8 → Q k = dg (N / B) k) := by
  obtain ⟨h1, h2, h3, h4, h5, h6⟩ := H
  have hs : vr F 0 9 = vr F 0 n := by
    have a := vr_split F 0 n (9 - n)
    rw [show n + (9 - n) = 9 by omega] at a
    have z : vr F (0 + n) (9 - n) = 0 := vr_zero _ (fun i hi => h4 _ (by omega) (by omega))
    rw [a, z]
    simp
  have h0 := (vr_bound h1 0 9).1
  obtain ⟨q1, q2⟩ := quo_rest (N := N) (Q := vr Q 0 8) (R := vr F 0 9) (y := B) (by omega) (by rw [← h6]; grind) h0 (by omega)
  exact ⟨vr_dg h1 (by rw [← q2]; rfl), vr_dg h2 (by rw [← q1]; rfl)⟩
theorem DV_start {a b s n e : Nat} (he : e = 512) (hn1 : 1 ≤ n) (hn : n ≤ 4) (ha : a < 2 ^ e) (hb : 2 ^ (64 * (n - 1)) ≤ b) (hs : s < 64) : DV ((a * 2 ^ s : Nat) : Int) ((b * 2 ^ s : Nat) : Int) n (9 - n) (dg (a * 2 ^ s)) (fun _ => 0) := by
  refine ⟨fun o => U_dg _ o, fun _ => U_zero, fun _ _ => rfl, fun o h1 h2 => by omega, ?_, ?_⟩
  · have hN : a * 2 ^ s < 2 ^ (e + s) := by rw [Nat.pow_add]; exact Nat.mul_lt_mul_of_pos_right ha (Nat.two_pow_pos s)
    have hsp := vr_split (dg (a * 2 ^ s)) 0 (9 - n) n
    rw [show 9 - n + n = 9 by omega, vr_low, vr_low, Nat.zero_add] at hsp
    have hlow : lowp (a * 2 ^ s) 9 ≤ ((a * 2 ^ s : Nat) : Int) := by unfold lowp; exact Int.ofNat_le.2 (Nat.mod_le _ _)
    have hl0 : 0 ≤ lowp (a * 2 ^ s) (9 - n) := Int.natCast_nonneg _
    apply Int.not_le.1
    intro hge
    have hm := Int.mul_le_mul_of_nonneg_left hge (Int.le_of_lt (Mp_pos (9 - n)))
    have hbig : 2 ^ (e + s) ≤ 2 ^ (64 * (9 - n)) * (b * 2 ^ s) := by
      have h1 : 2 ^ (64 * (n - 1)) * 2 ^ s ≤ b * 2 ^ s := Nat.mul_le_mul_right _ hb
      have h2 := Nat.mul_le_mul_left (2 ^ (64 * (9 - n))) h1
      rw [← Nat.pow_add, ← Nat.pow_add, show 64 * (9 - n) + (64 * (n - 1) + s) = e + s by omega] at h2
      exact h2
    have hM : Mp (9 - n) * ((b * 2 ^ s : Nat) : Int) = ((2 ^ (64 * (9 - n)) * (b * 2 ^ s) : Nat) : Int) := by unfold Mp; exact (Int.natCast_mul _ _).symm
    rw [hM] at hm
    have hc := Int.ofNat_le.2 hbig
    have hd := Int.ofNat_lt.2 hN
    omega
  · have : vr (fun _ => (0 : Int)) 0 8 = 0 := vr_zero _ (fun _ _ => rfl)
    rw [this, vr_low, Int.mul_zero, Int.add_zero]
    unfold lowp
    rw [Nat.mod_eq_of_lt]
    have hN : a * 2 ^ s < 2 ^ (e + s) := by rw [Nat.pow_add]; exact Nat.mul_lt_mul_of_pos_right ha (Nat.two_pow_pos s)
    generalize hk : 64 * 9 = K
    exact Nat.lt_of_lt_of_le hN (Nat.pow_le_pow_right (by decide) (by omega))
end Go.Proofs.Ytblodmjnhmfjeaa
