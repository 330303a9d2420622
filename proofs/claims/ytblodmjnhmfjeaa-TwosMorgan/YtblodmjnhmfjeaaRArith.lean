/- Plain arithmetic of rows of parts: what a row of k parts from place j on comes to. -/
import Derived.Test.YtblodmjnhmfjeaaDArith
namespace Go.Proofs.Ytblodmjnhmfjeaa
/-- The number of k parts of F from place j on. -/
def vr (F : Nat → Int) (j : Nat) : Nat → Int
  | 0 => 0
  | k + 1 => vr F j k + F (j + k) * Mp k
theorem vr_congr {F G : Nat → Int} {j : Nat} : ∀ {k : Nat}, (∀ i, i < k → F (j + i) = G (j + i)) → vr F j k = vr G j k
  | 0, _ => rfl
  | k + 1, h => by rw [vr, vr, vr_congr (fun i hi => h i (by omega)), h k (by omega)]
theorem vr_upd {F : Nat → Int} {j k : Nat} {v : Int} : vr (upd F (j + k) v) j (k + 1) = vr F j k + v * Mp k := by
  rw [vr, vr_congr (G := F) (fun i hi => by unfold upd; rw [if_neg (by omega)])]
  unfold upd
  rw [if_pos rfl]
theorem Mp_pos (k : Nat) : 0 < Mp k := by
  unfold Mp
  have := Nat.two_pow_pos (64 * k)
  omega
theorem vr_bound {F : Nat → Int} (h : ∀ o, U (F o)) (j : Nat) : ∀ k, 0 ≤ vr F j k ∧ vr F j k < Mp k
  | 0 => by simp [vr, Mp]
  | k + 1 => by
    obtain ⟨h0, h1⟩ := vr_bound h j k
    obtain ⟨u0, u1⟩ := h (j + k)
    rw [vr, Mp_succ]
    have hp := Mp_pos k
    have a := Int.mul_nonneg u0 (Int.le_of_lt hp)
    have b := Int.mul_le_mul_of_nonneg_right (show F (j + k) ≤ 18446744073709551615 by omega) (Int.le_of_lt hp)
    generalize F (j + k) * Mp k = m at *
    omega
/-- Behind i rounds of a sum: what stands from j on, and what is carried over. -/
def AI (F b : Nat → Int) (j i : Nat) (G : Nat → Int) (c : Int) : Prop := (∀ o, U (G o)) ∧ (c = 0 ∨ c = 1) ∧ (∀ o, o < j ∨ j + i ≤ o → G o = F o) ∧ vr G j i + c * Mp i = vr F j i + vr b 0 i
theorem AI_start {F b : Nat → Int} {j : Nat} (h : ∀ o, U (F o)) : AI F b j 0 F 0 := ⟨h, .inl rfl, fun _ _ => rfl, by simp [vr]⟩
theorem sm_U (x y c : Int) : U (sm x y c) := by unfold U sm; omega
theorem sm_cy (x y c : Int) : cy x y c * 18446744073709551616 + sm x y c = x + y + c := by unfold cy sm; omega
theorem cy_01 {x y c : Int} (hx : U x) (hy : U y) (hc : c = 0 ∨ c = 1) : cy x y c = 0 ∨ cy x y c = 1 := by
  unfold U at hx hy; unfold cy; omega
theorem AI_step {F b G : Nat → Int} {j i : Nat} {c y : Int} (H : AI F b j i G c) (hb : U y) (hy : y = b i) : AI F b j (i + 1) (upd G (j + i) (sm (G (j + i)) y c)) (cy (G (j + i)) y c) := by
  obtain ⟨h1, h2, h3, h4⟩ := H
  refine ⟨upd_U h1 (sm_U _ _ _), cy_01 (h1 _) hb h2, fun o ho => ?_, ?_⟩
  · unfold upd; rw [if_neg (by omega)]; exact h3 o (by omega)
  · rw [vr_upd, vr, vr, Mp_succ]
    have e := sm_cy (G (j + i)) y c
    have e2 := h3 (j + i) (by omega)
    rw [Nat.zero_add, ← hy]
    grind
theorem AI_last {F b G : Nat → Int} {j n : Nat} {c : Int} (H : AI F b j n G c) : (∀ o, U (upd G (j + n) (sm (G (j + n)) 0 c) o)) ∧ (cy (G (j + n)) 0 c = 0 ∨ cy (G (j + n)) 0 c = 1) ∧ (∀ o, o < j ∨ j + n < o → upd G (j + n) (sm (G (j + n)) 0 c) o = F o) ∧ vr (upd G (j + n) (sm (G (j + n)) 0 c)) j (n + 1) + cy (G (j + n)) 0 c * Mp (n + 1) = vr F j (n + 1) + vr b 0 n := by
  obtain ⟨h1, h2, h3, h4⟩ := H
  refine ⟨upd_U h1 (sm_U _ _ _), cy_01 (h1 _) U_zero h2, fun o ho => ?_, ?_⟩
  · unfold upd; rw [if_neg (by omega)]; exact h3 o (by omega)
  · rw [vr_upd, vr, Mp_succ]
    have e := sm_cy (G (j + n)) 0 c
    have e2 := h3 (j + n) (by omega)
    grind
/-- Behind i rounds of taking t times b off: what stands from j on, what is carried over, what is borrowed. -/
def TI (F b : Nat → Int) (t : Int) (j i : Nat) (G : Nat → Int) (c d : Int) : Prop := (∀ o, U (G o)) ∧ U c ∧ (d = 0 ∨ d = 1) ∧ (∀ o, o < j ∨ j + i ≤ o → G o = F o) ∧ vr G j i = vr F j i - t * vr b 0 i + (c + d) * Mp i
theorem TI_start {F b : Nat → Int} {t : Int} {j : Nat} (h : ∀ o, U (F o)) : TI F b t j 0 F 0 0 := ⟨h, U_zero, .inl rfl, fun _ _ => rfl, by simp [vr]⟩
theorem df_U (x y c : Int) : U (df x y c) := by unfold U df; omega
theorem df_bo {x y c : Int} (hx : U x) (hy : U y) (hc : c = 0 ∨ c = 1) : df x y c = x - y - c + bo x y c * 18446744073709551616 := by
  unfold U at hx hy; unfold df bo; split <;> omega
theorem bo_01 (x y c : Int) : bo x y c = 0 ∨ bo x y c = 1 := by unfold bo; split <;> simp
theorem TI_step {F b G : Nat → Int} {t : Int} {j i : Nat} {c d h l y : Int} (H : TI F b t j i G c d) (uh : U h) (ul : U l) (hy : y = b i) (e : h * 18446744073709551616 + l = t * y + c + 0) : TI F b t j (i + 1) (upd G (j + i) (df (G (j + i)) l d)) h (bo (G (j + i)) l d) := by
  obtain ⟨h1, h2, h3, h4, h5⟩ := H
  refine ⟨upd_U h1 (df_U _ _ _), uh, bo_01 _ _ _, fun o ho => ?_, ?_⟩
  · unfold upd; rw [if_neg (by omega)]; exact h4 o (by omega)
  · rw [vr_upd, vr, vr, Mp_succ]
    have e1 := df_bo (h1 (j + i)) ul h3
    have e2 := h4 (j + i) (by omega)
    rw [Nat.zero_add, ← hy]
    grind
/-- The last round: nothing more is to be taken off but what is carried over. -/
def LI (F b : Nat → Int) (j n : Nat) (t : Int) (G : Nat → Int) (d : Int) : Prop := (∀ o, U (G o)) ∧ (d = 0 ∨ d = 1) ∧ (∀ o, o < j ∨ j + n < o → G o = F o) ∧ vr G j (n + 1) - d * Mp (n + 1) = vr F j (n + 1) - t * vr b 0 n
theorem TI_last {F b G : Nat → Int} {t : Int} {j n : Nat} {c d : Int} (H : TI F b t j n G c d) : LI F b j n t (upd G (j + n) (df (G (j + n)) c d)) (bo (G (j + n)) c d) := by
  obtain ⟨h1, h2, h3, h4, h5⟩ := H
  refine ⟨upd_U h1 (df_U _ _ _), bo_01 _ _ _, fun o ho => ?_, ?_⟩
  · unfold upd; rw [if_neg (by omega)]; exact h4 o (by omega)
  · rw [vr_upd, vr, Mp_succ]
    have e1 := df_bo (h1 (j + n)) h2 h3
    have e2 := h4 (j + n) (by omega)
    grind
/-- One time less: b is put back. -/
theorem LI_back {F b G G' : Nat → Int} {t c : Int} {j n : Nat} (H : LI F b j n t G 1) (hU : ∀ o, U (G' o)) (hc : c = 0 ∨ c = 1) (ho : ∀ o, o < j ∨ j + n < o → G' o = G o) (e : vr G' j (n + 1) + c * Mp (n + 1) = vr G j (n + 1) + vr b 0 n) : LI F b j n (t - 1) G' (1 - c) := by
  obtain ⟨h1, h2, h3, h4⟩ := H
  refine ⟨hU, by omega, fun o h => (ho o h).trans (h3 o h), ?_⟩
  grind
end Go.Proofs.Ytblodmjnhmfjeaa
