/- Plain arithmetic of rows: a row is parted; its parts are those of the number that it comes to. -/
import Derived.Test.YtblodmjnhmfjeaaRArith
namespace Go.Proofs.Ytblodmjnhmfjeaa
theorem vr_split (F : Nat → Int) (j a : Nat) : ∀ b, vr F j (a + b) = vr F j a + Mp a * vr F (j + a) b
  | 0 => by simp [vr]
  | b + 1 => by
    rw [← Nat.add_assoc, vr, vr_split F j a b, vr, Mp_add, Nat.add_assoc]
    grind
theorem vr_low (n : Nat) : ∀ k, vr (dg n) 0 k = lowp n k
  | 0 => by rw [vr, lowp_zero]
  | k + 1 => by rw [vr, vr_low n k, lowp_succ, Nat.zero_add]
/-- A row's parts are those of the number that it comes to. -/
theorem vr_dg {G : Nat → Int} (hU : ∀ o, U (G o)) {K N : Nat} (h : vr G 0 K = N) (k : Nat) (hk : k < K) : G k = dg N k := by
  obtain ⟨m, rfl⟩ : ∃ m, K = k + (1 + m) := ⟨K - k - 1, by omega⟩
  rw [vr_split, vr_split] at h
  have h1 := vr_bound hU 0 k
  have hp := Mp_pos k
  have h2 := (vr_bound hU (0 + k + 1) m).1
  have e1 : vr G (0 + k) 1 = G k := by simp [vr, Mp]
  have e2 : Mp 1 = 18446744073709551616 := Mp1
  rw [e1, e2] at h
  have hu := hU k
  unfold U at hu
  have q : (N : Int) / Mp k = G k + 18446744073709551616 * vr G (0 + k + 1) m := by
    rw [← h]
    rw [Int.add_mul_ediv_left _ _ (by omega), Int.ediv_eq_zero_of_lt h1.1 h1.2, Int.zero_add]
  have e3 : dg N k = (N : Int) / Mp k % 18446744073709551616 := by
    unfold dg Mp; rw [Int.natCast_emod, Int.natCast_ediv]; rfl
  rw [e3, q]
  generalize vr G (0 + k + 1) m = z at *
  omega
/-- Behind i rounds of moving up by p: what stands, and what is carried over. -/
def UI (F : Nat → Int) (p : Int) (i : Nat) (G : Nat → Int) (c : Int) : Prop := (∀ o, U (G o)) ∧ U c ∧ vr G 0 i + c * Mp i = vr F 0 i * p
theorem UI_start (F : Nat → Int) (p : Int) : UI F p 0 (fun _ => 0) 0 := ⟨fun _ => U_zero, U_zero, by simp [vr]⟩
theorem UI_step {F G : Nat → Int} {p c h l : Int} {i : Nat} (H : UI F p i G c) (uh : U h) (ul : U l) (e : h * 18446744073709551616 + l = F i * p + c + 0) : UI F p (i + 1) (upd G i l) h := by
  obtain ⟨h1, h2, h3⟩ := H
  refine ⟨upd_U h1 ul, uh, ?_⟩
  have := vr_upd (F := G) (j := 0) (k := i) (v := l)
  rw [Nat.zero_add] at this
  rw [this, vr, Mp_succ, Nat.zero_add]
  grind
theorem UI_last {F G : Nat → Int} {p c : Int} {i : Nat} (H : UI F p i G c) : (∀ o, U (upd G i c o)) ∧ vr (upd G i c) 0 (i + 1) = vr F 0 i * p := by
  obtain ⟨h1, h2, h3⟩ := H
  have := vr_upd (F := G) (j := 0) (k := i) (v := c)
  rw [Nat.zero_add] at this
  exact ⟨upd_U h1 h2, by rw [this]; exact h3⟩
theorem pow_U (s : Nat) (h : s < 64) : U ((2 : Int) ^ s) := by
  have h1 : (2 : Nat) ^ s < 2 ^ 64 := Nat.pow_lt_pow_right (by decide) h
  have h2 : ((2 ^ s : Nat) : Int) = (2 : Int) ^ s := by simp
  unfold U
  rw [← h2]
  generalize (2 : Nat) ^ s = z at *
  omega
end Go.Proofs.Ytblodmjnhmfjeaa
