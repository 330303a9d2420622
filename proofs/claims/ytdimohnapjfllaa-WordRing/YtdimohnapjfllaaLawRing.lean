/- lampbearerkeep.WordRing: words are a ring. -/
import Derived.Test.YtdimohnapjfllaaAlive1
namespace Go.Proofs.Ytdimohnapjfllaa
open Go.RowKit Go.Shelf
attribute [local go_sem ↓] Go.wp_at_zero Go.wp_at_succ
set_option linter.unusedSimpArgs false in
set_option maxHeartbeats 4000000 in
set_option maxRecDepth 100000 in
theorem law_ring (a b c : Nat) (_ : a < 2 ^ 256) (_ : b < 2 ^ 256) (_ : c < 2 ^ 256) (w : World) :
    Calls Try.prog 8 #[Wd a, Wd b, Wd c] w fun e w' => e = .returned (.bool true) ∧ Below w.heap.size w w' := by
  obtain ⟨S1, hS1⟩ : ∃ r, r = a + b := ⟨_, rfl⟩
  obtain ⟨P1, hP1⟩ : ∃ r, r = a * b := ⟨_, rfl⟩
  obtain ⟨X, hX⟩ : ∃ r, r = a + b + c := ⟨_, rfl⟩
  obtain ⟨S2, hS2⟩ : ∃ r, r = b + c := ⟨_, rfl⟩
  obtain ⟨Q, hQ⟩ : ∃ r, r = a * b * c := ⟨_, rfl⟩
  obtain ⟨P2, hP2⟩ : ∃ r, r = b * c := ⟨_, rfl⟩
  obtain ⟨D, hD⟩ : ∃ r, r = a * (b + c) := ⟨_, rfl⟩
  obtain ⟨P3, hP3⟩ : ∃ r, r = a * c := ⟨_, rfl⟩
  have E0 : Hid (a + b = S1) := by show a + b = S1; omega
  have E1 : Hid (b + a = S1) := by show b + a = S1; omega
  have E2 : Hid (a * b = P1) := by show a * b = P1; omega
  have E3 : Hid (b * a = P1) := by show b * a = P1; rw [hP1, Nat.mul_comm]
  have E4 : Hid (S1 + c = X) := by show S1 + c = X; omega
  have E5 : Hid (b + c = S2) := by show b + c = S2; omega
  have E6 : Hid (a + S2 = X) := by show a + S2 = X; omega
  have E7 : Hid (P1 * c = Q) := by show P1 * c = Q; rw [hQ, hP1]
  have E8 : Hid (b * c = P2) := by show b * c = P2; omega
  have E9 : Hid (a * P2 = Q) := by show a * P2 = Q; rw [hQ, hP2, Nat.mul_assoc]
  have E10 : Hid (a * S2 = D) := by show a * S2 = D; rw [hD, hS2]
  have E11 : Hid (a * c = P3) := by show a * c = P3; omega
  have E12 : Hid (P1 + P3 = D) := by show P1 + P3 = D; rw [hD, hP1, hP3, Nat.mul_add]
  have K14 : Hid (∀ w : World, Calls Try.prog 11 #[Wd S1, Wd b] w fun e w' => e = .returned (.agg #[.int .u64 (dg a 0), .int .u64 (dg a 1), .int .u64 (dg a 2), .int .u64 (dg a 3)]) ∧ Below w.heap.size w w') := fun w => sub_to S1 b a (by rw [hS1]) w
  clear hS1 hP1 hX hS2 hQ hP2 hD hP3
  have eS1 := eq_self S1
  have gS1 := fun op x y => eq_guard op x y S1 S1
  have eP1 := eq_self P1
  have gP1 := fun op x y => eq_guard op x y P1 P1
  have eX := eq_self X
  have gX := fun op x y => eq_guard op x y X X
  have eQ := eq_self Q
  have gQ := fun op x y => eq_guard op x y Q Q
  have eD := eq_self D
  have gD := fun op x y => eq_guard op x y D D
  have ea := eq_self a
  unfold Wd at ea
  have ga := eq_guard2
  have m := S3_start w a b c
  conv => arg 3; unfold Wd
  go_enter Try.func8, Try.ntmps8
  go_wp2_with fail
  refine (alive1_any _).mono ?_
  rintro e1 w1 ⟨rfl, hb⟩
  replace m := S3_below m hb
  clear hb
  go_wp2_with fail
  dsimp only [List.append]
  replace m := S3_drew m
  go_region_held3 (fun w' => (∀ o, o < 4 → w'.cell? ⟨w.heap.size, o, none⟩ = some (.int .u64 (dg a o))) ∧ (∀ o, o < 4 → w'.cell? ⟨w.heap.size + 1, o, none⟩ = some (.int .u64 (dg b o))) ∧ (∀ o, o < 4 → w'.cell? ⟨w.heap.size + 1 + 1, o, none⟩ = some (.int .u64 (dg c o)))) (exact ⟨m.c0, m.c1, m.c2⟩)
    (first | (go_at_call 9; refine (add_mod _ _ _).mono ?_; rintro e w' ⟨rfl, hb⟩; replace m := S3_below m hb; clear hb; (try simp only [E0.out, E1.out, E4.out, E5.out, E6.out, E12.out])) | (go_at_call 13; refine (mul_mod _ _ _).mono ?_; rintro e w' ⟨rfl, hb⟩; replace m := S3_below m hb; clear hb; (try simp only [E2.out, E3.out, E7.out, E8.out, E9.out, E10.out, E11.out])) | (go_at_call 11; refine (K14.out _).mono ?_; rintro e w' ⟨rfl, hb⟩; replace m := S3_below m hb; clear hb))
  all_goals
    go_wp2_with fail
    go_ret
    exact ⟨rfl, m.bel⟩
end Go.Proofs.Ytdimohnapjfllaa
