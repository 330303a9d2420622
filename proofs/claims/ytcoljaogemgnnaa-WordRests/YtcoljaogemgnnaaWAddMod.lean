/- lampbearerref.WAddMod: the document's own rest of the whole sum. -/
import Derived.Test.YtcoljaogemgnnaaAddRest
import Derived.Deep.Cut
namespace Go.Proofs.Ytcoljaogemgnnaa
open Go.RowKit Go.Shelf
attribute [local go_sem ↓] Go.wp_at_zero Go.wp_at_succ
set_option maxHeartbeats 4000000 in
set_option maxRecDepth 100000 in
theorem waddmod_any (a b m : Nat) (ha : a < 2 ^ 256) (hb : b < 2 ^ 256) (hm : m < 2 ^ 256) (w : World) :
    Calls Try.prog 10 #[Wd a, Wd b, Wd m] w fun e w' => e = .returned (Wd (md (a + b) m)) ∧ Below w.heap.size w w' := by
  have m0 := M4_start3 w a b m 24
  have q1 := eq_guard2
  by_cases h0 : m = 0
  · subst h0
    have q2 := eq_nil0
    rw [show md (a + b) 0 = 0 by simp [md]]
    clear ha hb hm
    conv => arg 3; unfold Wd
    go_enter Try.func10, Try.ntmps10
    go_wp2_with fail
    refine bodyPost_ret (v := Wd 0) (result4 _ _ _ (w.heap.size + 1 + 1 + 1) 0 6 rfl rfl ?_) rfl ⟨rfl, ?_⟩
    · exact (Vb_new4e (B := w.heap.size) (n := 0) (by simp) (by omega)).c
    · repeat (first | exact Below.refl _ _ | refine Below.alloc ?_ (by simp <;> omega) _)
  · have q2 := eq_no m hm h0
    obtain ⟨R, hR⟩ : ∃ R, R = md (a + b) m := ⟨_, rfl⟩
    obtain ⟨X, hX⟩ : ∃ X, X = a % m := ⟨_, rfl⟩
    obtain ⟨Y, hY⟩ : ∃ Y, Y = b % m := ⟨_, rfl⟩
    obtain ⟨X', hX'⟩ : ∃ X, X = a / m := ⟨_, rfl⟩
    obtain ⟨Y', hY'⟩ : ∃ Y, Y = b / m := ⟨_, rfl⟩
    have x1 : X < m := by rw [hX]; exact Nat.mod_lt _ (by omega)
    have y1 : Y < m := by rw [hY]; exact Nat.mod_lt _ (by omega)
    have e1 : (X + Y) % m = R := by rw [hR, hX, hY, md, if_neg h0, ← Nat.add_mod]
    have K1 : Hid (∀ w : World, Calls Try.prog 39 #[Wd a, Wd m] w fun e w' => e = .returned (.tuple #[Wd X', Wd X]) ∧ Below w.heap.size w w') := fun w => by rw [hX, hX']; exact wdivmod_nz a m ha hm h0 w
    have K2 : Hid (∀ w : World, Calls Try.prog 39 #[Wd b, Wd m] w fun e w' => e = .returned (.tuple #[Wd Y', Wd Y]) ∧ Below w.heap.size w w') := fun w => by rw [hY, hY']; exact wdivmod_nz b m hb hm h0 w
    have K3 : Hid (∀ w : World, Calls Try.prog 40 #[Wd X, Wd Y, Wd m] w fun e w' => e = .returned (Wd R) ∧ Below w.heap.size w w') := fun w => by rw [← e1]; exact addrest_any X Y m x1 y1 hm w
    rw [← hR]
    clear ha hb hm h0 hR hX hY hX' hY' x1 y1 e1
    conv => arg 3; unfold Wd
    go_enter Try.func10, Try.ntmps10
    go_wp2_with fail
    generalize (((w.alloc (.cells #[.int .u64 (dg a 0), .int .u64 (dg a 1), .int .u64 (dg a 2), .int .u64 (dg a 3)] 24)).alloc (.cells #[.int .u64 (dg b 0), .int .u64 (dg b 1), .int .u64 (dg b 2), .int .u64 (dg b 3)] 24)).alloc (.cells #[.int .u64 (dg m 0), .int .u64 (dg m 1), .int .u64 (dg m 2), .int .u64 (dg m 3)] 24)).alloc (.cells #[.int .u64 0, .int .u64 0, .int .u64 0, .int .u64 0] 24) = W0 at m0 ⊢
    refine (K1.out _).mono ?_
    rintro e w1 ⟨rfl, hb1⟩
    have m1 := M4_below m0 hb1
    clear hb1 m0
    have vX : Vb w.heap.size (w1.heap.size + 1) 4 (dg X) ((w1.alloc (.cells #[.int .u64 (dg X' 0), .int .u64 (dg X' 1), .int .u64 (dg X' 2), .int .u64 (dg X' 3)] 24)).alloc (.cells #[.int .u64 (dg X 0), .int .u64 (dg X 1), .int .u64 (dg X 2), .int .u64 (dg X 3)] 24)) := Vb_new4e (by simp) (by have := m1.v0.hi; omega)
    have m2 := M4_al (M4_al m1 (.cells #[.int .u64 (dg X' 0), .int .u64 (dg X' 1), .int .u64 (dg X' 2), .int .u64 (dg X' 3)] 24)) (.cells #[.int .u64 (dg X 0), .int .u64 (dg X 1), .int .u64 (dg X 2), .int .u64 (dg X 3)] 24)
    unfold Wd
    go_upto_region 4 with fail
    generalize (w1.alloc (.cells #[.int .u64 (dg X' 0), .int .u64 (dg X' 1), .int .u64 (dg X' 2), .int .u64 (dg X' 3)] 24)).alloc (.cells #[.int .u64 (dg X 0), .int .u64 (dg X 1), .int .u64 (dg X 2), .int .u64 (dg X 3)] 24) = W2 at vX m2 ⊢
    clear m1
    have c1 : ∀ o, o < 4 → W2.cell? ⟨w.heap.size + 1, o, none⟩ = some (.int .u64 (dg b o)) := m2.v1.c
    have c2 : ∀ o, o < 4 → W2.cell? ⟨w.heap.size + 1 + 1, o, none⟩ = some (.int .u64 (dg m o)) := m2.v2.c
    go_wp2_with fail
    refine (K2.out _).mono ?_
    rintro e w3 ⟨rfl, hb3⟩
    have m3 := M4_below m2 hb3
    replace vX := Vb_below vX hb3
    clear hb3 m2 c1 c2
    have vY : Vb w.heap.size (w3.heap.size + 1) 4 (dg Y) ((w3.alloc (.cells #[.int .u64 (dg Y' 0), .int .u64 (dg Y' 1), .int .u64 (dg Y' 2), .int .u64 (dg Y' 3)] 24)).alloc (.cells #[.int .u64 (dg Y 0), .int .u64 (dg Y 1), .int .u64 (dg Y 2), .int .u64 (dg Y 3)] 24)) := Vb_new4e (by simp) (by have := m3.v0.hi; omega)
    have m4 := M4_al (M4_al m3 (.cells #[.int .u64 (dg Y' 0), .int .u64 (dg Y' 1), .int .u64 (dg Y' 2), .int .u64 (dg Y' 3)] 24)) (.cells #[.int .u64 (dg Y 0), .int .u64 (dg Y 1), .int .u64 (dg Y 2), .int .u64 (dg Y 3)] 24)
    replace vX := Vb_al (Vb_al vX (.cells #[.int .u64 (dg Y' 0), .int .u64 (dg Y' 1), .int .u64 (dg Y' 2), .int .u64 (dg Y' 3)] 24)) (.cells #[.int .u64 (dg Y 0), .int .u64 (dg Y 1), .int .u64 (dg Y 2), .int .u64 (dg Y 3)] 24)
    unfold Wd
    go_upto_region 5 with fail
    generalize (w3.alloc (.cells #[.int .u64 (dg Y' 0), .int .u64 (dg Y' 1), .int .u64 (dg Y' 2), .int .u64 (dg Y' 3)] 24)).alloc (.cells #[.int .u64 (dg Y 0), .int .u64 (dg Y 1), .int .u64 (dg Y 2), .int .u64 (dg Y 3)] 24) = W4 at vX vY m4 ⊢
    clear m3
    have c1 : ∀ o, o < 4 → W4.cell? ⟨w1.heap.size + 1, o, none⟩ = some (.int .u64 (dg X o)) := vX.c
    have c2 : ∀ o, o < 4 → W4.cell? ⟨w.heap.size + 1 + 1, o, none⟩ = some (.int .u64 (dg m o)) := m4.v2.c
    have c3 : ∀ o, o < 4 → W4.cell? ⟨w3.heap.size + 1, o, none⟩ = some (.int .u64 (dg Y o)) := vY.c
    go_wp2_with fail
    refine (K3.out _).mono ?_
    rintro e w5 ⟨rfl, hb5⟩
    have m5 := M4_below m4 hb5
    clear hb5 m4 c1 c2 c3 vX vY
    have c3 : ∀ o, o < 4 → w5.cell? ⟨w.heap.size + 1 + 1 + 1, o, none⟩ = some (.int .u64 (dg 0 o)) := m5.v3.c
    have f3 : ∀ o, w5.frozen? ⟨w.heap.size + 1 + 1 + 1, o, none⟩ = false := m5.v3.f
    have HM : Hid (M4 w a b m 0 w5) := m5
    clear m5
    unfold Wd
    go_wp2_with fail
    have m6 := M4_set3 (m := R) HM.out
    exact bodyPost_ret (v := Wd R) (result4 _ _ _ (w.heap.size + 1 + 1 + 1) R 6 rfl rfl m6.v3.c) rfl ⟨rfl, m6.bel⟩
end Go.Proofs.Ytcoljaogemgnnaa
