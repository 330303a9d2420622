/- lampbearerlaw.WordQuotients: word.DivMod answers as the document's own quotient and rest do. -/
import Derived.Test.YtdimohnapjfllaaWDivMod
namespace Go.Proofs.Ytdimohnapjfllaa
open Go.RowKit Go.Shelf
attribute [local go_sem ↓] Go.wp_at_zero Go.wp_at_succ
set_option linter.unusedSimpArgs false in
set_option maxHeartbeats 4000000 in
set_option maxRecDepth 100000 in
theorem law_quotients (a b : Nat) (ha : a < 2 ^ 256) (hb : b < 2 ^ 256) (w : World) :
    Calls Try.prog 4 #[Wd a, Wd b] w fun e w' => e = .returned (.bool true) ∧ Below w.heap.size w w' := by
  obtain ⟨N, hN⟩ : ∃ r, r = a / b := ⟨_, rfl⟩
  obtain ⟨R, hR⟩ : ∃ r, r = md a b := ⟨_, rfl⟩
  have K1 : Hid (∀ w : World, Calls Try.prog 15 #[Wd a, Wd b] w fun e w' => e = .returned (.tuple #[.agg #[.int .u64 (dg N 0), .int .u64 (dg N 1), .int .u64 (dg N 2), .int .u64 (dg N 3)], .agg #[.int .u64 (dg R 0), .int .u64 (dg R 1), .int .u64 (dg R 2), .int .u64 (dg R 3)]]) ∧ Below w.heap.size w w') := fun w => by rw [hN, hR]; exact divmod_any a b ha hb w
  have K2 : Hid (∀ w : World, Calls Try.prog 16 #[Wd a, Wd b] w fun e w' => e = .returned (.tuple #[.agg #[.int .u64 (dg N 0), .int .u64 (dg N 1), .int .u64 (dg N 2), .int .u64 (dg N 3)], .agg #[.int .u64 (dg R 0), .int .u64 (dg R 1), .int .u64 (dg R 2), .int .u64 (dg R 3)]]) ∧ Below w.heap.size w w') := fun w => by rw [hN, hR]; exact wdivmod_any a b ha hb w
  have eN := eq_self N
  have eR := eq_self R
  unfold Wd at eN eR
  have q1 := eq_guard2
  clear ha hb hN hR
  have m := S2_start w a b
  conv => arg 3; unfold Wd
  go_enter Try.func4, Try.ntmps4
  go_wp2_with fail
  refine (K1.out _).mono ?_
  rintro e1 w1 ⟨rfl, hb⟩
  replace m := S2_below m hb
  clear hb
  have c0 := m.c0
  have c1 := m.c1
  have z1 := m.hi
  have z0 : w.heap.size < w1.heap.size := by omega
  have z2 : w.heap.size + 1 < w1.heap.size + 1 := by omega
  have z3 : w.heap.size < w1.heap.size + 1 := by omega
  have n0 := S2_start w1 N R
  have k0 := S2_below m (((Below.refl w1.heap.size w1).alloc (Nat.le_refl _) (.cells #[.int .u64 (dg N 0), .int .u64 (dg N 1), .int .u64 (dg N 2), .int .u64 (dg N 3)] 24)).alloc (by simp) (.cells #[.int .u64 (dg R 0), .int .u64 (dg R 1), .int .u64 (dg R 2), .int .u64 (dg R 3)] 24))
  have d0 := k0.c0
  have d1 := k0.c1
  go_wp2_with fail
  refine (K2.out _).mono ?_
  rintro e2 w2 ⟨rfl, hb⟩
  have k := S2_below k0 hb
  have n := S2_below n0 hb
  clear hb c0 c1 d0 d1 k0 n0 z0 z1 z2 z3 m
  have c0 := n.c0
  have c1 := n.c1
  have z1 := n.hi
  have z0 : w1.heap.size < w2.heap.size := by omega
  have z2 : w1.heap.size + 1 < w2.heap.size + 1 := by omega
  have z3 : w1.heap.size < w2.heap.size + 1 := by omega
  have p0 := S2_start w2 N R
  have n1 := S2_below n (((Below.refl w2.heap.size w2).alloc (Nat.le_refl _) (.cells #[.int .u64 (dg N 0), .int .u64 (dg N 1), .int .u64 (dg N 2), .int .u64 (dg N 3)] 24)).alloc (by simp) (.cells #[.int .u64 (dg R 0), .int .u64 (dg R 1), .int .u64 (dg R 2), .int .u64 (dg R 3)] 24))
  have k1 := S2_below k (((Below.refl w2.heap.size w2).alloc (Nat.le_refl _) (.cells #[.int .u64 (dg N 0), .int .u64 (dg N 1), .int .u64 (dg N 2), .int .u64 (dg N 3)] 24)).alloc (by simp) (.cells #[.int .u64 (dg R 0), .int .u64 (dg R 1), .int .u64 (dg R 2), .int .u64 (dg R 3)] 24))
  have d0 := n1.c0
  have d1 := n1.c1
  have x0 := p0.c0
  have x1 := p0.c1
  have B0 : Hid (Below w.heap.size w _) := k1.bel
  clear k1 n1 p0 n k
  go_wp2_with fail
  go_ret
  exact ⟨rfl, B0.out⟩
end Go.Proofs.Ytdimohnapjfllaa
