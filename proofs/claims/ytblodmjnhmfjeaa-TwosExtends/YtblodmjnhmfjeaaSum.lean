/- word.sum and word.Add: the sum of two words, rest 2^256, and what is carried over. -/
import Derived.Test.YtblodmjnhmfjeaaBase
namespace Go.Proofs.Ytblodmjnhmfjeaa
open Go.RowKit Go.Shelf
attribute [local go_sem ↓] Go.wp_at_zero Go.wp_at_succ
set_option maxHeartbeats 400000 in
theorem sum_any (a b : Nat) (ha : a < 2 ^ 256) (hb : b < 2 ^ 256) (w : World) :
    Calls Try.prog 35 #[Wd a, Wd b] w fun e w' => e = .returned (.tuple #[Wd (a + b), .int .u64 (((a + b) / 2 ^ 256 : Nat) : Int)]) ∧ Below w.heap.size w w' := by
  have Ha : Hid (a < 2 ^ 256) := ha
  have Hb : Hid (b < 2 ^ 256) := hb
  clear ha hb
  conv => arg 3; unfold Wd
  have a0 := dg_nn a 0
  have b0 := dg_nn b 0
  have a1 := dg_nn a 1
  have b1 := dg_nn b 1
  have a2 := dg_nn a 2
  have b2 := dg_nn b 2
  have a3 := dg_nn a 3
  have b3 := dg_nn b 3
  have k0 := cy_nn (dg a 0) (dg b 0) 0 a0 b0 (Int.le_refl 0)
  have l0 := cy_le (dg a 0) (dg b 0) 0 (dg_lt a 0) (dg_lt b 0) (by decide)
  have k1 := cy_nn (dg a 1) (dg b 1) _ a1 b1 k0
  have l1 := cy_le (dg a 1) (dg b 1) _ (dg_lt a 1) (dg_lt b 1) l0
  have k2 := cy_nn (dg a 2) (dg b 2) _ a2 b2 k1
  have l2 := cy_le (dg a 2) (dg b 2) _ (dg_lt a 2) (dg_lt b 2) l1
  go_enter Try.func35, Try.ntmps35
  go_wp2
  refine wp_loop_rounds 5 ?_
  rw [rounds_succ]
  go_wp2
  go_region_held3 (fun w' => w'.cell? ⟨w.heap.size, 0, none⟩ = some (.int .u64 (dg a 0)) ∧ w'.cell? ⟨w.heap.size + 1, 0, none⟩ = some (.int .u64 (dg b 0))) (simp [go_sem, World.cell?_alloc_past])
    (first | simp only [add64 (dg a 0) (dg b 0) 0 a0 b0 (Int.le_refl 0) (by decide)])
  go_wp2
  rw [rounds_succ]
  go_wp2
  go_region_held3 (fun w' => w'.cell? ⟨w.heap.size, 1, none⟩ = some (.int .u64 (dg a 1)) ∧ w'.cell? ⟨w.heap.size + 1, 1, none⟩ = some (.int .u64 (dg b 1))) (simp [go_sem, World.cell?_alloc_past])
    (first | simp only [add64 (dg a 1) (dg b 1) _ a1 b1 k0 l0])
  go_wp2
  rw [rounds_succ]
  go_wp2
  go_region_held3 (fun w' => w'.cell? ⟨w.heap.size, 2, none⟩ = some (.int .u64 (dg a 2)) ∧ w'.cell? ⟨w.heap.size + 1, 2, none⟩ = some (.int .u64 (dg b 2))) (simp [go_sem, World.cell?_alloc_past])
    (first | simp only [add64 (dg a 2) (dg b 2) _ a2 b2 k1 l1])
  go_wp2
  rw [rounds_succ]
  go_wp2
  go_region_held3 (fun w' => w'.cell? ⟨w.heap.size, 3, none⟩ = some (.int .u64 (dg a 3)) ∧ w'.cell? ⟨w.heap.size + 1, 3, none⟩ = some (.int .u64 (dg b 3))) (simp [go_sem, World.cell?_alloc_past])
    (first | simp only [add64 (dg a 3) (dg b 3) _ a3 b3 k2 l2])
  go_wp2
  rw [rounds_succ]
  go_wp2
  refine bodyPost_ret (v := .tuple #[.agg #[.int .u64 (sm (dg a 0) (dg b 0) 0), .int .u64 (sm (dg a 1) (dg b 1) (cy (dg a 0) (dg b 0) 0)), .int .u64 (sm (dg a 2) (dg b 2) (cy (dg a 1) (dg b 1) (cy (dg a 0) (dg b 0) 0))), .int .u64 (sm (dg a 3) (dg b 3) (cy (dg a 2) (dg b 2) (cy (dg a 1) (dg b 1) (cy (dg a 0) (dg b 0) 0))))], .int .u64 (cy (dg a 3) (dg b 3) (cy (dg a 2) (dg b 2) (cy (dg a 1) (dg b 1) (cy (dg a 0) (dg b 0) 0))))]) (by simp [results, Try.results35, go_sem]) rfl ⟨tup2 (wd_of (s0 a b) (s1 a b) (s2 a b) (s3 a b)) (int_of (c3 a b Ha.out Hb.out)), ?_⟩
  exact ((((((Below.refl _ _).alloc (Nat.le_refl _) _).alloc (by simp) _).alloc (by simp <;> omega) _).drew).drew).drew.drew
end Go.Proofs.Ytblodmjnhmfjeaa
