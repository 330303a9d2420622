/- word.Sub: the difference of two words, rest 2^256. -/
import Derived.Test.YtblodmjnhmfjeaaAdd
namespace Go.Proofs.Ytblodmjnhmfjeaa
open Go.RowKit Go.Shelf
attribute [local go_sem ↓] Go.wp_at_zero Go.wp_at_succ
set_option maxHeartbeats 400000 in
theorem sub_any (a b : Nat) (hb : b < 2 ^ 256) (w : World) :
    Calls Try.prog 24 #[Wd a, Wd b] w fun e w' => e = .returned (Wd (a + 2 ^ 256 - b)) ∧ Below w.heap.size w w' := by
  have Hb : Hid (b < 2 ^ 256) := hb
  clear hb
  conv => arg 3; unfold Wd
  have a0 := dg_nn a 0
  have b0 := dg_nn b 0
  have b0' := dg_lt b 0
  have a1 := dg_nn a 1
  have b1 := dg_nn b 1
  have b1' := dg_lt b 1
  have a2 := dg_nn a 2
  have b2 := dg_nn b 2
  have b2' := dg_lt b 2
  have a3 := dg_nn a 3
  have b3 := dg_nn b 3
  have b3' := dg_lt b 3
  have k0 := bo_nn (dg a 0) (dg b 0) 0
  have l0 := bo_le (dg a 0) (dg b 0) 0
  have k1 := bo_nn (dg a 1) (dg b 1) (bo (dg a 0) (dg b 0) 0)
  have l1 := bo_le (dg a 1) (dg b 1) (bo (dg a 0) (dg b 0) 0)
  have k2 := bo_nn (dg a 2) (dg b 2) (bo (dg a 1) (dg b 1) (bo (dg a 0) (dg b 0) 0))
  have l2 := bo_le (dg a 2) (dg b 2) (bo (dg a 1) (dg b 1) (bo (dg a 0) (dg b 0) 0))
  go_enter Try.func24, Try.ntmps24
  go_wp2
  refine wp_loop_rounds 5 ?_
  rw [rounds_succ]
  go_wp2
  go_region_held3 (fun w' => w'.cell? ⟨w.heap.size, 0, none⟩ = some (.int .u64 (dg a 0)) ∧ w'.cell? ⟨w.heap.size + 1, 0, none⟩ = some (.int .u64 (dg b 0))) (simp [go_sem, World.cell?_alloc_past])
    (first | simp only [sub64 (dg a 0) (dg b 0) 0 a0 b0 b0' (Int.le_refl 0) (by decide)])
  go_wp2
  rw [rounds_succ]
  go_wp2
  go_region_held3 (fun w' => w'.cell? ⟨w.heap.size, 1, none⟩ = some (.int .u64 (dg a 1)) ∧ w'.cell? ⟨w.heap.size + 1, 1, none⟩ = some (.int .u64 (dg b 1))) (simp [go_sem, World.cell?_alloc_past])
    (first | simp only [sub64 (dg a 1) (dg b 1) _ a1 b1 b1' k0 l0])
  go_wp2
  rw [rounds_succ]
  go_wp2
  go_region_held3 (fun w' => w'.cell? ⟨w.heap.size, 2, none⟩ = some (.int .u64 (dg a 2)) ∧ w'.cell? ⟨w.heap.size + 1, 2, none⟩ = some (.int .u64 (dg b 2))) (simp [go_sem, World.cell?_alloc_past])
    (first | simp only [sub64 (dg a 2) (dg b 2) _ a2 b2 b2' k1 l1])
  go_wp2
  rw [rounds_succ]
  go_wp2
  go_region_held3 (fun w' => w'.cell? ⟨w.heap.size, 3, none⟩ = some (.int .u64 (dg a 3)) ∧ w'.cell? ⟨w.heap.size + 1, 3, none⟩ = some (.int .u64 (dg b 3))) (simp [go_sem, World.cell?_alloc_past])
    (first | simp only [sub64 (dg a 3) (dg b 3) _ a3 b3 b3' k2 l2])
  go_wp2
  rw [rounds_succ]
  go_wp2
  refine bodyPost_ret (v := .agg #[.int .u64 (df (dg a 0) (dg b 0) 0), .int .u64 (df (dg a 1) (dg b 1) (bo (dg a 0) (dg b 0) 0)), .int .u64 (df (dg a 2) (dg b 2) (bo (dg a 1) (dg b 1) (bo (dg a 0) (dg b 0) 0))), .int .u64 (df (dg a 3) (dg b 3) (bo (dg a 2) (dg b 2) (bo (dg a 1) (dg b 1) (bo (dg a 0) (dg b 0) 0))))]) (by simp [results, Try.results24, go_sem]) rfl ⟨congrArg _ (wd_of (d0 a b Hb.out) (d1 a b Hb.out) (d2 a b Hb.out) (d3 a b Hb.out)), ?_⟩
  repeat (first | exact Below.refl _ _ | refine Below.drew ?_ | refine Below.setCell ?_ (by simp <;> omega) _ | refine Below.alloc ?_ (by simp <;> omega) _)
end Go.Proofs.Ytblodmjnhmfjeaa
