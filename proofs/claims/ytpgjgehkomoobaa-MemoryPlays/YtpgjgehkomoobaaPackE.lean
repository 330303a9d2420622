/- lampbearerref: reach: how large the memory must be. -/
import Derived.Test.YtpgjgehkomoobaaPackD
import Derived.Test.YtpgjgehkomoobaaPackB
import Derived.Test.YtpgjgehkomoobaaPackA
import Derived.Test.YtpgjgehkomoobaaPackC
namespace Go.Proofs.Ytpgjgehkomoobaa
namespace Kp
open Go.RowKit Go.Maps
open Mm (By lay grw gco cst)
set_option maxHeartbeats 2000000 in
set_option maxRecDepth 100000 in
theorem kreach_zero (g b : Nat) (m : By) (a n : Nat) (w : World) (h : KM g b m w) (hn : n = 0) : Calls Try.prog 18 #[.pointer (some ⟨g, 0, none⟩), Wd a, Wd n] w fun e w' => e = .returned (.tuple #[.int .u64 (m.length : Int), .bool true]) ∧ Below w.heap.size w w' := by
  have HN : Hid (n = 0) := hn
  have HM : Hid (KM g b m w) := h
  clear hn h
  conv => arg 3; unfold Wd
  go_enter Try.func18, Try.ntmps18
  go_upto_region 1 with fail
  have m0 : Hm.Hd w [Hm.W4 (w.heap.size + 1) n, Hm.W4 w.heap.size a] ((w.alloc (.cells #[.int .u64 (dg a 0), .int .u64 (dg a 1), .int .u64 (dg a 2), .int .u64 (dg a 3)] 32)).alloc (.cells #[.int .u64 (dg n 0), .int .u64 (dg n 1), .int .u64 (dg n 2), .int .u64 (dg n 3)] 32)) := by
    have k1 := Hm.new4 (n := a) (T := 32) (Hm.start w) rfl
    exact Hm.new4 (n := n) (T := 32) (g := w.heap.size + 1) k1 (by simp)
  generalize (w.alloc (.cells #[.int .u64 (dg a 0), .int .u64 (dg a 1), .int .u64 (dg a 2), .int .u64 (dg a 3)] 32)).alloc (.cells #[.int .u64 (dg n 0), .int .u64 (dg n 1), .int .u64 (dg n 2), .int .u64 (dg n 3)] 32) = W1 at m0 ⊢
  refine RS.wp_region_flat (Hm.Hd w [Hm.W4 (w.heap.size + 1) n, Hm.W4 w.heap.size a]) 3 (by kernel_rfl) (m0) ?_
  simp only [List.take_succ_cons, List.take_zero, List.drop_succ_cons, List.drop_zero]
  refine RS.go1 (v := ?_) (a' := ?_) rfl ?_ ?_ ?_
  rotate_left 2
  · intro K wx hS hK
    refine RW.ld rfl rfl (hS.ok (Hm.W4 (w.heap.size + 1) (n)) (by simp)).c ?_
    exact hK _ hS
  · simp only [Act.put, List.setIfInBounds_toArray, List.set_cons_succ, List.set_cons_zero]
    rfl
  refine RS.go1 (v := ?_) (a' := ?_) rfl ?_ ?_ ?_
  rotate_left 2
  · intro K wx hS hK
    go_simp
    exact hK _ hS
  · simp only [Act.put, List.setIfInBounds_toArray, List.set_cons_succ, List.set_cons_zero]
    rfl
  refine RS.go1 (v := ?_) (a' := ?_) rfl ?_ ?_ ?_
  rotate_left 2
  · intro K wx hS hK
    refine RW.eq (b := true) (y := 0) rfl rfl rfl (by rw [HN.out]; rfl) ?_
    exact hK _ hS
  · simp only [Act.put, List.setIfInBounds_toArray, List.set_cons_succ, List.set_cons_zero]
    rfl
  refine RS.go_end ?_
  intro w2 m2
  have M2 : Hid (Below w.heap.size w w2) := m2.bel
  have c1 := (HM.out.below M2.out).c1
  clear m2 m0
  go_wp2_with fail
  go_ret2
  exact ⟨rfl, M2.out⟩
set_option maxHeartbeats 2000000 in
set_option maxRecDepth 100000 in
theorem kreach_over (g b : Nat) (m : By) (a n E : Nat) (w : World) (h : KM g b m w) (hn : n % 2 ^ 256 ≠ 0)
    (KA : Hid (∀ W : World, Calls Try.prog 24 #[Wd a, Wd n] W fun e w' => e = .returned (.agg #[.int .u64 (dg E 0), .int .u64 (dg E 1), .int .u64 (dg E 2), .int .u64 (dg E 3)]) ∧ Below W.heap.size W w'))
    (KL : Hid (∀ W : World, Calls Try.prog 25 #[Wd E, Wd a] W fun e w' => e = .returned (.bool true) ∧ Below W.heap.size W w')) :
    Calls Try.prog 18 #[.pointer (some ⟨g, 0, none⟩), Wd a, Wd n] w fun e w' => e = .returned (.tuple #[.int .u64 0, .bool false]) ∧ Below w.heap.size w w' := by
  have HN : Hid (¬ n % 2 ^ 256 = 0 % 2 ^ 256) := by show ¬ _; rw [Nat.zero_mod]; exact hn
  have HM : Hid (KM g b m w) := h
  clear hn h
  conv => arg 3; unfold Wd
  go_enter Try.func18, Try.ntmps18
  go_upto_region 1 with fail
  have m0 : Hm.Hd w [Hm.W4 (w.heap.size + 1) n, Hm.W4 w.heap.size a] ((w.alloc (.cells #[.int .u64 (dg a 0), .int .u64 (dg a 1), .int .u64 (dg a 2), .int .u64 (dg a 3)] 32)).alloc (.cells #[.int .u64 (dg n 0), .int .u64 (dg n 1), .int .u64 (dg n 2), .int .u64 (dg n 3)] 32)) := by
    have k1 := Hm.new4 (n := a) (T := 32) (Hm.start w) rfl
    exact Hm.new4 (n := n) (T := 32) (g := w.heap.size + 1) k1 (by simp)
  generalize (w.alloc (.cells #[.int .u64 (dg a 0), .int .u64 (dg a 1), .int .u64 (dg a 2), .int .u64 (dg a 3)] 32)).alloc (.cells #[.int .u64 (dg n 0), .int .u64 (dg n 1), .int .u64 (dg n 2), .int .u64 (dg n 3)] 32) = W1 at m0 ⊢
  refine RS.wp_region_flat (Hm.Hd w [Hm.W4 (w.heap.size + 1) n, Hm.W4 w.heap.size a]) 3 (by kernel_rfl) (m0) ?_
  simp only [List.take_succ_cons, List.take_zero, List.drop_succ_cons, List.drop_zero]
  refine RS.go1 (v := ?_) (a' := ?_) rfl ?_ ?_ ?_
  rotate_left 2
  · intro K wx hS hK
    refine RW.ld rfl rfl (hS.ok (Hm.W4 (w.heap.size + 1) (n)) (by simp)).c ?_
    exact hK _ hS
  · simp only [Act.put, List.setIfInBounds_toArray, List.set_cons_succ, List.set_cons_zero]
    rfl
  refine RS.go1 (v := ?_) (a' := ?_) rfl ?_ ?_ ?_
  rotate_left 2
  · intro K wx hS hK
    go_simp
    exact hK _ hS
  · simp only [Act.put, List.setIfInBounds_toArray, List.set_cons_succ, List.set_cons_zero]
    rfl
  refine RS.go1 (v := ?_) (a' := ?_) rfl ?_ ?_ ?_
  rotate_left 2
  · intro K wx hS hK
    refine RW.eq (b := false) (y := 0) rfl rfl rfl (decide_eq_false HN.out) ?_
    exact hK _ hS
  · simp only [Act.put, List.setIfInBounds_toArray, List.set_cons_succ, List.set_cons_zero]
    rfl
  refine RS.go_end ?_
  intro w2 m2
  clear m0
  go_upto_region 3 with fail
  refine RS.wp_region_flat (Hm.Hd w [Hm.W4 (w.heap.size + 1) n, Hm.W4 w.heap.size a]) 3 (by kernel_rfl) (m2) ?_
  simp only [List.take_succ_cons, List.take_zero, List.drop_succ_cons, List.drop_zero]
  refine RS.go1 (v := ?_) (a' := ?_) rfl ?_ ?_ ?_
  rotate_left 2
  · intro K wx hS hK
    refine RW.ld rfl rfl (hS.ok (Hm.W4 (w.heap.size) (a)) (by simp)).c ?_
    exact hK _ hS
  · simp only [Act.put, List.setIfInBounds_toArray, List.set_cons_succ, List.set_cons_zero]
    rfl
  refine RS.go1 (v := ?_) (a' := ?_) rfl ?_ ?_ ?_
  rotate_left 2
  · intro K wx hS hK
    refine RW.ld rfl rfl (hS.ok (Hm.W4 (w.heap.size + 1) (n)) (by simp)).c ?_
    exact hK _ hS
  · simp only [Act.put, List.setIfInBounds_toArray, List.set_cons_succ, List.set_cons_zero]
    rfl
  refine RS.go1 (v := ?_) (a' := ?_) rfl ?_ ?_ ?_
  rotate_left 2
  · intro K wx hS hK
    go_simp
    refine (KA.out wx).mono (fun e w2 he => ?_)
    refine ⟨_, he.1, ?_⟩
    exact hK _ (Hm.below hS he.2)
  · simp only [Act.put, List.setIfInBounds_toArray, List.set_cons_succ, List.set_cons_zero]
    rfl
  refine RS.go_end ?_
  intro w3 m3
  clear m2
  go_upto_region 4 with fail
  have m4 : Hm.Hd w [Hm.W4 w3.heap.size E, Hm.W4 (w.heap.size + 1) n, Hm.W4 w.heap.size a] (w3.alloc (.cells #[.int .u64 (dg E 0), .int .u64 (dg E 1), .int .u64 (dg E 2), .int .u64 (dg E 3)] 32)) := Hm.new4 (n := E) (T := 32) m3 rfl
  generalize w3.alloc (.cells #[.int .u64 (dg E 0), .int .u64 (dg E 1), .int .u64 (dg E 2), .int .u64 (dg E 3)] 32) = W4 at m4 ⊢
  generalize w3.heap.size = g8 at *
  clear m3
  refine RS.wp_region_one (Hm.Hd w [Hm.W4 g8 E, Hm.W4 (w.heap.size + 1) n, Hm.W4 w.heap.size a]) (by kernel_rfl) (by kernel_rfl) (Hm.drew m4) ?_
  dsimp only [List.toList_toArray]
  refine RS.go1 (v := ?_) (a' := ?_) rfl ?_ ?_ ?_
  rotate_left 2
  · intro K wx hS hK
    refine RW.ld rfl rfl (hS.ok (Hm.W4 (g8) (E)) (by simp)).c ?_
    exact hK _ hS
  · simp only [Act.put, List.setIfInBounds_toArray, List.set_cons_succ, List.set_cons_zero]
    rfl
  refine RS.go1 (v := ?_) (a' := ?_) rfl ?_ ?_ ?_
  rotate_left 2
  · intro K wx hS hK
    refine RW.ld rfl rfl (hS.ok (Hm.W4 (w.heap.size) (a)) (by simp)).c ?_
    exact hK _ hS
  · simp only [Act.put, List.setIfInBounds_toArray, List.set_cons_succ, List.set_cons_zero]
    rfl
  refine RS.go1 (v := ?_) (a' := ?_) rfl ?_ ?_ ?_
  rotate_left 2
  · intro K wx hS hK
    go_simp
    refine (KL.out wx).mono (fun e w2 he => ?_)
    refine ⟨_, he.1, ?_⟩
    exact hK _ (Hm.below hS he.2)
  · simp only [Act.put, List.setIfInBounds_toArray, List.set_cons_succ, List.set_cons_zero]
    rfl
  refine RS.go1 (v := ?_) (a' := ?_) rfl ?_ ?_ ?_
  rotate_left 2
  · intro K wx hS hK
    go_simp
    exact hK _ hS
  · simp only [Act.put, List.setIfInBounds_toArray, List.set_cons_succ, List.set_cons_zero]
    rfl
  refine RS.go0 (a' := ?_) (by kernel_rfl) ?_ ?_
  rotate_left 1
  · simp only [Act.put, List.setIfInBounds_toArray, List.set_cons_succ, List.set_cons_zero]
    rfl
  refine RS.go0 (a' := ?_) (by kernel_rfl) ?_ ?_
  rotate_left 1
  · simp only [Act.put, List.setIfInBounds_toArray, List.set_cons_succ, List.set_cons_zero]
    rfl
  refine RS.go0 (a' := ?_) (by kernel_rfl) ?_ ?_
  rotate_left 1
  · simp only [Act.put, List.setIfInBounds_toArray, List.set_cons_succ, List.set_cons_zero]
    rfl
  refine RS.go1 (v := ?_) (a' := ?_) rfl ?_ ?_ ?_
  rotate_left 2
  · intro K wx hS hK
    go_simp
    exact hK _ hS
  · simp only [Act.put, List.setIfInBounds_toArray, List.set_cons_succ, List.set_cons_zero]
    rfl
  refine RS.go_end ?_
  intro w5 m5
  have M5 : Hid (Below w.heap.size w w5) := m5.bel
  clear m4 m5
  go_wp2_with fail
  go_ret2
  exact ⟨rfl, M5.out⟩
set_option maxHeartbeats 2000000 in
set_option maxRecDepth 100000 in
theorem kreach_much (g b : Nat) (m : By) (a n E : Nat) (w : World) (h : KM g b m w) (hn : n % 2 ^ 256 ≠ 0)
    (KA : Hid (∀ W : World, Calls Try.prog 24 #[Wd a, Wd n] W fun e w' => e = .returned (.agg #[.int .u64 (dg E 0), .int .u64 (dg E 1), .int .u64 (dg E 2), .int .u64 (dg E 3)]) ∧ Below W.heap.size W w'))
    (KL : Hid (∀ W : World, Calls Try.prog 25 #[Wd E, Wd a] W fun e w' => e = .returned (.bool false) ∧ Below W.heap.size W w'))
    (KI : Hid (∀ W : World, Calls Try.prog 17 #[.int .u64 4096] W fun e w' => e = .returned (Wd 4096) ∧ Below W.heap.size W w'))
    (KM2 : Hid (∀ W : World, Calls Try.prog 25 #[Wd 4096, Wd E] W fun e w' => e = .returned (.bool true) ∧ Below W.heap.size W w')) :
    Calls Try.prog 18 #[.pointer (some ⟨g, 0, none⟩), Wd a, Wd n] w fun e w' => e = .returned (.tuple #[.int .u64 0, .bool false]) ∧ Below w.heap.size w w' := by
  have HN : Hid (¬ n % 2 ^ 256 = 0 % 2 ^ 256) := by show ¬ _; rw [Nat.zero_mod]; exact hn
  have HM : Hid (KM g b m w) := h
  clear hn h
  conv => arg 3; unfold Wd
  go_enter Try.func18, Try.ntmps18
  go_upto_region 1 with fail
  have m0 : Hm.Hd w [Hm.W4 (w.heap.size + 1) n, Hm.W4 w.heap.size a] ((w.alloc (.cells #[.int .u64 (dg a 0), .int .u64 (dg a 1), .int .u64 (dg a 2), .int .u64 (dg a 3)] 32)).alloc (.cells #[.int .u64 (dg n 0), .int .u64 (dg n 1), .int .u64 (dg n 2), .int .u64 (dg n 3)] 32)) := by
    have k1 := Hm.new4 (n := a) (T := 32) (Hm.start w) rfl
    exact Hm.new4 (n := n) (T := 32) (g := w.heap.size + 1) k1 (by simp)
  generalize (w.alloc (.cells #[.int .u64 (dg a 0), .int .u64 (dg a 1), .int .u64 (dg a 2), .int .u64 (dg a 3)] 32)).alloc (.cells #[.int .u64 (dg n 0), .int .u64 (dg n 1), .int .u64 (dg n 2), .int .u64 (dg n 3)] 32) = W1 at m0 ⊢
  refine RS.wp_region_flat (Hm.Hd w [Hm.W4 (w.heap.size + 1) n, Hm.W4 w.heap.size a]) 3 (by kernel_rfl) (m0) ?_
  simp only [List.take_succ_cons, List.take_zero, List.drop_succ_cons, List.drop_zero]
  refine RS.go1 (v := ?_) (a' := ?_) rfl ?_ ?_ ?_
  rotate_left 2
  · intro K wx hS hK
    refine RW.ld rfl rfl (hS.ok (Hm.W4 (w.heap.size + 1) (n)) (by simp)).c ?_
    exact hK _ hS
  · simp only [Act.put, List.setIfInBounds_toArray, List.set_cons_succ, List.set_cons_zero]
    rfl
  refine RS.go1 (v := ?_) (a' := ?_) rfl ?_ ?_ ?_
  rotate_left 2
  · intro K wx hS hK
    go_simp
    exact hK _ hS
  · simp only [Act.put, List.setIfInBounds_toArray, List.set_cons_succ, List.set_cons_zero]
    rfl
  refine RS.go1 (v := ?_) (a' := ?_) rfl ?_ ?_ ?_
  rotate_left 2
  · intro K wx hS hK
    refine RW.eq (b := false) (y := 0) rfl rfl rfl (decide_eq_false HN.out) ?_
    exact hK _ hS
  · simp only [Act.put, List.setIfInBounds_toArray, List.set_cons_succ, List.set_cons_zero]
    rfl
  refine RS.go_end ?_
  intro w2 m2
  clear m0
  go_upto_region 3 with fail
  refine RS.wp_region_flat (Hm.Hd w [Hm.W4 (w.heap.size + 1) n, Hm.W4 w.heap.size a]) 3 (by kernel_rfl) (m2) ?_
  simp only [List.take_succ_cons, List.take_zero, List.drop_succ_cons, List.drop_zero]
  refine RS.go1 (v := ?_) (a' := ?_) rfl ?_ ?_ ?_
  rotate_left 2
  · intro K wx hS hK
    refine RW.ld rfl rfl (hS.ok (Hm.W4 (w.heap.size) (a)) (by simp)).c ?_
    exact hK _ hS
  · simp only [Act.put, List.setIfInBounds_toArray, List.set_cons_succ, List.set_cons_zero]
    rfl
  refine RS.go1 (v := ?_) (a' := ?_) rfl ?_ ?_ ?_
  rotate_left 2
  · intro K wx hS hK
    refine RW.ld rfl rfl (hS.ok (Hm.W4 (w.heap.size + 1) (n)) (by simp)).c ?_
    exact hK _ hS
  · simp only [Act.put, List.setIfInBounds_toArray, List.set_cons_succ, List.set_cons_zero]
    rfl
  refine RS.go1 (v := ?_) (a' := ?_) rfl ?_ ?_ ?_
  rotate_left 2
  · intro K wx hS hK
    go_simp
    refine (KA.out wx).mono (fun e w2 he => ?_)
    refine ⟨_, he.1, ?_⟩
    exact hK _ (Hm.below hS he.2)
  · simp only [Act.put, List.setIfInBounds_toArray, List.set_cons_succ, List.set_cons_zero]
    rfl
  refine RS.go_end ?_
  intro w3 m3
  clear m2
  go_upto_region 4 with fail
  have m4 : Hm.Hd w [Hm.W4 w3.heap.size E, Hm.W4 (w.heap.size + 1) n, Hm.W4 w.heap.size a] (w3.alloc (.cells #[.int .u64 (dg E 0), .int .u64 (dg E 1), .int .u64 (dg E 2), .int .u64 (dg E 3)] 32)) := Hm.new4 (n := E) (T := 32) m3 rfl
  generalize w3.alloc (.cells #[.int .u64 (dg E 0), .int .u64 (dg E 1), .int .u64 (dg E 2), .int .u64 (dg E 3)] 32) = W4 at m4 ⊢
  generalize w3.heap.size = g8 at *
  clear m3
  refine RS.wp_region_one (Hm.Hd w [Hm.W4 g8 E, Hm.W4 (w.heap.size + 1) n, Hm.W4 w.heap.size a]) (by kernel_rfl) (by kernel_rfl) (Hm.drew m4) ?_
  dsimp only [List.toList_toArray]
  refine RS.go1 (v := ?_) (a' := ?_) rfl ?_ ?_ ?_
  rotate_left 2
  · intro K wx hS hK
    refine RW.ld rfl rfl (hS.ok (Hm.W4 (g8) (E)) (by simp)).c ?_
    exact hK _ hS
  · simp only [Act.put, List.setIfInBounds_toArray, List.set_cons_succ, List.set_cons_zero]
    rfl
  refine RS.go1 (v := ?_) (a' := ?_) rfl ?_ ?_ ?_
  rotate_left 2
  · intro K wx hS hK
    refine RW.ld rfl rfl (hS.ok (Hm.W4 (w.heap.size) (a)) (by simp)).c ?_
    exact hK _ hS
  · simp only [Act.put, List.setIfInBounds_toArray, List.set_cons_succ, List.set_cons_zero]
    rfl
  refine RS.go1 (v := ?_) (a' := ?_) rfl ?_ ?_ ?_
  rotate_left 2
  · intro K wx hS hK
    go_simp
    refine (KL.out wx).mono (fun e w2 he => ?_)
    refine ⟨_, he.1, ?_⟩
    exact hK _ (Hm.below hS he.2)
  · simp only [Act.put, List.setIfInBounds_toArray, List.set_cons_succ, List.set_cons_zero]
    rfl
  refine RS.go1 (v := ?_) (a' := ?_) rfl ?_ ?_ ?_
  rotate_left 2
  · intro K wx hS hK
    go_simp
    exact hK _ hS
  · simp only [Act.put, List.setIfInBounds_toArray, List.set_cons_succ, List.set_cons_zero]
    rfl
  refine RS.go1g (v := ?_) (a' := ?_) (by kernel_rfl) ?_ ?_ ?_
  rotate_left 2
  · intro K wx hS hK
    go_simp
    refine (KI.out wx).mono (fun e w2 he => ?_)
    refine ⟨_, he.1, ?_⟩
    exact hK _ (Hm.below hS he.2)
  · simp only [Act.put, List.setIfInBounds_toArray, List.set_cons_succ, List.set_cons_zero]
    rfl
  refine RS.go1g (v := ?_) (a' := ?_) (by kernel_rfl) ?_ ?_ ?_
  rotate_left 2
  · intro K wx hS hK
    refine RW.ld rfl rfl (hS.ok (Hm.W4 (g8) (E)) (by simp)).c ?_
    exact hK _ hS
  · simp only [Act.put, List.setIfInBounds_toArray, List.set_cons_succ, List.set_cons_zero]
    rfl
  refine RS.go1g (v := ?_) (a' := ?_) (by kernel_rfl) ?_ ?_ ?_
  rotate_left 2
  · intro K wx hS hK
    go_simp
    refine (KM2.out wx).mono (fun e w2 he => ?_)
    refine ⟨_, he.1, ?_⟩
    exact hK _ (Hm.below hS he.2)
  · simp only [Act.put, List.setIfInBounds_toArray, List.set_cons_succ, List.set_cons_zero]
    rfl
  refine RS.go1 (v := ?_) (a' := ?_) rfl ?_ ?_ ?_
  rotate_left 2
  · intro K wx hS hK
    go_simp
    exact hK _ hS
  · simp only [Act.put, List.setIfInBounds_toArray, List.set_cons_succ, List.set_cons_zero]
    rfl
  refine RS.go_end ?_
  intro w5 m5
  have M5 : Hid (Below w.heap.size w w5) := m5.bel
  clear m4 m5
  go_wp2_with fail
  go_ret2
  exact ⟨rfl, M5.out⟩
set_option maxHeartbeats 2000000 in
set_option maxRecDepth 100000 in
theorem kreach_ok (g b : Nat) (m : By) (a n E : Nat) (w : World) (h : KM g b m w) (hn : n % 2 ^ 256 ≠ 0)
    (KA : Hid (∀ W : World, Calls Try.prog 24 #[Wd a, Wd n] W fun e w' => e = .returned (.agg #[.int .u64 (dg E 0), .int .u64 (dg E 1), .int .u64 (dg E 2), .int .u64 (dg E 3)]) ∧ Below W.heap.size W w'))
    (KL : Hid (∀ W : World, Calls Try.prog 25 #[Wd E, Wd a] W fun e w' => e = .returned (.bool false) ∧ Below W.heap.size W w'))
    (KI : Hid (∀ W : World, Calls Try.prog 17 #[.int .u64 4096] W fun e w' => e = .returned (Wd 4096) ∧ Below W.heap.size W w'))
    (KM2 : Hid (∀ W : World, Calls Try.prog 25 #[Wd 4096, Wd E] W fun e w' => e = .returned (.bool false) ∧ Below W.heap.size W w')) (hE : Hid (dg E 0 = (E : Int) ∧ E ≤ 4096 ∧ m.length ≤ 4096)) :
    Calls Try.prog 18 #[.pointer (some ⟨g, 0, none⟩), Wd a, Wd n] w fun e w' => e = .returned (.tuple #[.int .u64 ((max (c32 E) m.length : Nat) : Int), .bool true]) ∧ Below w.heap.size w w' := by
  have HN : Hid (¬ n % 2 ^ 256 = 0 % 2 ^ 256) := by show ¬ _; rw [Nat.zero_mod]; exact hn
  have HM : Hid (KM g b m w) := h
  clear hn h
  conv => arg 3; unfold Wd
  go_enter Try.func18, Try.ntmps18
  go_upto_region 1 with fail
  have m0 : Hm.Hd w [Hm.W4 (w.heap.size + 1) n, Hm.W4 w.heap.size a] ((w.alloc (.cells #[.int .u64 (dg a 0), .int .u64 (dg a 1), .int .u64 (dg a 2), .int .u64 (dg a 3)] 32)).alloc (.cells #[.int .u64 (dg n 0), .int .u64 (dg n 1), .int .u64 (dg n 2), .int .u64 (dg n 3)] 32)) := by
    have k1 := Hm.new4 (n := a) (T := 32) (Hm.start w) rfl
    exact Hm.new4 (n := n) (T := 32) (g := w.heap.size + 1) k1 (by simp)
  generalize (w.alloc (.cells #[.int .u64 (dg a 0), .int .u64 (dg a 1), .int .u64 (dg a 2), .int .u64 (dg a 3)] 32)).alloc (.cells #[.int .u64 (dg n 0), .int .u64 (dg n 1), .int .u64 (dg n 2), .int .u64 (dg n 3)] 32) = W1 at m0 ⊢
  refine RS.wp_region_flat (Hm.Hd w [Hm.W4 (w.heap.size + 1) n, Hm.W4 w.heap.size a]) 3 (by kernel_rfl) (m0) ?_
  simp only [List.take_succ_cons, List.take_zero, List.drop_succ_cons, List.drop_zero]
  refine RS.go1 (v := ?_) (a' := ?_) rfl ?_ ?_ ?_
  rotate_left 2
  · intro K wx hS hK
    refine RW.ld rfl rfl (hS.ok (Hm.W4 (w.heap.size + 1) (n)) (by simp)).c ?_
    exact hK _ hS
  · simp only [Act.put, List.setIfInBounds_toArray, List.set_cons_succ, List.set_cons_zero]
    rfl
  refine RS.go1 (v := ?_) (a' := ?_) rfl ?_ ?_ ?_
  rotate_left 2
  · intro K wx hS hK
    go_simp
    exact hK _ hS
  · simp only [Act.put, List.setIfInBounds_toArray, List.set_cons_succ, List.set_cons_zero]
    rfl
  refine RS.go1 (v := ?_) (a' := ?_) rfl ?_ ?_ ?_
  rotate_left 2
  · intro K wx hS hK
    refine RW.eq (b := false) (y := 0) rfl rfl rfl (decide_eq_false HN.out) ?_
    exact hK _ hS
  · simp only [Act.put, List.setIfInBounds_toArray, List.set_cons_succ, List.set_cons_zero]
    rfl
  refine RS.go_end ?_
  intro w2 m2
  clear m0
  go_upto_region 3 with fail
  refine RS.wp_region_flat (Hm.Hd w [Hm.W4 (w.heap.size + 1) n, Hm.W4 w.heap.size a]) 3 (by kernel_rfl) (m2) ?_
  simp only [List.take_succ_cons, List.take_zero, List.drop_succ_cons, List.drop_zero]
  refine RS.go1 (v := ?_) (a' := ?_) rfl ?_ ?_ ?_
  rotate_left 2
  · intro K wx hS hK
    refine RW.ld rfl rfl (hS.ok (Hm.W4 (w.heap.size) (a)) (by simp)).c ?_
    exact hK _ hS
  · simp only [Act.put, List.setIfInBounds_toArray, List.set_cons_succ, List.set_cons_zero]
    rfl
  refine RS.go1 (v := ?_) (a' := ?_) rfl ?_ ?_ ?_
  rotate_left 2
  · intro K wx hS hK
    refine RW.ld rfl rfl (hS.ok (Hm.W4 (w.heap.size + 1) (n)) (by simp)).c ?_
    exact hK _ hS
  · simp only [Act.put, List.setIfInBounds_toArray, List.set_cons_succ, List.set_cons_zero]
    rfl
  refine RS.go1 (v := ?_) (a' := ?_) rfl ?_ ?_ ?_
  rotate_left 2
  · intro K wx hS hK
    go_simp
    refine (KA.out wx).mono (fun e w2 he => ?_)
    refine ⟨_, he.1, ?_⟩
    exact hK _ (Hm.below hS he.2)
  · simp only [Act.put, List.setIfInBounds_toArray, List.set_cons_succ, List.set_cons_zero]
    rfl
  refine RS.go_end ?_
  intro w3 m3
  clear m2
  go_upto_region 4 with fail
  have m4 : Hm.Hd w [Hm.W4 w3.heap.size E, Hm.W4 (w.heap.size + 1) n, Hm.W4 w.heap.size a] (w3.alloc (.cells #[.int .u64 (dg E 0), .int .u64 (dg E 1), .int .u64 (dg E 2), .int .u64 (dg E 3)] 32)) := Hm.new4 (n := E) (T := 32) m3 rfl
  generalize w3.alloc (.cells #[.int .u64 (dg E 0), .int .u64 (dg E 1), .int .u64 (dg E 2), .int .u64 (dg E 3)] 32) = W4 at m4 ⊢
  generalize w3.heap.size = g8 at *
  clear m3
  refine RS.wp_region_one (Hm.Hd w [Hm.W4 g8 E, Hm.W4 (w.heap.size + 1) n, Hm.W4 w.heap.size a]) (by kernel_rfl) (by kernel_rfl) (Hm.drew m4) ?_
  dsimp only [List.toList_toArray]
  refine RS.go1 (v := ?_) (a' := ?_) rfl ?_ ?_ ?_
  rotate_left 2
  · intro K wx hS hK
    refine RW.ld rfl rfl (hS.ok (Hm.W4 (g8) (E)) (by simp)).c ?_
    exact hK _ hS
  · simp only [Act.put, List.setIfInBounds_toArray, List.set_cons_succ, List.set_cons_zero]
    rfl
  refine RS.go1 (v := ?_) (a' := ?_) rfl ?_ ?_ ?_
  rotate_left 2
  · intro K wx hS hK
    refine RW.ld rfl rfl (hS.ok (Hm.W4 (w.heap.size) (a)) (by simp)).c ?_
    exact hK _ hS
  · simp only [Act.put, List.setIfInBounds_toArray, List.set_cons_succ, List.set_cons_zero]
    rfl
  refine RS.go1 (v := ?_) (a' := ?_) rfl ?_ ?_ ?_
  rotate_left 2
  · intro K wx hS hK
    go_simp
    refine (KL.out wx).mono (fun e w2 he => ?_)
    refine ⟨_, he.1, ?_⟩
    exact hK _ (Hm.below hS he.2)
  · simp only [Act.put, List.setIfInBounds_toArray, List.set_cons_succ, List.set_cons_zero]
    rfl
  refine RS.go1 (v := ?_) (a' := ?_) rfl ?_ ?_ ?_
  rotate_left 2
  · intro K wx hS hK
    go_simp
    exact hK _ hS
  · simp only [Act.put, List.setIfInBounds_toArray, List.set_cons_succ, List.set_cons_zero]
    rfl
  refine RS.go1g (v := ?_) (a' := ?_) (by kernel_rfl) ?_ ?_ ?_
  rotate_left 2
  · intro K wx hS hK
    go_simp
    refine (KI.out wx).mono (fun e w2 he => ?_)
    refine ⟨_, he.1, ?_⟩
    exact hK _ (Hm.below hS he.2)
  · simp only [Act.put, List.setIfInBounds_toArray, List.set_cons_succ, List.set_cons_zero]
    rfl
  refine RS.go1g (v := ?_) (a' := ?_) (by kernel_rfl) ?_ ?_ ?_
  rotate_left 2
  · intro K wx hS hK
    refine RW.ld rfl rfl (hS.ok (Hm.W4 (g8) (E)) (by simp)).c ?_
    exact hK _ hS
  · simp only [Act.put, List.setIfInBounds_toArray, List.set_cons_succ, List.set_cons_zero]
    rfl
  refine RS.go1g (v := ?_) (a' := ?_) (by kernel_rfl) ?_ ?_ ?_
  rotate_left 2
  · intro K wx hS hK
    go_simp
    refine (KM2.out wx).mono (fun e w2 he => ?_)
    refine ⟨_, he.1, ?_⟩
    exact hK _ (Hm.below hS he.2)
  · simp only [Act.put, List.setIfInBounds_toArray, List.set_cons_succ, List.set_cons_zero]
    rfl
  refine RS.go1 (v := ?_) (a' := ?_) rfl ?_ ?_ ?_
  rotate_left 2
  · intro K wx hS hK
    go_simp
    exact hK _ hS
  · simp only [Act.put, List.setIfInBounds_toArray, List.set_cons_succ, List.set_cons_zero]
    rfl
  refine RS.go_end ?_
  intro w5 m5
  have M5 : Hid (Below w.heap.size w w5) := m5.bel
  have e0 := (m5.ok _ (List.mem_cons_self ..)).c 0 (show 0 < 4 by decide)
  have e1 : w5.cell? ⟨g8, 0, none⟩ = some (.int .u64 (dg E 0)) := e0
  rw [hE.out.1] at e1
  have K5 := HM.out.below M5.out
  have c1 := K5.c1
  clear m4 m5 e0 K5
  go_wp2_with fail
  go_loopw [9] (fun v wr => ∃ s : Nat, v = .int .u64 (s : Int) ∧ E ≤ s ∧ s ≤ c32 E ∧ wr = w5) (fun v _ => ((c32 E : Int) - intOf v).toNat)
  case atStart => exact ⟨E, rfl, Nat.le_refl _, by unfold c32; omega, rfl⟩
  case round =>
    obtain ⟨s, rfl, h1, h2, rfl⟩ := hrel
    have HS : Hid (E ≤ s ∧ s ≤ c32 E ∧ c32 E ≤ 4096 ∧ c32 E % 32 = 0 ∧ c32 E < E + 32) := ⟨h1, h2, by have := hE.out; unfold c32; omega, by unfold c32; omega, by unfold c32; omega⟩
    clear h1 h2
    have t0 : (s : Int).tmod 32 = ((s % 32 : Nat) : Int) := by rw [Int.tmod_eq_emod_of_nonneg (by omega)]; omega
    by_cases hz : s % 32 = 0
    · have z0 : (((s % 32 : Nat) : Int) != 0) = false := by rw [hz]; rfl
      have EM : Hid (max (s : Int) (m.length : Int) = ((max (c32 E) m.length : Nat) : Int)) := by
        have := HS.out
        show _ = _
        omega
      go_wp2_with fail
      go_ret2
      exact ⟨by rw [← EM.out]; rfl, M5.out⟩
    · have z0 : (((s % 32 : Nat) : Int) != 0) = true := bne_iff_ne.2 (by omega)
      have w1 : IntKind.u64.wrap ((s : Int) + 1) = ((s + 1 : Nat) : Int) := by
        have := HS.out
        rw [IntKind.wrap_u64]
        omega
      have HX : Hid (s < c32 E) := by
        have := HS.out
        show _ < _
        rcases Nat.lt_or_ge s (c32 E) with h | h
        · exact h
        · have : s = c32 E := by omega
          omega
      go_wp2_with fail
      go_roundw
      case rel => exact ⟨s + 1, by first | rfl | rw [w1], by have := HS.out; omega, by have := HX.out; omega, trivial⟩
      case measure => simp only [intOf]; have := HX.out; omega
theorem kreach_any (g b : Nat) (m : By) (a n : Nat) (w : World) (h : KM g b m w) (ha : a < 2 ^ 256) (hn : n < 2 ^ 256) (hm : m.length ≤ 4096) :
    Calls Try.prog 18 #[.pointer (some ⟨g, 0, none⟩), Wd a, Wd n] w fun e w' => e = .returned (.tuple #[.int .u64 ((rch m.length a n).1 : Int), .bool (rch m.length a n).2]) ∧ Below w.heap.size w w' := by
  unfold rch
  by_cases h0 : n = 0
  · rw [if_pos h0]
    exact kreach_zero g b m a n w h h0
  · rw [if_neg h0]
    have hd : ∀ i, i < 4 → dg (a + n) i = dg ((a + n) % 2 ^ 256) i := (RW.dg_inj _ _).2 (Nat.mod_mod _ _).symm
    have KA : Hid (∀ W : World, Calls Try.prog 24 #[Wd a, Wd n] W fun e w' => e = .returned (.agg #[.int .u64 (dg ((a + n) % 2 ^ 256) 0), .int .u64 (dg ((a + n) % 2 ^ 256) 1), .int .u64 (dg ((a + n) % 2 ^ 256) 2), .int .u64 (dg ((a + n) % 2 ^ 256) 3)]) ∧ Below W.heap.size W w') := fun W => (wadd_any a n W).mono fun e w' he => ⟨by rw [he.1]; unfold Wd; rw [hd 0 (by decide), hd 1 (by decide), hd 2 (by decide), hd 3 (by decide)], he.2⟩
    have hn0 : n % 2 ^ 256 ≠ 0 := by rw [Nat.mod_eq_of_lt hn]; exact h0
    have hE : (a + n) % 2 ^ 256 < 2 ^ 256 := Nat.mod_lt _ (by decide)
    have KI : Hid (∀ W : World, Calls Try.prog 17 #[.int .u64 4096] W fun e w' => e = .returned (Wd 4096) ∧ Below W.heap.size W w') := fun W => wint_any 4096 (by decide) W
    have KB : ∀ (x y : Nat) (z : Bool), x < 2 ^ 256 → y < 2 ^ 256 → decide (x < y) = z → Hid (∀ W : World, Calls Try.prog 25 #[Wd x, Wd y] W fun e w' => e = .returned (.bool z) ∧ Below W.heap.size W w') := fun x y z hx hy hz W => by
      have := wless_any x y hx hy W
      rwa [hz] at this
    by_cases h1 : a + n < 2 ^ 256
    · have eE : (a + n) % 2 ^ 256 = a + n := Nat.mod_eq_of_lt h1
      rw [eE] at KA hE
      have KL := KB (a + n) a false hE ha (decide_eq_false (by omega))
      by_cases h2 : a + n ≤ 4096
      · rw [if_pos h2]
        refine kreach_ok g b m a n (a + n) w h hn0 KA KL KI (KB 4096 (a + n) false (by decide) hE (decide_eq_false (by omega))) ⟨?_, h2, hm⟩
        unfold dg
        omega
      · rw [if_neg h2]
        exact kreach_much g b m a n (a + n) w h hn0 KA KL KI (KB 4096 (a + n) true (by decide) hE (decide_eq_true (by omega)))
    · rw [if_neg (by omega)]
      exact kreach_over g b m a n _ w h hn0 KA (KB _ a true hE ha (decide_eq_true (by omega)))
end Kp
end Go.Proofs.Ytpgjgehkomoobaa
/- lampbearerref: one, at a kind that there is not. -/
namespace Go.Proofs.Ytpgjgehkomoobaa
namespace Kp
open Go.RowKit Go.Maps
open Mm (By lay grw gco cst od oc s6 s2 av An)
/-- The reference's memory as a value. -/
def KV (b : Nat) (m : By) (w : World) : Prop := b < w.heap.size ∧ ∃ (D : Dt) (n : Nat), w.ownsMap Try.prog 27 (plainElem Try.prog 5) b n D ∧ n ≤ 4294967296 ∧ Mq D m
def kv (b : Nat) (M : Nat) : Nat → Value := fun o => if o = 0 then .map (some b) else .int .u64 (M : Int)
theorem newB {w : World} {L : List Hm.Bk} {w1 : World} {g n : Nat} {F : Nat → Value} {xs : Array Value} {T : TypeId} (h : Hm.Hd w L w1) (hg : g = w1.heap.size) (hF : ∀ o, o < n → xs[o]? = some (F o)) : Hm.Hd w (⟨g, n, F⟩ :: L) (w1.alloc (.cells xs T)) := by
  subst hg
  refine ⟨(Hm.al h _).bel, fun k hk => ?_⟩
  rcases List.mem_cons.1 hk with rfl | hk
  · refine ⟨h.bel.size, by simp, fun o ho => ?_, Fz_alloc w1 _ T⟩
    have e := hF o ho
    simp only [World.cell?, heap_alloc_new]
    exact e
  · exact (Hm.al h _).ok k hk
theorem kv_of (b M o : Nat) (h : o < 2) : (#[.map (some b), .int .u64 (M : Int)] : Array Value)[o]? = some (kv b M o) := by
  match o, h with
  | 0, _ => rfl
  | 1, _ => rfl
  | (n + 2), h => omega
def kz : Nat → Value := fun o => if o = 0 then .map none else .int .u64 0
theorem kz_of (o : Nat) (h : o < 2) : (#[.map none, .int .u64 0] : Array Value)[o]? = some (kz o) := by
  match o, h with
  | 0, _ => rfl
  | 1, _ => rfl
  | (n + 2), h => omega
theorem infoW : (Try.prog.info? 32).map (·.size) = some 4 := by kernel_rfl
/-- A word within a block is loaded. -/
theorem ldW {ops : Array Oper} {rest : List Oper} {op : Oper} {ac : Act} {w : World} {Q : Exit → Act → World → Prop} (s : Operand) (g b x : Nat) (hgd : op.guard = none) (ho : op.op = .load 32 s) (hx : ac.eval s = .pointer (some ⟨g, b, none⟩))
    (hc : ∀ i, i < 4 → w.cell? ⟨g, b + i, none⟩ = some (.int .u64 (dg x i))) (h : wpList Try.prog ops Q rest (ac.put op.dst (.agg #[.int .u64 (dg x 0), .int .u64 (dg x 1), .int .u64 (dg x 2), .int .u64 (dg x 3)])) w) : wpList Try.prog ops Q (op :: rest) ac w :=
  wpList_load_mid hgd 32 s ho g b hx [.int .u64 (dg x 0), .int .u64 (dg x 1), .int .u64 (dg x 2), .int .u64 (dg x 3)] _ (fun j u hu => by
    have hj : j < 4 := (List.getElem?_eq_some_iff.1 hu).1
    rw [hc j hj, ← hu]
    match j, hj with
    | 0, _ => rfl
    | 1, _ => rfl
    | 2, _ => rfl
    | 3, _ => rfl
    | (n + 4), h => omega) Try.underlying32 rfl infoW h
theorem oc_at {g : Nat} {w : World} {k : Int} {a f l x : Nat} {v : Value} (h : ∀ o, o < 18 → w.cell? ⟨g, o, none⟩ = some (oc k a f l x v o)) : ∀ i, i < 4 → w.cell? ⟨g, 1 + i, none⟩ = some (.int .u64 (dg a i)) := fun i hi => by
  rw [h (1 + i) (by omega)]
  match i, hi with
  | 0, _ => rfl
  | 1, _ => rfl
  | 2, _ => rfl
  | 3, _ => rfl
  | (n + 4), h => omega
theorem resTwo (f : Func) (tm : Array Value) (W : World) (g g2 s s2 : Nat) (u0 u1 v0 v1 v2 v3 v4 v5 : Value) (hf : f.results = #[.cell s 43, .cell s2 34]) (h : tm.getD s undef = .pointer (some ⟨g, 0, none⟩)) (h2 : tm.getD s2 undef = .pointer (some ⟨g2, 0, none⟩)) (a0 : W.cell? ⟨g, 0, none⟩ = some u0) (a1 : W.cell? ⟨g, 1, none⟩ = some u1) (c0 : W.cell? ⟨g2, 0, none⟩ = some v0) (c1 : W.cell? ⟨g2, 1, none⟩ = some v1) (c2 : W.cell? ⟨g2, 2, none⟩ = some v2) (c3 : W.cell? ⟨g2, 3, none⟩ = some v3) (c4 : W.cell? ⟨g2, 4, none⟩ = some v4) (c5 : W.cell? ⟨g2, 5, none⟩ = some v5) : (results f tm).run Try.prog W = .ok (.tuple #[.agg #[u0, u1], .agg #[v0, v1, v2, v3, v4, v5]]) W := by
  simp at h h2
  simp [results, hf, go_sem, h, h2, a0, a1, c0, c1, c2, c3, c4, c5]
set_option maxHeartbeats 2000000 in
set_option maxRecDepth 100000 in
theorem kone_bad (k : Int) (a f l x : Nat) (d : Value) (b M : Nat) (w : World) (hk : Hid (k < 1 ∨ 5 < k)) (KI : Hid (∀ W : World, Calls Try.prog 17 #[.int .u64 32] W fun e w' => e = .returned (.agg #[.int .u64 (dg 32 0), .int .u64 (dg 32 1), .int .u64 (dg 32 2), .int .u64 (dg 32 3)]) ∧ Below W.heap.size W w')) :
    Calls Try.prog 10 #[.agg #[.map (some b), .int .u64 (M : Int)], od k a f l x d] w fun e w' => e = .returned (.tuple #[.agg #[.map (some b), .int .u64 (M : Int)], av (30, 0, 0)]) ∧ Below w.heap.size w w' := by
  conv => arg 3; unfold od
  go_enter Try.func10, Try.ntmps10
  go_upto_region 1 with fail
  have m0 : Hm.Hd w [⟨w.heap.size + 1 + 1 + 1, 6, s6 0 0 0⟩, ⟨w.heap.size + 1 + 1, 2, kz⟩, ⟨w.heap.size + 1, 18, oc k a f l x d⟩, ⟨w.heap.size, 2, kv b M⟩] ((((w.alloc (.cells #[.map (some b), .int .u64 (M : Int)] 43)).alloc (.cells #[.int .i64 k, .int .u64 (dg a 0), .int .u64 (dg a 1), .int .u64 (dg a 2), .int .u64 (dg a 3), .int .u64 (dg f 0), .int .u64 (dg f 1), .int .u64 (dg f 2), .int .u64 (dg f 3), .int .u64 (dg l 0), .int .u64 (dg l 1), .int .u64 (dg l 2), .int .u64 (dg l 3), .int .u64 (dg x 0), .int .u64 (dg x 1), .int .u64 (dg x 2), .int .u64 (dg x 3), d] 39)).alloc (.cells #[.map none, .int .u64 0] 43)).alloc (.cells #[.int .i64 0, .int .u64 0, .int .u64 0, .int .u64 0, .int .u64 0, .int .u64 0] 34)) := by
    have k1 := newB (n := 2) (F := kv b M) (xs := #[.map (some b), .int .u64 (M : Int)]) (T := 43) (Hm.start w) rfl (kv_of b M)
    have k2 := Mm.newO k a f l x d (T := 39) (g := w.heap.size + 1) k1 (by simp)
    have k3 := newB (g := w.heap.size + 1 + 1) (n := 2) (F := kz) (xs := #[.map none, .int .u64 0]) (T := 43) k2 (by simp) kz_of
    exact newB (g := w.heap.size + 1 + 1 + 1) (n := 6) k3 (by simp) (Mm.y6_of 0)
  generalize ((((w.alloc (.cells #[.map (some b), .int .u64 (M : Int)] 43)).alloc (.cells #[.int .i64 k, .int .u64 (dg a 0), .int .u64 (dg a 1), .int .u64 (dg a 2), .int .u64 (dg a 3), .int .u64 (dg f 0), .int .u64 (dg f 1), .int .u64 (dg f 2), .int .u64 (dg f 3), .int .u64 (dg l 0), .int .u64 (dg l 1), .int .u64 (dg l 2), .int .u64 (dg l 3), .int .u64 (dg x 0), .int .u64 (dg x 1), .int .u64 (dg x 2), .int .u64 (dg x 3), d] 39)).alloc (.cells #[.map none, .int .u64 0] 43)).alloc (.cells #[.int .i64 0, .int .u64 0, .int .u64 0, .int .u64 0, .int .u64 0, .int .u64 0] 34)) = W1 at m0 ⊢
  generalize (Value.agg #[.int .i64 k, .int .u64 (dg a 0), .int .u64 (dg a 1), .int .u64 (dg a 2), .int .u64 (dg a 3), .int .u64 (dg f 0), .int .u64 (dg f 1), .int .u64 (dg f 2), .int .u64 (dg f 3), .int .u64 (dg l 0), .int .u64 (dg l 1), .int .u64 (dg l 2), .int .u64 (dg l 3), .int .u64 (dg x 0), .int .u64 (dg x 1), .int .u64 (dg x 2), .int .u64 (dg x 3), d] : Value) = V0
  have M0 : Hid _ := m0
  clear m0
  go_wp2_with fail
  refine (KI.out W1).mono ?_
  rintro e w2 ⟨rfl, b2⟩
  have m2 := Hm.below M0.out b2
  clear M0 b2
  go_upto_region 2 with fail
  obtain ⟨h, eh⟩ : ∃ h, h = w2.heap.size := ⟨_, rfl⟩
  have hh : w.heap.size + 1 + 1 + 1 < h := by rw [eh]; exact (m2.ok _ (List.mem_cons_self ..)).hi
  have m3 : Hm.Hd w [Hm.W4 h 32, ⟨w.heap.size + 1 + 1 + 1, 6, s6 0 0 0⟩, ⟨w.heap.size + 1 + 1, 2, kz⟩, ⟨w.heap.size + 1, 18, oc k a f l x d⟩, ⟨w.heap.size, 2, kv b M⟩] (w2.alloc (.cells #[.int .u64 (dg 32 0), .int .u64 (dg 32 1), .int .u64 (dg 32 2), .int .u64 (dg 32 3)] 32)) := Hm.new4 (n := 32) (T := 32) m2 eh
  rw [← eh]
  clear eh m2
  generalize w2.alloc (.cells #[.int .u64 (dg 32 0), .int .u64 (dg 32 1), .int .u64 (dg 32 2), .int .u64 (dg 32 3)] 32) = w3 at m3 ⊢
  have M3 : Hid _ := m3
  have r1 := oc_at ((m3.ok ⟨w.heap.size + 1, 18, oc k a f l x d⟩ (by simp)).c)
  clear m3
  go_upto_region 3 with (refine ldW (.tmp 21) (w.heap.size + 1) 1 a rfl rfl rfl r1 ?_)
  obtain ⟨h2, eh⟩ : ∃ h2, h2 = w3.heap.size := ⟨_, rfl⟩
  have hh2 : h < h2 := by rw [eh]; exact (M3.out.ok _ (List.mem_cons_self ..)).hi
  have m5 : Hm.Hd w [Hm.W4 (h2 + 1) 0, Hm.W4 h2 a, Hm.W4 h 32, ⟨w.heap.size + 1 + 1 + 1, 6, s6 0 0 0⟩, ⟨w.heap.size + 1 + 1, 2, kz⟩, ⟨w.heap.size + 1, 18, oc k a f l x d⟩, ⟨w.heap.size, 2, kv b M⟩] ((w3.alloc (.cells #[.int .u64 (dg a 0), .int .u64 (dg a 1), .int .u64 (dg a 2), .int .u64 (dg a 3)] 32)).alloc (.cells #[.int .u64 0, .int .u64 0, .int .u64 0, .int .u64 0] 32)) := by
    have k1 := Hm.new4 (n := a) (T := 32) M3.out eh
    exact Hm.new4 (n := 0) (g := h2 + 1) (T := 32) k1 (by simp [eh])
  rw [← eh]
  clear eh M3 r1
  generalize (w3.alloc (.cells #[.int .u64 (dg a 0), .int .u64 (dg a 1), .int .u64 (dg a 2), .int .u64 (dg a 3)] 32)).alloc (.cells #[.int .u64 0, .int .u64 0, .int .u64 0, .int .u64 0] 32) = w5 at m5 ⊢
  have M5 : Hid _ := m5
  have q0 : w5.cell? ⟨w.heap.size + 1, 0, none⟩ = some (.int .i64 k) := (m5.ok ⟨w.heap.size + 1, 18, oc k a f l x d⟩ (by simp)).c 0 (show 0 < 18 by decide)
  have p0 : w5.cell? ⟨w.heap.size, 0, none⟩ = some (.map (some b)) := (m5.ok ⟨w.heap.size, 2, kv b M⟩ (by simp)).c 0 (show 0 < 2 by decide)
  have p1 : w5.cell? ⟨w.heap.size, 1, none⟩ = some (.int .u64 (M : Int)) := (m5.ok ⟨w.heap.size, 2, kv b M⟩ (by simp)).c 1 (show 1 < 2 by decide)
  have z0 := (m5.ok ⟨w.heap.size + 1 + 1, 2, kz⟩ (by simp))
  have z1 := (m5.ok ⟨w.heap.size + 1 + 1 + 1, 6, s6 0 0 0⟩ (by simp))
  have y0 := z0.c
  have y1 := z1.c
  have x0 := z0.f
  have x1 := z1.f
  clear m5 z0 z1
  have e1 : (k == 1) = false := beq_false_of_ne (by have := hk.out; omega)
  have e2 : (k == 2) = false := beq_false_of_ne (by have := hk.out; omega)
  have e3 : (k == 3) = false := beq_false_of_ne (by have := hk.out; omega)
  have e4 : (k == 4) = false := beq_false_of_ne (by have := hk.out; omega)
  have e5 : (k == 5) = false := beq_false_of_ne (by have := hk.out; omega)
  go_wp2_with fail
  have n0 : Hm.Hd w [⟨w.heap.size + 1 + 1, 2, kz⟩, ⟨w.heap.size + 1 + 1 + 1, 6, s6 0 0 0⟩] w5 := Hm.sub M5.out (by simp)
  have n1 := Hm.set (i := 0) (v := (.map (some b))) n0 (by decide) (by simp)
  have n2 := Hm.set (i := 1) (v := (.int .u64 (M : Int))) n1 (by decide) (by simp)
  have k2 := Mm.sw n2
  have n3 := Hm.set (i := 0) (v := (.int .i64 30)) k2 (by decide) (by simp)
  have n4 := Hm.set (i := 1) (v := (.int .u64 0)) n3 (by decide) (by simp)
  have n5 := Hm.set (i := 2) (v := (.int .u64 0)) n4 (by decide) (by simp)
  have n6 := Hm.set (i := 3) (v := (.int .u64 0)) n5 (by decide) (by simp)
  have n7 := Hm.set (i := 4) (v := (.int .u64 0)) n6 (by decide) (by simp)
  have n8 := Hm.set (i := 5) (v := (.int .u64 0)) n7 (by decide) (by simp)
  have a9 := (n8.ok _ (List.mem_cons_of_mem _ (List.mem_cons_self ..))).c
  have b9 := (n8.ok _ (List.mem_cons_self ..)).c
  exact bodyPost_ret (resTwo _ _ _ (w.heap.size + 1 + 1) (w.heap.size + 1 + 1 + 1) 4 5 (.map (some b)) (.int .u64 (M : Int)) (.int .i64 30) (.int .u64 0) (.int .u64 0) (.int .u64 0) (.int .u64 0) (.int .u64 0) Try.results10 rfl rfl (a9 0 (show 0 < 2 by decide)) (a9 1 (show 1 < 2 by decide)) (b9 0 (show 0 < 6 by decide)) (b9 1 (show 1 < 6 by decide)) (b9 2 (show 2 < 6 by decide)) (b9 3 (show 3 < 6 by decide)) (b9 4 (show 4 < 6 by decide)) (b9 5 (show 5 < 6 by decide))) rfl ⟨rfl, n8.bel⟩
theorem km_of {L : List Hm.Bk} {w w5 : World} {b M : Nat} {m : By} (h : Hm.Hd w L w5) (hk : (⟨w.heap.size, 2, kv b M⟩ : Hm.Bk) ∈ L) (hv : KV b m w) (hM : M = m.length) : KM w.heap.size b m w5 := by
  have k := h.ok _ hk
  obtain ⟨hb, D, n, h1, h2, h3⟩ := hv
  exact ⟨k.hi, Nat.lt_of_lt_of_le hb h.bel.size, Nat.ne_of_lt hb, k.c 0 (show 0 < 2 by decide), by rw [← hM]; exact k.c 1 (show 1 < 2 by decide), D, n, h1.kept (gb_of_below h.bel none) (by simp), h2, h3⟩
theorem w4_at {g x : Nat} {w : World} (h : ∀ o, o < 4 → w.cell? ⟨g, o, none⟩ = some ((Hm.W4 g x).F o)) : ∀ i, i < 4 → w.cell? ⟨g, 0 + i, none⟩ = some (.int .u64 (dg x i)) := fun i hi => by
  rw [Nat.zero_add, h i hi]
  match i, hi with
  | 0, _ => rfl
  | 1, _ => rfl
  | 2, _ => rfl
  | 3, _ => rfl
  | (n + 4), h => omega
set_option maxHeartbeats 2000000 in
set_option maxRecDepth 100000 in
theorem kone_much1 (k : Int) (a f l x : Nat) (d : Value) (b M : Nat) (m : By) (w : World) (hk : Hid (k = 1)) (hM : Hid (M = m.length)) (hm : Hid (KV b m w)) (KI : Hid (∀ W : World, Calls Try.prog 17 #[.int .u64 32] W fun e w' => e = .returned (.agg #[.int .u64 (dg 32 0), .int .u64 (dg 32 1), .int .u64 (dg 32 2), .int .u64 (dg 32 3)]) ∧ Below W.heap.size W w'))
    (KX : Hid (∀ W : World, KM w.heap.size b m W → Calls Try.prog 18 #[.pointer (some ⟨w.heap.size, 0, none⟩), .agg #[.int .u64 (dg a 0), .int .u64 (dg a 1), .int .u64 (dg a 2), .int .u64 (dg a 3)], .agg #[.int .u64 (dg 32 0), .int .u64 (dg 32 1), .int .u64 (dg 32 2), .int .u64 (dg 32 3)]] W fun e w' => e = .returned (.tuple #[.int .u64 (0 : Int), .bool false]) ∧ Below W.heap.size W w'))
    (KY : Hid (∀ W : World, KM w.heap.size b m W → Calls Try.prog 18 #[.pointer (some ⟨w.heap.size, 0, none⟩), .agg #[.int .u64 (dg a 0), .int .u64 (dg a 1), .int .u64 (dg a 2), .int .u64 (dg a 3)], .agg #[.int .u64 (dg 0 0), .int .u64 (dg 0 1), .int .u64 (dg 0 2), .int .u64 (dg 0 3)]] W fun e w' => e = .returned (.tuple #[.int .u64 ((M : Nat) : Int), .bool true]) ∧ Below W.heap.size W w')) :
    Calls Try.prog 10 #[.agg #[.map (some b), .int .u64 (M : Int)], od k a f l x d] w fun e w' => e = .returned (.tuple #[.agg #[.map (some b), .int .u64 (M : Int)], av (6, 0, 0)]) ∧ Below w.heap.size w w' := by
  conv => arg 3; unfold od
  go_enter Try.func10, Try.ntmps10
  go_upto_region 1 with fail
  have m0 : Hm.Hd w [⟨w.heap.size + 1 + 1 + 1, 6, s6 0 0 0⟩, ⟨w.heap.size + 1 + 1, 2, kz⟩, ⟨w.heap.size + 1, 18, oc k a f l x d⟩, ⟨w.heap.size, 2, kv b M⟩] ((((w.alloc (.cells #[.map (some b), .int .u64 (M : Int)] 43)).alloc (.cells #[.int .i64 k, .int .u64 (dg a 0), .int .u64 (dg a 1), .int .u64 (dg a 2), .int .u64 (dg a 3), .int .u64 (dg f 0), .int .u64 (dg f 1), .int .u64 (dg f 2), .int .u64 (dg f 3), .int .u64 (dg l 0), .int .u64 (dg l 1), .int .u64 (dg l 2), .int .u64 (dg l 3), .int .u64 (dg x 0), .int .u64 (dg x 1), .int .u64 (dg x 2), .int .u64 (dg x 3), d] 39)).alloc (.cells #[.map none, .int .u64 0] 43)).alloc (.cells #[.int .i64 0, .int .u64 0, .int .u64 0, .int .u64 0, .int .u64 0, .int .u64 0] 34)) := by
    have k1 := newB (n := 2) (F := kv b M) (xs := #[.map (some b), .int .u64 (M : Int)]) (T := 43) (Hm.start w) rfl (kv_of b M)
    have k2 := Mm.newO k a f l x d (T := 39) (g := w.heap.size + 1) k1 (by simp)
    have k3 := newB (g := w.heap.size + 1 + 1) (n := 2) (F := kz) (xs := #[.map none, .int .u64 0]) (T := 43) k2 (by simp) kz_of
    exact newB (g := w.heap.size + 1 + 1 + 1) (n := 6) k3 (by simp) (Mm.y6_of 0)
  generalize ((((w.alloc (.cells #[.map (some b), .int .u64 (M : Int)] 43)).alloc (.cells #[.int .i64 k, .int .u64 (dg a 0), .int .u64 (dg a 1), .int .u64 (dg a 2), .int .u64 (dg a 3), .int .u64 (dg f 0), .int .u64 (dg f 1), .int .u64 (dg f 2), .int .u64 (dg f 3), .int .u64 (dg l 0), .int .u64 (dg l 1), .int .u64 (dg l 2), .int .u64 (dg l 3), .int .u64 (dg x 0), .int .u64 (dg x 1), .int .u64 (dg x 2), .int .u64 (dg x 3), d] 39)).alloc (.cells #[.map none, .int .u64 0] 43)).alloc (.cells #[.int .i64 0, .int .u64 0, .int .u64 0, .int .u64 0, .int .u64 0, .int .u64 0] 34)) = W1 at m0 ⊢
  generalize (Value.agg #[.int .i64 k, .int .u64 (dg a 0), .int .u64 (dg a 1), .int .u64 (dg a 2), .int .u64 (dg a 3), .int .u64 (dg f 0), .int .u64 (dg f 1), .int .u64 (dg f 2), .int .u64 (dg f 3), .int .u64 (dg l 0), .int .u64 (dg l 1), .int .u64 (dg l 2), .int .u64 (dg l 3), .int .u64 (dg x 0), .int .u64 (dg x 1), .int .u64 (dg x 2), .int .u64 (dg x 3), d] : Value) = V0
  have M0 : Hid _ := m0
  clear m0
  go_wp2_with fail
  refine (KI.out W1).mono ?_
  rintro e w2 ⟨rfl, b2⟩
  have m2 := Hm.below M0.out b2
  clear M0 b2
  go_upto_region 2 with fail
  obtain ⟨h, eh⟩ : ∃ h, h = w2.heap.size := ⟨_, rfl⟩
  have hh : w.heap.size + 1 + 1 + 1 < h := by rw [eh]; exact (m2.ok _ (List.mem_cons_self ..)).hi
  have m3 : Hm.Hd w [Hm.W4 h 32, ⟨w.heap.size + 1 + 1 + 1, 6, s6 0 0 0⟩, ⟨w.heap.size + 1 + 1, 2, kz⟩, ⟨w.heap.size + 1, 18, oc k a f l x d⟩, ⟨w.heap.size, 2, kv b M⟩] (w2.alloc (.cells #[.int .u64 (dg 32 0), .int .u64 (dg 32 1), .int .u64 (dg 32 2), .int .u64 (dg 32 3)] 32)) := Hm.new4 (n := 32) (T := 32) m2 eh
  rw [← eh]
  clear eh m2
  generalize w2.alloc (.cells #[.int .u64 (dg 32 0), .int .u64 (dg 32 1), .int .u64 (dg 32 2), .int .u64 (dg 32 3)] 32) = w3 at m3 ⊢
  have M3 : Hid _ := m3
  have r1 := oc_at ((m3.ok ⟨w.heap.size + 1, 18, oc k a f l x d⟩ (by simp)).c)
  clear m3
  go_upto_region 3 with (refine ldW (.tmp 21) (w.heap.size + 1) 1 a rfl rfl rfl r1 ?_)
  obtain ⟨h2, eh⟩ : ∃ h2, h2 = w3.heap.size := ⟨_, rfl⟩
  have hh2 : h < h2 := by rw [eh]; exact (M3.out.ok _ (List.mem_cons_self ..)).hi
  have m5 : Hm.Hd w [Hm.W4 (h2 + 1) 0, Hm.W4 h2 a, Hm.W4 h 32, ⟨w.heap.size + 1 + 1 + 1, 6, s6 0 0 0⟩, ⟨w.heap.size + 1 + 1, 2, kz⟩, ⟨w.heap.size + 1, 18, oc k a f l x d⟩, ⟨w.heap.size, 2, kv b M⟩] ((w3.alloc (.cells #[.int .u64 (dg a 0), .int .u64 (dg a 1), .int .u64 (dg a 2), .int .u64 (dg a 3)] 32)).alloc (.cells #[.int .u64 0, .int .u64 0, .int .u64 0, .int .u64 0] 32)) := by
    have k1 := Hm.new4 (n := a) (T := 32) M3.out eh
    exact Hm.new4 (n := 0) (g := h2 + 1) (T := 32) k1 (by simp [eh])
  rw [← eh]
  clear eh M3 r1
  generalize (w3.alloc (.cells #[.int .u64 (dg a 0), .int .u64 (dg a 1), .int .u64 (dg a 2), .int .u64 (dg a 3)] 32)).alloc (.cells #[.int .u64 0, .int .u64 0, .int .u64 0, .int .u64 0] 32) = w5 at m5 ⊢
  have M5 : Hid _ := m5
  have q0 : w5.cell? ⟨w.heap.size + 1, 0, none⟩ = some (.int .i64 k) := (m5.ok ⟨w.heap.size + 1, 18, oc k a f l x d⟩ (by simp)).c 0 (show 0 < 18 by decide)
  have p0 : w5.cell? ⟨w.heap.size, 0, none⟩ = some (.map (some b)) := (m5.ok ⟨w.heap.size, 2, kv b M⟩ (by simp)).c 0 (show 0 < 2 by decide)
  have p1 : w5.cell? ⟨w.heap.size, 1, none⟩ = some (.int .u64 (M : Int)) := (m5.ok ⟨w.heap.size, 2, kv b M⟩ (by simp)).c 1 (show 1 < 2 by decide)
  have z0 := (m5.ok ⟨w.heap.size + 1 + 1, 2, kz⟩ (by simp))
  have z1 := (m5.ok ⟨w.heap.size + 1 + 1 + 1, 6, s6 0 0 0⟩ (by simp))
  have y0 := z0.c
  have y1 := z1.c
  have x0 := z0.f
  have x1 := z1.f
  clear m5 z0 z1
  have e1 : (k == 1) = true := by rw [hk.out]; rfl
  have e2 : (k == 2) = false := by rw [hk.out]; rfl
  have e3 : (k == 3) = false := by rw [hk.out]; rfl
  have e4 : (k == 4) = false := by rw [hk.out]; rfl
  have e5 : (k == 5) = false := by rw [hk.out]; rfl
  have rA := oc_at ((M5.out.ok ⟨w.heap.size + 1, 18, oc k a f l x d⟩ (by simp)).c)
  have rN := w4_at (M5.out.ok (Hm.W4 h 32) (by simp)).c
  go_wp2_with (first | refine ldW (.tmp 51) (w.heap.size + 1) 1 a rfl rfl rfl rA ?_ | refine ldW (.tmp 50) (w.heap.size + 1) 1 a rfl rfl rfl rA ?_ | refine ldW (.tmp 6) h 0 32 rfl rfl rfl rN ?_)
  refine (KX.out _ (km_of M5.out (by simp) hm.out hM.out)).mono ?_
  rintro e w6 ⟨rfl, b6⟩
  have m6 := Hm.below M5.out b6
  have M6 : Hid _ := m6
  clear m6 b6 rA rN M5 KX q0 p0 p1 y0 y1 x0 x1
  have rF := w4_at (M6.out.ok (Hm.W4 h2 a) (by simp)).c
  have rK := w4_at (M6.out.ok (Hm.W4 (h2 + 1) 0) (by simp)).c
  go_wp2_with (first | refine ldW (.tmp 7) h2 0 a rfl rfl rfl rF ?_ | refine ldW (.tmp 8) (h2 + 1) 0 0 rfl rfl rfl rK ?_)
  refine (KY.out _ (km_of M6.out (by simp) hm.out hM.out)).mono ?_
  rintro e w7 ⟨rfl, b7⟩
  have m7 := Hm.below M6.out b7
  have M7 : Hid _ := m7
  clear b7 rF rK M6 KY
  have q0 : w7.cell? ⟨w.heap.size + 1, 0, none⟩ = some (.int .i64 k) := (m7.ok ⟨w.heap.size + 1, 18, oc k a f l x d⟩ (by simp)).c 0 (show 0 < 18 by decide)
  have p0 : w7.cell? ⟨w.heap.size, 0, none⟩ = some (.map (some b)) := (m7.ok ⟨w.heap.size, 2, kv b M⟩ (by simp)).c 0 (show 0 < 2 by decide)
  have p1 : w7.cell? ⟨w.heap.size, 1, none⟩ = some (.int .u64 (M : Int)) := (m7.ok ⟨w.heap.size, 2, kv b M⟩ (by simp)).c 1 (show 1 < 2 by decide)
  have z0 := (m7.ok ⟨w.heap.size + 1 + 1, 2, kz⟩ (by simp))
  have z1 := (m7.ok ⟨w.heap.size + 1 + 1 + 1, 6, s6 0 0 0⟩ (by simp))
  have y0 := z0.c
  have y1 := z1.c
  have x0 := z0.f
  have x1 := z1.f
  clear m7 z0 z1
  go_wp2_with fail
  have n0 : Hm.Hd w [⟨w.heap.size + 1 + 1, 2, kz⟩, ⟨w.heap.size + 1 + 1 + 1, 6, s6 0 0 0⟩] w7 := Hm.sub M7.out (by simp)
  have n1 := Hm.set (i := 0) (v := (.map (some b))) n0 (by decide) (by simp)
  have n2 := Hm.set (i := 1) (v := (.int .u64 (M : Int))) n1 (by decide) (by simp)
  have k2 := Mm.sw n2
  have n3 := Hm.set (i := 0) (v := (.int .i64 6)) k2 (by decide) (by simp)
  have n4 := Hm.set (i := 1) (v := (.int .u64 0)) n3 (by decide) (by simp)
  have n5 := Hm.set (i := 2) (v := (.int .u64 0)) n4 (by decide) (by simp)
  have n6 := Hm.set (i := 3) (v := (.int .u64 0)) n5 (by decide) (by simp)
  have n7 := Hm.set (i := 4) (v := (.int .u64 0)) n6 (by decide) (by simp)
  have n8 := Hm.set (i := 5) (v := (.int .u64 0)) n7 (by decide) (by simp)
  have a9 := (n8.ok _ (List.mem_cons_of_mem _ (List.mem_cons_self ..))).c
  have b9 := (n8.ok _ (List.mem_cons_self ..)).c
  exact bodyPost_ret (resTwo _ _ _ (w.heap.size + 1 + 1) (w.heap.size + 1 + 1 + 1) 4 5 (.map (some b)) (.int .u64 (M : Int)) (.int .i64 6) (.int .u64 0) (.int .u64 0) (.int .u64 0) (.int .u64 0) (.int .u64 0) Try.results10 rfl rfl (a9 0 (show 0 < 2 by decide)) (a9 1 (show 1 < 2 by decide)) (b9 0 (show 0 < 6 by decide)) (b9 1 (show 1 < 6 by decide)) (b9 2 (show 2 < 6 by decide)) (b9 3 (show 3 < 6 by decide)) (b9 4 (show 4 < 6 by decide)) (b9 5 (show 5 < 6 by decide))) rfl ⟨rfl, n8.bel⟩
set_option maxHeartbeats 2000000 in
set_option maxRecDepth 100000 in
theorem kone_much2 (k : Int) (a f l x : Nat) (d : Value) (b M : Nat) (m : By) (w : World) (hk : Hid (k = 2)) (hM : Hid (M = m.length)) (hm : Hid (KV b m w)) (KI : Hid (∀ W : World, Calls Try.prog 17 #[.int .u64 32] W fun e w' => e = .returned (.agg #[.int .u64 (dg 32 0), .int .u64 (dg 32 1), .int .u64 (dg 32 2), .int .u64 (dg 32 3)]) ∧ Below W.heap.size W w'))
    (KX : Hid (∀ W : World, KM w.heap.size b m W → Calls Try.prog 18 #[.pointer (some ⟨w.heap.size, 0, none⟩), .agg #[.int .u64 (dg a 0), .int .u64 (dg a 1), .int .u64 (dg a 2), .int .u64 (dg a 3)], .agg #[.int .u64 (dg 32 0), .int .u64 (dg 32 1), .int .u64 (dg 32 2), .int .u64 (dg 32 3)]] W fun e w' => e = .returned (.tuple #[.int .u64 (0 : Int), .bool false]) ∧ Below W.heap.size W w'))
    (KY : Hid (∀ W : World, KM w.heap.size b m W → Calls Try.prog 18 #[.pointer (some ⟨w.heap.size, 0, none⟩), .agg #[.int .u64 (dg a 0), .int .u64 (dg a 1), .int .u64 (dg a 2), .int .u64 (dg a 3)], .agg #[.int .u64 (dg 0 0), .int .u64 (dg 0 1), .int .u64 (dg 0 2), .int .u64 (dg 0 3)]] W fun e w' => e = .returned (.tuple #[.int .u64 ((M : Nat) : Int), .bool true]) ∧ Below W.heap.size W w')) :
    Calls Try.prog 10 #[.agg #[.map (some b), .int .u64 (M : Int)], od k a f l x d] w fun e w' => e = .returned (.tuple #[.agg #[.map (some b), .int .u64 (M : Int)], av (6, 0, 0)]) ∧ Below w.heap.size w w' := by
  conv => arg 3; unfold od
  go_enter Try.func10, Try.ntmps10
  go_upto_region 1 with fail
  have m0 : Hm.Hd w [⟨w.heap.size + 1 + 1 + 1, 6, s6 0 0 0⟩, ⟨w.heap.size + 1 + 1, 2, kz⟩, ⟨w.heap.size + 1, 18, oc k a f l x d⟩, ⟨w.heap.size, 2, kv b M⟩] ((((w.alloc (.cells #[.map (some b), .int .u64 (M : Int)] 43)).alloc (.cells #[.int .i64 k, .int .u64 (dg a 0), .int .u64 (dg a 1), .int .u64 (dg a 2), .int .u64 (dg a 3), .int .u64 (dg f 0), .int .u64 (dg f 1), .int .u64 (dg f 2), .int .u64 (dg f 3), .int .u64 (dg l 0), .int .u64 (dg l 1), .int .u64 (dg l 2), .int .u64 (dg l 3), .int .u64 (dg x 0), .int .u64 (dg x 1), .int .u64 (dg x 2), .int .u64 (dg x 3), d] 39)).alloc (.cells #[.map none, .int .u64 0] 43)).alloc (.cells #[.int .i64 0, .int .u64 0, .int .u64 0, .int .u64 0, .int .u64 0, .int .u64 0] 34)) := by
    have k1 := newB (n := 2) (F := kv b M) (xs := #[.map (some b), .int .u64 (M : Int)]) (T := 43) (Hm.start w) rfl (kv_of b M)
    have k2 := Mm.newO k a f l x d (T := 39) (g := w.heap.size + 1) k1 (by simp)
    have k3 := newB (g := w.heap.size + 1 + 1) (n := 2) (F := kz) (xs := #[.map none, .int .u64 0]) (T := 43) k2 (by simp) kz_of
    exact newB (g := w.heap.size + 1 + 1 + 1) (n := 6) k3 (by simp) (Mm.y6_of 0)
  generalize ((((w.alloc (.cells #[.map (some b), .int .u64 (M : Int)] 43)).alloc (.cells #[.int .i64 k, .int .u64 (dg a 0), .int .u64 (dg a 1), .int .u64 (dg a 2), .int .u64 (dg a 3), .int .u64 (dg f 0), .int .u64 (dg f 1), .int .u64 (dg f 2), .int .u64 (dg f 3), .int .u64 (dg l 0), .int .u64 (dg l 1), .int .u64 (dg l 2), .int .u64 (dg l 3), .int .u64 (dg x 0), .int .u64 (dg x 1), .int .u64 (dg x 2), .int .u64 (dg x 3), d] 39)).alloc (.cells #[.map none, .int .u64 0] 43)).alloc (.cells #[.int .i64 0, .int .u64 0, .int .u64 0, .int .u64 0, .int .u64 0, .int .u64 0] 34)) = W1 at m0 ⊢
  generalize (Value.agg #[.int .i64 k, .int .u64 (dg a 0), .int .u64 (dg a 1), .int .u64 (dg a 2), .int .u64 (dg a 3), .int .u64 (dg f 0), .int .u64 (dg f 1), .int .u64 (dg f 2), .int .u64 (dg f 3), .int .u64 (dg l 0), .int .u64 (dg l 1), .int .u64 (dg l 2), .int .u64 (dg l 3), .int .u64 (dg x 0), .int .u64 (dg x 1), .int .u64 (dg x 2), .int .u64 (dg x 3), d] : Value) = V0
  have M0 : Hid _ := m0
  clear m0
  go_wp2_with fail
  refine (KI.out W1).mono ?_
  rintro e w2 ⟨rfl, b2⟩
  have m2 := Hm.below M0.out b2
  clear M0 b2
  go_upto_region 2 with fail
  obtain ⟨h, eh⟩ : ∃ h, h = w2.heap.size := ⟨_, rfl⟩
  have hh : w.heap.size + 1 + 1 + 1 < h := by rw [eh]; exact (m2.ok _ (List.mem_cons_self ..)).hi
  have m3 : Hm.Hd w [Hm.W4 h 32, ⟨w.heap.size + 1 + 1 + 1, 6, s6 0 0 0⟩, ⟨w.heap.size + 1 + 1, 2, kz⟩, ⟨w.heap.size + 1, 18, oc k a f l x d⟩, ⟨w.heap.size, 2, kv b M⟩] (w2.alloc (.cells #[.int .u64 (dg 32 0), .int .u64 (dg 32 1), .int .u64 (dg 32 2), .int .u64 (dg 32 3)] 32)) := Hm.new4 (n := 32) (T := 32) m2 eh
  rw [← eh]
  clear eh m2
  generalize w2.alloc (.cells #[.int .u64 (dg 32 0), .int .u64 (dg 32 1), .int .u64 (dg 32 2), .int .u64 (dg 32 3)] 32) = w3 at m3 ⊢
  have M3 : Hid _ := m3
  have r1 := oc_at ((m3.ok ⟨w.heap.size + 1, 18, oc k a f l x d⟩ (by simp)).c)
  clear m3
  go_upto_region 3 with (refine ldW (.tmp 21) (w.heap.size + 1) 1 a rfl rfl rfl r1 ?_)
  obtain ⟨h2, eh⟩ : ∃ h2, h2 = w3.heap.size := ⟨_, rfl⟩
  have hh2 : h < h2 := by rw [eh]; exact (M3.out.ok _ (List.mem_cons_self ..)).hi
  have m5 : Hm.Hd w [Hm.W4 (h2 + 1) 0, Hm.W4 h2 a, Hm.W4 h 32, ⟨w.heap.size + 1 + 1 + 1, 6, s6 0 0 0⟩, ⟨w.heap.size + 1 + 1, 2, kz⟩, ⟨w.heap.size + 1, 18, oc k a f l x d⟩, ⟨w.heap.size, 2, kv b M⟩] ((w3.alloc (.cells #[.int .u64 (dg a 0), .int .u64 (dg a 1), .int .u64 (dg a 2), .int .u64 (dg a 3)] 32)).alloc (.cells #[.int .u64 0, .int .u64 0, .int .u64 0, .int .u64 0] 32)) := by
    have k1 := Hm.new4 (n := a) (T := 32) M3.out eh
    exact Hm.new4 (n := 0) (g := h2 + 1) (T := 32) k1 (by simp [eh])
  rw [← eh]
  clear eh M3 r1
  generalize (w3.alloc (.cells #[.int .u64 (dg a 0), .int .u64 (dg a 1), .int .u64 (dg a 2), .int .u64 (dg a 3)] 32)).alloc (.cells #[.int .u64 0, .int .u64 0, .int .u64 0, .int .u64 0] 32) = w5 at m5 ⊢
  have M5 : Hid _ := m5
  have q0 : w5.cell? ⟨w.heap.size + 1, 0, none⟩ = some (.int .i64 k) := (m5.ok ⟨w.heap.size + 1, 18, oc k a f l x d⟩ (by simp)).c 0 (show 0 < 18 by decide)
  have p0 : w5.cell? ⟨w.heap.size, 0, none⟩ = some (.map (some b)) := (m5.ok ⟨w.heap.size, 2, kv b M⟩ (by simp)).c 0 (show 0 < 2 by decide)
  have p1 : w5.cell? ⟨w.heap.size, 1, none⟩ = some (.int .u64 (M : Int)) := (m5.ok ⟨w.heap.size, 2, kv b M⟩ (by simp)).c 1 (show 1 < 2 by decide)
  have z0 := (m5.ok ⟨w.heap.size + 1 + 1, 2, kz⟩ (by simp))
  have z1 := (m5.ok ⟨w.heap.size + 1 + 1 + 1, 6, s6 0 0 0⟩ (by simp))
  have y0 := z0.c
  have y1 := z1.c
  have x0 := z0.f
  have x1 := z1.f
  clear m5 z0 z1
  have e1 : (k == 1) = false := by rw [hk.out]; rfl
  have e2 : (k == 2) = true := by rw [hk.out]; rfl
  have e3 : (k == 3) = false := by rw [hk.out]; rfl
  have e4 : (k == 4) = false := by rw [hk.out]; rfl
  have e5 : (k == 5) = false := by rw [hk.out]; rfl
  have rA := oc_at ((M5.out.ok ⟨w.heap.size + 1, 18, oc k a f l x d⟩ (by simp)).c)
  have rN := w4_at (M5.out.ok (Hm.W4 h 32) (by simp)).c
  go_wp2_with (first | refine ldW (.tmp 51) (w.heap.size + 1) 1 a rfl rfl rfl rA ?_ | refine ldW (.tmp 50) (w.heap.size + 1) 1 a rfl rfl rfl rA ?_ | refine ldW (.tmp 6) h 0 32 rfl rfl rfl rN ?_)
  refine (KX.out _ (km_of M5.out (by simp) hm.out hM.out)).mono ?_
  rintro e w6 ⟨rfl, b6⟩
  have m6 := Hm.below M5.out b6
  have M6 : Hid _ := m6
  clear m6 b6 rA rN M5 KX q0 p0 p1 y0 y1 x0 x1
  have rF := w4_at (M6.out.ok (Hm.W4 h2 a) (by simp)).c
  have rK := w4_at (M6.out.ok (Hm.W4 (h2 + 1) 0) (by simp)).c
  go_wp2_with (first | refine ldW (.tmp 7) h2 0 a rfl rfl rfl rF ?_ | refine ldW (.tmp 8) (h2 + 1) 0 0 rfl rfl rfl rK ?_)
  refine (KY.out _ (km_of M6.out (by simp) hm.out hM.out)).mono ?_
  rintro e w7 ⟨rfl, b7⟩
  have m7 := Hm.below M6.out b7
  have M7 : Hid _ := m7
  clear b7 rF rK M6 KY
  have q0 : w7.cell? ⟨w.heap.size + 1, 0, none⟩ = some (.int .i64 k) := (m7.ok ⟨w.heap.size + 1, 18, oc k a f l x d⟩ (by simp)).c 0 (show 0 < 18 by decide)
  have p0 : w7.cell? ⟨w.heap.size, 0, none⟩ = some (.map (some b)) := (m7.ok ⟨w.heap.size, 2, kv b M⟩ (by simp)).c 0 (show 0 < 2 by decide)
  have p1 : w7.cell? ⟨w.heap.size, 1, none⟩ = some (.int .u64 (M : Int)) := (m7.ok ⟨w.heap.size, 2, kv b M⟩ (by simp)).c 1 (show 1 < 2 by decide)
  have z0 := (m7.ok ⟨w.heap.size + 1 + 1, 2, kz⟩ (by simp))
  have z1 := (m7.ok ⟨w.heap.size + 1 + 1 + 1, 6, s6 0 0 0⟩ (by simp))
  have y0 := z0.c
  have y1 := z1.c
  have x0 := z0.f
  have x1 := z1.f
  clear m7 z0 z1
  go_wp2_with fail
  have n0 : Hm.Hd w [⟨w.heap.size + 1 + 1, 2, kz⟩, ⟨w.heap.size + 1 + 1 + 1, 6, s6 0 0 0⟩] w7 := Hm.sub M7.out (by simp)
  have n1 := Hm.set (i := 0) (v := (.map (some b))) n0 (by decide) (by simp)
  have n2 := Hm.set (i := 1) (v := (.int .u64 (M : Int))) n1 (by decide) (by simp)
  have k2 := Mm.sw n2
  have n3 := Hm.set (i := 0) (v := (.int .i64 6)) k2 (by decide) (by simp)
  have n4 := Hm.set (i := 1) (v := (.int .u64 0)) n3 (by decide) (by simp)
  have n5 := Hm.set (i := 2) (v := (.int .u64 0)) n4 (by decide) (by simp)
  have n6 := Hm.set (i := 3) (v := (.int .u64 0)) n5 (by decide) (by simp)
  have n7 := Hm.set (i := 4) (v := (.int .u64 0)) n6 (by decide) (by simp)
  have n8 := Hm.set (i := 5) (v := (.int .u64 0)) n7 (by decide) (by simp)
  have a9 := (n8.ok _ (List.mem_cons_of_mem _ (List.mem_cons_self ..))).c
  have b9 := (n8.ok _ (List.mem_cons_self ..)).c
  exact bodyPost_ret (resTwo _ _ _ (w.heap.size + 1 + 1) (w.heap.size + 1 + 1 + 1) 4 5 (.map (some b)) (.int .u64 (M : Int)) (.int .i64 6) (.int .u64 0) (.int .u64 0) (.int .u64 0) (.int .u64 0) (.int .u64 0) Try.results10 rfl rfl (a9 0 (show 0 < 2 by decide)) (a9 1 (show 1 < 2 by decide)) (b9 0 (show 0 < 6 by decide)) (b9 1 (show 1 < 6 by decide)) (b9 2 (show 2 < 6 by decide)) (b9 3 (show 3 < 6 by decide)) (b9 4 (show 4 < 6 by decide)) (b9 5 (show 5 < 6 by decide))) rfl ⟨rfl, n8.bel⟩
set_option maxHeartbeats 2000000 in
set_option maxRecDepth 100000 in
theorem kone_much3 (k : Int) (a f l x : Nat) (d : Value) (b M : Nat) (m : By) (w : World) (hk : Hid (k = 3)) (hM : Hid (M = m.length)) (hm : Hid (KV b m w)) (KI : Hid (∀ W : World, Calls Try.prog 17 #[.int .u64 32] W fun e w' => e = .returned (.agg #[.int .u64 (dg 32 0), .int .u64 (dg 32 1), .int .u64 (dg 32 2), .int .u64 (dg 32 3)]) ∧ Below W.heap.size W w'))
    (KI1 : Hid (∀ W : World, Calls Try.prog 17 #[.int .u64 1] W fun e w' => e = .returned (.agg #[.int .u64 (dg 1 0), .int .u64 (dg 1 1), .int .u64 (dg 1 2), .int .u64 (dg 1 3)]) ∧ Below W.heap.size W w'))
    (KX : Hid (∀ W : World, KM w.heap.size b m W → Calls Try.prog 18 #[.pointer (some ⟨w.heap.size, 0, none⟩), .agg #[.int .u64 (dg a 0), .int .u64 (dg a 1), .int .u64 (dg a 2), .int .u64 (dg a 3)], .agg #[.int .u64 (dg 1 0), .int .u64 (dg 1 1), .int .u64 (dg 1 2), .int .u64 (dg 1 3)]] W fun e w' => e = .returned (.tuple #[.int .u64 (0 : Int), .bool false]) ∧ Below W.heap.size W w'))
    (KY : Hid (∀ W : World, KM w.heap.size b m W → Calls Try.prog 18 #[.pointer (some ⟨w.heap.size, 0, none⟩), .agg #[.int .u64 (dg a 0), .int .u64 (dg a 1), .int .u64 (dg a 2), .int .u64 (dg a 3)], .agg #[.int .u64 (dg 0 0), .int .u64 (dg 0 1), .int .u64 (dg 0 2), .int .u64 (dg 0 3)]] W fun e w' => e = .returned (.tuple #[.int .u64 ((M : Nat) : Int), .bool true]) ∧ Below W.heap.size W w')) :
    Calls Try.prog 10 #[.agg #[.map (some b), .int .u64 (M : Int)], od k a f l x d] w fun e w' => e = .returned (.tuple #[.agg #[.map (some b), .int .u64 (M : Int)], av (6, 0, 0)]) ∧ Below w.heap.size w w' := by
  conv => arg 3; unfold od
  go_enter Try.func10, Try.ntmps10
  go_upto_region 1 with fail
  have m0 : Hm.Hd w [⟨w.heap.size + 1 + 1 + 1, 6, s6 0 0 0⟩, ⟨w.heap.size + 1 + 1, 2, kz⟩, ⟨w.heap.size + 1, 18, oc k a f l x d⟩, ⟨w.heap.size, 2, kv b M⟩] ((((w.alloc (.cells #[.map (some b), .int .u64 (M : Int)] 43)).alloc (.cells #[.int .i64 k, .int .u64 (dg a 0), .int .u64 (dg a 1), .int .u64 (dg a 2), .int .u64 (dg a 3), .int .u64 (dg f 0), .int .u64 (dg f 1), .int .u64 (dg f 2), .int .u64 (dg f 3), .int .u64 (dg l 0), .int .u64 (dg l 1), .int .u64 (dg l 2), .int .u64 (dg l 3), .int .u64 (dg x 0), .int .u64 (dg x 1), .int .u64 (dg x 2), .int .u64 (dg x 3), d] 39)).alloc (.cells #[.map none, .int .u64 0] 43)).alloc (.cells #[.int .i64 0, .int .u64 0, .int .u64 0, .int .u64 0, .int .u64 0, .int .u64 0] 34)) := by
    have k1 := newB (n := 2) (F := kv b M) (xs := #[.map (some b), .int .u64 (M : Int)]) (T := 43) (Hm.start w) rfl (kv_of b M)
    have k2 := Mm.newO k a f l x d (T := 39) (g := w.heap.size + 1) k1 (by simp)
    have k3 := newB (g := w.heap.size + 1 + 1) (n := 2) (F := kz) (xs := #[.map none, .int .u64 0]) (T := 43) k2 (by simp) kz_of
    exact newB (g := w.heap.size + 1 + 1 + 1) (n := 6) k3 (by simp) (Mm.y6_of 0)
  generalize ((((w.alloc (.cells #[.map (some b), .int .u64 (M : Int)] 43)).alloc (.cells #[.int .i64 k, .int .u64 (dg a 0), .int .u64 (dg a 1), .int .u64 (dg a 2), .int .u64 (dg a 3), .int .u64 (dg f 0), .int .u64 (dg f 1), .int .u64 (dg f 2), .int .u64 (dg f 3), .int .u64 (dg l 0), .int .u64 (dg l 1), .int .u64 (dg l 2), .int .u64 (dg l 3), .int .u64 (dg x 0), .int .u64 (dg x 1), .int .u64 (dg x 2), .int .u64 (dg x 3), d] 39)).alloc (.cells #[.map none, .int .u64 0] 43)).alloc (.cells #[.int .i64 0, .int .u64 0, .int .u64 0, .int .u64 0, .int .u64 0, .int .u64 0] 34)) = W1 at m0 ⊢
  generalize (Value.agg #[.int .i64 k, .int .u64 (dg a 0), .int .u64 (dg a 1), .int .u64 (dg a 2), .int .u64 (dg a 3), .int .u64 (dg f 0), .int .u64 (dg f 1), .int .u64 (dg f 2), .int .u64 (dg f 3), .int .u64 (dg l 0), .int .u64 (dg l 1), .int .u64 (dg l 2), .int .u64 (dg l 3), .int .u64 (dg x 0), .int .u64 (dg x 1), .int .u64 (dg x 2), .int .u64 (dg x 3), d] : Value) = V0
  have M0 : Hid _ := m0
  clear m0
  go_wp2_with fail
  refine (KI.out W1).mono ?_
  rintro e w2 ⟨rfl, b2⟩
  have m2 := Hm.below M0.out b2
  clear M0 b2
  go_upto_region 2 with fail
  obtain ⟨h, eh⟩ : ∃ h, h = w2.heap.size := ⟨_, rfl⟩
  have hh : w.heap.size + 1 + 1 + 1 < h := by rw [eh]; exact (m2.ok _ (List.mem_cons_self ..)).hi
  have m3 : Hm.Hd w [Hm.W4 h 32, ⟨w.heap.size + 1 + 1 + 1, 6, s6 0 0 0⟩, ⟨w.heap.size + 1 + 1, 2, kz⟩, ⟨w.heap.size + 1, 18, oc k a f l x d⟩, ⟨w.heap.size, 2, kv b M⟩] (w2.alloc (.cells #[.int .u64 (dg 32 0), .int .u64 (dg 32 1), .int .u64 (dg 32 2), .int .u64 (dg 32 3)] 32)) := Hm.new4 (n := 32) (T := 32) m2 eh
  rw [← eh]
  clear eh m2
  generalize w2.alloc (.cells #[.int .u64 (dg 32 0), .int .u64 (dg 32 1), .int .u64 (dg 32 2), .int .u64 (dg 32 3)] 32) = w3 at m3 ⊢
  have M3 : Hid _ := m3
  have r1 := oc_at ((m3.ok ⟨w.heap.size + 1, 18, oc k a f l x d⟩ (by simp)).c)
  clear m3
  go_upto_region 3 with (refine ldW (.tmp 21) (w.heap.size + 1) 1 a rfl rfl rfl r1 ?_)
  obtain ⟨h2, eh⟩ : ∃ h2, h2 = w3.heap.size := ⟨_, rfl⟩
  have hh2 : h < h2 := by rw [eh]; exact (M3.out.ok _ (List.mem_cons_self ..)).hi
  have m5 : Hm.Hd w [Hm.W4 (h2 + 1) 0, Hm.W4 h2 a, Hm.W4 h 32, ⟨w.heap.size + 1 + 1 + 1, 6, s6 0 0 0⟩, ⟨w.heap.size + 1 + 1, 2, kz⟩, ⟨w.heap.size + 1, 18, oc k a f l x d⟩, ⟨w.heap.size, 2, kv b M⟩] ((w3.alloc (.cells #[.int .u64 (dg a 0), .int .u64 (dg a 1), .int .u64 (dg a 2), .int .u64 (dg a 3)] 32)).alloc (.cells #[.int .u64 0, .int .u64 0, .int .u64 0, .int .u64 0] 32)) := by
    have k1 := Hm.new4 (n := a) (T := 32) M3.out eh
    exact Hm.new4 (n := 0) (g := h2 + 1) (T := 32) k1 (by simp [eh])
  rw [← eh]
  clear eh M3 r1
  generalize (w3.alloc (.cells #[.int .u64 (dg a 0), .int .u64 (dg a 1), .int .u64 (dg a 2), .int .u64 (dg a 3)] 32)).alloc (.cells #[.int .u64 0, .int .u64 0, .int .u64 0, .int .u64 0] 32) = w5 at m5 ⊢
  have M5 : Hid _ := m5
  have q0 : w5.cell? ⟨w.heap.size + 1, 0, none⟩ = some (.int .i64 k) := (m5.ok ⟨w.heap.size + 1, 18, oc k a f l x d⟩ (by simp)).c 0 (show 0 < 18 by decide)
  have p0 : w5.cell? ⟨w.heap.size, 0, none⟩ = some (.map (some b)) := (m5.ok ⟨w.heap.size, 2, kv b M⟩ (by simp)).c 0 (show 0 < 2 by decide)
  have p1 : w5.cell? ⟨w.heap.size, 1, none⟩ = some (.int .u64 (M : Int)) := (m5.ok ⟨w.heap.size, 2, kv b M⟩ (by simp)).c 1 (show 1 < 2 by decide)
  have z0 := (m5.ok ⟨w.heap.size + 1 + 1, 2, kz⟩ (by simp))
  have z1 := (m5.ok ⟨w.heap.size + 1 + 1 + 1, 6, s6 0 0 0⟩ (by simp))
  have y0 := z0.c
  have y1 := z1.c
  have x0 := z0.f
  have x1 := z1.f
  clear m5 z0 z1
  have e1 : (k == 1) = false := by rw [hk.out]; rfl
  have e2 : (k == 2) = false := by rw [hk.out]; rfl
  have e3 : (k == 3) = true := by rw [hk.out]; rfl
  have e4 : (k == 4) = false := by rw [hk.out]; rfl
  have e5 : (k == 5) = false := by rw [hk.out]; rfl
  go_wp2_with fail
  refine (KI1.out w5).mono ?_
  rintro e w4 ⟨rfl, b4⟩
  have m4 := Hm.below M5.out b4
  have s0 : w4.cell? ⟨h, 0, none⟩ = some (.int .u64 (dg 32 0)) := (m4.ok (Hm.W4 h 32) (by simp)).c 0 (show 0 < 4 by decide)
  have s2 : w4.cell? ⟨h, 1, none⟩ = some (.int .u64 (dg 32 1)) := (m4.ok (Hm.W4 h 32) (by simp)).c 1 (show 1 < 4 by decide)
  have s3 : w4.cell? ⟨h, 2, none⟩ = some (.int .u64 (dg 32 2)) := (m4.ok (Hm.W4 h 32) (by simp)).c 2 (show 2 < 4 by decide)
  have s4 : w4.cell? ⟨h, 3, none⟩ = some (.int .u64 (dg 32 3)) := (m4.ok (Hm.W4 h 32) (by simp)).c 3 (show 3 < 4 by decide)
  have s1 : ∀ o, w4.frozen? ⟨h, o, none⟩ = false := (m4.ok (Hm.W4 h 32) (by simp)).f
  have M4 : Hid _ := m4
  clear m4 b4 M5 q0 p0 p1 y0 y1 x0 x1
  go_upto_region 13 with fail
  clear s0 s1 s2 s3 s4
  have m5 := Hm.set4 (m := 1) (Hm.sub (M := [Hm.W4 h 32, Hm.W4 (h2 + 1) 0, Hm.W4 h2 a, ⟨w.heap.size + 1 + 1 + 1, 6, s6 0 0 0⟩, ⟨w.heap.size + 1 + 1, 2, kz⟩, ⟨w.heap.size + 1, 18, oc k a f l x d⟩, ⟨w.heap.size, 2, kv b M⟩]) M4.out (by simp)) (by simp [Hm.W4]; omega)
  clear M4
  generalize (((w4.setCell ⟨h, 0, none⟩ (.int .u64 (dg 1 0))).setCell ⟨h, 1, none⟩ (.int .u64 (dg 1 1))).setCell ⟨h, 2, none⟩ (.int .u64 (dg 1 2))).setCell ⟨h, 3, none⟩ (.int .u64 (dg 1 3)) = w8 at m5 ⊢
  have M5 : Hid _ := m5
  have q0 := (m5.ok ⟨w.heap.size + 1, 18, oc k a f l x d⟩ (by simp)).c 0 (show 0 < 18 by decide)
  have p0 := q0
  have p1 := q0
  have y0 := q0
  have y1 := q0
  have x0 := q0
  have x1 := q0
  clear m5
  have rA := oc_at ((M5.out.ok ⟨w.heap.size + 1, 18, oc k a f l x d⟩ (by simp)).c)
  have rN := w4_at (M5.out.ok (Hm.W4 h 1) (by simp)).c
  go_wp2_with (first | refine ldW (.tmp 51) (w.heap.size + 1) 1 a rfl rfl rfl rA ?_ | refine ldW (.tmp 50) (w.heap.size + 1) 1 a rfl rfl rfl rA ?_ | refine ldW (.tmp 6) h 0 1 rfl rfl rfl rN ?_)
  refine (KX.out _ (km_of M5.out (by simp) hm.out hM.out)).mono ?_
  rintro e w6 ⟨rfl, b6⟩
  have m6 := Hm.below M5.out b6
  have M6 : Hid _ := m6
  clear m6 b6 rA rN M5 KX q0 p0 p1 y0 y1 x0 x1
  have rF := w4_at (M6.out.ok (Hm.W4 h2 a) (by simp)).c
  have rK := w4_at (M6.out.ok (Hm.W4 (h2 + 1) 0) (by simp)).c
  go_wp2_with (first | refine ldW (.tmp 7) h2 0 a rfl rfl rfl rF ?_ | refine ldW (.tmp 8) (h2 + 1) 0 0 rfl rfl rfl rK ?_)
  refine (KY.out _ (km_of M6.out (by simp) hm.out hM.out)).mono ?_
  rintro e w7 ⟨rfl, b7⟩
  have m7 := Hm.below M6.out b7
  have M7 : Hid _ := m7
  clear b7 rF rK M6 KY
  have q0 : w7.cell? ⟨w.heap.size + 1, 0, none⟩ = some (.int .i64 k) := (m7.ok ⟨w.heap.size + 1, 18, oc k a f l x d⟩ (by simp)).c 0 (show 0 < 18 by decide)
  have p0 : w7.cell? ⟨w.heap.size, 0, none⟩ = some (.map (some b)) := (m7.ok ⟨w.heap.size, 2, kv b M⟩ (by simp)).c 0 (show 0 < 2 by decide)
  have p1 : w7.cell? ⟨w.heap.size, 1, none⟩ = some (.int .u64 (M : Int)) := (m7.ok ⟨w.heap.size, 2, kv b M⟩ (by simp)).c 1 (show 1 < 2 by decide)
  have z0 := (m7.ok ⟨w.heap.size + 1 + 1, 2, kz⟩ (by simp))
  have z1 := (m7.ok ⟨w.heap.size + 1 + 1 + 1, 6, s6 0 0 0⟩ (by simp))
  have y0 := z0.c
  have y1 := z1.c
  have x0 := z0.f
  have x1 := z1.f
  clear m7 z0 z1
  go_wp2_with fail
  have n0 : Hm.Hd w [⟨w.heap.size + 1 + 1, 2, kz⟩, ⟨w.heap.size + 1 + 1 + 1, 6, s6 0 0 0⟩] w7 := Hm.sub M7.out (by simp)
  have n1 := Hm.set (i := 0) (v := (.map (some b))) n0 (by decide) (by simp)
  have n2 := Hm.set (i := 1) (v := (.int .u64 (M : Int))) n1 (by decide) (by simp)
  have k2 := Mm.sw n2
  have n3 := Hm.set (i := 0) (v := (.int .i64 6)) k2 (by decide) (by simp)
  have n4 := Hm.set (i := 1) (v := (.int .u64 0)) n3 (by decide) (by simp)
  have n5 := Hm.set (i := 2) (v := (.int .u64 0)) n4 (by decide) (by simp)
  have n6 := Hm.set (i := 3) (v := (.int .u64 0)) n5 (by decide) (by simp)
  have n7 := Hm.set (i := 4) (v := (.int .u64 0)) n6 (by decide) (by simp)
  have n8 := Hm.set (i := 5) (v := (.int .u64 0)) n7 (by decide) (by simp)
  have a9 := (n8.ok _ (List.mem_cons_of_mem _ (List.mem_cons_self ..))).c
  have b9 := (n8.ok _ (List.mem_cons_self ..)).c
  exact bodyPost_ret (resTwo _ _ _ (w.heap.size + 1 + 1) (w.heap.size + 1 + 1 + 1) 4 5 (.map (some b)) (.int .u64 (M : Int)) (.int .i64 6) (.int .u64 0) (.int .u64 0) (.int .u64 0) (.int .u64 0) (.int .u64 0) Try.results10 rfl rfl (a9 0 (show 0 < 2 by decide)) (a9 1 (show 1 < 2 by decide)) (b9 0 (show 0 < 6 by decide)) (b9 1 (show 1 < 6 by decide)) (b9 2 (show 2 < 6 by decide)) (b9 3 (show 3 < 6 by decide)) (b9 4 (show 4 < 6 by decide)) (b9 5 (show 5 < 6 by decide))) rfl ⟨rfl, n8.bel⟩
set_option maxHeartbeats 2000000 in
set_option maxRecDepth 100000 in
theorem kone_much5 (k : Int) (a f l x : Nat) (da : Option Addr) (dn dc : Nat) (HD : Hid (dn ≤ 1048576)) (b M : Nat) (m : By) (w : World) (hk : Hid (k = 5)) (hM : Hid (M = m.length)) (hm : Hid (KV b m w)) (KI : Hid (∀ W : World, Calls Try.prog 17 #[.int .u64 32] W fun e w' => e = .returned (.agg #[.int .u64 (dg 32 0), .int .u64 (dg 32 1), .int .u64 (dg 32 2), .int .u64 (dg 32 3)]) ∧ Below W.heap.size W w'))
    (KI5 : Hid (∀ W : World, Calls Try.prog 17 #[.int .u64 (dn : Int)] W fun e w' => e = .returned (.agg #[.int .u64 (dg dn 0), .int .u64 (dg dn 1), .int .u64 (dg dn 2), .int .u64 (dg dn 3)]) ∧ Below W.heap.size W w'))
    (KX : Hid (∀ W : World, KM w.heap.size b m W → Calls Try.prog 18 #[.pointer (some ⟨w.heap.size, 0, none⟩), .agg #[.int .u64 (dg a 0), .int .u64 (dg a 1), .int .u64 (dg a 2), .int .u64 (dg a 3)], .agg #[.int .u64 (dg dn 0), .int .u64 (dg dn 1), .int .u64 (dg dn 2), .int .u64 (dg dn 3)]] W fun e w' => e = .returned (.tuple #[.int .u64 (0 : Int), .bool false]) ∧ Below W.heap.size W w'))
    (KY : Hid (∀ W : World, KM w.heap.size b m W → Calls Try.prog 18 #[.pointer (some ⟨w.heap.size, 0, none⟩), .agg #[.int .u64 (dg a 0), .int .u64 (dg a 1), .int .u64 (dg a 2), .int .u64 (dg a 3)], .agg #[.int .u64 (dg 0 0), .int .u64 (dg 0 1), .int .u64 (dg 0 2), .int .u64 (dg 0 3)]] W fun e w' => e = .returned (.tuple #[.int .u64 ((M : Nat) : Int), .bool true]) ∧ Below W.heap.size W w')) :
    Calls Try.prog 10 #[.agg #[.map (some b), .int .u64 (M : Int)], od k a f l x (.slice da dn dc)] w fun e w' => e = .returned (.tuple #[.agg #[.map (some b), .int .u64 (M : Int)], av (6, 0, 0)]) ∧ Below w.heap.size w w' := by
  conv => arg 3; unfold od
  go_enter Try.func10, Try.ntmps10
  go_upto_region 1 with fail
  have m0 : Hm.Hd w [⟨w.heap.size + 1 + 1 + 1, 6, s6 0 0 0⟩, ⟨w.heap.size + 1 + 1, 2, kz⟩, ⟨w.heap.size + 1, 18, oc k a f l x (.slice da dn dc)⟩, ⟨w.heap.size, 2, kv b M⟩] ((((w.alloc (.cells #[.map (some b), .int .u64 (M : Int)] 43)).alloc (.cells #[.int .i64 k, .int .u64 (dg a 0), .int .u64 (dg a 1), .int .u64 (dg a 2), .int .u64 (dg a 3), .int .u64 (dg f 0), .int .u64 (dg f 1), .int .u64 (dg f 2), .int .u64 (dg f 3), .int .u64 (dg l 0), .int .u64 (dg l 1), .int .u64 (dg l 2), .int .u64 (dg l 3), .int .u64 (dg x 0), .int .u64 (dg x 1), .int .u64 (dg x 2), .int .u64 (dg x 3), .slice da dn dc] 39)).alloc (.cells #[.map none, .int .u64 0] 43)).alloc (.cells #[.int .i64 0, .int .u64 0, .int .u64 0, .int .u64 0, .int .u64 0, .int .u64 0] 34)) := by
    have k1 := newB (n := 2) (F := kv b M) (xs := #[.map (some b), .int .u64 (M : Int)]) (T := 43) (Hm.start w) rfl (kv_of b M)
    have k2 := Mm.newO k a f l x (.slice da dn dc) (T := 39) (g := w.heap.size + 1) k1 (by simp)
    have k3 := newB (g := w.heap.size + 1 + 1) (n := 2) (F := kz) (xs := #[.map none, .int .u64 0]) (T := 43) k2 (by simp) kz_of
    exact newB (g := w.heap.size + 1 + 1 + 1) (n := 6) k3 (by simp) (Mm.y6_of 0)
  generalize ((((w.alloc (.cells #[.map (some b), .int .u64 (M : Int)] 43)).alloc (.cells #[.int .i64 k, .int .u64 (dg a 0), .int .u64 (dg a 1), .int .u64 (dg a 2), .int .u64 (dg a 3), .int .u64 (dg f 0), .int .u64 (dg f 1), .int .u64 (dg f 2), .int .u64 (dg f 3), .int .u64 (dg l 0), .int .u64 (dg l 1), .int .u64 (dg l 2), .int .u64 (dg l 3), .int .u64 (dg x 0), .int .u64 (dg x 1), .int .u64 (dg x 2), .int .u64 (dg x 3), .slice da dn dc] 39)).alloc (.cells #[.map none, .int .u64 0] 43)).alloc (.cells #[.int .i64 0, .int .u64 0, .int .u64 0, .int .u64 0, .int .u64 0, .int .u64 0] 34)) = W1 at m0 ⊢
  generalize (Value.agg #[.int .i64 k, .int .u64 (dg a 0), .int .u64 (dg a 1), .int .u64 (dg a 2), .int .u64 (dg a 3), .int .u64 (dg f 0), .int .u64 (dg f 1), .int .u64 (dg f 2), .int .u64 (dg f 3), .int .u64 (dg l 0), .int .u64 (dg l 1), .int .u64 (dg l 2), .int .u64 (dg l 3), .int .u64 (dg x 0), .int .u64 (dg x 1), .int .u64 (dg x 2), .int .u64 (dg x 3), .slice da dn dc] : Value) = V0
  have M0 : Hid _ := m0
  clear m0
  go_wp2_with fail
  refine (KI.out W1).mono ?_
  rintro e w2 ⟨rfl, b2⟩
  have m2 := Hm.below M0.out b2
  clear M0 b2
  go_upto_region 2 with fail
  obtain ⟨h, eh⟩ : ∃ h, h = w2.heap.size := ⟨_, rfl⟩
  have hh : w.heap.size + 1 + 1 + 1 < h := by rw [eh]; exact (m2.ok _ (List.mem_cons_self ..)).hi
  have m3 : Hm.Hd w [Hm.W4 h 32, ⟨w.heap.size + 1 + 1 + 1, 6, s6 0 0 0⟩, ⟨w.heap.size + 1 + 1, 2, kz⟩, ⟨w.heap.size + 1, 18, oc k a f l x (.slice da dn dc)⟩, ⟨w.heap.size, 2, kv b M⟩] (w2.alloc (.cells #[.int .u64 (dg 32 0), .int .u64 (dg 32 1), .int .u64 (dg 32 2), .int .u64 (dg 32 3)] 32)) := Hm.new4 (n := 32) (T := 32) m2 eh
  rw [← eh]
  clear eh m2
  generalize w2.alloc (.cells #[.int .u64 (dg 32 0), .int .u64 (dg 32 1), .int .u64 (dg 32 2), .int .u64 (dg 32 3)] 32) = w3 at m3 ⊢
  have M3 : Hid _ := m3
  have r1 := oc_at ((m3.ok ⟨w.heap.size + 1, 18, oc k a f l x (.slice da dn dc)⟩ (by simp)).c)
  clear m3
  go_upto_region 3 with (refine ldW (.tmp 21) (w.heap.size + 1) 1 a rfl rfl rfl r1 ?_)
  obtain ⟨h2, eh⟩ : ∃ h2, h2 = w3.heap.size := ⟨_, rfl⟩
  have hh2 : h < h2 := by rw [eh]; exact (M3.out.ok _ (List.mem_cons_self ..)).hi
  have m5 : Hm.Hd w [Hm.W4 (h2 + 1) 0, Hm.W4 h2 a, Hm.W4 h 32, ⟨w.heap.size + 1 + 1 + 1, 6, s6 0 0 0⟩, ⟨w.heap.size + 1 + 1, 2, kz⟩, ⟨w.heap.size + 1, 18, oc k a f l x (.slice da dn dc)⟩, ⟨w.heap.size, 2, kv b M⟩] ((w3.alloc (.cells #[.int .u64 (dg a 0), .int .u64 (dg a 1), .int .u64 (dg a 2), .int .u64 (dg a 3)] 32)).alloc (.cells #[.int .u64 0, .int .u64 0, .int .u64 0, .int .u64 0] 32)) := by
    have k1 := Hm.new4 (n := a) (T := 32) M3.out eh
    exact Hm.new4 (n := 0) (g := h2 + 1) (T := 32) k1 (by simp [eh])
  rw [← eh]
  clear eh M3 r1
  generalize (w3.alloc (.cells #[.int .u64 (dg a 0), .int .u64 (dg a 1), .int .u64 (dg a 2), .int .u64 (dg a 3)] 32)).alloc (.cells #[.int .u64 0, .int .u64 0, .int .u64 0, .int .u64 0] 32) = w5 at m5 ⊢
  have M5 : Hid _ := m5
  have q0 : w5.cell? ⟨w.heap.size + 1, 0, none⟩ = some (.int .i64 k) := (m5.ok ⟨w.heap.size + 1, 18, oc k a f l x (.slice da dn dc)⟩ (by simp)).c 0 (show 0 < 18 by decide)
  have p0 : w5.cell? ⟨w.heap.size, 0, none⟩ = some (.map (some b)) := (m5.ok ⟨w.heap.size, 2, kv b M⟩ (by simp)).c 0 (show 0 < 2 by decide)
  have p1 : w5.cell? ⟨w.heap.size, 1, none⟩ = some (.int .u64 (M : Int)) := (m5.ok ⟨w.heap.size, 2, kv b M⟩ (by simp)).c 1 (show 1 < 2 by decide)
  have z0 := (m5.ok ⟨w.heap.size + 1 + 1, 2, kz⟩ (by simp))
  have z1 := (m5.ok ⟨w.heap.size + 1 + 1 + 1, 6, s6 0 0 0⟩ (by simp))
  have y0 := z0.c
  have y1 := z1.c
  have x0 := z0.f
  have x1 := z1.f
  clear m5 z0 z1
  have e1 : (k == 1) = false := by rw [hk.out]; rfl
  have e2 : (k == 2) = false := by rw [hk.out]; rfl
  have e3 : (k == 3) = false := by rw [hk.out]; rfl
  have e4 : (k == 4) = false := by rw [hk.out]; rfl
  have e5 : (k == 5) = true := by rw [hk.out]; rfl
  have q17 : w5.cell? ⟨w.heap.size + 1, 17, none⟩ = some (.slice da dn dc) := (M5.out.ok ⟨w.heap.size + 1, 18, oc k a f l x (.slice da dn dc)⟩ (by simp)).c 17 (show 17 < 18 by decide)
  have u5 : IntKind.u64.wrap (dn : Int) = (dn : Int) := by
    have := HD.out
    rw [IntKind.wrap_u64]
    omega
  go_wp2_with fail
  refine (KI5.out w5).mono ?_
  rintro e w4 ⟨rfl, b4⟩
  have m4 := Hm.below M5.out b4
  have s0 : w4.cell? ⟨h, 0, none⟩ = some (.int .u64 (dg 32 0)) := (m4.ok (Hm.W4 h 32) (by simp)).c 0 (show 0 < 4 by decide)
  have s2 : w4.cell? ⟨h, 1, none⟩ = some (.int .u64 (dg 32 1)) := (m4.ok (Hm.W4 h 32) (by simp)).c 1 (show 1 < 4 by decide)
  have s3 : w4.cell? ⟨h, 2, none⟩ = some (.int .u64 (dg 32 2)) := (m4.ok (Hm.W4 h 32) (by simp)).c 2 (show 2 < 4 by decide)
  have s4 : w4.cell? ⟨h, 3, none⟩ = some (.int .u64 (dg 32 3)) := (m4.ok (Hm.W4 h 32) (by simp)).c 3 (show 3 < 4 by decide)
  have s1 : ∀ o, w4.frozen? ⟨h, o, none⟩ = false := (m4.ok (Hm.W4 h 32) (by simp)).f
  have M4 : Hid _ := m4
  clear m4 b4 M5 q0 p0 p1 y0 y1 x0 x1
  go_upto_region 13 with fail
  clear s0 s1 s2 s3 s4
  have m5 := Hm.set4 (m := dn) (Hm.sub (M := [Hm.W4 h 32, Hm.W4 (h2 + 1) 0, Hm.W4 h2 a, ⟨w.heap.size + 1 + 1 + 1, 6, s6 0 0 0⟩, ⟨w.heap.size + 1 + 1, 2, kz⟩, ⟨w.heap.size + 1, 18, oc k a f l x (.slice da dn dc)⟩, ⟨w.heap.size, 2, kv b M⟩]) M4.out (by simp)) (by simp [Hm.W4]; omega)
  clear M4
  generalize (((w4.setCell ⟨h, 0, none⟩ (.int .u64 (dg dn 0))).setCell ⟨h, 1, none⟩ (.int .u64 (dg dn 1))).setCell ⟨h, 2, none⟩ (.int .u64 (dg dn 2))).setCell ⟨h, 3, none⟩ (.int .u64 (dg dn 3)) = w8 at m5 ⊢
  have M5 : Hid _ := m5
  have q0 := (m5.ok ⟨w.heap.size + 1, 18, oc k a f l x (.slice da dn dc)⟩ (by simp)).c 0 (show 0 < 18 by decide)
  have p0 := q0
  have p1 := q0
  have y0 := q0
  have y1 := q0
  have x0 := q0
  have x1 := q0
  clear m5
  have rA := oc_at ((M5.out.ok ⟨w.heap.size + 1, 18, oc k a f l x (.slice da dn dc)⟩ (by simp)).c)
  have rN := w4_at (M5.out.ok (Hm.W4 h dn) (by simp)).c
  go_wp2_with (first | refine ldW (.tmp 51) (w.heap.size + 1) 1 a rfl rfl rfl rA ?_ | refine ldW (.tmp 50) (w.heap.size + 1) 1 a rfl rfl rfl rA ?_ | refine ldW (.tmp 6) h 0 dn rfl rfl rfl rN ?_)
  refine (KX.out _ (km_of M5.out (by simp) hm.out hM.out)).mono ?_
  rintro e w6 ⟨rfl, b6⟩
  have m6 := Hm.below M5.out b6
  have M6 : Hid _ := m6
  clear m6 b6 rA rN M5 KX q0 p0 p1 y0 y1 x0 x1
  have rF := w4_at (M6.out.ok (Hm.W4 h2 a) (by simp)).c
  have rK := w4_at (M6.out.ok (Hm.W4 (h2 + 1) 0) (by simp)).c
  go_wp2_with (first | refine ldW (.tmp 7) h2 0 a rfl rfl rfl rF ?_ | refine ldW (.tmp 8) (h2 + 1) 0 0 rfl rfl rfl rK ?_)
  refine (KY.out _ (km_of M6.out (by simp) hm.out hM.out)).mono ?_
  rintro e w7 ⟨rfl, b7⟩
  have m7 := Hm.below M6.out b7
  have M7 : Hid _ := m7
  clear b7 rF rK M6 KY
  have q0 : w7.cell? ⟨w.heap.size + 1, 0, none⟩ = some (.int .i64 k) := (m7.ok ⟨w.heap.size + 1, 18, oc k a f l x (.slice da dn dc)⟩ (by simp)).c 0 (show 0 < 18 by decide)
  have p0 : w7.cell? ⟨w.heap.size, 0, none⟩ = some (.map (some b)) := (m7.ok ⟨w.heap.size, 2, kv b M⟩ (by simp)).c 0 (show 0 < 2 by decide)
  have p1 : w7.cell? ⟨w.heap.size, 1, none⟩ = some (.int .u64 (M : Int)) := (m7.ok ⟨w.heap.size, 2, kv b M⟩ (by simp)).c 1 (show 1 < 2 by decide)
  have z0 := (m7.ok ⟨w.heap.size + 1 + 1, 2, kz⟩ (by simp))
  have z1 := (m7.ok ⟨w.heap.size + 1 + 1 + 1, 6, s6 0 0 0⟩ (by simp))
  have y0 := z0.c
  have y1 := z1.c
  have x0 := z0.f
  have x1 := z1.f
  clear m7 z0 z1
  go_wp2_with fail
  have n0 : Hm.Hd w [⟨w.heap.size + 1 + 1, 2, kz⟩, ⟨w.heap.size + 1 + 1 + 1, 6, s6 0 0 0⟩] w7 := Hm.sub M7.out (by simp)
  have n1 := Hm.set (i := 0) (v := (.map (some b))) n0 (by decide) (by simp)
  have n2 := Hm.set (i := 1) (v := (.int .u64 (M : Int))) n1 (by decide) (by simp)
  have k2 := Mm.sw n2
  have n3 := Hm.set (i := 0) (v := (.int .i64 6)) k2 (by decide) (by simp)
  have n4 := Hm.set (i := 1) (v := (.int .u64 0)) n3 (by decide) (by simp)
  have n5 := Hm.set (i := 2) (v := (.int .u64 0)) n4 (by decide) (by simp)
  have n6 := Hm.set (i := 3) (v := (.int .u64 0)) n5 (by decide) (by simp)
  have n7 := Hm.set (i := 4) (v := (.int .u64 0)) n6 (by decide) (by simp)
  have n8 := Hm.set (i := 5) (v := (.int .u64 0)) n7 (by decide) (by simp)
  have a9 := (n8.ok _ (List.mem_cons_of_mem _ (List.mem_cons_self ..))).c
  have b9 := (n8.ok _ (List.mem_cons_self ..)).c
  exact bodyPost_ret (resTwo _ _ _ (w.heap.size + 1 + 1) (w.heap.size + 1 + 1 + 1) 4 5 (.map (some b)) (.int .u64 (M : Int)) (.int .i64 6) (.int .u64 0) (.int .u64 0) (.int .u64 0) (.int .u64 0) (.int .u64 0) Try.results10 rfl rfl (a9 0 (show 0 < 2 by decide)) (a9 1 (show 1 < 2 by decide)) (b9 0 (show 0 < 6 by decide)) (b9 1 (show 1 < 6 by decide)) (b9 2 (show 2 < 6 by decide)) (b9 3 (show 3 < 6 by decide)) (b9 4 (show 4 < 6 by decide)) (b9 5 (show 5 < 6 by decide))) rfl ⟨rfl, n8.bel⟩
end Kp
end Go.Proofs.Ytpgjgehkomoobaa
/- The same, where those of class 1 may look at others of class 1 that they are bound to. A region that draws its order: some values stand fast whatever the order (class 0), some hang on when they come (class 1: new blocks), and the rest come behind all these, one behind the other (class 2). -/
namespace Go.Proofs.Ytpgjgehkomoobaa
namespace RH
open RI RS RN Go.RowKit
variable {P : Program} {ops : Array Oper} {Q : Exit → Act → World → Prop}
def cls (ks : List Nat) (j : Nat) : Nat := ks.getD j 2
def updU (U : Nat → Value) (i : Nat) (v : Value) : Nat → Value := fun j => if j = i then v else U j
/-- A step of class 0. -/
def DStep (P : Program) (ops : Array Oper) (I : (Nat → Bool) → (Nat → Value) → World → Prop) (i : Nat) (o : Oper) (v : Value) (U : Nat → Value) (a : Act) : Prop :=
  (Region.wanted o (yielded ops a.tmps) = true ∧ ∀ (K : Value → World → Prop) d w, I d U w → may ops d i → (∀ w', I (don d i) U w' → K v w') → upv P K ((execOp a.eval o).run P w)) ∨
  (Region.wanted o (yielded ops a.tmps) = false ∧ v = undef ∧ ∀ d w, I d U w → may ops d i → I (don d i) U w)
/-- A step of class 1. -/
def NStep (P : Program) (ops : Array Oper) (I : (Nat → Bool) → (Nat → Value) → World → Prop) (j : Nat) (o : Oper) (U : Nat → Value) (a : Act) : Prop :=
  ∀ (K : Value → World → Prop) d w, I d U w → may ops d j → (∀ v w', I (don d j) (updU U j v) w' → K v w') → upv P K ((execOp a.eval o).run P w)
/-- The walk in the text's order: class 0 by its value, class 1 by its fact. -/
def Walk (P : Program) (ops : Array Oper) (I : (Nat → Bool) → (Nat → Value) → World → Prop) (E : ((Nat → Value) → Act) → Prop) : Nat → List Oper → List Nat → ((Nat → Value) → Act) → Prop
  | j, o :: r, k :: ks, f =>
    if k = 0 then ∃ v, (∀ U, DStep P ops I j o v U (f U)) ∧ Walk P ops I E (j + 1) r ks (fun U => (f U).put o.dst v)
    else if k = 1 then o.guard = none ∧ (∀ U, NStep P ops I j o U (f U)) ∧ Walk P ops I E (j + 1) r ks (fun U => (f U).put o.dst (U j))
    else Walk P ops I E (j + 1) r ks f
  | _, _, _, f => E f
def tl : List Oper → List Nat → List Oper
  | o :: r, k :: ks => if k = 2 then o :: tl r ks else tl r ks
  | _, _ => []
/-- What each operation is bound to, through others too, as bits. -/
def mask1 (ms : List Nat) (o : Oper) : Nat := o.after.toList.foldl (fun m e => if Region.binds .any e then m ||| (1 <<< e.on) ||| ms.getD e.on 0 else m) 0
def masks (ops : Array Oper) : Nat → List Nat
  | 0 => []
  | k + 1 => masks ops k ++ [((ops[k]?).map (mask1 (masks ops k))).getD 0]
def pairC (ops : Array Oper) (ks : List Nat) (i j : Nat) : Bool :=
  match ops[i]?, ops[j]? with
  | some x, some y =>
    match y.dst with
    | none => true
    | some t =>
      if cls ks i = 2 then true
      else if cls ks j = 2 then true
      else (x.dst != some t || i == j) && (if cls ks j = 1 ∧ cls ks i = 0 then !(x.looksAt ops).contains t else (!(x.looksAt ops).contains t || (decide (j < i) && bindsOn x j) || (decide (i < j) && bindsOn y i)))
  | _, _ => true
def okC (ops : Array Oper) (ks : List Nat) : Bool :=
  RI.early ops && decide (ks.length = ops.size) && (List.range ops.size).all fun i =>
    (((ops[i]?).map fun o => !isSel o.op).getD true && decide (cls ks i ≤ 2)) && (List.range ops.size).all (fun j => pairC ops ks i j) &&
    (if cls ks i = 2 then (List.range ops.size).all fun j => (decide (cls ks j = 2) && decide (i ≤ j)) || ((masks ops ops.size).getD i 0).testBit j else true)
theorem masks_len (ops : Array Oper) : ∀ k, (masks ops k).length = k
  | 0 => rfl
  | k + 1 => by rw [masks, List.length_append, masks_len ops k]; rfl
theorem masks_get (ops : Array Oper) : ∀ n k, k < n → (masks ops n).getD k 0 = ((ops[k]?).map (mask1 (masks ops k))).getD 0
  | 0, k, h => absurd h (by omega)
  | n + 1, k, h => by
    rw [masks]
    by_cases e : k = n
    · subst e
      rw [List.getD_eq_getElem?_getD, List.getElem?_append_right (by rw [masks_len]; omega), masks_len]
      simp
    · rw [List.getD_eq_getElem?_getD, List.getElem?_append_left (by rw [masks_len]; omega), ← List.getD_eq_getElem?_getD]
      exact masks_get ops n k (by omega)
def Closed (ops : Array Oper) (d : Nat → Bool) : Prop := ∀ (j : Nat) (o : Oper), ops[j]? = some o → d j = true → ∀ e, e ∈ o.after → Region.binds .any e = true → d e.on = true
theorem mask1_bit (ms : List Nat) (o : Oper) (i : Nat) (h : (mask1 ms o).testBit i = true) : ∃ e, e ∈ o.after ∧ Region.binds .any e = true ∧ (e.on = i ∨ (ms.getD e.on 0).testBit i = true) := by
  unfold mask1 at h
  have key : ∀ (l : List Edge) (m : Nat), (l.foldl (fun m e => if Region.binds .any e then m ||| (1 <<< e.on) ||| ms.getD e.on 0 else m) m).testBit i = true → m.testBit i = true ∨ ∃ e, e ∈ l ∧ Region.binds .any e = true ∧ (e.on = i ∨ (ms.getD e.on 0).testBit i = true) := by
    intro l
    induction l with
    | nil => intro m h; exact .inl h
    | cons e r ih =>
      intro m h
      rw [List.foldl_cons] at h
      rcases ih _ h with h1 | ⟨e', h1, h2⟩
      · by_cases hb : Region.binds .any e = true
        · rw [if_pos hb, Nat.testBit_or, Nat.testBit_or, Bool.or_eq_true, Bool.or_eq_true] at h1
          rcases h1 with (h1 | h1) | h1
          · exact .inl h1
          · refine .inr ⟨e, List.mem_cons_self .., hb, .inl ?_⟩
            rw [Nat.one_shiftLeft, Nat.testBit_two_pow] at h1
            simpa using h1
          · exact .inr ⟨e, List.mem_cons_self .., hb, .inr h1⟩
        · rw [if_neg hb] at h1; exact .inl h1
      · exact .inr ⟨e', List.mem_cons_of_mem _ h1, h2⟩
  rcases key _ 0 h with h1 | ⟨e, h1, h2⟩
  · rw [Nat.zero_testBit] at h1; cases h1
  · exact ⟨e, by simpa using h1, h2⟩
theorem mask_done (he : RI.early ops = true) (d : Nat → Bool) (hcl : Closed ops d) : ∀ (n j : Nat), j < n → n ≤ ops.size → (∀ o, ops[j]? = some o → ∀ e, e ∈ o.after → Region.binds .any e = true → d e.on = true) → ∀ i, (((ops[j]?).map (mask1 (masks ops j))).getD 0).testBit i = true → d i = true
  | 0, j, h, _, _, _, _ => absurd h (by omega)
  | n + 1, j, hj, hn, hd, i, h => by
    have hjs : j < ops.size := by omega
    rw [Array.getElem?_eq_getElem hjs] at h
    simp only [Option.map_some, Option.getD_some] at h
    obtain ⟨e, h1, h2, h3⟩ := mask1_bit _ _ _ h
    have h4 := hd _ (Array.getElem?_eq_getElem hjs) e h1 h2
    rcases h3 with rfl | h3
    · exact h4
    · have hlt : e.on < j := by
        have h5 := List.all_eq_true.1 he j (List.mem_range.2 hjs)
        rw [Array.getElem?_eq_getElem hjs] at h5
        simp only [Option.map_some, Option.getD_some, Array.all_eq_true_iff_forall_mem] at h5
        have := h5 e h1
        rw [h2] at this
        simpa using this
      rw [masks_get ops j e.on hlt] at h3
      exact mask_done he d hcl n e.on (by omega) (by omega) (fun o ho => hcl e.on o ho h4) i h3
theorem fr_get2 (V : Nat → Value) (a : Act) (d c : Nat → Bool) (i t : Nat) : ∀ k, (∀ j, j < k → (ops[j]?).bind (·.dst) = some t → (j < i ∧ d j = true ∧ c j = true) ∨ (d j = false ∧ (c j = false ∨ i ≤ j))) → (fr ops V d a k).tmps[t]? = (fr ops V c a (min k i)).tmps[t]?
  | 0, _ => by simp [fr]
  | k + 1, h => by
    have ih := fr_get2 V a d c i t k (fun j hj => h j (by omega))
    have hk := h k (by omega)
    by_cases hi : k < i
    · rw [show min (k + 1) i = k + 1 by omega, fr, fr]
      rw [show min k i = k by omega] at ih
      by_cases e : (ops[k]?).bind (·.dst) = some t
      · rcases hk e with ⟨_, h2, h3⟩ | ⟨h1, h2 | h2⟩
        · rw [h2, h3]; simp only [if_true]; rw [put_get, put_get]; simp only [get_size ih, ih]
        · rw [h1, h2]; exact ih
        · omega
      · have q : ∀ (x : Act) (b : Bool), (if b then x.put ((ops[k]?).bind (·.dst)) (V k) else x).tmps[t]? = x.tmps[t]? := by
          intro x b; cases b
          · rfl
          · simp only [if_true]; rw [put_get, if_neg e]
        rw [q, q, ih]
    · rw [show min (k + 1) i = i by omega, fr]
      rw [show min k i = i by omega] at ih
      by_cases e : (ops[k]?).bind (·.dst) = some t
      · rcases hk e with ⟨h1, _⟩ | ⟨h2, _⟩
        · omega
        · rw [h2]; exact ih
      · cases d k
        · exact ih
        · simp only [if_true]; rw [put_get, if_neg e]; exact ih
theorem fr_put2 (V : Nat → Value) (a : Act) (d : Nat → Bool) (i : Nat) (hd : d i = false) : ∀ k, (∀ j, j < k → d j = true → ∀ t, (ops[i]?).bind (·.dst) = some t → (ops[j]?).bind (·.dst) ≠ some t) →
    fr ops V (don d i) a k = if i < k then (fr ops V d a k).put ((ops[i]?).bind (·.dst)) (V i) else fr ops V d a k
  | 0, _ => by simp [fr]
  | k + 1, h => by
    have ih := fr_put2 V a d i hd k (fun j hj => h j (by omega))
    rw [fr, fr]
    by_cases e : k = i
    · subst e
      rw [don_same, hd, ih, if_neg (show ¬ k < k by omega), if_pos (show k < k + 1 by omega)]
      simp
    · rw [don_other _ _ _ e, ih]
      by_cases h1 : i < k
      · rw [if_pos h1, if_pos (show i < k + 1 by omega)]
        cases hk : d k with
        | false => simp
        | true =>
          simp only [if_true]
          exact Act.put_comm _ _ _ (fun t ht => h k (by omega) hk t ht)
      · rw [if_neg h1, if_neg (show ¬ i < k + 1 by omega)]
def isDN (ks : List Nat) (j : Nat) : Bool := cls ks j == 0 || cls ks j == 1
/-- The value of each that is not of class 2. -/
def VU (ks : List Nat) (V U : Nat → Value) (j : Nat) : Value := if cls ks j = 1 then U j else V j
theorem walk_vals {I : (Nat → Bool) → (Nat → Value) → World → Prop} {E : ((Nat → Value) → Act) → Prop} (ks : List Nat) (a : Act) : ∀ (l : List Oper) (k : List Nat) (m : Nat) (V : Nat → Value), l.length = k.length → (∀ j o, l[j]? = some o → ops[m + j]? = some o) → (∀ j c, k[j]? = some c → cls ks (m + j) = c) → (∀ j, j < k.length → cls ks (m + j) ≤ 2) → Walk P ops I E m l k (fun U => fr ops (VU ks V U) (isDN ks) a m) →
    ∃ V', (∀ j, j < m → V' j = V j) ∧ (∀ j o U, l[j]? = some o → cls ks (m + j) = 0 → DStep P ops I (m + j) o (V' (m + j)) U (fr ops (VU ks V' U) (isDN ks) a (m + j))) ∧ (∀ j o U, l[j]? = some o → cls ks (m + j) = 1 → o.guard = none ∧ NStep P ops I (m + j) o U (fr ops (VU ks V' U) (isDN ks) a (m + j))) ∧ E (fun U => fr ops (VU ks V' U) (isDN ks) a (m + l.length))
  | [], k, m, V, _, _, _, _, h => ⟨V, fun _ _ => rfl, fun j o _ hj => by simp at hj, fun j o _ hj => by simp at hj, by cases k <;> simpa [Walk] using h⟩
  | o :: r, [], m, V, hl, _, _, _, h => absurd hl (by simp)
  | o :: r, c :: k, m, V, hlen, hl, hc, h3, h => by
    have hkm : ops[m]? = some o := by simpa using hl 0 o rfl
    have hcm : cls ks m = c := by simpa using hc 0 c rfl
    have frV : ∀ (V1 V2 U : Nat → Value) (n : Nat), (∀ j, j < n → V1 j = V2 j) → fr ops (VU ks V1 U) (isDN ks) a n = fr ops (VU ks V2 U) (isDN ks) a n := fun V1 V2 U n hv => fr_V a (isDN ks) _ _ n (fun j hj _ => by unfold VU; rw [hv j hj])
    have hl' : ∀ j o', r[j]? = some o' → ops[m + 1 + j]? = some o' := fun j o' hj => by have := hl (j + 1) o' (by simpa using hj); rwa [show m + (j + 1) = m + 1 + j by omega] at this
    have hc' : ∀ j c', k[j]? = some c' → cls ks (m + 1 + j) = c' := fun j c' hj => by have := hc (j + 1) c' (by simpa using hj); rwa [show m + (j + 1) = m + 1 + j by omega] at this
    have h3' : ∀ j, j < k.length → cls ks (m + 1 + j) ≤ 2 := fun j hj => by have := h3 (j + 1) (by simpa using hj); rwa [show m + (j + 1) = m + 1 + j by omega] at this
    unfold Walk at h
    by_cases h0 : c = 0
    · rw [if_pos h0] at h
      obtain ⟨v, h1, h2⟩ := h
      let W : Nat → Value := fun j => if j = m then v else V j
      have hW : (fun U => fr ops (VU ks W U) (isDN ks) a (m + 1)) = fun U => (fr ops (VU ks V U) (isDN ks) a m).put o.dst v := by
        funext U
        rw [fr, frV W V U m (fun j hj => by simp only [W]; rw [if_neg (by omega)])]
        simp [isDN, hcm, h0, hkm, W, VU]
      rw [← hW] at h2
      obtain ⟨V', e1, e2, e3, e4⟩ := walk_vals ks a r k (m + 1) W (by simpa using hlen) hl' hc' h3' h2
      have eV : ∀ U, fr ops (VU ks V' U) (isDN ks) a m = fr ops (VU ks V U) (isDN ks) a m := fun U => frV V' V U m (fun j hj => by rw [e1 j (by omega)]; simp only [W]; rw [if_neg (by omega)])
      refine ⟨V', fun j hj => ?_, fun j o' U hj hcj => ?_, fun j o' U hj hcj => ?_, ?_⟩
      · rw [e1 j (by omega)]; simp only [W]; rw [if_neg (by omega)]
      · cases j with
        | zero =>
          have : o' = o := by simpa using hj.symm
          subst this
          rw [Nat.add_zero, e1 m (by omega), eV]
          simpa [W] using h1 U
        | succ j => rw [show m + (j + 1) = m + 1 + j by omega] at hcj ⊢; exact e2 j o' U (by simpa using hj) hcj
      · cases j with
        | zero => rw [Nat.add_zero, hcm, h0] at hcj; exact absurd hcj (by decide)
        | succ j => rw [show m + (j + 1) = m + 1 + j by omega] at hcj ⊢; exact e3 j o' U (by simpa using hj) hcj
      · rw [show m + (o :: r).length = m + 1 + r.length by simp; omega]; exact e4
    · rw [if_neg h0] at h
      by_cases h1 : c = 1
      · rw [if_pos h1] at h
        obtain ⟨hg, hn, h2⟩ := h
        have hW : (fun U => fr ops (VU ks V U) (isDN ks) a (m + 1)) = fun U => (fr ops (VU ks V U) (isDN ks) a m).put o.dst (U m) := by
          funext U
          rw [fr]
          simp [isDN, hcm, h1, hkm, VU]
        rw [← hW] at h2
        obtain ⟨V', e1, e2, e3, e4⟩ := walk_vals ks a r k (m + 1) V (by simpa using hlen) hl' hc' h3' h2
        have eV : ∀ U, fr ops (VU ks V' U) (isDN ks) a m = fr ops (VU ks V U) (isDN ks) a m := fun U => frV V' V U m (fun j hj => e1 j (by omega))
        refine ⟨V', fun j hj => e1 j (by omega), fun j o' U hj hcj => ?_, fun j o' U hj hcj => ?_, ?_⟩
        · cases j with
          | zero => rw [Nat.add_zero, hcm] at hcj; exact absurd hcj h0
          | succ j => rw [show m + (j + 1) = m + 1 + j by omega] at hcj ⊢; exact e2 j o' U (by simpa using hj) hcj
        · cases j with
          | zero =>
            have : o' = o := by simpa using hj.symm
            subst this
            rw [Nat.add_zero, eV]
            exact ⟨hg, hn U⟩
          | succ j => rw [show m + (j + 1) = m + 1 + j by omega] at hcj ⊢; exact e3 j o' U (by simpa using hj) hcj
        · rw [show m + (o :: r).length = m + 1 + r.length by simp; omega]; exact e4
      · rw [if_neg h1] at h
        have hskip : (fun U => fr ops (VU ks V U) (isDN ks) a (m + 1)) = fun U => fr ops (VU ks V U) (isDN ks) a m := by
          funext U
          rw [fr]; simp [isDN, hcm, h0, h1]
        rw [← hskip] at h
        obtain ⟨V', e1, e2, e3, e4⟩ := walk_vals ks a r k (m + 1) V (by simpa using hlen) hl' hc' h3' h
        refine ⟨V', fun j hj => e1 j (by omega), fun j o' U hj hcj => ?_, fun j o' U hj hcj => ?_, ?_⟩
        · cases j with
          | zero => rw [Nat.add_zero, hcm] at hcj; exact absurd hcj h0
          | succ j => rw [show m + (j + 1) = m + 1 + j by omega] at hcj ⊢; exact e2 j o' U (by simpa using hj) hcj
        · cases j with
          | zero => rw [Nat.add_zero, hcm] at hcj; exact absurd hcj h1
          | succ j => rw [show m + (j + 1) = m + 1 + j by omega] at hcj ⊢; exact e3 j o' U (by simpa using hj) hcj
        · rw [show m + (o :: r).length = m + 1 + r.length by simp; omega]; exact e4
theorem tl_skip : ∀ (l : List Oper) (ks : List Nat) (m n : Nat), m ≤ n → (∀ j, m ≤ j → j < n → ks.getD j 2 ≠ 2) → n ≤ ks.length → l.length = ks.length → tl (l.drop m) (ks.drop m) = tl (l.drop n) (ks.drop n) := by
  intro l ks m n hmn h hn hl
  induction n with
  | zero => have : m = 0 := by omega
            subst this; rfl
  | succ n ih =>
    by_cases e : m = n + 1
    · subst e; rfl
    · rw [ih (by omega) (fun j h1 h2 => h j h1 (by omega)) (by omega)]
      have hk : n < ks.length := by omega
      have hl' : n < l.length := by omega
      rw [List.drop_eq_getElem_cons hl', List.drop_eq_getElem_cons hk, tl, if_neg]
      have := h n (by omega) (by omega)
      rwa [List.getD_eq_getElem?_getD, List.getElem?_eq_getElem hk] at this
theorem tl_here (l : List Oper) (ks : List Nat) (n : Nat) (hl : n < l.length) (hk : n < ks.length) (h : ks.getD n 2 = 2) : tl (l.drop n) (ks.drop n) = l[n] :: tl (l.drop (n + 1)) (ks.drop (n + 1)) := by
  rw [List.drop_eq_getElem_cons hl, List.drop_eq_getElem_cons hk, tl, if_pos]
  rwa [List.getD_eq_getElem?_getD, List.getElem?_eq_getElem hk] at h
theorem wp_region_genI {id : Nat} {a : Act} {w : World} (I : (Nat → Bool) → (Nat → Value) → World → Prop) (ks : List Nat)
    (hm : P.follows .mixedOrders = true) (hok : okC ops ks = true) (h0 : I (fun _ => false) (fun _ => undef) w.drew)
    (hs : Walk P ops I (fun f => ∀ d (U : Nat → Value) w', I d U w' → (∀ j, j < ops.size → d j = decide (cls ks j ≠ 2)) → wpList P ops Q (tl ops.toList ks) (f U) w') 0 ops.toList ks (fun _ => a)) : (Code.region id ops true).wp P Q a w := by
  have hok' := hok
  unfold okC at hok'
  rw [Bool.and_eq_true, Bool.and_eq_true] at hok'
  obtain ⟨⟨he, hlen0⟩, hp⟩ := hok'
  have hlen : ks.length = ops.size := by simpa using hlen0
  have hcget : ∀ j c, ks[j]? = some c → cls ks j = c := fun j c h => by unfold cls; rw [List.getD_eq_getElem?_getD, h]; rfl
  have hgetc : ∀ j c, j < ops.size → cls ks j = c → ks[j]? = some c := fun j c hj h => by
    unfold cls at h
    rw [List.getD_eq_getElem?_getD, List.getElem?_eq_getElem (by omega)] at h
    rw [List.getElem?_eq_getElem (by omega)]
    simpa using h
  have hrow : ∀ i, i < ops.size → ((ops[i]?).map fun o => !isSel o.op).getD true = true ∧ (∀ j, j < ops.size → pairC ops ks i j = true) ∧ (cls ks i = 2 → ∀ j, j < ops.size → (cls ks j = 2 ∧ i ≤ j) ∨ ((masks ops ops.size).getD i 0).testBit j = true) := by
    intro i hi
    have h1 := List.all_eq_true.1 hp i (List.mem_range.2 hi)
    rw [Bool.and_eq_true, Bool.and_eq_true, Bool.and_eq_true] at h1
    refine ⟨h1.1.1.1, fun j hj => List.all_eq_true.1 h1.1.2 j (List.mem_range.2 hj), fun hc j hj => ?_⟩
    have h2 := h1.2
    rw [if_pos hc] at h2
    have h3 := List.all_eq_true.1 h2 j (List.mem_range.2 hj)
    rw [Bool.or_eq_true, Bool.and_eq_true, decide_eq_true_eq, decide_eq_true_eq] at h3
    exact h3
  have hthree : ∀ i, i < ops.size → cls ks i ≤ 2 := by
    intro i hi
    have h1 := List.all_eq_true.1 hp i (List.mem_range.2 hi)
    rw [Bool.and_eq_true, Bool.and_eq_true, Bool.and_eq_true] at h1
    simpa using h1.1.1.2
  obtain ⟨V, _, hstD, hstN, hE⟩ := walk_vals (P := P) (ops := ops) ks a ops.toList ks 0 (fun _ => undef) (by simp [hlen]) (fun j o hj => by simpa using hj) (fun j c hj => by rw [Nat.zero_add]; exact hcget j c hj) (fun j hj => by rw [Nat.zero_add]; exact hthree j (by omega)) hs
  simp only [Nat.zero_add] at hstD hstN hE
  rw [show ops.toList.length = ops.size by simp] at hE
  have pair : ∀ (i j : Nat) (x y : Oper) (t : Nat), ops[i]? = some x → ops[j]? = some y → cls ks i ≠ 2 → cls ks j ≠ 2 → y.dst = some t → (x.dst = some t → i = j) ∧ (t ∈ x.looksAt ops → (j < i ∧ bindsOn x j = true) ∨ (i < j ∧ bindsOn y i = true)) := by
    intro i j x y t hx hy hci hcj ht
    have hi : i < ops.size := (Array.getElem?_eq_some_iff.1 hx).1
    have hj : j < ops.size := (Array.getElem?_eq_some_iff.1 hy).1
    have h2 := (hrow i hi).2.1 j hj
    unfold pairC at h2
    simp only [hx, hy, ht, if_neg hci, if_neg hcj] at h2
    rw [Bool.and_eq_true] at h2
    refine ⟨fun e => ?_, fun hm => ?_⟩
    · have := h2.1
      rw [e] at this
      simpa using this
    · have h3 := h2.2
      by_cases hc1 : cls ks j = 1 ∧ cls ks i = 0
      · rw [if_pos hc1] at h3
        simp at h3
        exact absurd hm h3
      · rw [if_neg hc1] at h3
        simp at h3
        rcases h3 with (h | h) | h
        · exact absurd hm h
        · exact .inl h
        · exact .inr h
  have nosel : ∀ (i : Nat) (x : Oper) cs b, ops[i]? = some x → x.op ≠ .select cs b := by
    intro i x cs b hx hc
    have hi : i < ops.size := (Array.getElem?_eq_some_iff.1 hx).1
    have h1 := (hrow i hi).1
    rw [hx] at h1
    simp [hc, isSel] at h1
  have deps : ∀ (d : Nat → Bool) (i : Nat) (o : Oper), may ops d i → ops[i]? = some o → ∀ e, e ∈ o.after → Region.binds .any e = true → d e.on = true := by
    intro d i o hmay ho e h1 h2
    have := hmay.2 o ho
    rw [Array.all_eq_true_iff_forall_mem] at this
    have := this e h1
    rw [h2] at this
    simpa using this
  have tailb : ∀ (d : Nat → Bool) (i : Nat), Closed ops d → cls ks i = 2 → i < ops.size → may ops d i → ∀ j, j < ops.size → (cls ks j ≠ 2 ∨ j < i) → d j = true := by
    intro d i hcl hc hi hmay j hj hor
    rcases (hrow i hi).2.2 hc j hj with ⟨h1, h2⟩ | h
    · rcases hor with h3 | h3
      · exact absurd h1 h3
      · omega
    · rw [masks_get ops ops.size i hi] at h
      exact mask_done he d hcl ops.size i hi (Nat.le_refl _) (fun o ho => deps d i o hmay ho) j h
  let J1 : (Nat → Bool) → Act → World → Prop := fun d x wx => ∃ U : Nat → Value, x = fr ops (VU ks V U) d a ops.size ∧ I d U wx ∧ Closed ops d ∧ (∀ j, cls ks j = 2 → d j = false) ∧ ∃ j, j < ops.size ∧ cls ks j ≠ 2 ∧ d j = false
  let J2 : (Nat → Bool) → Act → World → Prop := fun d x wx => ∃ m, m ≤ ops.size ∧ Closed ops d ∧ (∀ j, j < ops.size → d j = (decide (cls ks j ≠ 2) || decide (j < m))) ∧ wpList P ops Q (tl (ops.toList.drop m) (ks.drop m)) x wx
  have enter : ∀ d x wx (U : Nat → Value), x = fr ops (VU ks V U) d a ops.size → I d U wx → Closed ops d → (∀ j, cls ks j = 2 → d j = false) → (∀ j, j < ops.size → cls ks j ≠ 2 → d j = true) → J2 d x wx := by
    intro d x wx U hx hIw hcl hf htr
    have hdd : ∀ j, j < ops.size → d j = decide (cls ks j ≠ 2) := fun j hj => by
      by_cases hc : cls ks j = 2
      · rw [hf j hc, hc]; simp
      · rw [htr j hj hc]; simp [hc]
    refine ⟨0, Nat.zero_le _, hcl, fun j hj => ?_, ?_⟩
    · by_cases hc : cls ks j = 2
      · rw [hf j hc, hc]; simp
      · rw [htr j hj hc]; simp [hc]
    · have h1 := hE d U wx hIw hdd
      rw [List.drop_zero, List.drop_zero, hx, fr_congr (VU ks V U) a d (isDN ks) ops.size (fun j hj => ?_)]
      · exact h1
      · by_cases hc : cls ks j = 2
        · rw [hf j hc]; simp [isDN, hc]
        · rw [htr j hj hc]
          unfold isDN
          have h3c := hthree j hj
          by_cases h0c : cls ks j = 0
          · simp [h0c]
          · by_cases h1c : cls ks j = 1
            · simp [h1c]
            · omega
  refine wp_region_inv (fun d x wx => J1 d x wx ∨ J2 d x wx) hm he ?_ ?_ ?_
  · have hz : ∀ V', fr ops V' (fun _ => false) a ops.size = a := by
      intro V'
      have : ∀ k, fr ops V' (fun _ => false) a k = a := by
        intro k
        induction k with
        | zero => rfl
        | succ k ih => rw [fr, ih]; simp
      exact this _
    have hcl0 : Closed ops (fun _ => false) := fun _ _ _ h => by cases h
    by_cases hall : ∀ j, j < ops.size → cls ks j = 2
    · exact .inr (enter _ _ _ (fun _ => undef) (hz _).symm h0 hcl0 (fun _ _ => rfl) (fun j hj h => absurd (hall j hj) h))
    · rw [Classical.not_forall] at hall
      obtain ⟨j, hj⟩ := hall
      rw [Classical.not_imp] at hj
      exact .inl ⟨fun _ => undef, (hz _).symm, h0, hcl0, (fun _ _ => rfl), j, hj.1, hj.2, rfl⟩
  · rintro d x wx i (⟨U, rfl, hI, hcl, hfz, j0, hj0, hcj0, hdj0⟩ | ⟨m, hm', hcl, hd, hw⟩) hi hmay
    · have hci : cls ks i ≠ 2 := by
        intro h
        have := tailb d i hcl h hi hmay j0 hj0 (.inl hcj0)
        rw [hdj0] at this; cases this
      obtain ⟨o, ho⟩ : ∃ o, ops[i]? = some o := ⟨ops[i], Array.getElem?_eq_getElem hi⟩
      have hdeps := deps d i o hmay ho
      have hput : ∀ (V' : Nat → Value) v, v = V' i → (fr ops V' d a ops.size).put o.dst v = fr ops V' (don d i) a ops.size := by
        rintro V' v rfl
        rw [fr_put2 V' a d i hmay.1 ops.size (fun j hj hdj t ht => fun hjt => ?_), if_pos hi, ho]
        · rfl
        · obtain ⟨y, hy⟩ : ∃ y, ops[j]? = some y := ⟨ops[j], Array.getElem?_eq_getElem hj⟩
          rw [hy] at hjt
          rw [ho] at ht
          have hcj : cls ks j ≠ 2 := by intro h; rw [hfz j h] at hdj; cases hdj
          have := (pair i j o y t ho hy hci hcj hjt).1 ht
          subst this
          rw [hmay.1] at hdj; cases hdj
      have hclo : Closed ops (don d i) := by
        intro j o' hj hdj e e1 e2
        have : d e.on = true := by
          by_cases hji : j = i
          · subst hji
            rw [ho] at hj
            cases hj
            exact hdeps e e1 e2
          · rw [don_other _ _ _ hji] at hdj
            exact hcl j o' hj hdj e e1 e2
        unfold don; split
        · rfl
        · exact this
      have hnext : ∀ (U' : Nat → Value) x w', x = fr ops (VU ks V U') (don d i) a ops.size → I (don d i) U' w' → J1 (don d i) x w' ∨ J2 (don d i) x w' := by
        intro U' x w' hx hI'
        have hf' : ∀ j, cls ks j = 2 → don d i j = false := fun j hj => by
          have hji : j ≠ i := by intro e; subst e; exact hci hj
          rw [don_other _ _ _ hji]; exact hfz j hj
        by_cases hall : ∀ j, j < ops.size → cls ks j ≠ 2 → don d i j = true
        · exact .inr (enter _ _ _ U' hx hI' hclo hf' hall)
        · refine .inl ⟨U', hx, hI', hclo, hf', ?_⟩
          rw [Classical.not_forall] at hall
          obtain ⟨j, hj⟩ := hall
          rw [Classical.not_imp, Classical.not_imp] at hj
          exact ⟨j, hj.1, hj.2.1, by simpa using hj.2.2⟩
      have hsame : ∀ t, t ∈ o.looksAt ops → (fr ops (VU ks V U) d a ops.size).tmps[t]? = (fr ops (VU ks V U) (isDN ks) a i).tmps[t]? := by
        intro t ht
        have := fr_get2 (ops := ops) (VU ks V U) a d (isDN ks) i t ops.size (fun j hj hjt => by
          obtain ⟨y, hy⟩ : ∃ y, ops[j]? = some y := ⟨ops[j], Array.getElem?_eq_getElem hj⟩
          rw [hy] at hjt
          by_cases hc2 : cls ks j = 2
          · exact .inr ⟨hfz j hc2, .inl (by simp [isDN, hc2])⟩
          · have hdn : isDN ks j = true := by
              have := hthree j hj
              unfold isDN
              by_cases h0c : cls ks j = 0
              · simp [h0c]
              · have : cls ks j = 1 := by omega
                simp [this]
            rcases (pair i j o y t ho hy hci hc2 hjt).2 ht with ⟨h1, h2⟩ | ⟨h1, h2⟩
            · obtain ⟨e, e1, e2, e3⟩ := bindsOn_spec h2
              exact .inl ⟨h1, e3 ▸ hdeps e e1 e2, hdn⟩
            · refine .inr ⟨?_, .inr (by omega)⟩
              cases hdj : d j with
              | false => rfl
              | true =>
                obtain ⟨e, e1, e2, e3⟩ := bindsOn_spec h2
                have := hcl j y hy hdj e e1 e2
                rw [e3, hmay.1] at this; cases this)
        rw [this, show min ops.size i = i by omega]
      have hex : execOp (fr ops (VU ks V U) d a ops.size).eval o = execOp (fr ops (VU ks V U) (isDN ks) a i).eval o := by
        refine execOp_congr o (fun cs b => nosel i o cs b ho) (fun x hx => ?_)
        cases x with
        | tmp t => exact eval_get (hsame t (mem_looks hx))
        | _ => rfl
      have hwa := wanted_get hsame
      by_cases hc0 : cls ks i = 0
      · have hVi : V i = VU ks V U i := by unfold VU; rw [if_neg (by omega)]
        unfold wpOp
        rw [ho]
        simp only
        rcases hstD i o U (by simpa using ho) hc0 with ⟨h1, h2⟩ | ⟨h1, h2, h3⟩
        · rw [hwa, h1, if_pos rfl]
          refine .inl ?_
          unfold Oper.wp
          rw [hex]
          exact upv_upon (h2 _ d wx hI hmay (fun w' hI' => hnext U _ _ (hput _ _ hVi) hI'))
        · rw [hwa, h1]
          simp only [Bool.false_eq_true, if_false]
          exact hnext U _ _ (hput _ _ (h2.symm.trans hVi)) (h3 d wx hI hmay)
      · have hc1 : cls ks i = 1 := by have := hthree i hi; omega
        obtain ⟨hg, hrun⟩ := hstN i o U (by simpa using ho) hc1
        unfold wpOp
        rw [ho]
        simp only
        rw [if_pos (show Region.wanted o (yielded ops (fr ops (VU ks V U) d a ops.size).tmps) = true by simp [Region.wanted, hg])]
        refine .inl ?_
        unfold Oper.wp
        rw [hex]
        refine upv_upon (hrun _ d wx hI hmay (fun v w' hI' => ?_))
        have hU : ∀ j, j ≠ i → updU U i v j = U j := fun j hj => by unfold updU; rw [if_neg hj]
        have hUi : updU U i v i = v := by simp [updU]
        have hfr : fr ops (VU ks V U) d a ops.size = fr ops (VU ks V (updU U i v)) d a ops.size := fr_V a d _ _ _ (fun j _ hdj => by
          have hji : j ≠ i := by intro e; subst e; rw [hmay.1] at hdj; cases hdj
          unfold VU; rw [hU j hji])
        have hval : v = VU ks V (updU U i v) i := by unfold VU; rw [if_pos hc1, hUi]
        exact hnext (updU U i v) _ _ (by rw [hfr]; exact hput _ _ hval) hI'
    · have hci : cls ks i = 2 := by
        have h1 := hd i hi
        rw [hmay.1] at h1
        by_cases hc : cls ks i = 2
        · exact hc
        · simp [hc] at h1
      have him : ¬ i < m := by
        intro h
        have h1 := hd i hi
        rw [hmay.1, decide_eq_true h] at h1
        simp at h1
      have hbefore := tailb d i hcl hci hi hmay
      have hnone : ∀ j, m ≤ j → j < i → ks.getD j 2 ≠ 2 := by
        intro j h1 h2 h3
        have h4 := hbefore j (by omega) (.inr h2)
        rw [hd j (by omega)] at h4
        have : cls ks j = 2 := h3
        rw [this, decide_eq_false (show ¬ j < m by omega)] at h4
        simp at h4
      have hlo : ops.toList.length = ks.length := by simp [hlen]
      rw [tl_skip ops.toList ks m i (by omega) hnone (by omega) hlo, tl_here ops.toList ks i (by simpa using hi) (by omega) hci] at hw
      have hcloD : Closed ops (don d i) := by
        obtain ⟨o, ho⟩ : ∃ o, ops[i]? = some o := ⟨ops[i], Array.getElem?_eq_getElem hi⟩
        intro j o' hj hdj e e1 e2
        have : d e.on = true := by
          by_cases hji : j = i
          · subst hji; exact deps d j o' hmay hj e e1 e2
          · rw [don_other _ _ _ hji] at hdj
            exact hcl j o' hj hdj e e1 e2
        unfold don; split
        · rfl
        · exact this
      have key : ∀ x' w', wpList P ops Q (tl (ops.toList.drop (i + 1)) (ks.drop (i + 1))) x' w' → J1 (don d i) x' w' ∨ J2 (don d i) x' w' := fun x' w' h => .inr ⟨i + 1, by omega, hcloD, fun j hj => by
        by_cases hji : j = i
        · subst hji; rw [don_same]; simp
        · rw [don_other _ _ _ hji, hd j hj]
          by_cases hc : cls ks j = 2
          · have e : decide (j < m) = decide (j < i + 1) := by
              rw [decide_eq_decide]
              constructor
              · intro _; omega
              · intro h1
                rcases Nat.lt_or_ge j m with h2 | h2
                · exact h2
                · exact absurd hc (hnone j h2 (by omega))
            rw [e]
          · simp [hc], h⟩
      refine wpOp_mono key ?_
      unfold wpOp
      rw [Array.getElem?_eq_getElem hi]
      rw [show ops.toList[i] = ops[i] by simp] at hw
      exact hw
  · rintro d x wx (⟨_, _, _, _, _, j, hj, _, hdj⟩ | ⟨m, hm', hcl, hd, hw⟩) hall
    · have := hall j hj
      rw [hdj] at this; cases this
    · have hlo : ops.toList.length = ks.length := by simp [hlen]
      rw [tl_skip ops.toList ks m ops.size hm' (fun j h1 h2 h3 => by
        have h4 := hall j h2
        rw [hd j h2] at h4
        have : cls ks j = 2 := h3
        rw [this, decide_eq_false (show ¬ j < m by omega)] at h4
        simp at h4) (by omega) hlo, List.drop_eq_nil_of_le (by simp)] at hw
      unfold tl at hw
      exact hw
section
variable {I : (Nat → Bool) → (Nat → Value) → World → Prop} {E : ((Nat → Value) → Act) → Prop} {j : Nat} {o : Oper} {r : List Oper} {k : List Nat} {f f' : (Nat → Value) → Act} {v : Value}
theorem goD (hg : o.guard = none) (h : ∀ U (K : Value → World → Prop) d w, I d U w → may ops d j → (∀ w', I (don d j) U w' → K v w') → upv P K ((execOp (f U).eval o).run P w)) (he : ∀ U, (f U).put o.dst v = f' U)
    (hr : Walk P ops I E (j + 1) r k f') : Walk P ops I E j (o :: r) (0 :: k) f := by
  unfold Walk
  rw [if_pos rfl]
  have e : (fun U => (f U).put o.dst v) = f' := funext he
  exact ⟨v, fun U => .inl ⟨by simp [Region.wanted, hg], h U⟩, e ▸ hr⟩
theorem goDg (hg : ∀ U, Region.wanted o (yielded ops (f U).tmps) = true) (h : ∀ U (K : Value → World → Prop) d w, I d U w → may ops d j → (∀ w', I (don d j) U w' → K v w') → upv P K ((execOp (f U).eval o).run P w)) (he : ∀ U, (f U).put o.dst v = f' U)
    (hr : Walk P ops I E (j + 1) r k f') : Walk P ops I E j (o :: r) (0 :: k) f := by
  unfold Walk
  rw [if_pos rfl]
  have e : (fun U => (f U).put o.dst v) = f' := funext he
  exact ⟨v, fun U => .inl ⟨hg U, h U⟩, e ▸ hr⟩
theorem goD0 (hg : ∀ U, Region.wanted o (yielded ops (f U).tmps) = false) (h : ∀ U d w, I d U w → may ops d j → I (don d j) U w) (he : ∀ U, (f U).put o.dst undef = f' U)
    (hr : Walk P ops I E (j + 1) r k f') : Walk P ops I E j (o :: r) (0 :: k) f := by
  unfold Walk
  rw [if_pos rfl]
  have e : (fun U => (f U).put o.dst undef) = f' := funext he
  exact ⟨undef, fun U => .inr ⟨hg U, rfl, h U⟩, e ▸ hr⟩
theorem goN (hg : o.guard = none) (h : ∀ U (K : Value → World → Prop) d w, I d U w → may ops d j → (∀ v w', I (don d j) (updU U j v) w' → K v w') → upv P K ((execOp (f U).eval o).run P w)) (he : ∀ U, (f U).put o.dst (U j) = f' U)
    (hr : Walk P ops I E (j + 1) r k f') : Walk P ops I E j (o :: r) (1 :: k) f := by
  unfold Walk
  rw [if_neg (by decide), if_pos rfl]
  have e : (fun U => (f U).put o.dst (U j)) = f' := funext he
  exact ⟨hg, h, e ▸ hr⟩
theorem goT (hr : Walk P ops I E (j + 1) r k f) : Walk P ops I E j (o :: r) (2 :: k) f := by
  unfold Walk
  rw [if_neg (by decide), if_neg (by decide)]
  exact hr
theorem go_end (h : E f) : Walk P ops I E j [] [] f := by
  unfold Walk; exact h
end
end RH
end Go.Proofs.Ytpgjgehkomoobaa
/- pack.ToNum and lampbearerref.PToNum, at every text. -/
namespace Go.Proofs.Ytpgjgehkomoobaa
namespace Pk
open Go.RowKit
theorem wp_of {o : Oper} {a : Act} {K : Act → World → Prop} {Q : Exit → Act → World → Prop} {w : World} (h : RS.upv Try.prog (fun v w => K (a.put o.dst v) w) ((execOp a.eval o).run Try.prog w)) : o.wp Try.prog a w K Q := RS.upv_upon h
/-- WRead of a slice of bytes. -/
theorem wread_sl (b : List UInt8) (hl : (b.length : Int) ≤ 9223372036854775807) : ∃ n, n < 2 ^ 256 ∧ (b.length ≤ 32 → n = vb 0 b) ∧ ∀ (v : Value) (w : World), Sl b v w → Calls Try.prog 19 #[v] w fun e w' => e = .returned (Wd n) ∧ Below w.heap.size w w' := by
  by_cases h0 : 0 < b.length
  · refine ⟨rv (fun j => (Sp.bz b j).toNat) (b.length - 32) (min b.length 32), ?_, fun h => ?_, fun v w h => ?_⟩
    · have h1 := rv_lt (fun j => (Sp.bz b j).toNat) (fun j => by have := Sp.bz_lt b j; have := Sp.bz_nn b j; omega) (b.length - 32) (min b.length 32)
      have h2 : (256 : Nat) ^ (min b.length 32) ≤ 256 ^ 32 := Nat.pow_le_pow_right (by omega) (by omega)
      rw [pow_32] at h2
      exact Nat.lt_of_lt_of_le h1 h2
    · rw [show b.length - 32 = 0 by omega, show min b.length 32 = b.length by omega, vb_bz]
    · obtain ⟨ao, cap, rfl, hcap, vw⟩ := h
      obtain ⟨g, off, rfl, hg, hc⟩ := vw h0
      exact wread_any g off b.length cap (fun j => (Sp.bz b j).toNat) w hl h0 hcap hg (fun j => by have := Sp.bz_lt b j; have := Sp.bz_nn b j; omega) (fun j hj => by rw [hc j hj, Int.toNat_of_nonneg (Sp.bz_nn b j)])
  · have e : b = [] := List.length_eq_zero_iff.1 (by omega)
    subst e
    refine ⟨0, by decide, fun _ => rfl, fun v w h => ?_⟩
    obtain ⟨ao, cap, rfl, _, _⟩ := h
    exact wread_none ao cap w
def PI (w : World) (b : List UInt8) (ao : Option Addr) (cap g1 n : Nat) (X Y : ByteArray) (z : Bool) (d : Nat → Bool) (x : Act) (wx : World) : Prop :=
  ∃ (u7 u8 u9 u10 u11 u12 : Value), x = { tmps := #[.slice ao b.length cap, undef, .pointer (some ⟨w.heap.size, 0, none⟩), .int .i64 0, .pointer (some ⟨g1, 0, none⟩), .slice ao b.length cap, Wd n, u7, u8, u9, u10, u11, u12, undef, undef], defers := [] } ∧ (Hm.Hd w [Hm.W4 g1 n, Hm.W4 w.heap.size 0] wx ∧ Sl b (.slice ao b.length cap) wx) ∧ (d 0 = true → u7 = Wd n) ∧ (d 2 = true → u9 = .string X) ∧ (d 3 = true → u10 = .slice ao b.length cap) ∧ (d 4 = true → u11 = .string Y) ∧ (d 5 = true → u12 = .bool z) ∧ (d 1 = true → ∃ N : List UInt8, (⟨N.toArray⟩ : ByteArray) = X ∧ Sl N u8 wx)
theorem toList_mk (l : List UInt8) : (⟨l.toArray⟩ : ByteArray).toList = l := by
  rw [ByteArray.toList_eq]
end Pk
end Go.Proofs.Ytpgjgehkomoobaa
/- lampbearerref: one, what goes well: helpers. -/
namespace Go.Proofs.Ytpgjgehkomoobaa
namespace Kp
open Go.RowKit Go.Maps
open Mm (By lay grw gco cst od oc s6 s2 av An)
open Pk (lt_of_heap)
/-- The reference's memory as a value, its map no larger than N. -/
def KVn (b N : Nat) (m : By) (w : World) : Prop := b < w.heap.size ∧ ∃ (D : Dt), w.ownsMap Try.prog 27 (plainElem Try.prog 5) b N D ∧ Mq D m
theorem KVn.kv {b N : Nat} {m : By} {w : World} (h : KVn b N m w) (hN : N ≤ 4294967296) : KV b m w := by
  obtain ⟨h1, D, h2, h3⟩ := h
  exact ⟨h1, D, N, h2, hN, h3⟩
theorem Hd_gb {w : World} {L : List Hm.Bk} {w1 w2 : World} {r : Nat} (h : Hm.Hd w L w1) (g : w1.grownBy w2 (some r)) (hr : w.heap.size ≤ r) (hne : ∀ k, k ∈ L → k.g ≠ r) : Hm.Hd w L w2 := by
  refine ⟨h.bel.grown g h.bel.size (fun j hj => by cases hj; exact hr), fun k hk => ?_⟩
  have h0 := h.ok k hk
  have hbb := g.block k.g h0.hi (fun e => hne k hk (by simpa using e))
  exact ⟨h0.lo, Nat.lt_of_lt_of_le h0.hi g.size, fun o ho => (World.cell?_of_block (a := ⟨k.g, o, none⟩) hbb).trans (h0.c o ho), fun o => (World.frozen?_of_block (a := ⟨k.g, o, none⟩) hbb).trans (h0.f o)⟩
theorem Hd_gn {w : World} {L : List Hm.Bk} {w1 w2 : World} (h : Hm.Hd w L w1) (g : w1.grownBy w2 none) : Hm.Hd w L w2 := by
  refine ⟨h.bel.grown g h.bel.size (fun j hj => by cases hj), fun k hk => ?_⟩
  have h0 := h.ok k hk
  have hbb := g.block k.g h0.hi (by simp)
  exact ⟨h0.lo, Nat.lt_of_lt_of_le h0.hi g.size, fun o ho => (World.cell?_of_block (a := ⟨k.g, o, none⟩) hbb).trans (h0.c o ho), fun o => (World.frozen?_of_block (a := ⟨k.g, o, none⟩) hbb).trans (h0.f o)⟩
/-- A block of six cells is made within a region. -/
theorem al6 {B : Nat} {K : Value → World → Prop} {ρ : Operand → Value} {o : Oper} {w : World} (ho : o.op = .alloc 34) (hB : B ≤ w.heap.size)
    (hK : ∀ w', Below w.heap.size w w' → Hm.Ok B ⟨w.heap.size, 6, s6 0 0 0⟩ w' → K (RN.pv w.heap.size) w') : RS.upv Try.prog K ((execOp ρ o).run Try.prog w) := by
  obtain ⟨dst, op, ty, pos, after, guard⟩ := o
  simp only at ho
  subst ho
  have h1 := hK _ ((Below.refl _ _).alloc (Nat.le_refl _) (.cells #[.int .i64 0, .int .u64 0, .int .u64 0, .int .u64 0, .int .u64 0, .int .u64 0] 34)) ⟨hB, by simp, fun i hi => by
    have e := Mm.y6_of 0 i hi
    simp only [World.cell?, heap_alloc_new]
    exact e, Fz_alloc w _ _⟩
  unfold RN.pv at h1
  go_simp
  exact h1
/-- A region's new block. -/
theorem hd6 {w : World} {L : List Hm.Bk} {w1 : World} {g : Nat} (h : Hm.Hd w L w1) (hg : Hm.Ok w.heap.size ⟨g, 6, s6 0 0 0⟩ w1) : Hm.Hd w (⟨g, 6, s6 0 0 0⟩ :: L) w1 := by
  refine ⟨h.bel, fun k hk => ?_⟩
  rcases List.mem_cons.1 hk with rfl | hk
  · exact hg
  · exact h.ok k hk
theorem natU {x : Int} (h : (Lit.int .u64 x).wf = true) : ∃ n : Nat, x = (n : Int) := by
  have h2 : decide (IntKind.u64.min ≤ x) = true ∧ decide (x ≤ IntKind.u64.max) = true := by simpa [Lit.wf] using h
  have h3 : (0 : Int) ≤ x := of_decide_eq_true h2.1
  exact ⟨x.toNat, by omega⟩
theorem wf8 (d : By) (i : Nat) : (Lit.int .u8 (Sp.bz d i)).wf = true := by
  have h := (d.getD i 0).toNat_lt
  exact WalkArith.wf_u8 (by unfold Sp.bz; omega)
theorem bz31 (x : Nat) : Sp.bz (Pk.wb x) 31 = Sp.bz [UInt8.ofNat x] 0 := by
  rw [Pk.wb_bz x 31 (by decide)]
  have e : (UInt8.ofNat x).toNat = x % 256 := by simp
  show bt x 31 = (((UInt8.ofNat x).toNat : Nat) : Int)
  rw [e]
  unfold bt
  simp
/-- The map under way: i bytes are written. -/
def WD (gm N : Nat) (m : By) (a : Nat) (d : By) (i : Nat) (w : World) : Prop := ∃ D : Dt, w.ownsMap Try.prog 27 (plainElem Try.prog 5) gm (N + i) D ∧ Wq m a d i D
theorem WD.below {gm N : Nat} {m : By} {a : Nat} {d : By} {i : Nat} {w w' : World} (h : WD gm N m a d i w) (hb : Below w.heap.size w w') : WD gm N m a d i w' := by
  obtain ⟨D, h1, h2⟩ := h
  exact ⟨D, h1.kept (gb_of_below hb none) (by simp), h2⟩
theorem WD.lt {gm N : Nat} {m : By} {a : Nat} {d : By} {i : Nat} {w : World} (h : WD gm N m a d i w) : gm < w.heap.size := by
  obtain ⟨D, h1, h2⟩ := h
  exact h1.lt
theorem costE (Z M : Nat) (h : M ≤ Z) (hz : Z ≤ 4096) : IntKind.u64.wrap (cst (wrap64 (IntKind.u64.wrap ((Z : Int) / 32))) - cst (wrap64 (IntKind.u64.wrap ((M : Int) / 32)))) = cst ((Z / 32 : Nat) : Int) - cst ((M / 32 : Nat) : Int) := by
  have e1 : wrap64 (IntKind.u64.wrap ((Z : Int) / 32)) = ((Z / 32 : Nat) : Int) := by rw [IntKind.wrap_u64]; unfold wrap64; omega
  have e2 : wrap64 (IntKind.u64.wrap ((M : Int) / 32)) = ((M / 32 : Nat) : Int) := by rw [IntKind.wrap_u64]; unfold wrap64; omega
  have e3 := Mm.cst_mono (M / 32) (Z / 32) (by omega) (by omega)
  rw [e1, e2, IntKind.wrap_u64]
  omega
theorem wbytes_k (x : Nat) (W : World) : Calls Try.prog 20 #[.agg #[.int .u64 (dg x 0), .int .u64 (dg x 1), .int .u64 (dg x 2), .int .u64 (dg x 3)]] W fun e w' => ∃ g cap, e = .returned (.slice (some ⟨g, 0, none⟩) 32 cap) ∧ (W.heap.size ≤ g ∧ g < w'.heap.size ∧ 32 ≤ cap ∧ cap ≤ maxLen ∧ ∀ j, j < 32 → w'.cell? ⟨g, j, none⟩ = some (.int .u8 (Sp.bz (Pk.wb x) j))) ∧ Below W.heap.size W w' := by
  refine (wbytes_any x W).mono ?_
  rintro e w1 ⟨g, cap, rfl, own, hb⟩
  refine ⟨g, cap, rfl, ?_, hb⟩
  have hc := R32_own own
  rcases own.2 with ⟨h3, _⟩ | ⟨g', cap', cur, h3, h4, h5⟩
  · cases h3
  · cases h3
    exact ⟨by omega, lt_of_heap h5.1, h5.2.1, h5.2.2.1, fun j hj => by rw [hc j hj, Pk.wb_bz x j hj]⟩
theorem oc_f {g : Nat} {w : World} {k : Int} {a f l x : Nat} {v : Value} (h : ∀ o, o < 18 → w.cell? ⟨g, o, none⟩ = some (oc k a f l x v o)) : ∀ i, i < 4 → w.cell? ⟨g, 5 + i, none⟩ = some (.int .u64 (dg f i)) := fun i hi => by
  rw [h (5 + i) (by omega)]
  match i, hi with
  | 0, _ => rfl
  | 1, _ => rfl
  | 2, _ => rfl
  | 3, _ => rfl
  | (n + 4), h => omega
theorem oc_l {g : Nat} {w : World} {k : Int} {a f l x : Nat} {v : Value} (h : ∀ o, o < 18 → w.cell? ⟨g, o, none⟩ = some (oc k a f l x v o)) : ∀ i, i < 4 → w.cell? ⟨g, 9 + i, none⟩ = some (.int .u64 (dg l i)) := fun i hi => by
  rw [h (9 + i) (by omega)]
  match i, hi with
  | 0, _ => rfl
  | 1, _ => rfl
  | 2, _ => rfl
  | 3, _ => rfl
  | (n + 4), h => omega
theorem oc_x {g : Nat} {w : World} {k : Int} {a f l x : Nat} {v : Value} (h : ∀ o, o < 18 → w.cell? ⟨g, o, none⟩ = some (oc k a f l x v o)) : ∀ i, i < 4 → w.cell? ⟨g, 13 + i, none⟩ = some (.int .u64 (dg x i)) := fun i hi => by
  rw [h (13 + i) (by omega)]
  match i, hi with
  | 0, _ => rfl
  | 1, _ => rfl
  | 2, _ => rfl
  | 3, _ => rfl
  | (n + 4), h => omega
theorem ldA6 {K : Value → World → Prop} {a : Act} {o : Oper} {s g : Nat} (x : An) {w : World} (ho : o.op = .load 34 (.tmp s)) (ha : a.eval (.tmp s) = .pointer (some ⟨g, 0, none⟩))
    (hc : ∀ o, o < 6 → w.cell? ⟨g, o, none⟩ = some (s6 x.1 x.2.1 x.2.2 o)) (hK : K (av x) w) : RS.upv Try.prog K ((execOp a.eval o).run Try.prog w) := by
  have h := run_loadVar_mid (P := Try.prog) w g 0 34 (Mm.a6 x) _ (Mm.range_a6 (fun o ho => by rw [Nat.zero_add]; exact hc o ho)) Try.underlying34 rfl Mm.infoS6
  unfold execOp
  simp only [ho, ha, Instr.loadAt, Instr.sureAddr, Sem.run_bind, Sem.run_pure, Result.andThen_ok, h]
  exact hK
theorem infoK2 : (Try.prog.info? 43).map (·.size) = some 2 := by kernel_rfl
theorem ldK2 {K : Value → World → Prop} {a : Act} {o : Oper} {s g : Nat} (u0 u1 : Value) {w : World} (ho : o.op = .load 43 (.tmp s)) (ha : a.eval (.tmp s) = .pointer (some ⟨g, 0, none⟩))
    (c0 : w.cell? ⟨g, 0, none⟩ = some u0) (c1 : w.cell? ⟨g, 1, none⟩ = some u1) (hK : K (.agg #[u0, u1]) w) : RS.upv Try.prog K ((execOp a.eval o).run Try.prog w) := by
  have h := run_loadVar_mid (P := Try.prog) w g 0 43 [u0, u1] _ (fun j u hu => by
    have hj : j < 2 := (List.getElem?_eq_some_iff.1 hu).1
    match j, hj with
    | 0, _ => rw [← hu]; exact c0
    | 1, _ => rw [← hu]; exact c1
    | (n + 2), h => omega) Try.underlying43 rfl infoK2
  unfold execOp
  simp only [ho, ha, Instr.loadAt, Instr.sureAddr, Sem.run_bind, Sem.run_pure, Result.andThen_ok, h]
  exact hK
theorem stK2 {K : Value → World → Prop} {a : Act} {o : Oper} {s : Nat} {V : Operand} {g : Nat} {F : Nat → Value} (bb : Nat) (z : Int) {w : World} (ho : o.op = .store 43 (.tmp s) V) (ha : a.eval (.tmp s) = .pointer (some ⟨g, 0, none⟩)) (hv : a.eval V = .agg #[.map (some bb), .int .u64 z])
    (hc : ∀ j, j < 2 → w.cell? ⟨g, j, none⟩ = some (F j)) (hf : ∀ j, w.frozen? ⟨g, j, none⟩ = false)
    (hK : K undef ((w.setCell ⟨g, 0, none⟩ (.map (some bb))).setCell ⟨g, 1, none⟩ (.int .u64 z))) : RS.upv Try.prog K ((execOp a.eval o).run Try.prog w) := by
  obtain ⟨dst, op, ty, pos, after, guard⟩ := o
  simp only at ho
  subst ho
  generalize a.eval = ρ at *
  have c0 := hc 0 (by decide)
  have c1 := hc 1 (by decide)
  have f0 := hf 0
  have f1 := hf 1
  go_simp
  exact hK
/-- A word within a block is loaded, in a region that draws its order. -/
theorem ldWo {K : Value → World → Prop} {a : Act} {o : Oper} {s g b x : Nat} {w : World} (ho : o.op = .load 32 (.tmp s)) (ha : a.eval (.tmp s) = .pointer (some ⟨g, b, none⟩))
    (hc : ∀ i, i < 4 → w.cell? ⟨g, b + i, none⟩ = some (.int .u64 (dg x i))) (hK : K (Wd x) w) : RS.upv Try.prog K ((execOp a.eval o).run Try.prog w) := by
  have h := run_loadVar_mid (P := Try.prog) w g b 32 [.int .u64 (dg x 0), .int .u64 (dg x 1), .int .u64 (dg x 2), .int .u64 (dg x 3)] _ (fun j u hu => by
    have hj : j < 4 := (List.getElem?_eq_some_iff.1 hu).1
    rw [hc j hj, ← hu]
    match j, hj with
    | 0, _ => rfl
    | 1, _ => rfl
    | 2, _ => rfl
    | 3, _ => rfl
    | (n + 4), h => omega) Try.underlying32 rfl infoW
  unfold execOp
  simp only [ho, ha, Instr.loadAt, Instr.sureAddr, Sem.run_bind, Sem.run_pure, Result.andThen_ok, h]
  exact hK
theorem WD.set {gm N : Nat} {m : By} {a : Nat} {d : By} {i : Nat} {w : World} (h : WD gm N m a d i w) {p : Addr} (hp : gm ≠ p.block) (u : Value) : WD gm N m a d i (w.setCell p u) := by
  obtain ⟨D, h1, h2⟩ := h
  exact ⟨D, h1.setCell hp u, h2⟩
end Kp
end Go.Proofs.Ytpgjgehkomoobaa
/- lampbearerref: one, what goes well. -/
namespace Go.Proofs.Ytpgjgehkomoobaa
namespace Kp
open Go.RowKit Go.Maps
open Mm (By lay grw gco cst od oc s6 s2 av An)
set_option maxHeartbeats 2000000 in
set_option maxRecDepth 100000 in
theorem kone_2 (k : Int) (a f l x : Nat) (d : Value) (b M N X Z : Nat) (m : By) (w : World) (hk : Hid (k = 2)) (hM : Hid (M = m.length)) (hn : Hid (KVn b N m w)) (hN : Hid (N ≤ 4294963200)) (hm : Hid (KV b m w)) (hZ : Hid (max (X : Int) (M : Int) = (Z : Int))) (hz : Hid (Z ≤ 4096 ∧ M ≤ Z ∧ a + 32 ≤ 4096)) (HA : Hid (dg a 0 = (a : Int))) (KI : Hid (∀ W : World, Calls Try.prog 17 #[.int .u64 32] W fun e w' => e = .returned (.agg #[.int .u64 (dg 32 0), .int .u64 (dg 32 1), .int .u64 (dg 32 2), .int .u64 (dg 32 3)]) ∧ Below W.heap.size W w'))
    (KX : Hid (∀ W : World, KM w.heap.size b m W → Calls Try.prog 18 #[.pointer (some ⟨w.heap.size, 0, none⟩), .agg #[.int .u64 (dg a 0), .int .u64 (dg a 1), .int .u64 (dg a 2), .int .u64 (dg a 3)], .agg #[.int .u64 (dg 32 0), .int .u64 (dg 32 1), .int .u64 (dg 32 2), .int .u64 (dg 32 3)]] W fun e w' => e = .returned (.tuple #[.int .u64 ((X : Nat) : Int), .bool true]) ∧ Below W.heap.size W w'))
    (KY : Hid (∀ W : World, KM w.heap.size b m W → Calls Try.prog 18 #[.pointer (some ⟨w.heap.size, 0, none⟩), .agg #[.int .u64 (dg a 0), .int .u64 (dg a 1), .int .u64 (dg a 2), .int .u64 (dg a 3)], .agg #[.int .u64 (dg 0 0), .int .u64 (dg 0 1), .int .u64 (dg 0 2), .int .u64 (dg 0 3)]] W fun e w' => e = .returned (.tuple #[.int .u64 ((M : Nat) : Int), .bool true]) ∧ Below W.heap.size W w')) :
    Calls Try.prog 10 #[.agg #[.map (some b), .int .u64 (M : Int)], od k a f l x d] w fun e w' => ∃ b2, e = .returned (.tuple #[.agg #[.map (some b2), .int .u64 (Z : Int)], av (0, 0, cst ((Z / 32 : Nat) : Int) - cst ((M / 32 : Nat) : Int))]) ∧ (b2 < w'.heap.size ∧ ∃ D : Dt, w'.ownsMap Try.prog 27 (plainElem Try.prog 5) b2 (N + 32) D ∧ Wq m a (Pk.wb x) (32) D) ∧ Below w.heap.size w w' := by
  conv => arg 3; unfold od
  go_enter Try.func10, Try.ntmps10
  go_upto_region 1 with fail
  have m0 : Hm.Hd w [⟨w.heap.size + 1 + 1 + 1, 6, s6 0 0 0⟩, ⟨w.heap.size + 1 + 1, 2, kz⟩, ⟨w.heap.size + 1, 18, oc k a f l x d⟩, ⟨w.heap.size, 2, kv b M⟩] ((((w.alloc (.cells #[.map (some b), .int .u64 (M : Int)] 43)).alloc (.cells #[.int .i64 k, .int .u64 (dg a 0), .int .u64 (dg a 1), .int .u64 (dg a 2), .int .u64 (dg a 3), .int .u64 (dg f 0), .int .u64 (dg f 1), .int .u64 (dg f 2), .int .u64 (dg f 3), .int .u64 (dg l 0), .int .u64 (dg l 1), .int .u64 (dg l 2), .int .u64 (dg l 3), .int .u64 (dg x 0), .int .u64 (dg x 1), .int .u64 (dg x 2), .int .u64 (dg x 3), d] 39)).alloc (.cells #[.map none, .int .u64 0] 43)).alloc (.cells #[.int .i64 0, .int .u64 0, .int .u64 0, .int .u64 0, .int .u64 0, .int .u64 0] 34)) := by
    have k1 := newB (n := 2) (F := kv b M) (xs := #[.map (some b), .int .u64 (M : Int)]) (T := 43) (Hm.start w) rfl (kv_of b M)
    have k2 := Mm.newO k a f l x d (T := 39) (g := w.heap.size + 1) k1 (by simp)
    have k3 := newB (g := w.heap.size + 1 + 1) (n := 2) (F := kz) (xs := #[.map none, .int .u64 0]) (T := 43) k2 (by simp) kz_of
    exact newB (g := w.heap.size + 1 + 1 + 1) (n := 6) k3 (by simp) (Mm.y6_of 0)
  generalize ((((w.alloc (.cells #[.map (some b), .int .u64 (M : Int)] 43)).alloc (.cells #[.int .i64 k, .int .u64 (dg a 0), .int .u64 (dg a 1), .int .u64 (dg a 2), .int .u64 (dg a 3), .int .u64 (dg f 0), .int .u64 (dg f 1), .int .u64 (dg f 2), .int .u64 (dg f 3), .int .u64 (dg l 0), .int .u64 (dg l 1), .int .u64 (dg l 2), .int .u64 (dg l 3), .int .u64 (dg x 0), .int .u64 (dg x 1), .int .u64 (dg x 2), .int .u64 (dg x 3), d] 39)).alloc (.cells #[.map none, .int .u64 0] 43)).alloc (.cells #[.int .i64 0, .int .u64 0, .int .u64 0, .int .u64 0, .int .u64 0, .int .u64 0] 34)) = W1 at m0 ⊢
  generalize (Value.agg #[.int .i64 k, .int .u64 (dg a 0), .int .u64 (dg a 1), .int .u64 (dg a 2), .int .u64 (dg a 3), .int .u64 (dg f 0), .int .u64 (dg f 1), .int .u64 (dg f 2), .int .u64 (dg f 3), .int .u64 (dg l 0), .int .u64 (dg l 1), .int .u64 (dg l 2), .int .u64 (dg l 3), .int .u64 (dg x 0), .int .u64 (dg x 1), .int .u64 (dg x 2), .int .u64 (dg x 3), d] : Value) = V0
  have M0 : Hid _ := m0
  clear m0
  go_wp2_with fail
  refine (KI.out W1).mono ?_
  rintro e w2 ⟨rfl, b2⟩
  have m2 := Hm.below M0.out b2
  clear M0 b2
  go_upto_region 2 with fail
  obtain ⟨h, eh⟩ : ∃ h, h = w2.heap.size := ⟨_, rfl⟩
  have hh : w.heap.size + 1 + 1 + 1 < h := by rw [eh]; exact (m2.ok _ (List.mem_cons_self ..)).hi
  have m3 : Hm.Hd w [Hm.W4 h 32, ⟨w.heap.size + 1 + 1 + 1, 6, s6 0 0 0⟩, ⟨w.heap.size + 1 + 1, 2, kz⟩, ⟨w.heap.size + 1, 18, oc k a f l x d⟩, ⟨w.heap.size, 2, kv b M⟩] (w2.alloc (.cells #[.int .u64 (dg 32 0), .int .u64 (dg 32 1), .int .u64 (dg 32 2), .int .u64 (dg 32 3)] 32)) := Hm.new4 (n := 32) (T := 32) m2 eh
  rw [← eh]
  clear eh m2
  generalize w2.alloc (.cells #[.int .u64 (dg 32 0), .int .u64 (dg 32 1), .int .u64 (dg 32 2), .int .u64 (dg 32 3)] 32) = w3 at m3 ⊢
  have M3 : Hid _ := m3
  have r1 := oc_at ((m3.ok ⟨w.heap.size + 1, 18, oc k a f l x d⟩ (by simp)).c)
  clear m3
  go_upto_region 3 with (refine ldW (.tmp 21) (w.heap.size + 1) 1 a rfl rfl rfl r1 ?_)
  obtain ⟨h2, eh⟩ : ∃ h2, h2 = w3.heap.size := ⟨_, rfl⟩
  have hh2 : h < h2 := by rw [eh]; exact (M3.out.ok _ (List.mem_cons_self ..)).hi
  have m5 : Hm.Hd w [Hm.W4 (h2 + 1) 0, Hm.W4 h2 a, Hm.W4 h 32, ⟨w.heap.size + 1 + 1 + 1, 6, s6 0 0 0⟩, ⟨w.heap.size + 1 + 1, 2, kz⟩, ⟨w.heap.size + 1, 18, oc k a f l x d⟩, ⟨w.heap.size, 2, kv b M⟩] ((w3.alloc (.cells #[.int .u64 (dg a 0), .int .u64 (dg a 1), .int .u64 (dg a 2), .int .u64 (dg a 3)] 32)).alloc (.cells #[.int .u64 0, .int .u64 0, .int .u64 0, .int .u64 0] 32)) := by
    have k1 := Hm.new4 (n := a) (T := 32) M3.out eh
    exact Hm.new4 (n := 0) (g := h2 + 1) (T := 32) k1 (by simp [eh])
  rw [← eh]
  clear eh M3 r1
  generalize (w3.alloc (.cells #[.int .u64 (dg a 0), .int .u64 (dg a 1), .int .u64 (dg a 2), .int .u64 (dg a 3)] 32)).alloc (.cells #[.int .u64 0, .int .u64 0, .int .u64 0, .int .u64 0] 32) = w5 at m5 ⊢
  have M5 : Hid _ := m5
  have q0 : w5.cell? ⟨w.heap.size + 1, 0, none⟩ = some (.int .i64 k) := (m5.ok ⟨w.heap.size + 1, 18, oc k a f l x d⟩ (by simp)).c 0 (show 0 < 18 by decide)
  have p0 : w5.cell? ⟨w.heap.size, 0, none⟩ = some (.map (some b)) := (m5.ok ⟨w.heap.size, 2, kv b M⟩ (by simp)).c 0 (show 0 < 2 by decide)
  have p1 : w5.cell? ⟨w.heap.size, 1, none⟩ = some (.int .u64 (M : Int)) := (m5.ok ⟨w.heap.size, 2, kv b M⟩ (by simp)).c 1 (show 1 < 2 by decide)
  have z0 := (m5.ok ⟨w.heap.size + 1 + 1, 2, kz⟩ (by simp))
  have z1 := (m5.ok ⟨w.heap.size + 1 + 1 + 1, 6, s6 0 0 0⟩ (by simp))
  have y0 := z0.c
  have y1 := z1.c
  have x0 := z0.f
  have x1 := z1.f
  clear m5 z0 z1
  have e1 : (k == 1) = false := by rw [hk.out]; rfl
  have e2 : (k == 2) = true := by rw [hk.out]; rfl
  have e3 : (k == 3) = false := by rw [hk.out]; rfl
  have e4 : (k == 4) = false := by rw [hk.out]; rfl
  have e5 : (k == 5) = false := by rw [hk.out]; rfl
  have rA := oc_at ((M5.out.ok ⟨w.heap.size + 1, 18, oc k a f l x d⟩ (by simp)).c)
  have rN := w4_at (M5.out.ok (Hm.W4 h 32) (by simp)).c
  go_wp2_with (first | refine ldW (.tmp 51) (w.heap.size + 1) 1 a rfl rfl rfl rA ?_ | refine ldW (.tmp 50) (w.heap.size + 1) 1 a rfl rfl rfl rA ?_ | refine ldW (.tmp 6) h 0 32 rfl rfl rfl rN ?_)
  refine (KX.out _ (km_of M5.out (by simp) hm.out hM.out)).mono ?_
  rintro e w6 ⟨rfl, b6⟩
  have m6 := Hm.below M5.out b6
  have M6 : Hid _ := m6
  clear m6 b6 rA rN M5 KX q0 p0 p1 y0 y1 x0 x1
  have rF := w4_at (M6.out.ok (Hm.W4 h2 a) (by simp)).c
  have rK := w4_at (M6.out.ok (Hm.W4 (h2 + 1) 0) (by simp)).c
  go_wp2_with (first | refine ldW (.tmp 7) h2 0 a rfl rfl rfl rF ?_ | refine ldW (.tmp 8) (h2 + 1) 0 0 rfl rfl rfl rK ?_)
  refine (KY.out _ (km_of M6.out (by simp) hm.out hM.out)).mono ?_
  rintro e w7 ⟨rfl, b7⟩
  have m7 := Hm.below M6.out b7
  have M7 : Hid _ := m7
  clear b7 rF rK M6 KY
  have q0 : w7.cell? ⟨w.heap.size + 1, 0, none⟩ = some (.int .i64 k) := (m7.ok ⟨w.heap.size + 1, 18, oc k a f l x d⟩ (by simp)).c 0 (show 0 < 18 by decide)
  have p0 : w7.cell? ⟨w.heap.size, 0, none⟩ = some (.map (some b)) := (m7.ok ⟨w.heap.size, 2, kv b M⟩ (by simp)).c 0 (show 0 < 2 by decide)
  have p1 : w7.cell? ⟨w.heap.size, 1, none⟩ = some (.int .u64 (M : Int)) := (m7.ok ⟨w.heap.size, 2, kv b M⟩ (by simp)).c 1 (show 1 < 2 by decide)
  have z0 := (m7.ok ⟨w.heap.size + 1 + 1, 2, kz⟩ (by simp))
  have z1 := (m7.ok ⟨w.heap.size + 1 + 1 + 1, 6, s6 0 0 0⟩ (by simp))
  have y0 := z0.c
  have y1 := z1.c
  have x0 := z0.f
  have x1 := z1.f
  clear m7 z0 z1
  have e0 := hZ.out
  have hmm := @run_makeMap Try.prog
  go_upto_region 18 with fail
  clear hmm e0 y0 y1 x0 x1 p0 p1 q0
  obtain ⟨gm, em⟩ : ∃ gm, gm = w7.heap.size := ⟨_, rfl⟩
  rw [← em]
  have m8 : Hm.Hd w [⟨gm + 1, 2, kv gm Z⟩, Hm.W4 (h2 + 1) 0, Hm.W4 h2 a, Hm.W4 h 32, ⟨w.heap.size + 1 + 1 + 1, 6, s6 0 0 0⟩, ⟨w.heap.size + 1 + 1, 2, kz⟩, ⟨w.heap.size + 1, 18, oc k a f l x d⟩, ⟨w.heap.size, 2, kv b M⟩] ((w7.alloc (.map #[] 0)).alloc (.cells #[.map (some gm), .int .u64 (Z : Int)] 43)) := newB (g := gm + 1) (n := 2) (F := kv gm Z) (T := 43) (Hm.al M7.out _) (by simp [em]) (kv_of gm Z)
  have o8 : ((w7.alloc (.map #[] 0)).alloc (.cells #[.map (some gm), .int .u64 (Z : Int)] 43)).ownsMap (H := Unit) Try.prog 27 (plainElem Try.prog 5) gm 0 (.map []) := by rw [em]; exact (World.ownsMap_made _ _ _ _).alloc _
  have LT : Hid (∀ q, q ∈ [Hm.W4 (h2 + 1) 0, Hm.W4 h2 a, Hm.W4 h 32, ⟨w.heap.size + 1 + 1 + 1, 6, s6 0 0 0⟩, ⟨w.heap.size + 1 + 1, 2, kz⟩, ⟨w.heap.size + 1, 18, oc k a f l x d⟩, ⟨w.heap.size, 2, kv b M⟩] → q.g < gm) := fun q hq => by rw [em]; exact (M7.out.ok q hq).hi
  have Gm : Hid (w.heap.size + 1 + 1 + 1 < gm) := LT.out ⟨w.heap.size + 1 + 1 + 1, 6, s6 0 0 0⟩ (by simp)
  clear M7 em
  generalize ((w7.alloc (.map #[] 0)).alloc (.cells #[.map (some gm), .int .u64 (Z : Int)] 43)) = w8 at m8 o8 ⊢
  obtain ⟨hb, D, hD, hMq⟩ := hn.out
  have d8 := hD.kept (gb_of_below m8.bel none) (by simp)
  have p0 : w8.cell? ⟨w.heap.size, 0, none⟩ = some (.map (some b)) := (m8.ok ⟨w.heap.size, 2, kv b M⟩ (by simp)).c 0 (show 0 < 2 by decide)
  have MQ : Hid (Mq D m ∧ b < w.heap.size) := ⟨hMq, hb⟩
  have M8 : Hid _ := m8
  have hs8 : gm + 1 < w8.heap.size := (m8.ok _ (List.mem_cons_self ..)).hi
  clear m8 hMq hb hD
  go_wp2_with (first | (at_range; refine wpList_range_own _ rfl _ 41 rfl 27 5 lawU Try.underlying41 _ b N D rfl d8 ?_; intro w0 hrg0 hg0 hs0) | go_in)
  go_frame
  have hcs := d8.size_le
  have o9 := (o8.kept hg0 (by simp)).mono (Nat.zero_le (N - Maps.size D))
  have m9 := Hd_gn M8.out hg0
  clear d8 o8 M8 hg0 hs0 p0
  obtain ⟨r, er⟩ : ∃ r, r = w8.heap.size := ⟨_, rfl⟩
  rw [← er] at hrg0 hs8 ⊢
  clear er
  have HR : Hid (gm + 1 < r) := hs8
  clear hs8
  go_loopw [14] (fun _ wr => ∃ (left : Lit → Bool) (cnt : Nat) (E : Dt), wr.ranges Try.prog 27 (plainElem Try.prog 5) b r N D left cnt ∧ cnt ≤ N ∧ wr.ownsMap Try.prog 27 (plainElem Try.prog 5) gm (N - cnt) E ∧ Cq D left E ∧ Hm.Hd w [⟨gm + 1, 2, kv gm Z⟩, Hm.W4 (h2 + 1) 0, Hm.W4 h2 a, Hm.W4 h 32, ⟨w.heap.size + 1 + 1 + 1, 6, s6 0 0 0⟩, ⟨w.heap.size + 1 + 1, 2, kz⟩, ⟨w.heap.size + 1, 18, oc k a f l x d⟩, ⟨w.heap.size, 2, kv b M⟩] wr) (fun _ wr => wr.rangeLeft b r)
  case atStart => exact ⟨_, _, _, hrg0, hcs, o9, Cq_start D, m9⟩
  case round =>
    clear hrg0 hcs o9 m9
    obtain ⟨left, cnt, E, hrg, hcs, hout, hA, hd⟩ := hrel
    go_wp2_with (first | (at_next; refine wpList_next_ranges_ii _ rfl _ rfl 27 5 .u64 .u8 lawU Try.underlying27 Try.underlying5 b r N _ _ _ rfl hrg ?_ ?_) | go_in)
    · intro hc0 hl0
      have MO : Hid (Mq E m) := Cq_end hA hl0 MQ.out.1
      subst hc0
      have HO : Hid (wr.ownsMap Try.prog 27 (plainElem Try.prog 5) gm N E) := by show World.ownsMap _ _ _ _ _ _ _; simpa using hout
      have M9 : Hid _ := hd
      clear hrg hcs hout hA hl0 hd
      go_upto_region 22 with fail
      refine RN.wp_region_new1 (fun wx => Hm.Hd w [⟨gm + 1, 2, kv gm Z⟩, Hm.W4 (h2 + 1) 0, Hm.W4 h2 a, Hm.W4 h 32, ⟨w.heap.size + 1 + 1 + 1, 6, s6 0 0 0⟩, ⟨w.heap.size + 1 + 1, 2, kz⟩, ⟨w.heap.size + 1, 18, oc k a f l x d⟩, ⟨w.heap.size, 2, kv b M⟩] wx ∧ Below wr.heap.size wr wx) (fun g wx => Hm.Ok wr.heap.size ⟨g, 6, s6 0 0 0⟩ wx) 12 16 (fun _ _ h hb => ⟨Hm.below h.1 hb, h.2.trans (hb.mono h.2.size)⟩) (fun _ _ _ h hb => Hm.Ok_below h hb) (fun _ _ h => h.hi) (by kernel_rfl) (by kernel_rfl) (by decide) (by kernel_rfl) ⟨Hm.drew M9.out, (Below.refl _ _).drew⟩ rfl (fun o ho => ?_) ?_
      · obtain rfl := Option.some.inj ho
        exact ⟨rfl, fun ρ K wx hS hK => al6 rfl hS.2.size hK⟩
      simp only [List.take_succ_cons, List.take_zero, List.drop_succ_cons, List.drop_zero]
      refine RN.go1 (v := ?_) (a' := ?_) rfl ?_ ?_ ?_
      rotate_left 2
      · intro K wx hS hK
        go_simp
        exact hK _ (Below.refl _ _)
      · simp only [Act.put, List.setIfInBounds_toArray, List.set_cons_succ, List.set_cons_zero]
        rfl
      refine RN.go1 (v := ?_) (a' := ?_) rfl ?_ ?_ ?_
      rotate_left 2
      · intro K wx hS hK
        have c1 : wx.cell? ⟨gm + 1, 1, none⟩ = some (.int .u64 (Z : Int)) := (hS.1.ok ⟨gm + 1, 2, kv gm Z⟩ (by simp)).c 1 (show 1 < 2 by decide)
        go_simp
        exact hK _ (Below.refl _ _)
      · simp only [Act.put, List.setIfInBounds_toArray, List.set_cons_succ, List.set_cons_zero]
        rfl
      refine RN.go1 (v := ?_) (a' := ?_) rfl ?_ ?_ ?_
      rotate_left 2
      · intro K wx hS hK
        go_simp
        exact hK _ (Below.refl _ _)
      · simp only [Act.put, List.setIfInBounds_toArray, List.set_cons_succ, List.set_cons_zero]
        rfl
      refine RN.go1 (v := ?_) (a' := ?_) rfl ?_ ?_ ?_
      rotate_left 2
      · intro K wx hS hK
        go_simp
        exact hK _ (Below.refl _ _)
      · simp only [Act.put, List.setIfInBounds_toArray, List.set_cons_succ, List.set_cons_zero]
        rfl
      refine RN.go1 (v := ?_) (a' := ?_) rfl ?_ ?_ ?_
      rotate_left 2
      · intro K wx hS hK
        go_simp
        refine (kcost_any _ wx).mono (fun e w2 he => ?_)
        refine ⟨_, he.1, ?_⟩
        exact hK _ he.2
      · simp only [Act.put, List.setIfInBounds_toArray, List.set_cons_succ, List.set_cons_zero]
        rfl
      refine RN.go1 (v := ?_) (a' := ?_) rfl ?_ ?_ ?_
      rotate_left 2
      · intro K wx hS hK
        go_simp
        exact hK _ (Below.refl _ _)
      · simp only [Act.put, List.setIfInBounds_toArray, List.set_cons_succ, List.set_cons_zero]
        rfl
      refine RN.go1 (v := ?_) (a' := ?_) rfl ?_ ?_ ?_
      rotate_left 2
      · intro K wx hS hK
        have c1 : wx.cell? ⟨w.heap.size, 1, none⟩ = some (.int .u64 (M : Int)) := (hS.1.ok ⟨w.heap.size, 2, kv b M⟩ (by simp)).c 1 (show 1 < 2 by decide)
        go_simp
        exact hK _ (Below.refl _ _)
      · simp only [Act.put, List.setIfInBounds_toArray, List.set_cons_succ, List.set_cons_zero]
        rfl
      refine RN.go1 (v := ?_) (a' := ?_) rfl ?_ ?_ ?_
      rotate_left 2
      · intro K wx hS hK
        go_simp
        exact hK _ (Below.refl _ _)
      · simp only [Act.put, List.setIfInBounds_toArray, List.set_cons_succ, List.set_cons_zero]
        rfl
      refine RN.go1 (v := ?_) (a' := ?_) rfl ?_ ?_ ?_
      rotate_left 2
      · intro K wx hS hK
        go_simp
        exact hK _ (Below.refl _ _)
      · simp only [Act.put, List.setIfInBounds_toArray, List.set_cons_succ, List.set_cons_zero]
        rfl
      refine RN.go1 (v := ?_) (a' := ?_) rfl ?_ ?_ ?_
      rotate_left 2
      · intro K wx hS hK
        go_simp
        refine (kcost_any _ wx).mono (fun e w2 he => ?_)
        refine ⟨_, he.1, ?_⟩
        exact hK _ he.2
      · simp only [Act.put, List.setIfInBounds_toArray, List.set_cons_succ, List.set_cons_zero]
        rfl
      refine RN.go1 (v := ?_) (a' := ?_) rfl ?_ ?_ ?_
      rotate_left 2
      · intro K wx hS hK
        go_simp
        exact hK _ (Below.refl _ _)
      · simp only [Act.put, List.setIfInBounds_toArray, List.set_cons_succ, List.set_cons_zero]
        rfl
      refine RN.go1 (v := ?_) (a' := ?_) rfl ?_ ?_ ?_
      rotate_left 2
      · intro K wx hS hK
        go_simp
        exact hK _ (Below.refl _ _)
      · simp only [Act.put, List.setIfInBounds_toArray, List.set_cons_succ, List.set_cons_zero]
        rfl
      refine RN.go_end ?_
      intro g3 w10 h10 f10
      have z10 : Hm.Hd w (⟨g3, 6, s6 0 0 0⟩ :: [⟨gm + 1, 2, kv gm Z⟩, Hm.W4 (h2 + 1) 0, Hm.W4 h2 a, Hm.W4 h 32, ⟨w.heap.size + 1 + 1 + 1, 6, s6 0 0 0⟩, ⟨w.heap.size + 1 + 1, 2, kz⟩, ⟨w.heap.size + 1, 18, oc k a f l x d⟩, ⟨w.heap.size, 2, kv b M⟩]) w10 := hd6 h10.1 ⟨Nat.le_trans M9.out.bel.size f10.lo, f10.hi, f10.c, f10.f⟩
      have N3 : Hid (∀ q, q ∈ [⟨gm + 1, 2, kv gm Z⟩, Hm.W4 (h2 + 1) 0, Hm.W4 h2 a, Hm.W4 h 32, ⟨w.heap.size + 1 + 1 + 1, 6, s6 0 0 0⟩, ⟨w.heap.size + 1 + 1, 2, kz⟩, ⟨w.heap.size + 1, 18, oc k a f l x d⟩, ⟨w.heap.size, 2, kv b M⟩] → g3 ≠ q.g) := fun q hq => by
        have h1 := (M9.out.ok q hq).hi
        have h2 := f10.lo
        exact Nat.ne_of_gt (Nat.lt_of_lt_of_le h1 h2)
      have HO : Hid (w10.ownsMap Try.prog 27 (plainElem Try.prog 5) gm N E) := by show World.ownsMap _ _ _ _ _ _ _; exact HO.out.kept (gb_of_below h10.2 none) (by simp)
      have G3 : Hid (gm + 1 < g3 ∧ b < gm + 1) := by
        show _ ∧ _
        have h1 : gm + 1 < wr.heap.size := (M9.out.ok ⟨gm + 1, 2, kv gm Z⟩ (by simp)).hi
        have h2 : wr.heap.size ≤ g3 := f10.lo
        have h3 := Gm.out
        have h4 := MQ.out.2
        omega
      have c3 := f10.c
      have x3 := f10.f
      clear h10 f10 M9
      have M10 : Hid _ := z10
      clear z10
      simp only [Act.put, List.setIfInBounds_toArray, List.set_cons_succ, List.set_cons_zero]
      go_upto_region 23 with fail
      rw [costE Z M hz.out.2.1 hz.out.1]
      obtain ⟨C, eC⟩ : ∃ C, Hid (C = cst ((Z / 32 : Nat) : Int) - cst ((M / 32 : Nat) : Int)) := ⟨_, rfl⟩
      rw [← eC.out]
      have n1 := Hm.set (i := 0) (v := .int .i64 0) M10.out (by decide) N3.out
      have n2 := Hm.set (i := 1) (v := .int .u64 0) n1 (by decide) N3.out
      have n3 := Hm.set (i := 2) (v := .int .u64 0) n2 (by decide) N3.out
      have n4 := Hm.set (i := 3) (v := .int .u64 0) n3 (by decide) N3.out
      have n5 := Hm.set (i := 4) (v := .int .u64 0) n4 (by decide) N3.out
      have n6 := Hm.set (i := 5) (v := .int .u64 C) n5 (by decide) N3.out
      have n7 : Hm.Hd w (⟨g3, 6, s6 0 0 C⟩ :: [⟨gm + 1, 2, kv gm Z⟩, Hm.W4 (h2 + 1) 0, Hm.W4 h2 a, Hm.W4 h 32, ⟨w.heap.size + 1 + 1 + 1, 6, s6 0 0 0⟩, ⟨w.heap.size + 1 + 1, 2, kz⟩, ⟨w.heap.size + 1, 18, oc k a f l x d⟩, ⟨w.heap.size, 2, kv b M⟩]) ((((((w10.setCell ⟨g3, 0, none⟩ (.int .i64 0)).setCell ⟨g3, 1, none⟩ (.int .u64 0)).setCell ⟨g3, 2, none⟩ (.int .u64 0)).setCell ⟨g3, 3, none⟩ (.int .u64 0)).setCell ⟨g3, 4, none⟩ (.int .u64 0)).setCell ⟨g3, 5, none⟩ (.int .u64 C)) := Hm.ext n6 (fun o ho => by
        match o, ho with
        | 0, _ => rfl
        | 1, _ => rfl
        | 2, _ => rfl
        | 3, _ => rfl
        | 4, _ => rfl
        | 5, _ => rfl
        | (n + 6), h => exact absurd h (by show ¬ n + 6 < 6; omega))
      have hne : gm ≠ g3 := by have := G3.out; omega
      have HW : Hid (WD gm N m a (Pk.wb x) 0 ((((((w10.setCell ⟨g3, 0, none⟩ (.int .i64 0)).setCell ⟨g3, 1, none⟩ (.int .u64 0)).setCell ⟨g3, 2, none⟩ (.int .u64 0)).setCell ⟨g3, 3, none⟩ (.int .u64 0)).setCell ⟨g3, 4, none⟩ (.int .u64 0)).setCell ⟨g3, 5, none⟩ (.int .u64 C))) := ⟨E, ((((((HO.out.setCell (a := ⟨g3, 0, none⟩) hne _).setCell (a := ⟨g3, 1, none⟩) hne _).setCell (a := ⟨g3, 2, none⟩) hne _).setCell (a := ⟨g3, 3, none⟩) hne _).setCell (a := ⟨g3, 4, none⟩) hne _).setCell (a := ⟨g3, 5, none⟩) hne _), Wq_0 a _ MO.out⟩
      have M11 : Hid _ := n7
      clear n1 n2 n3 n4 n5 n6 n7 HO M10 c3 x3 hne
      generalize ((((((w10.setCell ⟨g3, 0, none⟩ (.int .i64 0)).setCell ⟨g3, 1, none⟩ (.int .u64 0)).setCell ⟨g3, 2, none⟩ (.int .u64 0)).setCell ⟨g3, 3, none⟩ (.int .u64 0)).setCell ⟨g3, 4, none⟩ (.int .u64 0)).setCell ⟨g3, 5, none⟩ (.int .u64 C)) = w11 at M11 HW ⊢
      have rX := oc_x ((M11.out.ok ⟨w.heap.size + 1, 18, oc k a f l x d⟩ (by simp)).c)
      have q0 : w11.cell? ⟨w.heap.size + 1, 0, none⟩ = some (.int .i64 k) := (M11.out.ok ⟨w.heap.size + 1, 18, oc k a f l x d⟩ (by simp)).c 0 (show 0 < 18 by decide)
      go_wp2_with (refine ldW (.tmp 111) (w.heap.size + 1) 13 x rfl rfl rfl rX ?_)
      refine (wbytes_k x w11).mono ?_
      rintro e w12 ⟨gd, cap, rfl, hd, b12⟩
      clear q0 rX
      have M12 : Hid _ := Hm.below M11.out b12
      have HW2 : Hid _ := HW.out.below b12
      have HD : Hid _ := hd
      have GD : Hid (gd ≠ gm) := Nat.ne_of_gt (Nat.lt_of_lt_of_le (HW.out.lt) hd.1)
      have hc1 := hd.2.2.1
      have hc2 := hd.2.2.2.1
      unfold maxLen at hc2
      clear hd b12 M11 HW
      go_upto_region 37 with fail
      clear hc1 hc2
      go_loopw [137] (fun p wr => ∃ i : Nat, i ≤ 32 ∧ p = .int .i64 (i : Int) ∧ WD gm N m a (Pk.wb x) i wr ∧ Hm.Hd w [⟨g3, 6, s6 0 0 C⟩, ⟨gm + 1, 2, kv gm Z⟩, Hm.W4 (h2 + 1) 0, Hm.W4 h2 a, Hm.W4 h 32, ⟨w.heap.size + 1 + 1 + 1, 6, s6 0 0 0⟩, ⟨w.heap.size + 1 + 1, 2, kz⟩, ⟨w.heap.size + 1, 18, oc k a f l x d⟩, ⟨w.heap.size, 2, kv b M⟩] wr ∧ gd < wr.heap.size ∧ ∀ j, j < 32 → wr.cell? ⟨gd, j, none⟩ = some (.int .u8 (Sp.bz (Pk.wb x) j))) (fun p _ => (((32 : Nat) : Int) - intOf p).toNat)
      case atStart => exact ⟨0, Nat.zero_le _, rfl, HW2.out, M12.out, HD.out.2.1, HD.out.2.2.2.2⟩
      case round =>
        obtain ⟨i, hi, rfl, hw, hd, hgd, hc⟩ := hrel
        by_cases hlt : i < 32
        · have d1 : (i : Int) < ((32 : Nat) : Int) := by omega
          have c0 := hc i hlt
          have k0 : wr.cell? ⟨gm + 1, 0, none⟩ = some (.map (some gm)) := (hd.ok ⟨gm + 1, 2, kv gm Z⟩ (by simp)).c 0 (show 0 < 2 by decide)
          have k1 : wr.cell? ⟨w.heap.size + 1, 1, none⟩ = some (.int .u64 (a : Int)) := by rw [← HA.out]; exact (hd.ok ⟨w.heap.size + 1, 18, oc k a f l x d⟩ (by simp)).c 1 (show 1 < 18 by decide)
          have hz1 : 32 ≤ 4096 ∧ a ≤ 4096 := by have := hz.out; omega
          have u1 : IntKind.u64.wrap (i : Int) = (i : Int) := by rw [IntKind.wrap_u64]; omega
          have u2 : IntKind.u64.wrap ((a : Int) + (i : Int)) = ((a + i : Nat) : Int) := by rw [IntKind.wrap_u64]; omega
          have hst := Mm.stw i 32 hlt (by omega)
          have hkey := keyU (k := a + i) (by omega)
          have hnm : N + i < maxLen := by have := hN.out; unfold maxLen; omega
          have HZ1 : Hid _ := hz1
          have HC : Hid _ := hc
          have HG : Hid _ := hgd
          have HH : Hid _ := hd
          obtain ⟨D1, o1, q1⟩ := hw
          have HQ : Hid _ := q1
          have HI : Hid _ := o1.isMap
          clear hz1 hc hgd hd hi q1
          go_wp2_with (first | (at_mapUpdate; refine wpList_mapUpdate_own _ rfl _ _ _ 41 rfl 27 5 lawU Try.underlying41 _ gm _ _ rfl o1 hnm _ _ _ rfl rfl hkey _ [] (plainElem_int Try.underlying5 (wf8 (Pk.wb x) i)) ?_; intro w2 o2 g2; go_frame) | go_in)
          go_roundw
          case rel =>
            refine ⟨i + 1, hlt, Mm.stv i _ (by first | rfl | exact hst.out), ⟨_, o2, Wq_step HQ.out HI.out⟩, Hd_gb HH.out g2 (by have := Gm.out; omega) (fun z hz => ?_), Nat.lt_of_lt_of_le HG.out g2.size, fun j hj => (World.cell?_of_block (a := ⟨gd, j, none⟩) (g2.block gd HG.out (fun e => GD.out (Option.some.inj e)))).trans (HC.out j hj)⟩
            have hg := G3.out
            rcases List.mem_cons.1 hz with rfl | hz
            · show g3 ≠ gm; omega
            rcases List.mem_cons.1 hz with rfl | hz
            · show gm + 1 ≠ gm; omega
            · have := LT.out z hz; omega
          case measure => exact Mm.stm i 32 hlt _ (by first | rfl | exact hst.out)
        · have e : 32 = i := by omega
          subst e
          have d1 : ¬ ((32 : Nat) : Int) < ((32 : Nat) : Int) := Int.lt_irrefl _
          have HH : Hid _ := hd
          have HV : Hid _ := hw
          clear hc hgd hd hi hw hlt
          go_upto_region 41 with fail
          have hn2 : gm ≠ w.heap.size + 1 + 1 := by have := Gm.out; omega
          have hn3 : gm ≠ w.heap.size + 1 + 1 + 1 := by have := Gm.out; omega
          have NX : Hid (∀ q, q ∈ ([⟨w.heap.size + 1 + 1 + 1, 6, s6 0 0 0⟩, ⟨g3, 6, s6 0 0 C⟩, ⟨gm + 1, 2, kv gm Z⟩] : List Hm.Bk) → w.heap.size + 1 + 1 ≠ q.g) := fun q hq => by
            have h1 := Gm.out
            have h2 := G3.out
            simp only [List.mem_cons, List.not_mem_nil, or_false] at hq
            rcases hq with rfl | rfl | rfl
            · show w.heap.size + 1 + 1 ≠ w.heap.size + 1 + 1 + 1; omega
            · show w.heap.size + 1 + 1 ≠ g3; omega
            · show w.heap.size + 1 + 1 ≠ gm + 1; omega
          refine RH.wp_region_genI (fun (dd : Nat → Bool) (_ : Nat → Value) wx => Hm.Hd w (⟨w.heap.size + 1 + 1, 2, if dd 2 then kv gm Z else kz⟩ :: [⟨w.heap.size + 1 + 1 + 1, 6, s6 0 0 0⟩, ⟨g3, 6, s6 0 0 C⟩, ⟨gm + 1, 2, kv gm Z⟩]) wx ∧ WD gm N m a (Pk.wb x) (32) wx) [0, 0, 0, 2] (by kernel_rfl) (by kernel_rfl) (⟨Hm.sub (Hm.drew HH.out) (by simp), (show WD gm N m a (Pk.wb x) (32) wr from HV.out).below (Below.refl _ _).drew⟩) ?_
          dsimp only [List.toList_toArray]
          refine RH.goD (v := ?_) (f' := ?_) rfl ?_ ?_ ?_
          rotate_left 2
          · intro U K d wx hI hmay hK
            refine ldK2 (.map (some gm)) (.int .u64 (Z : Int)) rfl rfl ((hI.1.ok ⟨gm + 1, 2, kv gm Z⟩ (by simp)).c 0 (show 0 < 2 by decide)) ((hI.1.ok ⟨gm + 1, 2, kv gm Z⟩ (by simp)).c 1 (show 1 < 2 by decide)) ?_
            exact hK _ hI
          · intro U
            simp only [Act.put, List.setIfInBounds_toArray, List.set_cons_succ, List.set_cons_zero]
            rfl
          refine RH.goD (v := ?_) (f' := ?_) rfl ?_ ?_ ?_
          rotate_left 2
          · intro U K d wx hI hmay hK
            refine ldA6 (0, 0, C) rfl rfl (hI.1.ok ⟨g3, 6, s6 0 0 C⟩ (by simp)).c ?_
            exact hK _ hI
          · intro U
            simp only [Act.put, List.setIfInBounds_toArray, List.set_cons_succ, List.set_cons_zero]
            rfl
          refine RH.goD (v := ?_) (f' := ?_) rfl ?_ ?_ ?_
          rotate_left 2
          · intro U K d wx hI hmay hK
            refine stK2 gm (Z : Int) rfl rfl rfl (hI.1.ok _ (List.mem_cons_self ..)).c (hI.1.ok _ (List.mem_cons_self ..)).f ?_
            refine hK _ ⟨Hm.ext (Hm.set (i := 1) (v := .int .u64 (Z : Int)) (Hm.set (i := 0) (v := .map (some gm)) hI.1 (by decide) NX.out) (by decide) NX.out) (fun o ho => ?_), (hI.2.set hn2 _).set hn2 _⟩
            match o, ho with
            | 0, _ => rfl
            | 1, _ => rfl
            | (n + 2), h => exact absurd h (by show ¬ n + 2 < 2; omega)
          · intro U
            simp only [Act.put]
            rfl
          refine RH.goT ?_
          refine RH.go_end ?_
          intro dd U w15 hI hall
          simp +decide only [RH.tl, if_true, if_false]
          have hd2 : dd 2 = true := (hall 2 (by decide)).trans rfl
          rw [hd2, if_pos rfl] at hI
          have n2 : Hm.Hd w [⟨w.heap.size + 1 + 1 + 1, 6, s6 0 0 0⟩, ⟨w.heap.size + 1 + 1, 2, kv gm Z⟩] w15 := Hm.sub hI.1 (by simp)
          have HV2 : Hid (WD gm N m a (Pk.wb x) (32) w15) := hI.2
          have y1 := (n2.ok ⟨w.heap.size + 1 + 1 + 1, 6, s6 0 0 0⟩ (by simp)).c
          have x1 := (n2.ok ⟨w.heap.size + 1 + 1 + 1, 6, s6 0 0 0⟩ (by simp)).f
          have N0 : Hid _ := n2
          clear hI n2 HH HV hall hd2
          unfold av
          go_wp2_with fail
          have n3 := Hm.set (i := 0) (v := .int .i64 0) N0.out (by decide) (by simp)
          have n4 := Hm.set (i := 1) (v := .int .u64 (dg 0 0)) n3 (by decide) (by simp)
          have n5 := Hm.set (i := 2) (v := .int .u64 (dg 0 1)) n4 (by decide) (by simp)
          have n6 := Hm.set (i := 3) (v := .int .u64 (dg 0 2)) n5 (by decide) (by simp)
          have n7 := Hm.set (i := 4) (v := .int .u64 (dg 0 3)) n6 (by decide) (by simp)
          have n8 := Hm.set (i := 5) (v := .int .u64 C) n7 (by decide) (by simp)
          obtain ⟨D15, o16, q15⟩ := ((((((HV2.out.set (p := ⟨w.heap.size + 1 + 1 + 1, 0, none⟩) hn3 (.int .i64 0)).set (p := ⟨w.heap.size + 1 + 1 + 1, 1, none⟩) hn3 (.int .u64 (dg 0 0))).set (p := ⟨w.heap.size + 1 + 1 + 1, 2, none⟩) hn3 (.int .u64 (dg 0 1))).set (p := ⟨w.heap.size + 1 + 1 + 1, 3, none⟩) hn3 (.int .u64 (dg 0 2))).set (p := ⟨w.heap.size + 1 + 1 + 1, 4, none⟩) hn3 (.int .u64 (dg 0 3))).set (p := ⟨w.heap.size + 1 + 1 + 1, 5, none⟩) hn3 (.int .u64 C))
          have a9 := (n8.ok _ (List.mem_cons_of_mem _ (List.mem_cons_self ..))).c
          have b9 := (n8.ok _ (List.mem_cons_self ..)).c
          exact bodyPost_ret (resTwo _ _ _ (w.heap.size + 1 + 1) (w.heap.size + 1 + 1 + 1) 4 5 (.map (some gm)) (.int .u64 (Z : Int)) (.int .i64 0) (.int .u64 (dg 0 0)) (.int .u64 (dg 0 1)) (.int .u64 (dg 0 2)) (.int .u64 (dg 0 3)) (.int .u64 C) Try.results10 rfl rfl (a9 0 (show 0 < 2 by decide)) (a9 1 (show 1 < 2 by decide)) (b9 0 (show 0 < 6 by decide)) (b9 1 (show 1 < 6 by decide)) (b9 2 (show 2 < 6 by decide)) (b9 3 (show 3 < 6 by decide)) (b9 4 (show 4 < 6 by decide)) (b9 5 (show 5 < 6 by decide))) rfl ⟨gm, by rw [eC.out]; rfl, ⟨o16.lt, D15, o16, q15⟩, n8.bel⟩
    · intro q c w1 cnt1 hwx hwc hlx hat hrg1 hlt hg1 hs1 hen
      obtain ⟨q, rfl⟩ := natU hwx
      have hr0 := HR.out
      have hg0 := Gm.out
      have d1 := Hd_gb hd hg1 (by omega) (fun z hz => by
        rcases List.mem_cons.1 hz with rfl | hz
        · show gm + 1 ≠ r; omega
        · have := LT.out z hz; omega)
      have hout1 := hout.kept hg1 (fun e => by have := Option.some.inj e; omega)
      have c1 : w1.cell? ⟨gm + 1, 0, none⟩ = some (.map (some gm)) := (d1.ok _ (List.mem_cons_self ..)).c 0 (show 0 < 2 by decide)
      have hkey := keyOf_int_mk (P := Try.prog) Try.underlying27 hwx
      have hnm : N - cnt < maxLen := by have := hN.out; unfold maxLen; omega
      go_wp2_with (first | (at_mapUpdate; refine wpList_mapUpdate_own _ rfl _ _ _ 41 rfl 27 5 lawU Try.underlying41 _ gm _ _ rfl hout1 hnm _ _ _ rfl rfl hkey _ [] (plainElem_int Try.underlying5 hwc) ?_; intro w2 hout2 hg2; go_frame) | go_in)
      have hb2 := MQ.out.2
      have hrg2 := hrg1.kept hg2 (fun e => by have := Option.some.inj e; omega) (fun e => by have := Option.some.inj e; omega)
      have d2 := Hd_gb d1 hg2 (by omega) (fun z hz => by
        rcases List.mem_cons.1 hz with rfl | hz
        · show gm + 1 ≠ gm; omega
        · have := LT.out z hz; omega)
      go_roundw
      case rel => exact ⟨_, cnt1, _, hrg2, by omega, hout2.mono (by omega), Cq_step hA hout.isMap hlx hat, d2⟩
      case measure => rw [hrg2.left_eq, hrg.left_eq]; exact hlt
end Kp
end Go.Proofs.Ytpgjgehkomoobaa
/- lampbearerref: one, what goes well. -/
namespace Go.Proofs.Ytpgjgehkomoobaa
namespace Kp
open Go.RowKit Go.Maps
open Mm (By lay grw gco cst od oc s6 s2 av An)
set_option maxHeartbeats 2000000 in
set_option maxRecDepth 100000 in
theorem kone_3 (k : Int) (a f l x : Nat) (d : Value) (b M N X Z : Nat) (m : By) (w : World) (hk : Hid (k = 3)) (hM : Hid (M = m.length)) (hn : Hid (KVn b N m w)) (hN : Hid (N ≤ 4294963200)) (hm : Hid (KV b m w)) (hZ : Hid (max (X : Int) (M : Int) = (Z : Int))) (hz : Hid (Z ≤ 4096 ∧ M ≤ Z ∧ a + 1 ≤ 4096)) (HA : Hid (dg a 0 = (a : Int))) (KI : Hid (∀ W : World, Calls Try.prog 17 #[.int .u64 32] W fun e w' => e = .returned (.agg #[.int .u64 (dg 32 0), .int .u64 (dg 32 1), .int .u64 (dg 32 2), .int .u64 (dg 32 3)]) ∧ Below W.heap.size W w'))
    (KI1 : Hid (∀ W : World, Calls Try.prog 17 #[.int .u64 1] W fun e w' => e = .returned (.agg #[.int .u64 (dg 1 0), .int .u64 (dg 1 1), .int .u64 (dg 1 2), .int .u64 (dg 1 3)]) ∧ Below W.heap.size W w'))
    (KX : Hid (∀ W : World, KM w.heap.size b m W → Calls Try.prog 18 #[.pointer (some ⟨w.heap.size, 0, none⟩), .agg #[.int .u64 (dg a 0), .int .u64 (dg a 1), .int .u64 (dg a 2), .int .u64 (dg a 3)], .agg #[.int .u64 (dg 1 0), .int .u64 (dg 1 1), .int .u64 (dg 1 2), .int .u64 (dg 1 3)]] W fun e w' => e = .returned (.tuple #[.int .u64 ((X : Nat) : Int), .bool true]) ∧ Below W.heap.size W w'))
    (KY : Hid (∀ W : World, KM w.heap.size b m W → Calls Try.prog 18 #[.pointer (some ⟨w.heap.size, 0, none⟩), .agg #[.int .u64 (dg a 0), .int .u64 (dg a 1), .int .u64 (dg a 2), .int .u64 (dg a 3)], .agg #[.int .u64 (dg 0 0), .int .u64 (dg 0 1), .int .u64 (dg 0 2), .int .u64 (dg 0 3)]] W fun e w' => e = .returned (.tuple #[.int .u64 ((M : Nat) : Int), .bool true]) ∧ Below W.heap.size W w')) :
    Calls Try.prog 10 #[.agg #[.map (some b), .int .u64 (M : Int)], od k a f l x d] w fun e w' => ∃ b2, e = .returned (.tuple #[.agg #[.map (some b2), .int .u64 (Z : Int)], av (0, 0, cst ((Z / 32 : Nat) : Int) - cst ((M / 32 : Nat) : Int))]) ∧ (b2 < w'.heap.size ∧ ∃ D : Dt, w'.ownsMap Try.prog 27 (plainElem Try.prog 5) b2 (N + 1) D ∧ Wq m a ([UInt8.ofNat x]) (1) D) ∧ Below w.heap.size w w' := by
  conv => arg 3; unfold od
  go_enter Try.func10, Try.ntmps10
  go_upto_region 1 with fail
  have m0 : Hm.Hd w [⟨w.heap.size + 1 + 1 + 1, 6, s6 0 0 0⟩, ⟨w.heap.size + 1 + 1, 2, kz⟩, ⟨w.heap.size + 1, 18, oc k a f l x d⟩, ⟨w.heap.size, 2, kv b M⟩] ((((w.alloc (.cells #[.map (some b), .int .u64 (M : Int)] 43)).alloc (.cells #[.int .i64 k, .int .u64 (dg a 0), .int .u64 (dg a 1), .int .u64 (dg a 2), .int .u64 (dg a 3), .int .u64 (dg f 0), .int .u64 (dg f 1), .int .u64 (dg f 2), .int .u64 (dg f 3), .int .u64 (dg l 0), .int .u64 (dg l 1), .int .u64 (dg l 2), .int .u64 (dg l 3), .int .u64 (dg x 0), .int .u64 (dg x 1), .int .u64 (dg x 2), .int .u64 (dg x 3), d] 39)).alloc (.cells #[.map none, .int .u64 0] 43)).alloc (.cells #[.int .i64 0, .int .u64 0, .int .u64 0, .int .u64 0, .int .u64 0, .int .u64 0] 34)) := by
    have k1 := newB (n := 2) (F := kv b M) (xs := #[.map (some b), .int .u64 (M : Int)]) (T := 43) (Hm.start w) rfl (kv_of b M)
    have k2 := Mm.newO k a f l x d (T := 39) (g := w.heap.size + 1) k1 (by simp)
    have k3 := newB (g := w.heap.size + 1 + 1) (n := 2) (F := kz) (xs := #[.map none, .int .u64 0]) (T := 43) k2 (by simp) kz_of
    exact newB (g := w.heap.size + 1 + 1 + 1) (n := 6) k3 (by simp) (Mm.y6_of 0)
  generalize ((((w.alloc (.cells #[.map (some b), .int .u64 (M : Int)] 43)).alloc (.cells #[.int .i64 k, .int .u64 (dg a 0), .int .u64 (dg a 1), .int .u64 (dg a 2), .int .u64 (dg a 3), .int .u64 (dg f 0), .int .u64 (dg f 1), .int .u64 (dg f 2), .int .u64 (dg f 3), .int .u64 (dg l 0), .int .u64 (dg l 1), .int .u64 (dg l 2), .int .u64 (dg l 3), .int .u64 (dg x 0), .int .u64 (dg x 1), .int .u64 (dg x 2), .int .u64 (dg x 3), d] 39)).alloc (.cells #[.map none, .int .u64 0] 43)).alloc (.cells #[.int .i64 0, .int .u64 0, .int .u64 0, .int .u64 0, .int .u64 0, .int .u64 0] 34)) = W1 at m0 ⊢
  generalize (Value.agg #[.int .i64 k, .int .u64 (dg a 0), .int .u64 (dg a 1), .int .u64 (dg a 2), .int .u64 (dg a 3), .int .u64 (dg f 0), .int .u64 (dg f 1), .int .u64 (dg f 2), .int .u64 (dg f 3), .int .u64 (dg l 0), .int .u64 (dg l 1), .int .u64 (dg l 2), .int .u64 (dg l 3), .int .u64 (dg x 0), .int .u64 (dg x 1), .int .u64 (dg x 2), .int .u64 (dg x 3), d] : Value) = V0
  have M0 : Hid _ := m0
  clear m0
  go_wp2_with fail
  refine (KI.out W1).mono ?_
  rintro e w2 ⟨rfl, b2⟩
  have m2 := Hm.below M0.out b2
  clear M0 b2
  go_upto_region 2 with fail
  obtain ⟨h, eh⟩ : ∃ h, h = w2.heap.size := ⟨_, rfl⟩
  have hh : w.heap.size + 1 + 1 + 1 < h := by rw [eh]; exact (m2.ok _ (List.mem_cons_self ..)).hi
  have m3 : Hm.Hd w [Hm.W4 h 32, ⟨w.heap.size + 1 + 1 + 1, 6, s6 0 0 0⟩, ⟨w.heap.size + 1 + 1, 2, kz⟩, ⟨w.heap.size + 1, 18, oc k a f l x d⟩, ⟨w.heap.size, 2, kv b M⟩] (w2.alloc (.cells #[.int .u64 (dg 32 0), .int .u64 (dg 32 1), .int .u64 (dg 32 2), .int .u64 (dg 32 3)] 32)) := Hm.new4 (n := 32) (T := 32) m2 eh
  rw [← eh]
  clear eh m2
  generalize w2.alloc (.cells #[.int .u64 (dg 32 0), .int .u64 (dg 32 1), .int .u64 (dg 32 2), .int .u64 (dg 32 3)] 32) = w3 at m3 ⊢
  have M3 : Hid _ := m3
  have r1 := oc_at ((m3.ok ⟨w.heap.size + 1, 18, oc k a f l x d⟩ (by simp)).c)
  clear m3
  go_upto_region 3 with (refine ldW (.tmp 21) (w.heap.size + 1) 1 a rfl rfl rfl r1 ?_)
  obtain ⟨h2, eh⟩ : ∃ h2, h2 = w3.heap.size := ⟨_, rfl⟩
  have hh2 : h < h2 := by rw [eh]; exact (M3.out.ok _ (List.mem_cons_self ..)).hi
  have m5 : Hm.Hd w [Hm.W4 (h2 + 1) 0, Hm.W4 h2 a, Hm.W4 h 32, ⟨w.heap.size + 1 + 1 + 1, 6, s6 0 0 0⟩, ⟨w.heap.size + 1 + 1, 2, kz⟩, ⟨w.heap.size + 1, 18, oc k a f l x d⟩, ⟨w.heap.size, 2, kv b M⟩] ((w3.alloc (.cells #[.int .u64 (dg a 0), .int .u64 (dg a 1), .int .u64 (dg a 2), .int .u64 (dg a 3)] 32)).alloc (.cells #[.int .u64 0, .int .u64 0, .int .u64 0, .int .u64 0] 32)) := by
    have k1 := Hm.new4 (n := a) (T := 32) M3.out eh
    exact Hm.new4 (n := 0) (g := h2 + 1) (T := 32) k1 (by simp [eh])
  rw [← eh]
  clear eh M3 r1
  generalize (w3.alloc (.cells #[.int .u64 (dg a 0), .int .u64 (dg a 1), .int .u64 (dg a 2), .int .u64 (dg a 3)] 32)).alloc (.cells #[.int .u64 0, .int .u64 0, .int .u64 0, .int .u64 0] 32) = w5 at m5 ⊢
  have M5 : Hid _ := m5
  have q0 : w5.cell? ⟨w.heap.size + 1, 0, none⟩ = some (.int .i64 k) := (m5.ok ⟨w.heap.size + 1, 18, oc k a f l x d⟩ (by simp)).c 0 (show 0 < 18 by decide)
  have p0 : w5.cell? ⟨w.heap.size, 0, none⟩ = some (.map (some b)) := (m5.ok ⟨w.heap.size, 2, kv b M⟩ (by simp)).c 0 (show 0 < 2 by decide)
  have p1 : w5.cell? ⟨w.heap.size, 1, none⟩ = some (.int .u64 (M : Int)) := (m5.ok ⟨w.heap.size, 2, kv b M⟩ (by simp)).c 1 (show 1 < 2 by decide)
  have z0 := (m5.ok ⟨w.heap.size + 1 + 1, 2, kz⟩ (by simp))
  have z1 := (m5.ok ⟨w.heap.size + 1 + 1 + 1, 6, s6 0 0 0⟩ (by simp))
  have y0 := z0.c
  have y1 := z1.c
  have x0 := z0.f
  have x1 := z1.f
  clear m5 z0 z1
  have e1 : (k == 1) = false := by rw [hk.out]; rfl
  have e2 : (k == 2) = false := by rw [hk.out]; rfl
  have e3 : (k == 3) = true := by rw [hk.out]; rfl
  have e4 : (k == 4) = false := by rw [hk.out]; rfl
  have e5 : (k == 5) = false := by rw [hk.out]; rfl
  go_wp2_with fail
  refine (KI1.out w5).mono ?_
  rintro e w4 ⟨rfl, b4⟩
  have m4 := Hm.below M5.out b4
  have s0 : w4.cell? ⟨h, 0, none⟩ = some (.int .u64 (dg 32 0)) := (m4.ok (Hm.W4 h 32) (by simp)).c 0 (show 0 < 4 by decide)
  have s2 : w4.cell? ⟨h, 1, none⟩ = some (.int .u64 (dg 32 1)) := (m4.ok (Hm.W4 h 32) (by simp)).c 1 (show 1 < 4 by decide)
  have s3 : w4.cell? ⟨h, 2, none⟩ = some (.int .u64 (dg 32 2)) := (m4.ok (Hm.W4 h 32) (by simp)).c 2 (show 2 < 4 by decide)
  have s4 : w4.cell? ⟨h, 3, none⟩ = some (.int .u64 (dg 32 3)) := (m4.ok (Hm.W4 h 32) (by simp)).c 3 (show 3 < 4 by decide)
  have s1 : ∀ o, w4.frozen? ⟨h, o, none⟩ = false := (m4.ok (Hm.W4 h 32) (by simp)).f
  have M4 : Hid _ := m4
  clear m4 b4 M5 q0 p0 p1 y0 y1 x0 x1
  go_upto_region 13 with fail
  clear s0 s1 s2 s3 s4
  have m5 := Hm.set4 (m := 1) (Hm.sub (M := [Hm.W4 h 32, Hm.W4 (h2 + 1) 0, Hm.W4 h2 a, ⟨w.heap.size + 1 + 1 + 1, 6, s6 0 0 0⟩, ⟨w.heap.size + 1 + 1, 2, kz⟩, ⟨w.heap.size + 1, 18, oc k a f l x d⟩, ⟨w.heap.size, 2, kv b M⟩]) M4.out (by simp)) (by simp [Hm.W4]; omega)
  clear M4
  generalize (((w4.setCell ⟨h, 0, none⟩ (.int .u64 (dg 1 0))).setCell ⟨h, 1, none⟩ (.int .u64 (dg 1 1))).setCell ⟨h, 2, none⟩ (.int .u64 (dg 1 2))).setCell ⟨h, 3, none⟩ (.int .u64 (dg 1 3)) = w8 at m5 ⊢
  have M5 : Hid _ := m5
  have q0 := (m5.ok ⟨w.heap.size + 1, 18, oc k a f l x d⟩ (by simp)).c 0 (show 0 < 18 by decide)
  have p0 := q0
  have p1 := q0
  have y0 := q0
  have y1 := q0
  have x0 := q0
  have x1 := q0
  clear m5
  have rA := oc_at ((M5.out.ok ⟨w.heap.size + 1, 18, oc k a f l x d⟩ (by simp)).c)
  have rN := w4_at (M5.out.ok (Hm.W4 h 1) (by simp)).c
  go_wp2_with (first | refine ldW (.tmp 51) (w.heap.size + 1) 1 a rfl rfl rfl rA ?_ | refine ldW (.tmp 50) (w.heap.size + 1) 1 a rfl rfl rfl rA ?_ | refine ldW (.tmp 6) h 0 1 rfl rfl rfl rN ?_)
  refine (KX.out _ (km_of M5.out (by simp) hm.out hM.out)).mono ?_
  rintro e w6 ⟨rfl, b6⟩
  have m6 := Hm.below M5.out b6
  have M6 : Hid _ := m6
  clear m6 b6 rA rN M5 KX q0 p0 p1 y0 y1 x0 x1
  have rF := w4_at (M6.out.ok (Hm.W4 h2 a) (by simp)).c
  have rK := w4_at (M6.out.ok (Hm.W4 (h2 + 1) 0) (by simp)).c
  go_wp2_with (first | refine ldW (.tmp 7) h2 0 a rfl rfl rfl rF ?_ | refine ldW (.tmp 8) (h2 + 1) 0 0 rfl rfl rfl rK ?_)
  refine (KY.out _ (km_of M6.out (by simp) hm.out hM.out)).mono ?_
  rintro e w7 ⟨rfl, b7⟩
  have m7 := Hm.below M6.out b7
  have M7 : Hid _ := m7
  clear b7 rF rK M6 KY
  have q0 : w7.cell? ⟨w.heap.size + 1, 0, none⟩ = some (.int .i64 k) := (m7.ok ⟨w.heap.size + 1, 18, oc k a f l x d⟩ (by simp)).c 0 (show 0 < 18 by decide)
  have p0 : w7.cell? ⟨w.heap.size, 0, none⟩ = some (.map (some b)) := (m7.ok ⟨w.heap.size, 2, kv b M⟩ (by simp)).c 0 (show 0 < 2 by decide)
  have p1 : w7.cell? ⟨w.heap.size, 1, none⟩ = some (.int .u64 (M : Int)) := (m7.ok ⟨w.heap.size, 2, kv b M⟩ (by simp)).c 1 (show 1 < 2 by decide)
  have z0 := (m7.ok ⟨w.heap.size + 1 + 1, 2, kz⟩ (by simp))
  have z1 := (m7.ok ⟨w.heap.size + 1 + 1 + 1, 6, s6 0 0 0⟩ (by simp))
  have y0 := z0.c
  have y1 := z1.c
  have x0 := z0.f
  have x1 := z1.f
  clear m7 z0 z1
  have e0 := hZ.out
  have hmm := @run_makeMap Try.prog
  go_upto_region 18 with fail
  clear hmm e0 y0 y1 x0 x1 p0 p1 q0
  obtain ⟨gm, em⟩ : ∃ gm, gm = w7.heap.size := ⟨_, rfl⟩
  rw [← em]
  have m8 : Hm.Hd w [⟨gm + 1, 2, kv gm Z⟩, Hm.W4 h 1, Hm.W4 (h2 + 1) 0, Hm.W4 h2 a, ⟨w.heap.size + 1 + 1 + 1, 6, s6 0 0 0⟩, ⟨w.heap.size + 1 + 1, 2, kz⟩, ⟨w.heap.size + 1, 18, oc k a f l x d⟩, ⟨w.heap.size, 2, kv b M⟩] ((w7.alloc (.map #[] 0)).alloc (.cells #[.map (some gm), .int .u64 (Z : Int)] 43)) := newB (g := gm + 1) (n := 2) (F := kv gm Z) (T := 43) (Hm.al M7.out _) (by simp [em]) (kv_of gm Z)
  have o8 : ((w7.alloc (.map #[] 0)).alloc (.cells #[.map (some gm), .int .u64 (Z : Int)] 43)).ownsMap (H := Unit) Try.prog 27 (plainElem Try.prog 5) gm 0 (.map []) := by rw [em]; exact (World.ownsMap_made _ _ _ _).alloc _
  have LT : Hid (∀ q, q ∈ [Hm.W4 h 1, Hm.W4 (h2 + 1) 0, Hm.W4 h2 a, ⟨w.heap.size + 1 + 1 + 1, 6, s6 0 0 0⟩, ⟨w.heap.size + 1 + 1, 2, kz⟩, ⟨w.heap.size + 1, 18, oc k a f l x d⟩, ⟨w.heap.size, 2, kv b M⟩] → q.g < gm) := fun q hq => by rw [em]; exact (M7.out.ok q hq).hi
  have Gm : Hid (w.heap.size + 1 + 1 + 1 < gm) := LT.out ⟨w.heap.size + 1 + 1 + 1, 6, s6 0 0 0⟩ (by simp)
  clear M7 em
  generalize ((w7.alloc (.map #[] 0)).alloc (.cells #[.map (some gm), .int .u64 (Z : Int)] 43)) = w8 at m8 o8 ⊢
  obtain ⟨hb, D, hD, hMq⟩ := hn.out
  have d8 := hD.kept (gb_of_below m8.bel none) (by simp)
  have p0 : w8.cell? ⟨w.heap.size, 0, none⟩ = some (.map (some b)) := (m8.ok ⟨w.heap.size, 2, kv b M⟩ (by simp)).c 0 (show 0 < 2 by decide)
  have MQ : Hid (Mq D m ∧ b < w.heap.size) := ⟨hMq, hb⟩
  have M8 : Hid _ := m8
  have hs8 : gm + 1 < w8.heap.size := (m8.ok _ (List.mem_cons_self ..)).hi
  clear m8 hMq hb hD
  go_wp2_with (first | (at_range; refine wpList_range_own _ rfl _ 41 rfl 27 5 lawU Try.underlying41 _ b N D rfl d8 ?_; intro w0 hrg0 hg0 hs0) | go_in)
  go_frame
  have hcs := d8.size_le
  have o9 := (o8.kept hg0 (by simp)).mono (Nat.zero_le (N - Maps.size D))
  have m9 := Hd_gn M8.out hg0
  clear d8 o8 M8 hg0 hs0 p0
  obtain ⟨r, er⟩ : ∃ r, r = w8.heap.size := ⟨_, rfl⟩
  rw [← er] at hrg0 hs8 ⊢
  clear er
  have HR : Hid (gm + 1 < r) := hs8
  clear hs8
  go_loopw [14] (fun _ wr => ∃ (left : Lit → Bool) (cnt : Nat) (E : Dt), wr.ranges Try.prog 27 (plainElem Try.prog 5) b r N D left cnt ∧ cnt ≤ N ∧ wr.ownsMap Try.prog 27 (plainElem Try.prog 5) gm (N - cnt) E ∧ Cq D left E ∧ Hm.Hd w [⟨gm + 1, 2, kv gm Z⟩, Hm.W4 h 1, Hm.W4 (h2 + 1) 0, Hm.W4 h2 a, ⟨w.heap.size + 1 + 1 + 1, 6, s6 0 0 0⟩, ⟨w.heap.size + 1 + 1, 2, kz⟩, ⟨w.heap.size + 1, 18, oc k a f l x d⟩, ⟨w.heap.size, 2, kv b M⟩] wr) (fun _ wr => wr.rangeLeft b r)
  case atStart => exact ⟨_, _, _, hrg0, hcs, o9, Cq_start D, m9⟩
  case round =>
    clear hrg0 hcs o9 m9
    obtain ⟨left, cnt, E, hrg, hcs, hout, hA, hd⟩ := hrel
    go_wp2_with (first | (at_next; refine wpList_next_ranges_ii _ rfl _ rfl 27 5 .u64 .u8 lawU Try.underlying27 Try.underlying5 b r N _ _ _ rfl hrg ?_ ?_) | go_in)
    · intro hc0 hl0
      have MO : Hid (Mq E m) := Cq_end hA hl0 MQ.out.1
      subst hc0
      have HO : Hid (wr.ownsMap Try.prog 27 (plainElem Try.prog 5) gm N E) := by show World.ownsMap _ _ _ _ _ _ _; simpa using hout
      have M9 : Hid _ := hd
      clear hrg hcs hout hA hl0 hd
      go_upto_region 22 with fail
      refine RN.wp_region_new1 (fun wx => Hm.Hd w [⟨gm + 1, 2, kv gm Z⟩, Hm.W4 h 1, Hm.W4 (h2 + 1) 0, Hm.W4 h2 a, ⟨w.heap.size + 1 + 1 + 1, 6, s6 0 0 0⟩, ⟨w.heap.size + 1 + 1, 2, kz⟩, ⟨w.heap.size + 1, 18, oc k a f l x d⟩, ⟨w.heap.size, 2, kv b M⟩] wx ∧ Below wr.heap.size wr wx) (fun g wx => Hm.Ok wr.heap.size ⟨g, 6, s6 0 0 0⟩ wx) 12 16 (fun _ _ h hb => ⟨Hm.below h.1 hb, h.2.trans (hb.mono h.2.size)⟩) (fun _ _ _ h hb => Hm.Ok_below h hb) (fun _ _ h => h.hi) (by kernel_rfl) (by kernel_rfl) (by decide) (by kernel_rfl) ⟨Hm.drew M9.out, (Below.refl _ _).drew⟩ rfl (fun o ho => ?_) ?_
      · obtain rfl := Option.some.inj ho
        exact ⟨rfl, fun ρ K wx hS hK => al6 rfl hS.2.size hK⟩
      simp only [List.take_succ_cons, List.take_zero, List.drop_succ_cons, List.drop_zero]
      refine RN.go1 (v := ?_) (a' := ?_) rfl ?_ ?_ ?_
      rotate_left 2
      · intro K wx hS hK
        go_simp
        exact hK _ (Below.refl _ _)
      · simp only [Act.put, List.setIfInBounds_toArray, List.set_cons_succ, List.set_cons_zero]
        rfl
      refine RN.go1 (v := ?_) (a' := ?_) rfl ?_ ?_ ?_
      rotate_left 2
      · intro K wx hS hK
        have c1 : wx.cell? ⟨gm + 1, 1, none⟩ = some (.int .u64 (Z : Int)) := (hS.1.ok ⟨gm + 1, 2, kv gm Z⟩ (by simp)).c 1 (show 1 < 2 by decide)
        go_simp
        exact hK _ (Below.refl _ _)
      · simp only [Act.put, List.setIfInBounds_toArray, List.set_cons_succ, List.set_cons_zero]
        rfl
      refine RN.go1 (v := ?_) (a' := ?_) rfl ?_ ?_ ?_
      rotate_left 2
      · intro K wx hS hK
        go_simp
        exact hK _ (Below.refl _ _)
      · simp only [Act.put, List.setIfInBounds_toArray, List.set_cons_succ, List.set_cons_zero]
        rfl
      refine RN.go1 (v := ?_) (a' := ?_) rfl ?_ ?_ ?_
      rotate_left 2
      · intro K wx hS hK
        go_simp
        exact hK _ (Below.refl _ _)
      · simp only [Act.put, List.setIfInBounds_toArray, List.set_cons_succ, List.set_cons_zero]
        rfl
      refine RN.go1 (v := ?_) (a' := ?_) rfl ?_ ?_ ?_
      rotate_left 2
      · intro K wx hS hK
        go_simp
        refine (kcost_any _ wx).mono (fun e w2 he => ?_)
        refine ⟨_, he.1, ?_⟩
        exact hK _ he.2
      · simp only [Act.put, List.setIfInBounds_toArray, List.set_cons_succ, List.set_cons_zero]
        rfl
      refine RN.go1 (v := ?_) (a' := ?_) rfl ?_ ?_ ?_
      rotate_left 2
      · intro K wx hS hK
        go_simp
        exact hK _ (Below.refl _ _)
      · simp only [Act.put, List.setIfInBounds_toArray, List.set_cons_succ, List.set_cons_zero]
        rfl
      refine RN.go1 (v := ?_) (a' := ?_) rfl ?_ ?_ ?_
      rotate_left 2
      · intro K wx hS hK
        have c1 : wx.cell? ⟨w.heap.size, 1, none⟩ = some (.int .u64 (M : Int)) := (hS.1.ok ⟨w.heap.size, 2, kv b M⟩ (by simp)).c 1 (show 1 < 2 by decide)
        go_simp
        exact hK _ (Below.refl _ _)
      · simp only [Act.put, List.setIfInBounds_toArray, List.set_cons_succ, List.set_cons_zero]
        rfl
      refine RN.go1 (v := ?_) (a' := ?_) rfl ?_ ?_ ?_
      rotate_left 2
      · intro K wx hS hK
        go_simp
        exact hK _ (Below.refl _ _)
      · simp only [Act.put, List.setIfInBounds_toArray, List.set_cons_succ, List.set_cons_zero]
        rfl
      refine RN.go1 (v := ?_) (a' := ?_) rfl ?_ ?_ ?_
      rotate_left 2
      · intro K wx hS hK
        go_simp
        exact hK _ (Below.refl _ _)
      · simp only [Act.put, List.setIfInBounds_toArray, List.set_cons_succ, List.set_cons_zero]
        rfl
      refine RN.go1 (v := ?_) (a' := ?_) rfl ?_ ?_ ?_
      rotate_left 2
      · intro K wx hS hK
        go_simp
        refine (kcost_any _ wx).mono (fun e w2 he => ?_)
        refine ⟨_, he.1, ?_⟩
        exact hK _ he.2
      · simp only [Act.put, List.setIfInBounds_toArray, List.set_cons_succ, List.set_cons_zero]
        rfl
      refine RN.go1 (v := ?_) (a' := ?_) rfl ?_ ?_ ?_
      rotate_left 2
      · intro K wx hS hK
        go_simp
        exact hK _ (Below.refl _ _)
      · simp only [Act.put, List.setIfInBounds_toArray, List.set_cons_succ, List.set_cons_zero]
        rfl
      refine RN.go1 (v := ?_) (a' := ?_) rfl ?_ ?_ ?_
      rotate_left 2
      · intro K wx hS hK
        go_simp
        exact hK _ (Below.refl _ _)
      · simp only [Act.put, List.setIfInBounds_toArray, List.set_cons_succ, List.set_cons_zero]
        rfl
      refine RN.go_end ?_
      intro g3 w10 h10 f10
      have z10 : Hm.Hd w (⟨g3, 6, s6 0 0 0⟩ :: [⟨gm + 1, 2, kv gm Z⟩, Hm.W4 h 1, Hm.W4 (h2 + 1) 0, Hm.W4 h2 a, ⟨w.heap.size + 1 + 1 + 1, 6, s6 0 0 0⟩, ⟨w.heap.size + 1 + 1, 2, kz⟩, ⟨w.heap.size + 1, 18, oc k a f l x d⟩, ⟨w.heap.size, 2, kv b M⟩]) w10 := hd6 h10.1 ⟨Nat.le_trans M9.out.bel.size f10.lo, f10.hi, f10.c, f10.f⟩
      have N3 : Hid (∀ q, q ∈ [⟨gm + 1, 2, kv gm Z⟩, Hm.W4 h 1, Hm.W4 (h2 + 1) 0, Hm.W4 h2 a, ⟨w.heap.size + 1 + 1 + 1, 6, s6 0 0 0⟩, ⟨w.heap.size + 1 + 1, 2, kz⟩, ⟨w.heap.size + 1, 18, oc k a f l x d⟩, ⟨w.heap.size, 2, kv b M⟩] → g3 ≠ q.g) := fun q hq => by
        have h1 := (M9.out.ok q hq).hi
        have h2 := f10.lo
        exact Nat.ne_of_gt (Nat.lt_of_lt_of_le h1 h2)
      have HO : Hid (w10.ownsMap Try.prog 27 (plainElem Try.prog 5) gm N E) := by show World.ownsMap _ _ _ _ _ _ _; exact HO.out.kept (gb_of_below h10.2 none) (by simp)
      have G3 : Hid (gm + 1 < g3 ∧ b < gm + 1) := by
        show _ ∧ _
        have h1 : gm + 1 < wr.heap.size := (M9.out.ok ⟨gm + 1, 2, kv gm Z⟩ (by simp)).hi
        have h2 : wr.heap.size ≤ g3 := f10.lo
        have h3 := Gm.out
        have h4 := MQ.out.2
        omega
      have c3 := f10.c
      have x3 := f10.f
      clear h10 f10 M9
      have M10 : Hid _ := z10
      clear z10
      simp only [Act.put, List.setIfInBounds_toArray, List.set_cons_succ, List.set_cons_zero]
      go_upto_region 23 with fail
      rw [costE Z M hz.out.2.1 hz.out.1]
      obtain ⟨C, eC⟩ : ∃ C, Hid (C = cst ((Z / 32 : Nat) : Int) - cst ((M / 32 : Nat) : Int)) := ⟨_, rfl⟩
      rw [← eC.out]
      have n1 := Hm.set (i := 0) (v := .int .i64 0) M10.out (by decide) N3.out
      have n2 := Hm.set (i := 1) (v := .int .u64 0) n1 (by decide) N3.out
      have n3 := Hm.set (i := 2) (v := .int .u64 0) n2 (by decide) N3.out
      have n4 := Hm.set (i := 3) (v := .int .u64 0) n3 (by decide) N3.out
      have n5 := Hm.set (i := 4) (v := .int .u64 0) n4 (by decide) N3.out
      have n6 := Hm.set (i := 5) (v := .int .u64 C) n5 (by decide) N3.out
      have n7 : Hm.Hd w (⟨g3, 6, s6 0 0 C⟩ :: [⟨gm + 1, 2, kv gm Z⟩, Hm.W4 h 1, Hm.W4 (h2 + 1) 0, Hm.W4 h2 a, ⟨w.heap.size + 1 + 1 + 1, 6, s6 0 0 0⟩, ⟨w.heap.size + 1 + 1, 2, kz⟩, ⟨w.heap.size + 1, 18, oc k a f l x d⟩, ⟨w.heap.size, 2, kv b M⟩]) ((((((w10.setCell ⟨g3, 0, none⟩ (.int .i64 0)).setCell ⟨g3, 1, none⟩ (.int .u64 0)).setCell ⟨g3, 2, none⟩ (.int .u64 0)).setCell ⟨g3, 3, none⟩ (.int .u64 0)).setCell ⟨g3, 4, none⟩ (.int .u64 0)).setCell ⟨g3, 5, none⟩ (.int .u64 C)) := Hm.ext n6 (fun o ho => by
        match o, ho with
        | 0, _ => rfl
        | 1, _ => rfl
        | 2, _ => rfl
        | 3, _ => rfl
        | 4, _ => rfl
        | 5, _ => rfl
        | (n + 6), h => exact absurd h (by show ¬ n + 6 < 6; omega))
      have hne : gm ≠ g3 := by have := G3.out; omega
      have HW : Hid (WD gm N m a ([UInt8.ofNat x]) 0 ((((((w10.setCell ⟨g3, 0, none⟩ (.int .i64 0)).setCell ⟨g3, 1, none⟩ (.int .u64 0)).setCell ⟨g3, 2, none⟩ (.int .u64 0)).setCell ⟨g3, 3, none⟩ (.int .u64 0)).setCell ⟨g3, 4, none⟩ (.int .u64 0)).setCell ⟨g3, 5, none⟩ (.int .u64 C))) := ⟨E, ((((((HO.out.setCell (a := ⟨g3, 0, none⟩) hne _).setCell (a := ⟨g3, 1, none⟩) hne _).setCell (a := ⟨g3, 2, none⟩) hne _).setCell (a := ⟨g3, 3, none⟩) hne _).setCell (a := ⟨g3, 4, none⟩) hne _).setCell (a := ⟨g3, 5, none⟩) hne _), Wq_0 a _ MO.out⟩
      have M11 : Hid _ := n7
      clear n1 n2 n3 n4 n5 n6 n7 HO M10 c3 x3 hne
      generalize ((((((w10.setCell ⟨g3, 0, none⟩ (.int .i64 0)).setCell ⟨g3, 1, none⟩ (.int .u64 0)).setCell ⟨g3, 2, none⟩ (.int .u64 0)).setCell ⟨g3, 3, none⟩ (.int .u64 0)).setCell ⟨g3, 4, none⟩ (.int .u64 0)).setCell ⟨g3, 5, none⟩ (.int .u64 C)) = w11 at M11 HW ⊢
      have rX := oc_x ((M11.out.ok ⟨w.heap.size + 1, 18, oc k a f l x d⟩ (by simp)).c)
      have q0 : w11.cell? ⟨w.heap.size + 1, 0, none⟩ = some (.int .i64 k) := (M11.out.ok ⟨w.heap.size + 1, 18, oc k a f l x d⟩ (by simp)).c 0 (show 0 < 18 by decide)
      go_wp2_with (refine ldW (.tmp 116) (w.heap.size + 1) 13 x rfl rfl rfl rX ?_)
      refine (wbytes_k x w11).mono ?_
      rintro e w12 ⟨gd, cap, rfl, hd, b12⟩
      clear q0 rX
      have M12 : Hid _ := Hm.below M11.out b12
      have HW2 : Hid _ := HW.out.below b12
      have HD : Hid _ := hd
      have GD : Hid (gd ≠ gm) := Nat.ne_of_gt (Nat.lt_of_lt_of_le (HW.out.lt) hd.1)
      have hc1 := hd.2.2.1
      have hc2 := hd.2.2.2.1
      unfold maxLen at hc2
      clear hd b12 M11 HW
      go_upto_region 37 with fail
      clear hc1 hc2
      go_loopw [137] (fun p wr => ∃ i : Nat, i ≤ 1 ∧ p = .int .i64 (i : Int) ∧ WD gm N m a ([UInt8.ofNat x]) i wr ∧ Hm.Hd w [⟨g3, 6, s6 0 0 C⟩, ⟨gm + 1, 2, kv gm Z⟩, Hm.W4 h 1, Hm.W4 (h2 + 1) 0, Hm.W4 h2 a, ⟨w.heap.size + 1 + 1 + 1, 6, s6 0 0 0⟩, ⟨w.heap.size + 1 + 1, 2, kz⟩, ⟨w.heap.size + 1, 18, oc k a f l x d⟩, ⟨w.heap.size, 2, kv b M⟩] wr ∧ gd < wr.heap.size ∧ ∀ j, j < 1 → wr.cell? ⟨gd, 31 + j, none⟩ = some (.int .u8 (Sp.bz ([UInt8.ofNat x]) j))) (fun p _ => (((1 : Nat) : Int) - intOf p).toNat)
      case atStart => exact ⟨0, Nat.zero_le _, rfl, HW2.out, M12.out, HD.out.2.1, fun j hj => by
          obtain rfl : j = 0 := by omega
          exact (HD.out.2.2.2.2 31 (by decide)).trans (by rw [bz31])⟩
      case round =>
        obtain ⟨i, hi, rfl, hw, hd, hgd, hc⟩ := hrel
        by_cases hlt : i < 1
        · have d1 : (i : Int) < ((1 : Nat) : Int) := by omega
          have c0 := hc i hlt
          have k0 : wr.cell? ⟨gm + 1, 0, none⟩ = some (.map (some gm)) := (hd.ok ⟨gm + 1, 2, kv gm Z⟩ (by simp)).c 0 (show 0 < 2 by decide)
          have k1 : wr.cell? ⟨w.heap.size + 1, 1, none⟩ = some (.int .u64 (a : Int)) := by rw [← HA.out]; exact (hd.ok ⟨w.heap.size + 1, 18, oc k a f l x d⟩ (by simp)).c 1 (show 1 < 18 by decide)
          have hz1 : 1 ≤ 4096 ∧ a ≤ 4096 := by have := hz.out; omega
          have u1 : IntKind.u64.wrap (i : Int) = (i : Int) := by rw [IntKind.wrap_u64]; omega
          have u2 : IntKind.u64.wrap ((a : Int) + (i : Int)) = ((a + i : Nat) : Int) := by rw [IntKind.wrap_u64]; omega
          have hst := Mm.stw i 1 hlt (by omega)
          have hkey := keyU (k := a + i) (by omega)
          have hnm : N + i < maxLen := by have := hN.out; unfold maxLen; omega
          have HZ1 : Hid _ := hz1
          have HC : Hid _ := hc
          have HG : Hid _ := hgd
          have HH : Hid _ := hd
          obtain ⟨D1, o1, q1⟩ := hw
          have HQ : Hid _ := q1
          have HI : Hid _ := o1.isMap
          clear hz1 hc hgd hd hi q1
          go_wp2_with (first | (at_mapUpdate; refine wpList_mapUpdate_own _ rfl _ _ _ 41 rfl 27 5 lawU Try.underlying41 _ gm _ _ rfl o1 hnm _ _ _ rfl rfl hkey _ [] (plainElem_int Try.underlying5 (wf8 ([UInt8.ofNat x]) i)) ?_; intro w2 o2 g2; go_frame) | go_in)
          go_roundw
          case rel =>
            refine ⟨i + 1, hlt, Mm.stv i _ (by first | rfl | exact hst.out), ⟨_, o2, Wq_step HQ.out HI.out⟩, Hd_gb HH.out g2 (by have := Gm.out; omega) (fun z hz => ?_), Nat.lt_of_lt_of_le HG.out g2.size, fun j hj => (World.cell?_of_block (a := ⟨gd, 31 + j, none⟩) (g2.block gd HG.out (fun e => GD.out (Option.some.inj e)))).trans (HC.out j hj)⟩
            have hg := G3.out
            rcases List.mem_cons.1 hz with rfl | hz
            · show g3 ≠ gm; omega
            rcases List.mem_cons.1 hz with rfl | hz
            · show gm + 1 ≠ gm; omega
            · have := LT.out z hz; omega
          case measure => exact Mm.stm i 1 hlt _ (by first | rfl | exact hst.out)
        · have e : 1 = i := by omega
          subst e
          have d1 : ¬ ((1 : Nat) : Int) < ((1 : Nat) : Int) := Int.lt_irrefl _
          have HH : Hid _ := hd
          have HV : Hid _ := hw
          clear hc hgd hd hi hw hlt
          go_upto_region 41 with fail
          have hn2 : gm ≠ w.heap.size + 1 + 1 := by have := Gm.out; omega
          have hn3 : gm ≠ w.heap.size + 1 + 1 + 1 := by have := Gm.out; omega
          have NX : Hid (∀ q, q ∈ ([⟨w.heap.size + 1 + 1 + 1, 6, s6 0 0 0⟩, ⟨g3, 6, s6 0 0 C⟩, ⟨gm + 1, 2, kv gm Z⟩] : List Hm.Bk) → w.heap.size + 1 + 1 ≠ q.g) := fun q hq => by
            have h1 := Gm.out
            have h2 := G3.out
            simp only [List.mem_cons, List.not_mem_nil, or_false] at hq
            rcases hq with rfl | rfl | rfl
            · show w.heap.size + 1 + 1 ≠ w.heap.size + 1 + 1 + 1; omega
            · show w.heap.size + 1 + 1 ≠ g3; omega
            · show w.heap.size + 1 + 1 ≠ gm + 1; omega
          refine RH.wp_region_genI (fun (dd : Nat → Bool) (_ : Nat → Value) wx => Hm.Hd w (⟨w.heap.size + 1 + 1, 2, if dd 2 then kv gm Z else kz⟩ :: [⟨w.heap.size + 1 + 1 + 1, 6, s6 0 0 0⟩, ⟨g3, 6, s6 0 0 C⟩, ⟨gm + 1, 2, kv gm Z⟩]) wx ∧ WD gm N m a ([UInt8.ofNat x]) (1) wx) [0, 0, 0, 2] (by kernel_rfl) (by kernel_rfl) (⟨Hm.sub (Hm.drew HH.out) (by simp), (show WD gm N m a ([UInt8.ofNat x]) (1) wr from HV.out).below (Below.refl _ _).drew⟩) ?_
          dsimp only [List.toList_toArray]
          refine RH.goD (v := ?_) (f' := ?_) rfl ?_ ?_ ?_
          rotate_left 2
          · intro U K d wx hI hmay hK
            refine ldK2 (.map (some gm)) (.int .u64 (Z : Int)) rfl rfl ((hI.1.ok ⟨gm + 1, 2, kv gm Z⟩ (by simp)).c 0 (show 0 < 2 by decide)) ((hI.1.ok ⟨gm + 1, 2, kv gm Z⟩ (by simp)).c 1 (show 1 < 2 by decide)) ?_
            exact hK _ hI
          · intro U
            simp only [Act.put, List.setIfInBounds_toArray, List.set_cons_succ, List.set_cons_zero]
            rfl
          refine RH.goD (v := ?_) (f' := ?_) rfl ?_ ?_ ?_
          rotate_left 2
          · intro U K d wx hI hmay hK
            refine ldA6 (0, 0, C) rfl rfl (hI.1.ok ⟨g3, 6, s6 0 0 C⟩ (by simp)).c ?_
            exact hK _ hI
          · intro U
            simp only [Act.put, List.setIfInBounds_toArray, List.set_cons_succ, List.set_cons_zero]
            rfl
          refine RH.goD (v := ?_) (f' := ?_) rfl ?_ ?_ ?_
          rotate_left 2
          · intro U K d wx hI hmay hK
            refine stK2 gm (Z : Int) rfl rfl rfl (hI.1.ok _ (List.mem_cons_self ..)).c (hI.1.ok _ (List.mem_cons_self ..)).f ?_
            refine hK _ ⟨Hm.ext (Hm.set (i := 1) (v := .int .u64 (Z : Int)) (Hm.set (i := 0) (v := .map (some gm)) hI.1 (by decide) NX.out) (by decide) NX.out) (fun o ho => ?_), (hI.2.set hn2 _).set hn2 _⟩
            match o, ho with
            | 0, _ => rfl
            | 1, _ => rfl
            | (n + 2), h => exact absurd h (by show ¬ n + 2 < 2; omega)
          · intro U
            simp only [Act.put]
            rfl
          refine RH.goT ?_
          refine RH.go_end ?_
          intro dd U w15 hI hall
          simp +decide only [RH.tl, if_true, if_false]
          have hd2 : dd 2 = true := (hall 2 (by decide)).trans rfl
          rw [hd2, if_pos rfl] at hI
          have n2 : Hm.Hd w [⟨w.heap.size + 1 + 1 + 1, 6, s6 0 0 0⟩, ⟨w.heap.size + 1 + 1, 2, kv gm Z⟩] w15 := Hm.sub hI.1 (by simp)
          have HV2 : Hid (WD gm N m a ([UInt8.ofNat x]) (1) w15) := hI.2
          have y1 := (n2.ok ⟨w.heap.size + 1 + 1 + 1, 6, s6 0 0 0⟩ (by simp)).c
          have x1 := (n2.ok ⟨w.heap.size + 1 + 1 + 1, 6, s6 0 0 0⟩ (by simp)).f
          have N0 : Hid _ := n2
          clear hI n2 HH HV hall hd2
          unfold av
          go_wp2_with fail
          have n3 := Hm.set (i := 0) (v := .int .i64 0) N0.out (by decide) (by simp)
          have n4 := Hm.set (i := 1) (v := .int .u64 (dg 0 0)) n3 (by decide) (by simp)
          have n5 := Hm.set (i := 2) (v := .int .u64 (dg 0 1)) n4 (by decide) (by simp)
          have n6 := Hm.set (i := 3) (v := .int .u64 (dg 0 2)) n5 (by decide) (by simp)
          have n7 := Hm.set (i := 4) (v := .int .u64 (dg 0 3)) n6 (by decide) (by simp)
          have n8 := Hm.set (i := 5) (v := .int .u64 C) n7 (by decide) (by simp)
          obtain ⟨D15, o16, q15⟩ := ((((((HV2.out.set (p := ⟨w.heap.size + 1 + 1 + 1, 0, none⟩) hn3 (.int .i64 0)).set (p := ⟨w.heap.size + 1 + 1 + 1, 1, none⟩) hn3 (.int .u64 (dg 0 0))).set (p := ⟨w.heap.size + 1 + 1 + 1, 2, none⟩) hn3 (.int .u64 (dg 0 1))).set (p := ⟨w.heap.size + 1 + 1 + 1, 3, none⟩) hn3 (.int .u64 (dg 0 2))).set (p := ⟨w.heap.size + 1 + 1 + 1, 4, none⟩) hn3 (.int .u64 (dg 0 3))).set (p := ⟨w.heap.size + 1 + 1 + 1, 5, none⟩) hn3 (.int .u64 C))
          have a9 := (n8.ok _ (List.mem_cons_of_mem _ (List.mem_cons_self ..))).c
          have b9 := (n8.ok _ (List.mem_cons_self ..)).c
          exact bodyPost_ret (resTwo _ _ _ (w.heap.size + 1 + 1) (w.heap.size + 1 + 1 + 1) 4 5 (.map (some gm)) (.int .u64 (Z : Int)) (.int .i64 0) (.int .u64 (dg 0 0)) (.int .u64 (dg 0 1)) (.int .u64 (dg 0 2)) (.int .u64 (dg 0 3)) (.int .u64 C) Try.results10 rfl rfl (a9 0 (show 0 < 2 by decide)) (a9 1 (show 1 < 2 by decide)) (b9 0 (show 0 < 6 by decide)) (b9 1 (show 1 < 6 by decide)) (b9 2 (show 2 < 6 by decide)) (b9 3 (show 3 < 6 by decide)) (b9 4 (show 4 < 6 by decide)) (b9 5 (show 5 < 6 by decide))) rfl ⟨gm, by rw [eC.out]; rfl, ⟨o16.lt, D15, o16, q15⟩, n8.bel⟩
    · intro q c w1 cnt1 hwx hwc hlx hat hrg1 hlt hg1 hs1 hen
      obtain ⟨q, rfl⟩ := natU hwx
      have hr0 := HR.out
      have hg0 := Gm.out
      have d1 := Hd_gb hd hg1 (by omega) (fun z hz => by
        rcases List.mem_cons.1 hz with rfl | hz
        · show gm + 1 ≠ r; omega
        · have := LT.out z hz; omega)
      have hout1 := hout.kept hg1 (fun e => by have := Option.some.inj e; omega)
      have c1 : w1.cell? ⟨gm + 1, 0, none⟩ = some (.map (some gm)) := (d1.ok _ (List.mem_cons_self ..)).c 0 (show 0 < 2 by decide)
      have hkey := keyOf_int_mk (P := Try.prog) Try.underlying27 hwx
      have hnm : N - cnt < maxLen := by have := hN.out; unfold maxLen; omega
      go_wp2_with (first | (at_mapUpdate; refine wpList_mapUpdate_own _ rfl _ _ _ 41 rfl 27 5 lawU Try.underlying41 _ gm _ _ rfl hout1 hnm _ _ _ rfl rfl hkey _ [] (plainElem_int Try.underlying5 hwc) ?_; intro w2 hout2 hg2; go_frame) | go_in)
      have hb2 := MQ.out.2
      have hrg2 := hrg1.kept hg2 (fun e => by have := Option.some.inj e; omega) (fun e => by have := Option.some.inj e; omega)
      have d2 := Hd_gb d1 hg2 (by omega) (fun z hz => by
        rcases List.mem_cons.1 hz with rfl | hz
        · show gm + 1 ≠ gm; omega
        · have := LT.out z hz; omega)
      go_roundw
      case rel => exact ⟨_, cnt1, _, hrg2, by omega, hout2.mono (by omega), Cq_step hA hout.isMap hlx hat, d2⟩
      case measure => rw [hrg2.left_eq, hrg.left_eq]; exact hlt
end Kp
end Go.Proofs.Ytpgjgehkomoobaa
