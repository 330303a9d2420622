/- The laws HexNumberBack and HexOrder. -/
import Derived.Test.YtlpdendoibdceaaDoorPackC
import Derived.Test.YtlpdendoibdceaaDoorPackA
import Derived.Test.YtlpdendoibdceaaDoorCards
import Derived.Test.YtlpdendoibdceaaDoorTie
import Derived.WalkKit
import Derived.ProofKit
import Derived.OpenShut
import Derived.JoinedCond
import Derived.ChangeMaps5
import Derived.Deep.DeepHandedRow
import Derived.Lib.LaidTab
import Derived.Test.YtlpdendoibdceaaDoorPackB
import Derived.ShutString
import Derived.ChangeOld
import Derived.Lib.SmallJoins
import Derived.SizedLaws
import Derived.Laws.OwnMore
import Derived.Deep.Upon
namespace Go.Proofs.YtlpdendoibdceaaDoor
open Go.RowKit
set_option maxHeartbeats 400000 in
set_option maxRecDepth 100000 in
theorem nback_yes (a : Nat) (n : Nat) (N L : ByteArray) (w : World) (ka : ∀ w : World, Calls Tryd.prog 10 #[Wd a] w fun e w' => e = .returned (.string N) ∧ Below w.heap.size w w') (kb : ∀ w : World, Calls Tryd.prog 8 #[.string N] w fun e w' => e = .returned (.tuple #[Wd a, .int .i64 0]) ∧ Below w.heap.size w w')
    (kc : ∀ w : World, Calls Tryd.prog 8 #[.string L] w fun e w' => e = .returned (.tuple #[Wd n, .int .i64 0]) ∧ Below w.heap.size w w')
    (ky : ∀ w : World, Calls Tryd.prog 10 #[Wd n] w fun e w' => e = .returned (.string L) ∧ Below w.heap.size w w') :
    Calls Tryd.prog 6 #[Wd a, .string L] w fun e w' => e = .returned (.bool true) ∧ Below w.heap.size w w' := by
  have K0 : Hid (∀ w : World, Calls Tryd.prog 12 #[] w fun e w' => e = .returned (.bool true) ∧ Below w.heap.size w w') := alive4_any
  have KA : Hid _ := ka
  have KB : Hid _ := kb
  have KC : Hid _ := kc
  have KY : Hid _ := ky
  clear ky
  clear ka kb kc
  have m0 := Hm.new4 (g := w.heap.size) (n := a) (T := 24) (Hm.start w) (by simp)
  conv => arg 3; unfold Wd
  go_enter Tryd.func6, Tryd.ntmps6
  go_wp2_with fail
  generalize w.alloc (.cells #[.int .u64 (dg a 0), .int .u64 (dg a 1), .int .u64 (dg a 2), .int .u64 (dg a 3)] 24) = W0 at m0 ⊢
  refine (K0.out _).mono ?_
  rintro e w1 ⟨rfl, hb⟩
  have m1 := Hm.below m0 hb
  clear hb m0
  have c1 : ∀ o, o < 4 → w1.cell? ⟨w.heap.size, o, none⟩ = some (.int .u64 (dg a o)) := (m1.ok (Hm.W4 w.heap.size a) (by simp)).c
  go_wp2_with fail
  clear c1
  refine (KA.out _).mono ?_
  rintro e w2 ⟨rfl, hb⟩
  have m2 := Hm.below m1 hb
  clear hb m1
  go_wp2_with fail
  refine (KB.out _).mono ?_
  rintro e w3 ⟨rfl, hb⟩
  have m3 := Hm.new4 (g := w3.heap.size) (n := a) (T := 24) (Hm.below m2 hb) rfl
  clear hb m2
  unfold Wd
  go_upto_region 4 with fail
  generalize w3.alloc (.cells #[.int .u64 (dg a 0), .int .u64 (dg a 1), .int .u64 (dg a 2), .int .u64 (dg a 3)] 24) = W3 at m3 ⊢
  generalize w3.heap.size = h1 at *
  go_wp2_with fail
  refine (KC.out _).mono ?_
  rintro e w4 ⟨rfl, hb⟩
  have m4 := Hm.new4 (g := w4.heap.size) (n := n) (T := 24) (Hm.below m3 hb) rfl
  clear hb m3
  unfold Wd
  go_upto_region 5 with fail
  generalize w4.alloc (.cells #[.int .u64 (dg n 0), .int .u64 (dg n 1), .int .u64 (dg n 2), .int .u64 (dg n 3)] 24) = W5 at m4 ⊢
  generalize w4.heap.size = h2 at *
  have m5 := m4
  clear m4
  refine RS.wp_region_flat (Hm.Hd w [Hm.W4 h2 n, Hm.W4 h1 a, Hm.W4 w.heap.size a]) 27 (by kernel_rfl) (m5) ?_
  simp only [List.take_succ_cons, List.take_zero, List.drop_succ_cons, List.drop_zero]
  refine RS.go1 (v := ?_) (a' := ?_) rfl ?_ ?_ ?_
  rotate_left 2
  · intro K wx hS hK
    go_simp
    exact hK _ hS
  · simp only [Act.put, List.setIfInBounds_toArray, List.set_cons_succ, List.set_cons_zero]
    rfl
  refine RS.go1 (v := ?_) (a' := ?_) rfl ?_ ?_ ?_
  rotate_left 2
  · intro K wx hS hK
    go_simp
    exact hK _ hS
  · simp only [Act.put, List.setIfInBounds_toArray, List.set_cons_succ, List.set_cons_zero]
    rfl
  refine RS.go1 (v := ?_) (a' := ?_) rfl ?_ ?_ ?_
  rotate_left 2
  · intro K wx hS hK
    go_simp
    exact hK _ hS
  · simp only [Act.put, List.setIfInBounds_toArray, List.set_cons_succ, List.set_cons_zero]
    rfl
  refine RS.go1g (v := ?_) (a' := ?_) (by kernel_rfl) ?_ ?_ ?_
  rotate_left 2
  · intro K wx hS hK
    refine RW.ld rfl rfl (hS.ok (Hm.W4 (h1) (a)) (by simp)).c ?_
    exact hK _ hS
  · simp only [Act.put, List.setIfInBounds_toArray, List.set_cons_succ, List.set_cons_zero]
    rfl
  refine RS.go1g (v := ?_) (a' := ?_) (by kernel_rfl) ?_ ?_ ?_
  rotate_left 2
  · intro K wx hS hK
    refine RW.ld rfl rfl (hS.ok (Hm.W4 (w.heap.size) (a)) (by simp)).c ?_
    exact hK _ hS
  · simp only [Act.put, List.setIfInBounds_toArray, List.set_cons_succ, List.set_cons_zero]
    rfl
  refine RS.go1g (v := ?_) (a' := ?_) (by kernel_rfl) ?_ ?_ ?_
  rotate_left 2
  · intro K wx hS hK
    refine RW.eq (b := true) rfl rfl rfl (decide_eq_true rfl) ?_
    exact hK _ hS
  · simp only [Act.put, List.setIfInBounds_toArray, List.set_cons_succ, List.set_cons_zero]
    rfl
  refine RS.go1 (v := ?_) (a' := ?_) rfl ?_ ?_ ?_
  rotate_left 2
  · intro K wx hS hK
    go_simp
    exact hK _ hS
  · simp only [Act.put, List.setIfInBounds_toArray, List.set_cons_succ, List.set_cons_zero]
    rfl
  refine RS.go1 (v := ?_) (a' := ?_) rfl ?_ ?_ ?_
  rotate_left 2
  · intro K wx hS hK
    go_simp
    exact hK _ hS
  · simp only [Act.put, List.setIfInBounds_toArray, List.set_cons_succ, List.set_cons_zero]
    rfl
  refine RS.go1g (v := ?_) (a' := ?_) (by kernel_rfl) ?_ ?_ ?_
  rotate_left 2
  · intro K wx hS hK
    go_simp
    exact hK _ hS
  · simp only [Act.put, List.setIfInBounds_toArray, List.set_cons_succ, List.set_cons_zero]
    rfl
  refine RS.go1g (v := ?_) (a' := ?_) (by kernel_rfl) ?_ ?_ ?_
  rotate_left 2
  · intro K wx hS hK
    go_simp
    exact hK _ hS
  · simp only [Act.put, List.setIfInBounds_toArray, List.set_cons_succ, List.set_cons_zero]
    rfl
  refine RS.go1g (v := ?_) (a' := ?_) (by kernel_rfl) ?_ ?_ ?_
  rotate_left 2
  · intro K wx hS hK
    go_simp
    exact hK _ hS
  · simp only [Act.put, List.setIfInBounds_toArray, List.set_cons_succ, List.set_cons_zero]
    rfl
  refine RS.go1g (v := ?_) (a' := ?_) (by kernel_rfl) ?_ ?_ ?_
  rotate_left 2
  · intro K wx hS hK
    refine RW.ld rfl rfl (hS.ok (Hm.W4 (h2) (n)) (by simp)).c ?_
    exact hK _ hS
  · simp only [Act.put, List.setIfInBounds_toArray, List.set_cons_succ, List.set_cons_zero]
    rfl
  refine RS.go1g (v := ?_) (a' := ?_) (by kernel_rfl) ?_ ?_ ?_
  rotate_left 2
  · intro K wx hS hK
    go_simp
    refine (KY.out _).mono (fun e w2 he => ?_)
    refine ⟨_, he.1, ?_⟩
    exact hK _ (Hm.below hS he.2)
  · simp only [Act.put, List.setIfInBounds_toArray, List.set_cons_succ, List.set_cons_zero]
    rfl
  refine RS.go1g (v := ?_) (a' := ?_) (by kernel_rfl) ?_ ?_ ?_
  rotate_left 2
  · intro K wx hS hK
    go_simp
    exact hK _ hS
  · simp only [Act.put, List.setIfInBounds_toArray, List.set_cons_succ, List.set_cons_zero]
    rfl
  refine RS.go1g (v := ?_) (a' := ?_) (by kernel_rfl) ?_ ?_ ?_
  rotate_left 2
  · intro K wx hS hK
    go_simp
    exact hK _ hS
  · simp only [Act.put, List.setIfInBounds_toArray, List.set_cons_succ, List.set_cons_zero]
    rfl
  refine RS.go1g (v := ?_) (a' := ?_) (by kernel_rfl) ?_ ?_ ?_
  rotate_left 2
  · intro K wx hS hK
    go_simp
    exact hK _ hS
  · simp only [Act.put, List.setIfInBounds_toArray, List.set_cons_succ, List.set_cons_zero]
    rfl
  refine RS.go1g (v := ?_) (a' := ?_) (by kernel_rfl) ?_ ?_ ?_
  rotate_left 2
  · intro K wx hS hK
    go_simp
    exact hK _ hS
  · simp only [Act.put, List.setIfInBounds_toArray, List.set_cons_succ, List.set_cons_zero]
    rfl
  refine RS.go0 (a' := ?_) (by kernel_rfl) ?_ ?_
  rotate_left 1
  · simp only [Act.put, List.setIfInBounds_toArray, List.set_cons_succ, List.set_cons_zero]
    rfl
  refine RS.go0 (a' := ?_) (by kernel_rfl) ?_ ?_
  rotate_left 1
  · simp only [Act.put, List.setIfInBounds_toArray, List.set_cons_succ, List.set_cons_zero]
    rfl
  refine RS.go0 (a' := ?_) (by kernel_rfl) ?_ ?_
  rotate_left 1
  · simp only [Act.put, List.setIfInBounds_toArray, List.set_cons_succ, List.set_cons_zero]
    rfl
  refine RS.go0 (a' := ?_) (by kernel_rfl) ?_ ?_
  rotate_left 1
  · simp only [Act.put, List.setIfInBounds_toArray, List.set_cons_succ, List.set_cons_zero]
    rfl
  refine RS.go0 (a' := ?_) (by kernel_rfl) ?_ ?_
  rotate_left 1
  · simp only [Act.put, List.setIfInBounds_toArray, List.set_cons_succ, List.set_cons_zero]
    rfl
  refine RS.go0 (a' := ?_) (by kernel_rfl) ?_ ?_
  rotate_left 1
  · simp only [Act.put, List.setIfInBounds_toArray, List.set_cons_succ, List.set_cons_zero]
    rfl
  refine RS.go0 (a' := ?_) (by kernel_rfl) ?_ ?_
  rotate_left 1
  · simp only [Act.put, List.setIfInBounds_toArray, List.set_cons_succ, List.set_cons_zero]
    rfl
  refine RS.go1g (v := ?_) (a' := ?_) (by kernel_rfl) ?_ ?_ ?_
  rotate_left 2
  · intro K wx hS hK
    go_simp
    exact hK _ hS
  · simp only [Act.put, List.setIfInBounds_toArray, List.set_cons_succ, List.set_cons_zero]
    rfl
  refine RS.go1 (v := ?_) (a' := ?_) rfl ?_ ?_ ?_
  rotate_left 2
  · intro K wx hS hK
    go_simp
    exact hK _ hS
  · simp only [Act.put, List.setIfInBounds_toArray, List.set_cons_succ, List.set_cons_zero]
    rfl
  refine RS.go1 (v := ?_) (a' := ?_) rfl ?_ ?_ ?_
  rotate_left 2
  · intro K wx hS hK
    go_simp
    exact hK _ hS
  · simp only [Act.put, List.setIfInBounds_toArray, List.set_cons_succ, List.set_cons_zero]
    rfl
  refine RS.go_end ?_
  intro w6 m6
  have HB : Hid (Below w.heap.size w w6) := m6.bel
  clear m5 m6
  go_wp2_with fail
  go_ret
  exact ⟨rfl, HB.out⟩
set_option maxHeartbeats 400000 in
set_option maxRecDepth 100000 in
theorem nback_no (a : Nat) (N L : ByteArray) (w : World) (ka : ∀ w : World, Calls Tryd.prog 10 #[Wd a] w fun e w' => e = .returned (.string N) ∧ Below w.heap.size w w') (kb : ∀ w : World, Calls Tryd.prog 8 #[.string N] w fun e w' => e = .returned (.tuple #[Wd a, .int .i64 0]) ∧ Below w.heap.size w w')
    (kc : ∀ w : World, Calls Tryd.prog 8 #[.string L] w fun e w' => e = .returned (.tuple #[Wd 0, .int .i64 1]) ∧ Below w.heap.size w w') :
    Calls Tryd.prog 6 #[Wd a, .string L] w fun e w' => e = .returned (.bool true) ∧ Below w.heap.size w w' := by
  have K0 : Hid (∀ w : World, Calls Tryd.prog 12 #[] w fun e w' => e = .returned (.bool true) ∧ Below w.heap.size w w') := alive4_any
  have KA : Hid _ := ka
  have KB : Hid _ := kb
  have KC : Hid _ := kc
  clear ka kb kc
  have m0 := Hm.new4 (g := w.heap.size) (n := a) (T := 24) (Hm.start w) (by simp)
  conv => arg 3; unfold Wd
  go_enter Tryd.func6, Tryd.ntmps6
  go_wp2_with fail
  generalize w.alloc (.cells #[.int .u64 (dg a 0), .int .u64 (dg a 1), .int .u64 (dg a 2), .int .u64 (dg a 3)] 24) = W0 at m0 ⊢
  refine (K0.out _).mono ?_
  rintro e w1 ⟨rfl, hb⟩
  have m1 := Hm.below m0 hb
  clear hb m0
  have c1 : ∀ o, o < 4 → w1.cell? ⟨w.heap.size, o, none⟩ = some (.int .u64 (dg a o)) := (m1.ok (Hm.W4 w.heap.size a) (by simp)).c
  go_wp2_with fail
  clear c1
  refine (KA.out _).mono ?_
  rintro e w2 ⟨rfl, hb⟩
  have m2 := Hm.below m1 hb
  clear hb m1
  go_wp2_with fail
  refine (KB.out _).mono ?_
  rintro e w3 ⟨rfl, hb⟩
  have m3 := Hm.new4 (g := w3.heap.size) (n := a) (T := 24) (Hm.below m2 hb) rfl
  clear hb m2
  unfold Wd
  go_upto_region 4 with fail
  generalize w3.alloc (.cells #[.int .u64 (dg a 0), .int .u64 (dg a 1), .int .u64 (dg a 2), .int .u64 (dg a 3)] 24) = W3 at m3 ⊢
  generalize w3.heap.size = h1 at *
  go_wp2_with fail
  refine (KC.out _).mono ?_
  rintro e w4 ⟨rfl, hb⟩
  have m4 := Hm.new4 (g := w4.heap.size) (n := 0) (T := 24) (Hm.below m3 hb) rfl
  clear hb m3
  unfold Wd
  go_upto_region 5 with fail
  generalize w4.alloc (.cells #[.int .u64 (dg 0 0), .int .u64 (dg 0 1), .int .u64 (dg 0 2), .int .u64 (dg 0 3)] 24) = W5 at m4 ⊢
  generalize w4.heap.size = h2 at *
  have m5 := m4
  clear m4
  refine RS.wp_region_flat (Hm.Hd w [Hm.W4 h2 0, Hm.W4 h1 a, Hm.W4 w.heap.size a]) 27 (by kernel_rfl) (m5) ?_
  simp only [List.take_succ_cons, List.take_zero, List.drop_succ_cons, List.drop_zero]
  refine RS.go1 (v := ?_) (a' := ?_) rfl ?_ ?_ ?_
  rotate_left 2
  · intro K wx hS hK
    go_simp
    exact hK _ hS
  · simp only [Act.put, List.setIfInBounds_toArray, List.set_cons_succ, List.set_cons_zero]
    rfl
  refine RS.go1 (v := ?_) (a' := ?_) rfl ?_ ?_ ?_
  rotate_left 2
  · intro K wx hS hK
    go_simp
    exact hK _ hS
  · simp only [Act.put, List.setIfInBounds_toArray, List.set_cons_succ, List.set_cons_zero]
    rfl
  refine RS.go1 (v := ?_) (a' := ?_) rfl ?_ ?_ ?_
  rotate_left 2
  · intro K wx hS hK
    go_simp
    exact hK _ hS
  · simp only [Act.put, List.setIfInBounds_toArray, List.set_cons_succ, List.set_cons_zero]
    rfl
  refine RS.go1g (v := ?_) (a' := ?_) (by kernel_rfl) ?_ ?_ ?_
  rotate_left 2
  · intro K wx hS hK
    refine RW.ld rfl rfl (hS.ok (Hm.W4 (h1) (a)) (by simp)).c ?_
    exact hK _ hS
  · simp only [Act.put, List.setIfInBounds_toArray, List.set_cons_succ, List.set_cons_zero]
    rfl
  refine RS.go1g (v := ?_) (a' := ?_) (by kernel_rfl) ?_ ?_ ?_
  rotate_left 2
  · intro K wx hS hK
    refine RW.ld rfl rfl (hS.ok (Hm.W4 (w.heap.size) (a)) (by simp)).c ?_
    exact hK _ hS
  · simp only [Act.put, List.setIfInBounds_toArray, List.set_cons_succ, List.set_cons_zero]
    rfl
  refine RS.go1g (v := ?_) (a' := ?_) (by kernel_rfl) ?_ ?_ ?_
  rotate_left 2
  · intro K wx hS hK
    refine RW.eq (b := true) rfl rfl rfl (decide_eq_true rfl) ?_
    exact hK _ hS
  · simp only [Act.put, List.setIfInBounds_toArray, List.set_cons_succ, List.set_cons_zero]
    rfl
  refine RS.go1 (v := ?_) (a' := ?_) rfl ?_ ?_ ?_
  rotate_left 2
  · intro K wx hS hK
    go_simp
    exact hK _ hS
  · simp only [Act.put, List.setIfInBounds_toArray, List.set_cons_succ, List.set_cons_zero]
    rfl
  refine RS.go1 (v := ?_) (a' := ?_) rfl ?_ ?_ ?_
  rotate_left 2
  · intro K wx hS hK
    go_simp
    exact hK _ hS
  · simp only [Act.put, List.setIfInBounds_toArray, List.set_cons_succ, List.set_cons_zero]
    rfl
  refine RS.go1g (v := ?_) (a' := ?_) (by kernel_rfl) ?_ ?_ ?_
  rotate_left 2
  · intro K wx hS hK
    go_simp
    exact hK _ hS
  · simp only [Act.put, List.setIfInBounds_toArray, List.set_cons_succ, List.set_cons_zero]
    rfl
  refine RS.go1g (v := ?_) (a' := ?_) (by kernel_rfl) ?_ ?_ ?_
  rotate_left 2
  · intro K wx hS hK
    go_simp
    exact hK _ hS
  · simp only [Act.put, List.setIfInBounds_toArray, List.set_cons_succ, List.set_cons_zero]
    rfl
  refine RS.go1g (v := ?_) (a' := ?_) (by kernel_rfl) ?_ ?_ ?_
  rotate_left 2
  · intro K wx hS hK
    go_simp
    exact hK _ hS
  · simp only [Act.put, List.setIfInBounds_toArray, List.set_cons_succ, List.set_cons_zero]
    rfl
  refine RS.go0 (a' := ?_) (by kernel_rfl) ?_ ?_
  rotate_left 1
  · simp only [Act.put, List.setIfInBounds_toArray, List.set_cons_succ, List.set_cons_zero]
    rfl
  refine RS.go0 (a' := ?_) (by kernel_rfl) ?_ ?_
  rotate_left 1
  · simp only [Act.put, List.setIfInBounds_toArray, List.set_cons_succ, List.set_cons_zero]
    rfl
  refine RS.go0 (a' := ?_) (by kernel_rfl) ?_ ?_
  rotate_left 1
  · simp only [Act.put, List.setIfInBounds_toArray, List.set_cons_succ, List.set_cons_zero]
    rfl
  refine RS.go0 (a' := ?_) (by kernel_rfl) ?_ ?_
  rotate_left 1
  · simp only [Act.put, List.setIfInBounds_toArray, List.set_cons_succ, List.set_cons_zero]
    rfl
  refine RS.go1g (v := ?_) (a' := ?_) (by kernel_rfl) ?_ ?_ ?_
  rotate_left 2
  · intro K wx hS hK
    go_simp
    exact hK _ hS
  · simp only [Act.put, List.setIfInBounds_toArray, List.set_cons_succ, List.set_cons_zero]
    rfl
  refine RS.go1g (v := ?_) (a' := ?_) (by kernel_rfl) ?_ ?_ ?_
  rotate_left 2
  · intro K wx hS hK
    go_simp
    exact hK _ hS
  · simp only [Act.put, List.setIfInBounds_toArray, List.set_cons_succ, List.set_cons_zero]
    rfl
  refine RS.go1g (v := ?_) (a' := ?_) (by kernel_rfl) ?_ ?_ ?_
  rotate_left 2
  · intro K wx hS hK
    go_simp
    exact hK _ hS
  · simp only [Act.put, List.setIfInBounds_toArray, List.set_cons_succ, List.set_cons_zero]
    rfl
  refine RS.go1g (v := ?_) (a' := ?_) (by kernel_rfl) ?_ ?_ ?_
  rotate_left 2
  · intro K wx hS hK
    go_simp
    exact hK _ hS
  · simp only [Act.put, List.setIfInBounds_toArray, List.set_cons_succ, List.set_cons_zero]
    rfl
  refine RS.go1g (v := ?_) (a' := ?_) (by kernel_rfl) ?_ ?_ ?_
  rotate_left 2
  · intro K wx hS hK
    go_simp
    exact hK _ hS
  · simp only [Act.put, List.setIfInBounds_toArray, List.set_cons_succ, List.set_cons_zero]
    rfl
  refine RS.go1g (v := ?_) (a' := ?_) (by kernel_rfl) ?_ ?_ ?_
  rotate_left 2
  · intro K wx hS hK
    refine RW.ld rfl rfl (hS.ok (Hm.W4 (h2) (0)) (by simp)).c ?_
    exact hK _ hS
  · simp only [Act.put, List.setIfInBounds_toArray, List.set_cons_succ, List.set_cons_zero]
    rfl
  refine RS.go1g (v := ?_) (a' := ?_) (by kernel_rfl) ?_ ?_ ?_
  rotate_left 2
  · intro K wx hS hK
    go_simp
    exact hK _ hS
  · simp only [Act.put, List.setIfInBounds_toArray, List.set_cons_succ, List.set_cons_zero]
    rfl
  refine RS.go1g (v := ?_) (a' := ?_) (by kernel_rfl) ?_ ?_ ?_
  rotate_left 2
  · intro K wx hS hK
    refine RW.eq (b := true) (x := 0) (y := 0) rfl rfl rfl (decide_eq_true rfl) ?_
    exact hK _ hS
  · simp only [Act.put, List.setIfInBounds_toArray, List.set_cons_succ, List.set_cons_zero]
    rfl
  refine RS.go1g (v := ?_) (a' := ?_) (by kernel_rfl) ?_ ?_ ?_
  rotate_left 2
  · intro K wx hS hK
    go_simp
    exact hK _ hS
  · simp only [Act.put, List.setIfInBounds_toArray, List.set_cons_succ, List.set_cons_zero]
    rfl
  refine RS.go1g (v := ?_) (a' := ?_) (by kernel_rfl) ?_ ?_ ?_
  rotate_left 2
  · intro K wx hS hK
    go_simp
    exact hK _ hS
  · simp only [Act.put, List.setIfInBounds_toArray, List.set_cons_succ, List.set_cons_zero]
    rfl
  refine RS.go1 (v := ?_) (a' := ?_) rfl ?_ ?_ ?_
  rotate_left 2
  · intro K wx hS hK
    go_simp
    exact hK _ hS
  · simp only [Act.put, List.setIfInBounds_toArray, List.set_cons_succ, List.set_cons_zero]
    rfl
  refine RS.go1 (v := ?_) (a' := ?_) rfl ?_ ?_ ?_
  rotate_left 2
  · intro K wx hS hK
    go_simp
    exact hK _ hS
  · simp only [Act.put, List.setIfInBounds_toArray, List.set_cons_succ, List.set_cons_zero]
    rfl
  refine RS.go_end ?_
  intro w6 m6
  have HB : Hid (Below w.heap.size w w6) := m6.bel
  clear m5 m6
  go_wp2_with fail
  go_ret
  exact ⟨rfl, HB.out⟩
theorem take_drop2 (l : List UInt8) (h : l.take 2 = [48, 120]) : 48 :: 120 :: l.drop 2 = l := by
  have := List.take_append_drop 2 l
  rw [h] at this
  exact this
theorem drop_two (x : List UInt8) : (48 :: 120 :: x).drop 2 = x := by rw [List.drop_succ_cons, List.drop_succ_cons, List.drop_zero]
theorem take_two' (x : List UInt8) : (48 :: 120 :: x).take 2 = [48, 120] := by rw [List.take_succ_cons, List.take_succ_cons, List.take_zero]
theorem pn_nw (a : Nat) : Pn (48 :: 120 :: nw a) := by
  unfold Pn
  rw [drop_two]
  exact ⟨take_two' _, nw_len a, nw_cn a⟩
theorem law_nback (a : Nat) (ha : a < 2 ^ 256) (l : List UInt8) (w : World) :
    Calls Tryd.prog 6 #[Wd a, .string ⟨l.toArray⟩] w fun e w' => e = .returned (.bool true) ∧ Below w.heap.size w w' := by
  have kb : ∀ w : World, Calls Tryd.prog 8 #[.string ⟨(48 :: 120 :: nw a).toArray⟩] w fun e w' => e = .returned (.tuple #[Wd a, .int .i64 0]) ∧ Below w.heap.size w w' := fun w => (pnum_any (48 :: 120 :: nw a) w).mono fun e w' he => by
    obtain ⟨c, n, he, ⟨_, hc, hn⟩ | ⟨hp, _⟩, hB⟩ := he
    · rw [drop_two, nw_hv a ha] at hn
      subst hc hn
      exact ⟨he, hB⟩
    · exact absurd (pn_nw a) hp
  by_cases hp : Pn l
  · refine nback_yes a (hv 0 (l.drop 2)) _ _ w (number_any a) kb (fun w => (pnum_any l w).mono fun e w' he => ?_) (fun w => ?_)
    · obtain ⟨c, n, he, ⟨_, hc, hn⟩ | ⟨hq, _⟩, hB⟩ := he
      · subst hc hn
        exact ⟨he, hB⟩
      · exact absurd hp hq
    · have k := number_any (hv 0 (l.drop 2)) w
      rw [nw_back _ hp.2.2 hp.2.1, take_drop2 l hp.1] at k
      exact k
  · refine nback_no a _ _ w (number_any a) kb (fun w => (pnum_any l w).mono fun e w' he => ?_)
    obtain ⟨c, n, he, ⟨hq, _⟩ | ⟨_, hc, hn⟩, hB⟩ := he
    · exact absurd hq hp
    · subst hc hn
      exact ⟨he, hB⟩
set_option maxHeartbeats 400000 in
set_option maxRecDepth 100000 in
theorem order_a (a b : Nat) (c : Int) (X Y : ByteArray) (w : World) (ka : ∀ w : World, Calls Tryd.prog 10 #[Wd a] w fun e w' => e = .returned (.string X) ∧ Below w.heap.size w w') (kb : ∀ w : World, Calls Tryd.prog 10 #[Wd b] w fun e w' => e = .returned (.string Y) ∧ Below w.heap.size w w')
    (kc : ∀ w : World, Calls Tryd.prog 15 #[Wd a, Wd b] w fun e w' => e = .returned (.int .i64 c) ∧ Below w.heap.size w w') (HC : Hid (c < 0)) (HS : Hid ((X.size : Int) < (Y.size : Int))) :
    Calls Tryd.prog 7 #[Wd a, Wd b] w fun e w' => e = .returned (.bool true) ∧ Below w.heap.size w w' := by
  have K0 : Hid (∀ w : World, Calls Tryd.prog 12 #[] w fun e w' => e = .returned (.bool true) ∧ Below w.heap.size w w') := alive4_any
  have KA : Hid _ := ka
  have KB : Hid _ := kb
  have KC : Hid _ := kc
  clear ka kb kc
  have m0 := Hm.new4 (g := w.heap.size + 1) (n := b) (T := 24) (Hm.new4 (g := w.heap.size) (n := a) (T := 24) (Hm.start w) (by simp)) (by simp)
  conv => arg 3; unfold Wd
  go_enter Tryd.func7, Tryd.ntmps7
  go_wp2_with fail
  generalize (w.alloc (.cells #[.int .u64 (dg a 0), .int .u64 (dg a 1), .int .u64 (dg a 2), .int .u64 (dg a 3)] 24)).alloc (.cells #[.int .u64 (dg b 0), .int .u64 (dg b 1), .int .u64 (dg b 2), .int .u64 (dg b 3)] 24) = W0 at m0 ⊢
  refine (K0.out _).mono ?_
  rintro e w1 ⟨rfl, hb⟩
  have m1 := Hm.below m0 hb
  clear hb m0
  go_upto_region 3 with fail
  refine RS.wp_region_one (Hm.Hd w [Hm.W4 (w.heap.size + 1) b, Hm.W4 w.heap.size a]) (by kernel_rfl) (by kernel_rfl) (Hm.drew m1) ?_
  dsimp only [List.toList_toArray]
  refine RS.go1 (v := ?_) (a' := ?_) rfl ?_ ?_ ?_
  rotate_left 2
  · intro K wx hS hK
    refine RW.ld rfl rfl (hS.ok (Hm.W4 (w.heap.size) (a)) (by simp)).c ?_
    exact hK _ hS
  · simp only [Act.put, List.setIfInBounds_toArray, List.set_cons_succ, List.set_cons_zero]
    rfl
  refine RS.go1 (v := ?_) (a' := ?_) rfl ?_ ?_ ?_
  rotate_left 2
  · intro K wx hS hK
    go_simp
    refine (KA.out _).mono (fun e w2 he => ?_)
    refine ⟨_, he.1, ?_⟩
    exact hK _ (Hm.below hS he.2)
  · simp only [Act.put, List.setIfInBounds_toArray, List.set_cons_succ, List.set_cons_zero]
    rfl
  refine RS.go1 (v := ?_) (a' := ?_) rfl ?_ ?_ ?_
  rotate_left 2
  · intro K wx hS hK
    refine RW.ld rfl rfl (hS.ok (Hm.W4 (w.heap.size + 1) (b)) (by simp)).c ?_
    exact hK _ hS
  · simp only [Act.put, List.setIfInBounds_toArray, List.set_cons_succ, List.set_cons_zero]
    rfl
  refine RS.go1 (v := ?_) (a' := ?_) rfl ?_ ?_ ?_
  rotate_left 2
  · intro K wx hS hK
    go_simp
    refine (KB.out _).mono (fun e w2 he => ?_)
    refine ⟨_, he.1, ?_⟩
    exact hK _ (Hm.below hS he.2)
  · simp only [Act.put, List.setIfInBounds_toArray, List.set_cons_succ, List.set_cons_zero]
    rfl
  refine RS.go1 (v := ?_) (a' := ?_) rfl ?_ ?_ ?_
  rotate_left 2
  · intro K wx hS hK
    go_simp
    exact hK _ hS
  · simp only [Act.put, List.setIfInBounds_toArray, List.set_cons_succ, List.set_cons_zero]
    rfl
  refine RS.go1 (v := ?_) (a' := ?_) rfl ?_ ?_ ?_
  rotate_left 2
  · intro K wx hS hK
    go_simp
    exact hK _ hS
  · simp only [Act.put, List.setIfInBounds_toArray, List.set_cons_succ, List.set_cons_zero]
    rfl
  refine RS.go_end ?_
  intro w3 m3
  clear m1
  go_upto_region 4 with fail
  refine RS.wp_region_flat (Hm.Hd w [Hm.W4 (w.heap.size + 1) b, Hm.W4 w.heap.size a]) 23 (by kernel_rfl) (m3) ?_
  simp only [List.take_succ_cons, List.take_zero, List.drop_succ_cons, List.drop_zero]
  refine RS.go1 (v := ?_) (a' := ?_) rfl ?_ ?_ ?_
  rotate_left 2
  · intro K wx hS hK
    refine RW.ld rfl rfl (hS.ok (Hm.W4 (w.heap.size) (a)) (by simp)).c ?_
    exact hK _ hS
  · simp only [Act.put, List.setIfInBounds_toArray, List.set_cons_succ, List.set_cons_zero]
    rfl
  refine RS.go1 (v := ?_) (a' := ?_) rfl ?_ ?_ ?_
  rotate_left 2
  · intro K wx hS hK
    refine RW.ld rfl rfl (hS.ok (Hm.W4 (w.heap.size + 1) (b)) (by simp)).c ?_
    exact hK _ hS
  · simp only [Act.put, List.setIfInBounds_toArray, List.set_cons_succ, List.set_cons_zero]
    rfl
  refine RS.go1 (v := ?_) (a' := ?_) rfl ?_ ?_ ?_
  rotate_left 2
  · intro K wx hS hK
    go_simp
    refine (KC.out _).mono (fun e w2 he => ?_)
    refine ⟨_, he.1, ?_⟩
    exact hK _ (Hm.below hS he.2)
  · simp only [Act.put, List.setIfInBounds_toArray, List.set_cons_succ, List.set_cons_zero]
    rfl
  refine RS.go1 (v := ?_) (a' := ?_) rfl ?_ ?_ ?_
  rotate_left 2
  · intro K wx hS hK
    have hq := HC.out
    go_simp
    exact hK _ hS
  · simp only [Act.put, List.setIfInBounds_toArray, List.set_cons_succ, List.set_cons_zero]
    rfl
  refine RS.go1 (v := ?_) (a' := ?_) rfl ?_ ?_ ?_
  rotate_left 2
  · intro K wx hS hK
    go_simp
    exact hK _ hS
  · simp only [Act.put, List.setIfInBounds_toArray, List.set_cons_succ, List.set_cons_zero]
    rfl
  refine RS.go1 (v := ?_) (a' := ?_) rfl ?_ ?_ ?_
  rotate_left 2
  · intro K wx hS hK
    go_simp
    exact hK _ hS
  · simp only [Act.put, List.setIfInBounds_toArray, List.set_cons_succ, List.set_cons_zero]
    rfl
  refine RS.go1 (v := ?_) (a' := ?_) rfl ?_ ?_ ?_
  rotate_left 2
  · intro K wx hS hK
    go_simp
    exact hK _ hS
  · simp only [Act.put, List.setIfInBounds_toArray, List.set_cons_succ, List.set_cons_zero]
    rfl
  refine RS.go1 (v := ?_) (a' := ?_) rfl ?_ ?_ ?_
  rotate_left 2
  · intro K wx hS hK
    go_simp
    exact hK _ hS
  · simp only [Act.put, List.setIfInBounds_toArray, List.set_cons_succ, List.set_cons_zero]
    rfl
  refine RS.go1 (v := ?_) (a' := ?_) rfl ?_ ?_ ?_
  rotate_left 2
  · intro K wx hS hK
    have hq := HS.out
    go_simp
    exact hK _ hS
  · simp only [Act.put, List.setIfInBounds_toArray, List.set_cons_succ, List.set_cons_zero]
    rfl
  refine RS.go1 (v := ?_) (a' := ?_) rfl ?_ ?_ ?_
  rotate_left 2
  · intro K wx hS hK
    go_simp
    exact hK _ hS
  · simp only [Act.put, List.setIfInBounds_toArray, List.set_cons_succ, List.set_cons_zero]
    rfl
  refine RS.go0 (a' := ?_) (by kernel_rfl) ?_ ?_
  rotate_left 1
  · simp only [Act.put, List.setIfInBounds_toArray, List.set_cons_succ, List.set_cons_zero]
    rfl
  refine RS.go0 (a' := ?_) (by kernel_rfl) ?_ ?_
  rotate_left 1
  · simp only [Act.put, List.setIfInBounds_toArray, List.set_cons_succ, List.set_cons_zero]
    rfl
  refine RS.go0 (a' := ?_) (by kernel_rfl) ?_ ?_
  rotate_left 1
  · simp only [Act.put, List.setIfInBounds_toArray, List.set_cons_succ, List.set_cons_zero]
    rfl
  refine RS.go0 (a' := ?_) (by kernel_rfl) ?_ ?_
  rotate_left 1
  · simp only [Act.put, List.setIfInBounds_toArray, List.set_cons_succ, List.set_cons_zero]
    rfl
  refine RS.go0 (a' := ?_) (by kernel_rfl) ?_ ?_
  rotate_left 1
  · simp only [Act.put, List.setIfInBounds_toArray, List.set_cons_succ, List.set_cons_zero]
    rfl
  refine RS.go0 (a' := ?_) (by kernel_rfl) ?_ ?_
  rotate_left 1
  · simp only [Act.put, List.setIfInBounds_toArray, List.set_cons_succ, List.set_cons_zero]
    rfl
  refine RS.go0 (a' := ?_) (by kernel_rfl) ?_ ?_
  rotate_left 1
  · simp only [Act.put, List.setIfInBounds_toArray, List.set_cons_succ, List.set_cons_zero]
    rfl
  refine RS.go0 (a' := ?_) (by kernel_rfl) ?_ ?_
  rotate_left 1
  · simp only [Act.put, List.setIfInBounds_toArray, List.set_cons_succ, List.set_cons_zero]
    rfl
  refine RS.go0 (a' := ?_) (by kernel_rfl) ?_ ?_
  rotate_left 1
  · simp only [Act.put, List.setIfInBounds_toArray, List.set_cons_succ, List.set_cons_zero]
    rfl
  refine RS.go0 (a' := ?_) (by kernel_rfl) ?_ ?_
  rotate_left 1
  · simp only [Act.put, List.setIfInBounds_toArray, List.set_cons_succ, List.set_cons_zero]
    rfl
  refine RS.go1 (v := ?_) (a' := ?_) rfl ?_ ?_ ?_
  rotate_left 2
  · intro K wx hS hK
    go_simp
    exact hK _ hS
  · simp only [Act.put, List.setIfInBounds_toArray, List.set_cons_succ, List.set_cons_zero]
    rfl
  refine RS.go1 (v := ?_) (a' := ?_) rfl ?_ ?_ ?_
  rotate_left 2
  · intro K wx hS hK
    go_simp
    exact hK _ hS
  · simp only [Act.put, List.setIfInBounds_toArray, List.set_cons_succ, List.set_cons_zero]
    rfl
  refine RS.go1 (v := ?_) (a' := ?_) rfl ?_ ?_ ?_
  rotate_left 2
  · intro K wx hS hK
    go_simp
    exact hK _ hS
  · simp only [Act.put, List.setIfInBounds_toArray, List.set_cons_succ, List.set_cons_zero]
    rfl
  refine RS.go_end ?_
  intro w6 m6
  have HB : Hid (Below w.heap.size w w6) := m6.bel
  clear m3 m6
  go_wp2_with fail
  go_ret
  exact ⟨rfl, HB.out⟩
set_option maxHeartbeats 400000 in
set_option maxRecDepth 100000 in
theorem order_b (a b : Nat) (c : Int) (X Y : ByteArray) (w : World) (ka : ∀ w : World, Calls Tryd.prog 10 #[Wd a] w fun e w' => e = .returned (.string X) ∧ Below w.heap.size w w') (kb : ∀ w : World, Calls Tryd.prog 10 #[Wd b] w fun e w' => e = .returned (.string Y) ∧ Below w.heap.size w w')
    (kc : ∀ w : World, Calls Tryd.prog 15 #[Wd a, Wd b] w fun e w' => e = .returned (.int .i64 c) ∧ Below w.heap.size w w') (HC : Hid (c < 0)) (HS : Hid ((X.size : Int) = (Y.size : Int))) (HL : Hid (Op.bytesLess X.toList Y.toList = true)) :
    Calls Tryd.prog 7 #[Wd a, Wd b] w fun e w' => e = .returned (.bool true) ∧ Below w.heap.size w w' := by
  have K0 : Hid (∀ w : World, Calls Tryd.prog 12 #[] w fun e w' => e = .returned (.bool true) ∧ Below w.heap.size w w') := alive4_any
  have KA : Hid _ := ka
  have KB : Hid _ := kb
  have KC : Hid _ := kc
  clear ka kb kc
  have m0 := Hm.new4 (g := w.heap.size + 1) (n := b) (T := 24) (Hm.new4 (g := w.heap.size) (n := a) (T := 24) (Hm.start w) (by simp)) (by simp)
  conv => arg 3; unfold Wd
  go_enter Tryd.func7, Tryd.ntmps7
  go_wp2_with fail
  generalize (w.alloc (.cells #[.int .u64 (dg a 0), .int .u64 (dg a 1), .int .u64 (dg a 2), .int .u64 (dg a 3)] 24)).alloc (.cells #[.int .u64 (dg b 0), .int .u64 (dg b 1), .int .u64 (dg b 2), .int .u64 (dg b 3)] 24) = W0 at m0 ⊢
  refine (K0.out _).mono ?_
  rintro e w1 ⟨rfl, hb⟩
  have m1 := Hm.below m0 hb
  clear hb m0
  go_upto_region 3 with fail
  refine RS.wp_region_one (Hm.Hd w [Hm.W4 (w.heap.size + 1) b, Hm.W4 w.heap.size a]) (by kernel_rfl) (by kernel_rfl) (Hm.drew m1) ?_
  dsimp only [List.toList_toArray]
  refine RS.go1 (v := ?_) (a' := ?_) rfl ?_ ?_ ?_
  rotate_left 2
  · intro K wx hS hK
    refine RW.ld rfl rfl (hS.ok (Hm.W4 (w.heap.size) (a)) (by simp)).c ?_
    exact hK _ hS
  · simp only [Act.put, List.setIfInBounds_toArray, List.set_cons_succ, List.set_cons_zero]
    rfl
  refine RS.go1 (v := ?_) (a' := ?_) rfl ?_ ?_ ?_
  rotate_left 2
  · intro K wx hS hK
    go_simp
    refine (KA.out _).mono (fun e w2 he => ?_)
    refine ⟨_, he.1, ?_⟩
    exact hK _ (Hm.below hS he.2)
  · simp only [Act.put, List.setIfInBounds_toArray, List.set_cons_succ, List.set_cons_zero]
    rfl
  refine RS.go1 (v := ?_) (a' := ?_) rfl ?_ ?_ ?_
  rotate_left 2
  · intro K wx hS hK
    refine RW.ld rfl rfl (hS.ok (Hm.W4 (w.heap.size + 1) (b)) (by simp)).c ?_
    exact hK _ hS
  · simp only [Act.put, List.setIfInBounds_toArray, List.set_cons_succ, List.set_cons_zero]
    rfl
  refine RS.go1 (v := ?_) (a' := ?_) rfl ?_ ?_ ?_
  rotate_left 2
  · intro K wx hS hK
    go_simp
    refine (KB.out _).mono (fun e w2 he => ?_)
    refine ⟨_, he.1, ?_⟩
    exact hK _ (Hm.below hS he.2)
  · simp only [Act.put, List.setIfInBounds_toArray, List.set_cons_succ, List.set_cons_zero]
    rfl
  refine RS.go1 (v := ?_) (a' := ?_) rfl ?_ ?_ ?_
  rotate_left 2
  · intro K wx hS hK
    go_simp
    exact hK _ hS
  · simp only [Act.put, List.setIfInBounds_toArray, List.set_cons_succ, List.set_cons_zero]
    rfl
  refine RS.go1 (v := ?_) (a' := ?_) rfl ?_ ?_ ?_
  rotate_left 2
  · intro K wx hS hK
    go_simp
    exact hK _ hS
  · simp only [Act.put, List.setIfInBounds_toArray, List.set_cons_succ, List.set_cons_zero]
    rfl
  refine RS.go_end ?_
  intro w3 m3
  clear m1
  go_upto_region 4 with fail
  refine RS.wp_region_flat (Hm.Hd w [Hm.W4 (w.heap.size + 1) b, Hm.W4 w.heap.size a]) 23 (by kernel_rfl) (m3) ?_
  simp only [List.take_succ_cons, List.take_zero, List.drop_succ_cons, List.drop_zero]
  refine RS.go1 (v := ?_) (a' := ?_) rfl ?_ ?_ ?_
  rotate_left 2
  · intro K wx hS hK
    refine RW.ld rfl rfl (hS.ok (Hm.W4 (w.heap.size) (a)) (by simp)).c ?_
    exact hK _ hS
  · simp only [Act.put, List.setIfInBounds_toArray, List.set_cons_succ, List.set_cons_zero]
    rfl
  refine RS.go1 (v := ?_) (a' := ?_) rfl ?_ ?_ ?_
  rotate_left 2
  · intro K wx hS hK
    refine RW.ld rfl rfl (hS.ok (Hm.W4 (w.heap.size + 1) (b)) (by simp)).c ?_
    exact hK _ hS
  · simp only [Act.put, List.setIfInBounds_toArray, List.set_cons_succ, List.set_cons_zero]
    rfl
  refine RS.go1 (v := ?_) (a' := ?_) rfl ?_ ?_ ?_
  rotate_left 2
  · intro K wx hS hK
    go_simp
    refine (KC.out _).mono (fun e w2 he => ?_)
    refine ⟨_, he.1, ?_⟩
    exact hK _ (Hm.below hS he.2)
  · simp only [Act.put, List.setIfInBounds_toArray, List.set_cons_succ, List.set_cons_zero]
    rfl
  refine RS.go1 (v := ?_) (a' := ?_) rfl ?_ ?_ ?_
  rotate_left 2
  · intro K wx hS hK
    have hq := HC.out
    go_simp
    exact hK _ hS
  · simp only [Act.put, List.setIfInBounds_toArray, List.set_cons_succ, List.set_cons_zero]
    rfl
  refine RS.go1 (v := ?_) (a' := ?_) rfl ?_ ?_ ?_
  rotate_left 2
  · intro K wx hS hK
    go_simp
    exact hK _ hS
  · simp only [Act.put, List.setIfInBounds_toArray, List.set_cons_succ, List.set_cons_zero]
    rfl
  refine RS.go1 (v := ?_) (a' := ?_) rfl ?_ ?_ ?_
  rotate_left 2
  · intro K wx hS hK
    go_simp
    exact hK _ hS
  · simp only [Act.put, List.setIfInBounds_toArray, List.set_cons_succ, List.set_cons_zero]
    rfl
  refine RS.go1 (v := ?_) (a' := ?_) rfl ?_ ?_ ?_
  rotate_left 2
  · intro K wx hS hK
    go_simp
    exact hK _ hS
  · simp only [Act.put, List.setIfInBounds_toArray, List.set_cons_succ, List.set_cons_zero]
    rfl
  refine RS.go1 (v := ?_) (a' := ?_) rfl ?_ ?_ ?_
  rotate_left 2
  · intro K wx hS hK
    go_simp
    exact hK _ hS
  · simp only [Act.put, List.setIfInBounds_toArray, List.set_cons_succ, List.set_cons_zero]
    rfl
  refine RS.go1 (v := ?_) (a' := ?_) rfl ?_ ?_ ?_
  rotate_left 2
  · intro K wx hS hK
    have hq := HS.out
    go_simp
    exact hK _ hS
  · simp only [Act.put, List.setIfInBounds_toArray, List.set_cons_succ, List.set_cons_zero]
    rfl
  refine RS.go1 (v := ?_) (a' := ?_) rfl ?_ ?_ ?_
  rotate_left 2
  · intro K wx hS hK
    go_simp
    exact hK _ hS
  · simp only [Act.put, List.setIfInBounds_toArray, List.set_cons_succ, List.set_cons_zero]
    rfl
  refine RS.go1g (v := ?_) (a' := ?_) (by kernel_rfl) ?_ ?_ ?_
  rotate_left 2
  · intro K wx hS hK
    go_simp
    exact hK _ hS
  · simp only [Act.put, List.setIfInBounds_toArray, List.set_cons_succ, List.set_cons_zero]
    rfl
  refine RS.go1g (v := ?_) (a' := ?_) (by kernel_rfl) ?_ ?_ ?_
  rotate_left 2
  · intro K wx hS hK
    go_simp
    exact hK _ hS
  · simp only [Act.put, List.setIfInBounds_toArray, List.set_cons_succ, List.set_cons_zero]
    rfl
  refine RS.go1g (v := ?_) (a' := ?_) (by kernel_rfl) ?_ ?_ ?_
  rotate_left 2
  · intro K wx hS hK
    go_simp
    exact hK _ hS
  · simp only [Act.put, List.setIfInBounds_toArray, List.set_cons_succ, List.set_cons_zero]
    rfl
  refine RS.go1g (v := ?_) (a' := ?_) (by kernel_rfl) ?_ ?_ ?_
  rotate_left 2
  · intro K wx hS hK
    go_simp
    exact hK _ hS
  · simp only [Act.put, List.setIfInBounds_toArray, List.set_cons_succ, List.set_cons_zero]
    rfl
  refine RS.go1g (v := ?_) (a' := ?_) (by kernel_rfl) ?_ ?_ ?_
  rotate_left 2
  · intro K wx hS hK
    have hq := HS.out
    go_simp
    exact hK _ hS
  · simp only [Act.put, List.setIfInBounds_toArray, List.set_cons_succ, List.set_cons_zero]
    rfl
  refine RS.go1g (v := ?_) (a' := ?_) (by kernel_rfl) ?_ ?_ ?_
  rotate_left 2
  · intro K wx hS hK
    go_simp
    exact hK _ hS
  · simp only [Act.put, List.setIfInBounds_toArray, List.set_cons_succ, List.set_cons_zero]
    rfl
  refine RS.go1g (v := ?_) (a' := ?_) (by kernel_rfl) ?_ ?_ ?_
  rotate_left 2
  · intro K wx hS hK
    go_simp
    exact hK _ hS
  · simp only [Act.put, List.setIfInBounds_toArray, List.set_cons_succ, List.set_cons_zero]
    rfl
  refine RS.go1g (v := ?_) (a' := ?_) (by kernel_rfl) ?_ ?_ ?_
  rotate_left 2
  · intro K wx hS hK
    go_simp
    exact hK _ hS
  · simp only [Act.put, List.setIfInBounds_toArray, List.set_cons_succ, List.set_cons_zero]
    rfl
  refine RS.go1g (v := ?_) (a' := ?_) (by kernel_rfl) ?_ ?_ ?_
  rotate_left 2
  · intro K wx hS hK
    have hq := HL.out
    go_simp
    exact hK _ hS
  · simp only [Act.put, List.setIfInBounds_toArray, List.set_cons_succ, List.set_cons_zero]
    rfl
  refine RS.go1g (v := ?_) (a' := ?_) (by kernel_rfl) ?_ ?_ ?_
  rotate_left 2
  · intro K wx hS hK
    go_simp
    exact hK _ hS
  · simp only [Act.put, List.setIfInBounds_toArray, List.set_cons_succ, List.set_cons_zero]
    rfl
  refine RS.go1 (v := ?_) (a' := ?_) rfl ?_ ?_ ?_
  rotate_left 2
  · intro K wx hS hK
    go_simp
    exact hK _ hS
  · simp only [Act.put, List.setIfInBounds_toArray, List.set_cons_succ, List.set_cons_zero]
    rfl
  refine RS.go1 (v := ?_) (a' := ?_) rfl ?_ ?_ ?_
  rotate_left 2
  · intro K wx hS hK
    go_simp
    exact hK _ hS
  · simp only [Act.put, List.setIfInBounds_toArray, List.set_cons_succ, List.set_cons_zero]
    rfl
  refine RS.go1 (v := ?_) (a' := ?_) rfl ?_ ?_ ?_
  rotate_left 2
  · intro K wx hS hK
    go_simp
    exact hK _ hS
  · simp only [Act.put, List.setIfInBounds_toArray, List.set_cons_succ, List.set_cons_zero]
    rfl
  refine RS.go_end ?_
  intro w6 m6
  have HB : Hid (Below w.heap.size w w6) := m6.bel
  clear m3 m6
  go_wp2_with fail
  go_ret
  exact ⟨rfl, HB.out⟩
set_option maxHeartbeats 400000 in
set_option maxRecDepth 100000 in
theorem order_d (a b : Nat) (c : Int) (X Y : ByteArray) (w : World) (ka : ∀ w : World, Calls Tryd.prog 10 #[Wd a] w fun e w' => e = .returned (.string X) ∧ Below w.heap.size w w') (kb : ∀ w : World, Calls Tryd.prog 10 #[Wd b] w fun e w' => e = .returned (.string Y) ∧ Below w.heap.size w w')
    (kc : ∀ w : World, Calls Tryd.prog 15 #[Wd a, Wd b] w fun e w' => e = .returned (.int .i64 c) ∧ Below w.heap.size w w') (HC : Hid (0 ≤ c)) (HS : Hid ((X.size : Int) = (Y.size : Int))) (HL : Hid (Op.bytesLess X.toList Y.toList = false)) :
    Calls Tryd.prog 7 #[Wd a, Wd b] w fun e w' => e = .returned (.bool true) ∧ Below w.heap.size w w' := by
  have K0 : Hid (∀ w : World, Calls Tryd.prog 12 #[] w fun e w' => e = .returned (.bool true) ∧ Below w.heap.size w w') := alive4_any
  have KA : Hid _ := ka
  have KB : Hid _ := kb
  have KC : Hid _ := kc
  clear ka kb kc
  have m0 := Hm.new4 (g := w.heap.size + 1) (n := b) (T := 24) (Hm.new4 (g := w.heap.size) (n := a) (T := 24) (Hm.start w) (by simp)) (by simp)
  conv => arg 3; unfold Wd
  go_enter Tryd.func7, Tryd.ntmps7
  go_wp2_with fail
  generalize (w.alloc (.cells #[.int .u64 (dg a 0), .int .u64 (dg a 1), .int .u64 (dg a 2), .int .u64 (dg a 3)] 24)).alloc (.cells #[.int .u64 (dg b 0), .int .u64 (dg b 1), .int .u64 (dg b 2), .int .u64 (dg b 3)] 24) = W0 at m0 ⊢
  refine (K0.out _).mono ?_
  rintro e w1 ⟨rfl, hb⟩
  have m1 := Hm.below m0 hb
  clear hb m0
  go_upto_region 3 with fail
  refine RS.wp_region_one (Hm.Hd w [Hm.W4 (w.heap.size + 1) b, Hm.W4 w.heap.size a]) (by kernel_rfl) (by kernel_rfl) (Hm.drew m1) ?_
  dsimp only [List.toList_toArray]
  refine RS.go1 (v := ?_) (a' := ?_) rfl ?_ ?_ ?_
  rotate_left 2
  · intro K wx hS hK
    refine RW.ld rfl rfl (hS.ok (Hm.W4 (w.heap.size) (a)) (by simp)).c ?_
    exact hK _ hS
  · simp only [Act.put, List.setIfInBounds_toArray, List.set_cons_succ, List.set_cons_zero]
    rfl
  refine RS.go1 (v := ?_) (a' := ?_) rfl ?_ ?_ ?_
  rotate_left 2
  · intro K wx hS hK
    go_simp
    refine (KA.out _).mono (fun e w2 he => ?_)
    refine ⟨_, he.1, ?_⟩
    exact hK _ (Hm.below hS he.2)
  · simp only [Act.put, List.setIfInBounds_toArray, List.set_cons_succ, List.set_cons_zero]
    rfl
  refine RS.go1 (v := ?_) (a' := ?_) rfl ?_ ?_ ?_
  rotate_left 2
  · intro K wx hS hK
    refine RW.ld rfl rfl (hS.ok (Hm.W4 (w.heap.size + 1) (b)) (by simp)).c ?_
    exact hK _ hS
  · simp only [Act.put, List.setIfInBounds_toArray, List.set_cons_succ, List.set_cons_zero]
    rfl
  refine RS.go1 (v := ?_) (a' := ?_) rfl ?_ ?_ ?_
  rotate_left 2
  · intro K wx hS hK
    go_simp
    refine (KB.out _).mono (fun e w2 he => ?_)
    refine ⟨_, he.1, ?_⟩
    exact hK _ (Hm.below hS he.2)
  · simp only [Act.put, List.setIfInBounds_toArray, List.set_cons_succ, List.set_cons_zero]
    rfl
  refine RS.go1 (v := ?_) (a' := ?_) rfl ?_ ?_ ?_
  rotate_left 2
  · intro K wx hS hK
    go_simp
    exact hK _ hS
  · simp only [Act.put, List.setIfInBounds_toArray, List.set_cons_succ, List.set_cons_zero]
    rfl
  refine RS.go1 (v := ?_) (a' := ?_) rfl ?_ ?_ ?_
  rotate_left 2
  · intro K wx hS hK
    go_simp
    exact hK _ hS
  · simp only [Act.put, List.setIfInBounds_toArray, List.set_cons_succ, List.set_cons_zero]
    rfl
  refine RS.go_end ?_
  intro w3 m3
  clear m1
  go_upto_region 4 with fail
  refine RS.wp_region_flat (Hm.Hd w [Hm.W4 (w.heap.size + 1) b, Hm.W4 w.heap.size a]) 23 (by kernel_rfl) (m3) ?_
  simp only [List.take_succ_cons, List.take_zero, List.drop_succ_cons, List.drop_zero]
  refine RS.go1 (v := ?_) (a' := ?_) rfl ?_ ?_ ?_
  rotate_left 2
  · intro K wx hS hK
    refine RW.ld rfl rfl (hS.ok (Hm.W4 (w.heap.size) (a)) (by simp)).c ?_
    exact hK _ hS
  · simp only [Act.put, List.setIfInBounds_toArray, List.set_cons_succ, List.set_cons_zero]
    rfl
  refine RS.go1 (v := ?_) (a' := ?_) rfl ?_ ?_ ?_
  rotate_left 2
  · intro K wx hS hK
    refine RW.ld rfl rfl (hS.ok (Hm.W4 (w.heap.size + 1) (b)) (by simp)).c ?_
    exact hK _ hS
  · simp only [Act.put, List.setIfInBounds_toArray, List.set_cons_succ, List.set_cons_zero]
    rfl
  refine RS.go1 (v := ?_) (a' := ?_) rfl ?_ ?_ ?_
  rotate_left 2
  · intro K wx hS hK
    go_simp
    refine (KC.out _).mono (fun e w2 he => ?_)
    refine ⟨_, he.1, ?_⟩
    exact hK _ (Hm.below hS he.2)
  · simp only [Act.put, List.setIfInBounds_toArray, List.set_cons_succ, List.set_cons_zero]
    rfl
  refine RS.go1 (v := ?_) (a' := ?_) rfl ?_ ?_ ?_
  rotate_left 2
  · intro K wx hS hK
    have hq : decide (c < 0) = false := decide_eq_false (by have := HC.out; omega)
    go_simp
    exact hK _ hS
  · simp only [Act.put, List.setIfInBounds_toArray, List.set_cons_succ, List.set_cons_zero]
    rfl
  refine RS.go1 (v := ?_) (a' := ?_) rfl ?_ ?_ ?_
  rotate_left 2
  · intro K wx hS hK
    go_simp
    exact hK _ hS
  · simp only [Act.put, List.setIfInBounds_toArray, List.set_cons_succ, List.set_cons_zero]
    rfl
  refine RS.go1 (v := ?_) (a' := ?_) rfl ?_ ?_ ?_
  rotate_left 2
  · intro K wx hS hK
    go_simp
    exact hK _ hS
  · simp only [Act.put, List.setIfInBounds_toArray, List.set_cons_succ, List.set_cons_zero]
    rfl
  refine RS.go1 (v := ?_) (a' := ?_) rfl ?_ ?_ ?_
  rotate_left 2
  · intro K wx hS hK
    go_simp
    exact hK _ hS
  · simp only [Act.put, List.setIfInBounds_toArray, List.set_cons_succ, List.set_cons_zero]
    rfl
  refine RS.go1 (v := ?_) (a' := ?_) rfl ?_ ?_ ?_
  rotate_left 2
  · intro K wx hS hK
    go_simp
    exact hK _ hS
  · simp only [Act.put, List.setIfInBounds_toArray, List.set_cons_succ, List.set_cons_zero]
    rfl
  refine RS.go1 (v := ?_) (a' := ?_) rfl ?_ ?_ ?_
  rotate_left 2
  · intro K wx hS hK
    have hq := HS.out
    go_simp
    exact hK _ hS
  · simp only [Act.put, List.setIfInBounds_toArray, List.set_cons_succ, List.set_cons_zero]
    rfl
  refine RS.go1 (v := ?_) (a' := ?_) rfl ?_ ?_ ?_
  rotate_left 2
  · intro K wx hS hK
    go_simp
    exact hK _ hS
  · simp only [Act.put, List.setIfInBounds_toArray, List.set_cons_succ, List.set_cons_zero]
    rfl
  refine RS.go1g (v := ?_) (a' := ?_) (by kernel_rfl) ?_ ?_ ?_
  rotate_left 2
  · intro K wx hS hK
    go_simp
    exact hK _ hS
  · simp only [Act.put, List.setIfInBounds_toArray, List.set_cons_succ, List.set_cons_zero]
    rfl
  refine RS.go1g (v := ?_) (a' := ?_) (by kernel_rfl) ?_ ?_ ?_
  rotate_left 2
  · intro K wx hS hK
    go_simp
    exact hK _ hS
  · simp only [Act.put, List.setIfInBounds_toArray, List.set_cons_succ, List.set_cons_zero]
    rfl
  refine RS.go1g (v := ?_) (a' := ?_) (by kernel_rfl) ?_ ?_ ?_
  rotate_left 2
  · intro K wx hS hK
    go_simp
    exact hK _ hS
  · simp only [Act.put, List.setIfInBounds_toArray, List.set_cons_succ, List.set_cons_zero]
    rfl
  refine RS.go1g (v := ?_) (a' := ?_) (by kernel_rfl) ?_ ?_ ?_
  rotate_left 2
  · intro K wx hS hK
    go_simp
    exact hK _ hS
  · simp only [Act.put, List.setIfInBounds_toArray, List.set_cons_succ, List.set_cons_zero]
    rfl
  refine RS.go1g (v := ?_) (a' := ?_) (by kernel_rfl) ?_ ?_ ?_
  rotate_left 2
  · intro K wx hS hK
    have hq := HS.out
    go_simp
    exact hK _ hS
  · simp only [Act.put, List.setIfInBounds_toArray, List.set_cons_succ, List.set_cons_zero]
    rfl
  refine RS.go1g (v := ?_) (a' := ?_) (by kernel_rfl) ?_ ?_ ?_
  rotate_left 2
  · intro K wx hS hK
    go_simp
    exact hK _ hS
  · simp only [Act.put, List.setIfInBounds_toArray, List.set_cons_succ, List.set_cons_zero]
    rfl
  refine RS.go1g (v := ?_) (a' := ?_) (by kernel_rfl) ?_ ?_ ?_
  rotate_left 2
  · intro K wx hS hK
    go_simp
    exact hK _ hS
  · simp only [Act.put, List.setIfInBounds_toArray, List.set_cons_succ, List.set_cons_zero]
    rfl
  refine RS.go1g (v := ?_) (a' := ?_) (by kernel_rfl) ?_ ?_ ?_
  rotate_left 2
  · intro K wx hS hK
    go_simp
    exact hK _ hS
  · simp only [Act.put, List.setIfInBounds_toArray, List.set_cons_succ, List.set_cons_zero]
    rfl
  refine RS.go1g (v := ?_) (a' := ?_) (by kernel_rfl) ?_ ?_ ?_
  rotate_left 2
  · intro K wx hS hK
    have hq := HL.out
    go_simp
    exact hK _ hS
  · simp only [Act.put, List.setIfInBounds_toArray, List.set_cons_succ, List.set_cons_zero]
    rfl
  refine RS.go1g (v := ?_) (a' := ?_) (by kernel_rfl) ?_ ?_ ?_
  rotate_left 2
  · intro K wx hS hK
    go_simp
    exact hK _ hS
  · simp only [Act.put, List.setIfInBounds_toArray, List.set_cons_succ, List.set_cons_zero]
    rfl
  refine RS.go1 (v := ?_) (a' := ?_) rfl ?_ ?_ ?_
  rotate_left 2
  · intro K wx hS hK
    go_simp
    exact hK _ hS
  · simp only [Act.put, List.setIfInBounds_toArray, List.set_cons_succ, List.set_cons_zero]
    rfl
  refine RS.go1 (v := ?_) (a' := ?_) rfl ?_ ?_ ?_
  rotate_left 2
  · intro K wx hS hK
    go_simp
    exact hK _ hS
  · simp only [Act.put, List.setIfInBounds_toArray, List.set_cons_succ, List.set_cons_zero]
    rfl
  refine RS.go1 (v := ?_) (a' := ?_) rfl ?_ ?_ ?_
  rotate_left 2
  · intro K wx hS hK
    go_simp
    exact hK _ hS
  · simp only [Act.put, List.setIfInBounds_toArray, List.set_cons_succ, List.set_cons_zero]
    rfl
  refine RS.go_end ?_
  intro w6 m6
  have HB : Hid (Below w.heap.size w w6) := m6.bel
  clear m3 m6
  go_wp2_with fail
  go_ret
  exact ⟨rfl, HB.out⟩
set_option maxHeartbeats 400000 in
set_option maxRecDepth 100000 in
theorem order_c (a b : Nat) (c : Int) (X Y : ByteArray) (w : World) (ka : ∀ w : World, Calls Tryd.prog 10 #[Wd a] w fun e w' => e = .returned (.string X) ∧ Below w.heap.size w w') (kb : ∀ w : World, Calls Tryd.prog 10 #[Wd b] w fun e w' => e = .returned (.string Y) ∧ Below w.heap.size w w')
    (kc : ∀ w : World, Calls Tryd.prog 15 #[Wd a, Wd b] w fun e w' => e = .returned (.int .i64 c) ∧ Below w.heap.size w w') (HC : Hid (0 ≤ c)) (HS : Hid ((Y.size : Int) < (X.size : Int))) :
    Calls Tryd.prog 7 #[Wd a, Wd b] w fun e w' => e = .returned (.bool true) ∧ Below w.heap.size w w' := by
  have K0 : Hid (∀ w : World, Calls Tryd.prog 12 #[] w fun e w' => e = .returned (.bool true) ∧ Below w.heap.size w w') := alive4_any
  have KA : Hid _ := ka
  have KB : Hid _ := kb
  have KC : Hid _ := kc
  clear ka kb kc
  have m0 := Hm.new4 (g := w.heap.size + 1) (n := b) (T := 24) (Hm.new4 (g := w.heap.size) (n := a) (T := 24) (Hm.start w) (by simp)) (by simp)
  conv => arg 3; unfold Wd
  go_enter Tryd.func7, Tryd.ntmps7
  go_wp2_with fail
  generalize (w.alloc (.cells #[.int .u64 (dg a 0), .int .u64 (dg a 1), .int .u64 (dg a 2), .int .u64 (dg a 3)] 24)).alloc (.cells #[.int .u64 (dg b 0), .int .u64 (dg b 1), .int .u64 (dg b 2), .int .u64 (dg b 3)] 24) = W0 at m0 ⊢
  refine (K0.out _).mono ?_
  rintro e w1 ⟨rfl, hb⟩
  have m1 := Hm.below m0 hb
  clear hb m0
  go_upto_region 3 with fail
  refine RS.wp_region_one (Hm.Hd w [Hm.W4 (w.heap.size + 1) b, Hm.W4 w.heap.size a]) (by kernel_rfl) (by kernel_rfl) (Hm.drew m1) ?_
  dsimp only [List.toList_toArray]
  refine RS.go1 (v := ?_) (a' := ?_) rfl ?_ ?_ ?_
  rotate_left 2
  · intro K wx hS hK
    refine RW.ld rfl rfl (hS.ok (Hm.W4 (w.heap.size) (a)) (by simp)).c ?_
    exact hK _ hS
  · simp only [Act.put, List.setIfInBounds_toArray, List.set_cons_succ, List.set_cons_zero]
    rfl
  refine RS.go1 (v := ?_) (a' := ?_) rfl ?_ ?_ ?_
  rotate_left 2
  · intro K wx hS hK
    go_simp
    refine (KA.out _).mono (fun e w2 he => ?_)
    refine ⟨_, he.1, ?_⟩
    exact hK _ (Hm.below hS he.2)
  · simp only [Act.put, List.setIfInBounds_toArray, List.set_cons_succ, List.set_cons_zero]
    rfl
  refine RS.go1 (v := ?_) (a' := ?_) rfl ?_ ?_ ?_
  rotate_left 2
  · intro K wx hS hK
    refine RW.ld rfl rfl (hS.ok (Hm.W4 (w.heap.size + 1) (b)) (by simp)).c ?_
    exact hK _ hS
  · simp only [Act.put, List.setIfInBounds_toArray, List.set_cons_succ, List.set_cons_zero]
    rfl
  refine RS.go1 (v := ?_) (a' := ?_) rfl ?_ ?_ ?_
  rotate_left 2
  · intro K wx hS hK
    go_simp
    refine (KB.out _).mono (fun e w2 he => ?_)
    refine ⟨_, he.1, ?_⟩
    exact hK _ (Hm.below hS he.2)
  · simp only [Act.put, List.setIfInBounds_toArray, List.set_cons_succ, List.set_cons_zero]
    rfl
  refine RS.go1 (v := ?_) (a' := ?_) rfl ?_ ?_ ?_
  rotate_left 2
  · intro K wx hS hK
    go_simp
    exact hK _ hS
  · simp only [Act.put, List.setIfInBounds_toArray, List.set_cons_succ, List.set_cons_zero]
    rfl
  refine RS.go1 (v := ?_) (a' := ?_) rfl ?_ ?_ ?_
  rotate_left 2
  · intro K wx hS hK
    go_simp
    exact hK _ hS
  · simp only [Act.put, List.setIfInBounds_toArray, List.set_cons_succ, List.set_cons_zero]
    rfl
  refine RS.go_end ?_
  intro w3 m3
  clear m1
  go_upto_region 4 with fail
  refine RS.wp_region_flat (Hm.Hd w [Hm.W4 (w.heap.size + 1) b, Hm.W4 w.heap.size a]) 23 (by kernel_rfl) (m3) ?_
  simp only [List.take_succ_cons, List.take_zero, List.drop_succ_cons, List.drop_zero]
  refine RS.go1 (v := ?_) (a' := ?_) rfl ?_ ?_ ?_
  rotate_left 2
  · intro K wx hS hK
    refine RW.ld rfl rfl (hS.ok (Hm.W4 (w.heap.size) (a)) (by simp)).c ?_
    exact hK _ hS
  · simp only [Act.put, List.setIfInBounds_toArray, List.set_cons_succ, List.set_cons_zero]
    rfl
  refine RS.go1 (v := ?_) (a' := ?_) rfl ?_ ?_ ?_
  rotate_left 2
  · intro K wx hS hK
    refine RW.ld rfl rfl (hS.ok (Hm.W4 (w.heap.size + 1) (b)) (by simp)).c ?_
    exact hK _ hS
  · simp only [Act.put, List.setIfInBounds_toArray, List.set_cons_succ, List.set_cons_zero]
    rfl
  refine RS.go1 (v := ?_) (a' := ?_) rfl ?_ ?_ ?_
  rotate_left 2
  · intro K wx hS hK
    go_simp
    refine (KC.out _).mono (fun e w2 he => ?_)
    refine ⟨_, he.1, ?_⟩
    exact hK _ (Hm.below hS he.2)
  · simp only [Act.put, List.setIfInBounds_toArray, List.set_cons_succ, List.set_cons_zero]
    rfl
  refine RS.go1 (v := ?_) (a' := ?_) rfl ?_ ?_ ?_
  rotate_left 2
  · intro K wx hS hK
    have hq : decide (c < 0) = false := decide_eq_false (by have := HC.out; omega)
    go_simp
    exact hK _ hS
  · simp only [Act.put, List.setIfInBounds_toArray, List.set_cons_succ, List.set_cons_zero]
    rfl
  refine RS.go1 (v := ?_) (a' := ?_) rfl ?_ ?_ ?_
  rotate_left 2
  · intro K wx hS hK
    go_simp
    exact hK _ hS
  · simp only [Act.put, List.setIfInBounds_toArray, List.set_cons_succ, List.set_cons_zero]
    rfl
  refine RS.go1 (v := ?_) (a' := ?_) rfl ?_ ?_ ?_
  rotate_left 2
  · intro K wx hS hK
    go_simp
    exact hK _ hS
  · simp only [Act.put, List.setIfInBounds_toArray, List.set_cons_succ, List.set_cons_zero]
    rfl
  refine RS.go1 (v := ?_) (a' := ?_) rfl ?_ ?_ ?_
  rotate_left 2
  · intro K wx hS hK
    go_simp
    exact hK _ hS
  · simp only [Act.put, List.setIfInBounds_toArray, List.set_cons_succ, List.set_cons_zero]
    rfl
  refine RS.go1 (v := ?_) (a' := ?_) rfl ?_ ?_ ?_
  rotate_left 2
  · intro K wx hS hK
    go_simp
    exact hK _ hS
  · simp only [Act.put, List.setIfInBounds_toArray, List.set_cons_succ, List.set_cons_zero]
    rfl
  refine RS.go1 (v := ?_) (a' := ?_) rfl ?_ ?_ ?_
  rotate_left 2
  · intro K wx hS hK
    have hs := HS.out
    have hq : decide ((X.size : Int) < (Y.size : Int)) = false := decide_eq_false (by omega)
    have hq2 : decide (X.size < Y.size) = false := decide_eq_false (by omega)
    clear hs
    go_simp
    exact hK _ hS
  · simp only [Act.put, List.setIfInBounds_toArray, List.set_cons_succ, List.set_cons_zero]
    rfl
  refine RS.go1 (v := ?_) (a' := ?_) rfl ?_ ?_ ?_
  rotate_left 2
  · intro K wx hS hK
    go_simp
    exact hK _ hS
  · simp only [Act.put, List.setIfInBounds_toArray, List.set_cons_succ, List.set_cons_zero]
    rfl
  refine RS.go1g (v := ?_) (a' := ?_) (by kernel_rfl) ?_ ?_ ?_
  rotate_left 2
  · intro K wx hS hK
    go_simp
    exact hK _ hS
  · simp only [Act.put, List.setIfInBounds_toArray, List.set_cons_succ, List.set_cons_zero]
    rfl
  refine RS.go1g (v := ?_) (a' := ?_) (by kernel_rfl) ?_ ?_ ?_
  rotate_left 2
  · intro K wx hS hK
    go_simp
    exact hK _ hS
  · simp only [Act.put, List.setIfInBounds_toArray, List.set_cons_succ, List.set_cons_zero]
    rfl
  refine RS.go1g (v := ?_) (a' := ?_) (by kernel_rfl) ?_ ?_ ?_
  rotate_left 2
  · intro K wx hS hK
    go_simp
    exact hK _ hS
  · simp only [Act.put, List.setIfInBounds_toArray, List.set_cons_succ, List.set_cons_zero]
    rfl
  refine RS.go1g (v := ?_) (a' := ?_) (by kernel_rfl) ?_ ?_ ?_
  rotate_left 2
  · intro K wx hS hK
    go_simp
    exact hK _ hS
  · simp only [Act.put, List.setIfInBounds_toArray, List.set_cons_succ, List.set_cons_zero]
    rfl
  refine RS.go1g (v := ?_) (a' := ?_) (by kernel_rfl) ?_ ?_ ?_
  rotate_left 2
  · intro K wx hS hK
    have hs := HS.out
    have hq : decide ((X.size : Int) = (Y.size : Int)) = false := decide_eq_false (by omega)
    have hq2 : ((X.size : Int) == (Y.size : Int)) = false := beq_false_of_ne (by omega)
    have hq3 : (X.size == Y.size) = false := beq_false_of_ne (by omega)
    clear hs
    go_simp
    exact hK _ hS
  · simp only [Act.put, List.setIfInBounds_toArray, List.set_cons_succ, List.set_cons_zero]
    rfl
  refine RS.go1g (v := ?_) (a' := ?_) (by kernel_rfl) ?_ ?_ ?_
  rotate_left 2
  · intro K wx hS hK
    go_simp
    exact hK _ hS
  · simp only [Act.put, List.setIfInBounds_toArray, List.set_cons_succ, List.set_cons_zero]
    rfl
  refine RS.go0 (a' := ?_) (by kernel_rfl) ?_ ?_
  rotate_left 1
  · simp only [Act.put, List.setIfInBounds_toArray, List.set_cons_succ, List.set_cons_zero]
    rfl
  refine RS.go0 (a' := ?_) (by kernel_rfl) ?_ ?_
  rotate_left 1
  · simp only [Act.put, List.setIfInBounds_toArray, List.set_cons_succ, List.set_cons_zero]
    rfl
  refine RS.go0 (a' := ?_) (by kernel_rfl) ?_ ?_
  rotate_left 1
  · simp only [Act.put, List.setIfInBounds_toArray, List.set_cons_succ, List.set_cons_zero]
    rfl
  refine RS.go1g (v := ?_) (a' := ?_) (by kernel_rfl) ?_ ?_ ?_
  rotate_left 2
  · intro K wx hS hK
    go_simp
    exact hK _ hS
  · simp only [Act.put, List.setIfInBounds_toArray, List.set_cons_succ, List.set_cons_zero]
    rfl
  refine RS.go1 (v := ?_) (a' := ?_) rfl ?_ ?_ ?_
  rotate_left 2
  · intro K wx hS hK
    go_simp
    exact hK _ hS
  · simp only [Act.put, List.setIfInBounds_toArray, List.set_cons_succ, List.set_cons_zero]
    rfl
  refine RS.go1 (v := ?_) (a' := ?_) rfl ?_ ?_ ?_
  rotate_left 2
  · intro K wx hS hK
    go_simp
    exact hK _ hS
  · simp only [Act.put, List.setIfInBounds_toArray, List.set_cons_succ, List.set_cons_zero]
    rfl
  refine RS.go1 (v := ?_) (a' := ?_) rfl ?_ ?_ ?_
  rotate_left 2
  · intro K wx hS hK
    go_simp
    exact hK _ hS
  · simp only [Act.put, List.setIfInBounds_toArray, List.set_cons_succ, List.set_cons_zero]
    rfl
  refine RS.go_end ?_
  intro w6 m6
  have HB : Hid (Below w.heap.size w w6) := m6.bel
  clear m3 m6
  go_wp2_with fail
  go_ret
  exact ⟨rfl, HB.out⟩
theorem less_two (x y : List UInt8) : Op.bytesLess (48 :: 120 :: x) (48 :: 120 :: y) = Op.bytesLess x y := by
  have h1 : ¬ (48 : UInt8) < 48 := by decide
  have h2 : ¬ (120 : UInt8) < 120 := by decide
  simp [Op.bytesLess, h1, h2]
theorem lss_run (x y : List UInt8) (b : Bool) (h : Op.bytesLess x y = b) : Hid (Op.bytesLess (⟨(48 :: 120 :: x).toArray⟩ : ByteArray).toList (⟨(48 :: 120 :: y).toArray⟩ : ByteArray).toList = b) := by
  show _ = _
  rw [toList_mk, toList_mk, less_two, h]
theorem law_order (a b : Nat) (ha : a < 2 ^ 256) (hb : b < 2 ^ 256) (w : World) :
    Calls Tryd.prog 7 #[Wd a, Wd b] w fun e w' => e = .returned (.bool true) ∧ Below w.heap.size w w' := by
  have ho := cn_order (nw a) (nw b) (nw_cn a) (nw_cn b)
  rw [nw_hv a ha, nw_hv b hb] at ho
  have kc := cmp_any a b ha hb
  have ea : (((⟨(48 :: 120 :: nw a).toArray⟩ : ByteArray).size : Nat) : Int) = (nw a).length + 2 := rfl
  have eb : (((⟨(48 :: 120 :: nw b).toArray⟩ : ByteArray).size : Nat) : Int) = (nw b).length + 2 := rfl
  rcases Nat.lt_trichotomy (nw a).length (nw b).length with h1 | h1 | h1
  · have hlt : a < b := ho.2 (.inl h1)
    exact order_a a b _ _ _ w (number_any a) (number_any b) kc (by show cm (a : Int) (b : Int) < 0; unfold cm; rw [if_pos (by omega)]; decide) (by show _ < _; rw [ea, eb]; omega)
  · by_cases hlt : a < b
    · have hl : Op.bytesLess (nw a) (nw b) = true := by
        rcases ho.1 hlt with h | h
        · omega
        · exact h.2
      exact order_b a b _ _ _ w (number_any a) (number_any b) kc (by show cm (a : Int) (b : Int) < 0; unfold cm; rw [if_pos (by omega)]; decide) (by show _ = _; rw [ea, eb]; omega) (lss_run _ _ _ hl)
    · have hl : Op.bytesLess (nw a) (nw b) = false := by
        rw [Bool.eq_false_iff]
        exact fun h => hlt (ho.2 (.inr ⟨h1, h⟩))
      exact order_d a b _ _ _ w (number_any a) (number_any b) kc (by show 0 ≤ cm (a : Int) (b : Int); unfold cm; rw [if_neg (by omega)]; split <;> decide) (by show _ = _; rw [ea, eb]; omega) (lss_run _ _ _ hl)
  · have hlt : ¬ a < b := fun h => by
      rcases ho.1 h with h2 | h2 <;> omega
    exact order_c a b _ _ _ w (number_any a) (number_any b) kc (by show 0 ≤ cm (a : Int) (b : Int); unfold cm; rw [if_neg (by omega)]; split <;> decide) (by show _ < _; rw [ea, eb]; omega)
end Go.Proofs.YtlpdendoibdceaaDoor
/- lampbearerref.XParseNumber at every string; the law HexNumbers. -/
namespace Go.Proofs.YtlpdendoibdceaaDoor
open Go.RowKit
theorem hv_noughts (d : List UInt8) : ∀ z, hv 0 (List.replicate z 48 ++ d) = hv 0 d
  | 0 => rfl
  | z + 1 => by rw [List.replicate_succ, List.cons_append, hv_cons, dv_48, Nat.zero_mul, Nat.zero_add, hv_noughts d z]
theorem gds_noughts (d : List UInt8) : ∀ z, Gds (List.replicate z 48 ++ d) ↔ Gds d
  | 0 => Iff.rfl
  | z + 1 => by
    rw [List.replicate_succ, List.cons_append, ← gds_noughts d z]
    exact ⟨fun h => h.tail, fun h => gds_cons gd_48 h⟩
theorem ext_z : ∀ z : Nat, z < 65 → (({ data := #[48, 48, 48, 48, 48, 48, 48, 48, 48, 48, 48, 48, 48, 48, 48, 48, 48, 48, 48, 48, 48, 48, 48, 48, 48, 48, 48, 48, 48, 48, 48, 48, 48, 48, 48, 48, 48, 48, 48, 48, 48, 48, 48, 48, 48, 48, 48, 48, 48, 48, 48, 48, 48, 48, 48, 48, 48, 48, 48, 48, 48, 48, 48, 48] } : ByteArray).extract 0 z).data = (List.replicate z 48).toArray := by decide +kernel
theorem ext_z' (z : Nat) (h : z < 65) : ({ data := #[48, 48, 48, 48, 48, 48, 48, 48, 48, 48, 48, 48, 48, 48, 48, 48, 48, 48, 48, 48, 48, 48, 48, 48, 48, 48, 48, 48, 48, 48, 48, 48, 48, 48, 48, 48, 48, 48, 48, 48, 48, 48, 48, 48, 48, 48, 48, 48, 48, 48, 48, 48, 48, 48, 48, 48, 48, 48, 48, 48, 48, 48, 48, 48] } : ByteArray).extract 0 z = ⟨(List.replicate z 48).toArray⟩ := by
  have := ext_z z h
  cases hx : ({ data := #[48, 48, 48, 48, 48, 48, 48, 48, 48, 48, 48, 48, 48, 48, 48, 48, 48, 48, 48, 48, 48, 48, 48, 48, 48, 48, 48, 48, 48, 48, 48, 48, 48, 48, 48, 48, 48, 48, 48, 48, 48, 48, 48, 48, 48, 48, 48, 48, 48, 48, 48, 48, 48, 48, 48, 48, 48, 48, 48, 48, 48, 48, 48, 48] } : ByteArray).extract 0 z
  rw [hx] at this
  rw [← this]
/-- XParse of 64 digits, and WRead of what it left. -/
theorem xparse_word (t : List UInt8) (hl : t.length = 66) (hp : t.take 2 = [48, 120]) (w : World) :
    Calls Tryd.prog 20 #[.string ⟨t.toArray⟩] w fun e w' => ((Gds (t.drop 2) ∧ ∃ v, e = .returned (.tuple #[v, .int .i64 0]) ∧ ∀ W, Below w'.heap.size w' W → Calls Tryd.prog 21 #[v] W fun e w2 => e = .returned (Wd (hv 0 (t.drop 2))) ∧ Below W.heap.size W w2) ∨ (¬ Gds (t.drop 2) ∧ ∃ v, e = .returned (.tuple #[v, .int .i64 1]))) ∧ Below w.heap.size w w' := by
  have hd : (t.drop 2).length = 2 * 32 := by rw [List.length_drop, hl]
  refine (xparse_any t 32 hl hp (by show _ ≤ _; rw [hl]; decide) w).mono fun e w' he => ?_
  rw [← good_drop t 32 hl, ← gds_iff] at he
  obtain ⟨⟨hG, v, rfl, ho⟩ | ⟨hG, rfl⟩, hb⟩ := he
  · refine ⟨.inl ⟨hG, v, rfl, fun W hW => ?_⟩, hb⟩
    rw [← rds_drop t 32 hl] at ho
    have ho := ownb ho hW
    rcases ho.2 with ⟨h3, h4⟩ | ⟨g, cap, cur, h3, h5⟩
    · cases h4
    · subst h3
      have k := wread_any g 0 32 cap (fun j => (rd (t.drop 2) (t.drop 2).length j).toNat) W (by decide) (by decide) h5.2.2.1 (lt_of_heap h5.2.1) (rd_byte (t.drop 2) _) (fun j hj => by
        rw [Nat.zero_add, ho.cellAt j (by omega), rds_at _ _ _ _ hj, rd_nn (t.drop 2) 32 j hd hG hj])
      have e2 := hv_rd' (t.drop 2) 32 hd hG
      have e3 : rv (fun j => (rd (t.drop 2) (t.drop 2).length j).toNat) (32 - 32) (min 32 32) = hv 0 (t.drop 2) := e2
      rwa [e3] at k
  · exact ⟨.inr ⟨hG, _, rfl⟩, hb⟩
theorem pn_iff (l : List UInt8) (h66 : l.length ≤ 66) : 48 :: 120 :: nw (hv 0 (l.drop 2)) = l ↔ Pn l := by
  constructor
  · intro h
    have e1 := take_two' (nw (hv 0 (l.drop 2)))
    have e2 := drop_two (nw (hv 0 (l.drop 2)))
    rw [h] at e1 e2
    exact ⟨e1, by rw [List.length_drop]; omega, e2 ▸ nw_cn _⟩
  · intro h
    rw [nw_back _ h.2.2 h.2.1]
    exact take_drop2 l h.1
theorem xpnum_any (l : List UInt8) (w : World) :
    Calls Tryd.prog 9 #[.string ⟨l.toArray⟩] w fun e w' => ∃ (c : Int) (n : Nat), e = .returned (.tuple #[Wd n, .int .i64 c]) ∧ ((Pn l ∧ c = 0 ∧ n = hv 0 (l.drop 2)) ∨ (¬ Pn l ∧ c = 1 ∧ n = 0)) ∧ Below w.heap.size w w' := by
  have hlen : Pn l → 3 ≤ l.length ∧ l.length ≤ 66 := fun h => by
    have h1 := (cn_low _ h.2.2).1
    have h2 := h.2.1
    rw [List.length_drop] at h1 h2
    omega
  have es : (((⟨l.toArray⟩ : ByteArray).size : Nat) : Int) = l.length := rfl
  by_cases h3 : l.length < 3
  · exact (xp_lo ⟨l.toArray⟩ (by show _ < _; rw [es]; omega) w).mono fun e w' he => ⟨1, 0, he.1, .inr ⟨fun h => by have := hlen h; omega, rfl, rfl⟩, he.2⟩
  by_cases h66 : 66 < l.length
  · exact (xp_hi ⟨l.toArray⟩ (by show _ < _; rw [es]; omega) w).mono fun e w' he => ⟨1, 0, he.1, .inr ⟨fun h => by have := hlen h; omega, rfl, rfl⟩, he.2⟩
  have hdl : (l.drop 2).length = l.length - 2 := List.length_drop ..
  obtain ⟨z, hz⟩ : ∃ z, z = 66 - l.length := ⟨_, rfl⟩
  have tl : (48 :: 120 :: (List.replicate z 48 ++ l.drop 2)).length = 66 := by
    rw [List.length_cons, List.length_cons, List.length_append, List.length_replicate, hdl]
    omega
  have td : (48 :: 120 :: (List.replicate z 48 ++ l.drop 2) : List UInt8).drop 2 = List.replicate z 48 ++ l.drop 2 := drop_two _
  have k := xparse_word (48 :: 120 :: (List.replicate z 48 ++ l.drop 2)) tl (take_two' _)
  rw [td, gds_noughts, hv_noughts] at k
  have h3' : Hid ((3 : Int) ≤ ((⟨l.toArray⟩ : ByteArray).size : Int)) := by show _ ≤ _; rw [es]; omega
  have h66' : Hid (((⟨l.toArray⟩ : ByteArray).size : Int) ≤ 66) := by show _ ≤ _; rw [es]; omega
  have HW : Hid (IntKind.i64.wrap (66 - ((⟨l.toArray⟩ : ByteArray).size : Int)) = (z : Int)) := by show _ = _; rw [es, IntKind.wrap_i64]; omega
  have HZ1 : Hid ((z : Int) ≤ 64) := by show _ ≤ _; omega
  have HZ : Hid (({ data := #[48, 48, 48, 48, 48, 48, 48, 48, 48, 48, 48, 48, 48, 48, 48, 48, 48, 48, 48, 48, 48, 48, 48, 48, 48, 48, 48, 48, 48, 48, 48, 48, 48, 48, 48, 48, 48, 48, 48, 48, 48, 48, 48, 48, 48, 48, 48, 48, 48, 48, 48, 48, 48, 48, 48, 48, 48, 48, 48, 48, 48, 48, 48, 48] } : ByteArray).extract 0 z = ⟨(List.replicate z 48).toArray⟩) := ext_z' z (by omega)
  have HA : Hid (∀ w : World, (Op.stringOp .add ⟨#[48, 120]⟩ ⟨(List.replicate z 48).toArray⟩).run Tryd.prog w = .ok (.string ⟨(48 :: 120 :: List.replicate z 48).toArray⟩) w) := fun w => run_string_add_lists w [48, 120] (List.replicate z 48) (by decide) (by rw [List.length_replicate]; omega)
  have HB : Hid (∀ w : World, (Op.stringOp .add ⟨(48 :: 120 :: List.replicate z 48).toArray⟩ ⟨(l.drop 2).toArray⟩).run Tryd.prog w = .ok (.string ⟨(48 :: 120 :: (List.replicate z 48 ++ l.drop 2)).toArray⟩) w) := fun w => run_string_add_lists w (48 :: 120 :: List.replicate z 48) (l.drop 2) (by rw [List.length_cons, List.length_cons, List.length_replicate]; omega) (by rw [hdl]; omega)
  have HD : Hid ((⟨l.toArray⟩ : ByteArray).extract 2 (⟨l.toArray⟩ : ByteArray).size = ⟨(l.drop 2).toArray⟩) := ext_drop l
  have HD2 : Hid ((2 : Int) ≤ ((⟨l.toArray⟩ : ByteArray).size : Int)) := by show _ ≤ _; rw [es]; omega
  by_cases hG : Gds (l.drop 2)
  · have KX : Hid (∀ w : World, Calls Tryd.prog 20 #[.string ⟨(48 :: 120 :: (List.replicate z 48 ++ l.drop 2)).toArray⟩] w fun e w' => ∃ v, e = .returned (.tuple #[v, .int .i64 0]) ∧ (∀ W, Below w'.heap.size w' W → Calls Tryd.prog 21 #[v] W fun e w2 => e = .returned (Wd (hv 0 (l.drop 2))) ∧ Below W.heap.size W w2) ∧ Below w.heap.size w w') := fun w => (k w).mono fun e w' he => by
      obtain ⟨⟨_, v, he, hr⟩ | ⟨hn, _⟩, hB⟩ := he
      · exact ⟨v, he, hr, hB⟩
      · exact absurd hG hn
    have KN : Hid (∀ w : World, Calls Tryd.prog 11 #[Wd (hv 0 (l.drop 2))] w fun e w' => e = .returned (.string ⟨(48 :: 120 :: nw (hv 0 (l.drop 2))).toArray⟩) ∧ Below w.heap.size w w') := fun w => xnumber_any _ (hv_256 _ (by rw [hdl]; omega)) w
    have hpi := pn_iff l (by omega)
    by_cases hp : Pn l
    · rw [hpi.2 hp] at KN
      exact (xp_eq _ _ _ _ _ z h3' h66' HW HZ HZ1 HA HD HD2 HB _ w KX KN).mono fun e w' he => ⟨0, _, he.1, .inl ⟨hp, rfl, rfl⟩, he.2⟩
    · refine (xp_ne _ _ _ _ _ z h3' h66' HW HZ HZ1 HA HD HD2 HB _ _ w KX KN ?_).mono fun e w' he => ⟨1, 0, he.1, .inr ⟨hp, rfl, rfl⟩, he.2⟩
      show _ = _
      rw [toList_mk, toList_mk]
      exact beq_false_of_ne (fun e => hp (hpi.1 e))
  · refine (xp_bad _ _ _ _ _ z h3' h66' HW HZ HZ1 HA HD HD2 HB w (fun w => (k w).mono fun e w' he => ?_)).mono fun e w' he => ⟨1, 0, he.1, .inr ⟨fun h => hG h.2.2.1, rfl, rfl⟩, he.2⟩
    obtain ⟨⟨hn, _⟩ | ⟨_, v, he⟩, hB⟩ := he
    · exact absurd hn hG
    · exact ⟨v, he, hB⟩
set_option maxHeartbeats 400000 in
set_option maxRecDepth 100000 in
theorem numbers_walk (a n : Nat) (c : Int) (S L : ByteArray) (w : World) (KA : Hid (∀ w : World, Calls Tryd.prog 10 #[Wd a] w fun e w' => e = .returned (.string S) ∧ Below w.heap.size w w')) (KB : Hid (∀ w : World, Calls Tryd.prog 11 #[Wd a] w fun e w' => e = .returned (.string S) ∧ Below w.heap.size w w'))
    (KC : Hid (∀ w : World, Calls Tryd.prog 8 #[.string L] w fun e w' => e = .returned (.tuple #[Wd n, .int .i64 c]) ∧ Below w.heap.size w w')) (KD : Hid (∀ w : World, Calls Tryd.prog 9 #[.string L] w fun e w' => e = .returned (.tuple #[Wd n, .int .i64 c]) ∧ Below w.heap.size w w')) :
    Calls Tryd.prog 3 #[Wd a, .string L] w fun e w' => e = .returned (.bool true) ∧ Below w.heap.size w w' := by
  have m0 := Hm.new4 (g := w.heap.size) (n := a) (T := 24) (Hm.start w) (by simp)
  conv => arg 3; unfold Wd
  go_enter Tryd.func3, Tryd.ntmps3
  go_wp2_with fail
  generalize w.alloc (.cells #[.int .u64 (dg a 0), .int .u64 (dg a 1), .int .u64 (dg a 2), .int .u64 (dg a 3)] 24) = W0 at m0 ⊢
  refine (KC.out _).mono ?_
  rintro e w3 ⟨rfl, hb⟩
  have m3 := Hm.new4 (g := w3.heap.size) (n := n) (T := 24) (Hm.below m0 hb) rfl
  clear hb m0
  unfold Wd
  go_upto_region 2 with fail
  generalize w3.alloc (.cells #[.int .u64 (dg n 0), .int .u64 (dg n 1), .int .u64 (dg n 2), .int .u64 (dg n 3)] 24) = W3 at m3 ⊢
  generalize w3.heap.size = h1 at *
  go_wp2_with fail
  refine (KD.out _).mono ?_
  rintro e w4 ⟨rfl, hb⟩
  have m4 := Hm.new4 (g := w4.heap.size) (n := n) (T := 24) (Hm.below m3 hb) rfl
  clear hb m3
  unfold Wd
  go_upto_region 3 with fail
  generalize w4.alloc (.cells #[.int .u64 (dg n 0), .int .u64 (dg n 1), .int .u64 (dg n 2), .int .u64 (dg n 3)] 24) = W5 at m4 ⊢
  generalize w4.heap.size = h2 at *
  have m5 := m4
  clear m4
  refine RS.wp_region_one (Hm.Hd w [Hm.W4 h2 n, Hm.W4 h1 n, Hm.W4 w.heap.size a]) (by kernel_rfl) (by kernel_rfl) (Hm.drew m5) ?_
  dsimp only [List.toList_toArray]
  refine RS.go1 (v := ?_) (a' := ?_) rfl ?_ ?_ ?_
  rotate_left 2
  · intro K wx hS hK
    refine RW.ld rfl rfl (hS.ok (Hm.W4 (w.heap.size) (a)) (by simp)).c ?_
    exact hK _ hS
  · simp only [Act.put, List.setIfInBounds_toArray, List.set_cons_succ, List.set_cons_zero]
    rfl
  refine RS.go1 (v := ?_) (a' := ?_) rfl ?_ ?_ ?_
  rotate_left 2
  · intro K wx hS hK
    go_simp
    refine (KA.out _).mono (fun e w2 he => ?_)
    refine ⟨_, he.1, ?_⟩
    exact hK _ (Hm.below hS he.2)
  · simp only [Act.put, List.setIfInBounds_toArray, List.set_cons_succ, List.set_cons_zero]
    rfl
  refine RS.go1 (v := ?_) (a' := ?_) rfl ?_ ?_ ?_
  rotate_left 2
  · intro K wx hS hK
    refine RW.ld rfl rfl (hS.ok (Hm.W4 (w.heap.size) (a)) (by simp)).c ?_
    exact hK _ hS
  · simp only [Act.put, List.setIfInBounds_toArray, List.set_cons_succ, List.set_cons_zero]
    rfl
  refine RS.go1 (v := ?_) (a' := ?_) rfl ?_ ?_ ?_
  rotate_left 2
  · intro K wx hS hK
    go_simp
    refine (KB.out _).mono (fun e w2 he => ?_)
    refine ⟨_, he.1, ?_⟩
    exact hK _ (Hm.below hS he.2)
  · simp only [Act.put, List.setIfInBounds_toArray, List.set_cons_succ, List.set_cons_zero]
    rfl
  refine RS.go1 (v := ?_) (a' := ?_) rfl ?_ ?_ ?_
  rotate_left 2
  · intro K wx hS hK
    go_simp
    exact hK _ hS
  · simp only [Act.put, List.setIfInBounds_toArray, List.set_cons_succ, List.set_cons_zero]
    rfl
  refine RS.go1 (v := ?_) (a' := ?_) rfl ?_ ?_ ?_
  rotate_left 2
  · intro K wx hS hK
    go_simp
    exact hK _ hS
  · simp only [Act.put, List.setIfInBounds_toArray, List.set_cons_succ, List.set_cons_zero]
    rfl
  refine RS.go1g (v := ?_) (a' := ?_) (by kernel_rfl) ?_ ?_ ?_
  rotate_left 2
  · intro K wx hS hK
    go_simp
    exact hK _ hS
  · simp only [Act.put, List.setIfInBounds_toArray, List.set_cons_succ, List.set_cons_zero]
    rfl
  refine RS.go1g (v := ?_) (a' := ?_) (by kernel_rfl) ?_ ?_ ?_
  rotate_left 2
  · intro K wx hS hK
    go_simp
    exact hK _ hS
  · simp only [Act.put, List.setIfInBounds_toArray, List.set_cons_succ, List.set_cons_zero]
    rfl
  refine RS.go1g (v := ?_) (a' := ?_) (by kernel_rfl) ?_ ?_ ?_
  rotate_left 2
  · intro K wx hS hK
    go_simp
    exact hK _ hS
  · simp only [Act.put, List.setIfInBounds_toArray, List.set_cons_succ, List.set_cons_zero]
    rfl
  refine RS.go1 (v := ?_) (a' := ?_) rfl ?_ ?_ ?_
  rotate_left 2
  · intro K wx hS hK
    go_simp
    exact hK _ hS
  · simp only [Act.put, List.setIfInBounds_toArray, List.set_cons_succ, List.set_cons_zero]
    rfl
  refine RS.go1 (v := ?_) (a' := ?_) rfl ?_ ?_ ?_
  rotate_left 2
  · intro K wx hS hK
    go_simp
    exact hK _ hS
  · simp only [Act.put, List.setIfInBounds_toArray, List.set_cons_succ, List.set_cons_zero]
    rfl
  refine RS.go1g (v := ?_) (a' := ?_) (by kernel_rfl) ?_ ?_ ?_
  rotate_left 2
  · intro K wx hS hK
    refine RW.ld rfl rfl (hS.ok (Hm.W4 (h1) (n)) (by simp)).c ?_
    exact hK _ hS
  · simp only [Act.put, List.setIfInBounds_toArray, List.set_cons_succ, List.set_cons_zero]
    rfl
  refine RS.go1g (v := ?_) (a' := ?_) (by kernel_rfl) ?_ ?_ ?_
  rotate_left 2
  · intro K wx hS hK
    refine RW.ld rfl rfl (hS.ok (Hm.W4 (h2) (n)) (by simp)).c ?_
    exact hK _ hS
  · simp only [Act.put, List.setIfInBounds_toArray, List.set_cons_succ, List.set_cons_zero]
    rfl
  refine RS.go1g (v := ?_) (a' := ?_) (by kernel_rfl) ?_ ?_ ?_
  rotate_left 2
  · intro K wx hS hK
    refine RW.eq (b := true) rfl rfl rfl (decide_eq_true rfl) ?_
    exact hK _ hS
  · simp only [Act.put, List.setIfInBounds_toArray, List.set_cons_succ, List.set_cons_zero]
    rfl
  refine RS.go1 (v := ?_) (a' := ?_) rfl ?_ ?_ ?_
  rotate_left 2
  · intro K wx hS hK
    go_simp
    exact hK _ hS
  · simp only [Act.put, List.setIfInBounds_toArray, List.set_cons_succ, List.set_cons_zero]
    rfl
  refine RS.go1 (v := ?_) (a' := ?_) rfl ?_ ?_ ?_
  rotate_left 2
  · intro K wx hS hK
    go_simp
    exact hK _ hS
  · simp only [Act.put, List.setIfInBounds_toArray, List.set_cons_succ, List.set_cons_zero]
    rfl
  refine RS.go_end ?_
  intro w6 m6
  have HB : Hid (Below w.heap.size w w6) := m6.bel
  clear m5 m6
  go_wp2_with fail
  go_ret
  exact ⟨rfl, HB.out⟩
theorem law_numbers (a : Nat) (ha : a < 2 ^ 256) (l : List UInt8) (w : World) :
    Calls Tryd.prog 3 #[Wd a, .string ⟨l.toArray⟩] w fun e w' => e = .returned (.bool true) ∧ Below w.heap.size w w' := by
  by_cases hp : Pn l
  · refine numbers_walk a (hv 0 (l.drop 2)) 0 _ _ w (number_any a) (xnumber_any a ha) (fun w => (pnum_any l w).mono fun e w' he => ?_) (fun w => (xpnum_any l w).mono fun e w' he => ?_)
    all_goals
      obtain ⟨c, n, he, ⟨_, hc, hn⟩ | ⟨hq, _⟩, hB⟩ := he
      · subst hc hn
        exact ⟨he, hB⟩
      · exact absurd hp hq
  · refine numbers_walk a 0 1 _ _ w (number_any a) (xnumber_any a ha) (fun w => (pnum_any l w).mono fun e w' he => ?_) (fun w => (xpnum_any l w).mono fun e w' he => ?_)
    all_goals
      obtain ⟨c, n, he, ⟨hq, _⟩ | ⟨_, hc, hn⟩, hB⟩ := he
      · exact absurd hq hp
      · subst hc hn
        exact ⟨he, hB⟩
end Go.Proofs.YtlpdendoibdceaaDoor
/- What every card of this seat wants: a world that holds the two tables; the bound's readings. -/
namespace Go.Proofs.YtlpdendoibdceaaDoor
namespace Cd
open Go.ChangeShapes Go.WideShapes Go.ChangeAt Go.RowKit
theorem own : ownKnob Tryd.prog.godebug = none := by kernel_rfl
theorem laidOut : laidOutB Tryd.prog = true := by kernel_rfl
def lay0 : Obj → Obj
  | .cells _ t frozen => .cells (Go.Pinned.utf8FirstZ.map fun n => .int .u8 (n : Int)).toArray t frozen
  | o => o
def lay1 : Obj → Obj
  | .cells _ t frozen => .cells #[.int .u8 128, .int .u8 191, .int .u8 160, .int .u8 191, .int .u8 128, .int .u8 159, .int .u8 144, .int .u8 191, .int .u8 128, .int .u8 143, .int .u8 0, .int .u8 0, .int .u8 0, .int .u8 0, .int .u8 0, .int .u8 0, .int .u8 0, .int .u8 0, .int .u8 0, .int .u8 0, .int .u8 0, .int .u8 0, .int .u8 0, .int .u8 0, .int .u8 0, .int .u8 0, .int .u8 0, .int .u8 0, .int .u8 0, .int .u8 0, .int .u8 0, .int .u8 0] t frozen
  | o => o
noncomputable def laidWorld (os : Os) : World :=
  { World.holding Tryd.prog os ⟨#[], #[], []⟩ with heap := ((World.holding Tryd.prog os ⟨#[], #[], []⟩).heap.modify 0 lay0).modify 1 lay1 }
theorem blk_one {H : Type} (d : DataW H) : 1 ≤ Rows.uptoBulk d := by
  unfold Rows.uptoBulk
  split <;> omega
theorem blk_len {H : Type} : ∀ l : List (DataW H), l.length ≤ Rows.uptoBulkAll l
  | [] => Nat.zero_le _
  | d :: r => by
    have h1 := blk_one d
    have h2 := blk_len r
    rw [Rows.uptoBulkAll, List.length_cons]
    omega
theorem blk_slice {H : Type} (el sp : List (DataW H)) : el.length ≤ Rows.uptoBulk (.slice el sp) := by
  have := blk_len el
  rw [Rows.uptoBulk]
  omega
theorem small1 {H : Type} (d0 : DataW H) (gs : List (DataW H)) (hk : Rows.uptoSmall H ([d0] ++ gs) = true) : Rows.uptoBulk d0 ≤ 1048576 := by
  have h : Rows.uptoBulkAll ([d0] ++ gs) ≤ 1048576 := of_decide_eq_true hk
  simp only [List.cons_append, List.nil_append, Rows.uptoBulkAll] at h
  omega
theorem small2 {H : Type} (d0 d1 : DataW H) (gs : List (DataW H)) (hk : Rows.uptoSmall H ([d0, d1] ++ gs) = true) : Rows.uptoBulk d0 ≤ 1048576 ∧ Rows.uptoBulk d1 ≤ 1048576 := by
  have h : Rows.uptoBulkAll ([d0, d1] ++ gs) ≤ 1048576 := of_decide_eq_true hk
  simp only [List.cons_append, List.nil_append, Rows.uptoBulkAll] at h
  omega
theorem len_of {H : Type} {d : DataW H} {l : List UInt8} {n : Nat} (k : Rows.uptoBulk d ≤ n) (hd : l = [] ∨ ∃ elems spare, d = .slice elems spare ∧ elems.length = l.length) : Hid (l.length ≤ n) := by
  show _ ≤ _
  rcases hd with rfl | ⟨el, sp, rfl, he⟩
  · exact Nat.zero_le _
  · rw [← he]
    exact Nat.le_trans (blk_slice el sp) k
theorem sum2 {H : Type} (d0 d1 : DataW H) (gs : List (DataW H)) (hk : Rows.uptoSmall H ([d0, d1] ++ gs) = true) : Rows.uptoBulk d0 + Rows.uptoBulk d1 ≤ 1048576 := by
  have h : Rows.uptoBulkAll ([d0, d1] ++ gs) ≤ 1048576 := of_decide_eq_true hk
  simp only [List.cons_append, List.nil_append, Rows.uptoBulkAll] at h
  omega
theorem sum_of {H : Type} {d0 d1 : DataW H} {l m : List UInt8} {n : Nat} (k : Rows.uptoBulk d0 + Rows.uptoBulk d1 ≤ n) (h0 : l = [] ∨ ∃ elems spare, d0 = .slice elems spare ∧ elems.length = l.length) (h1 : m = [] ∨ ∃ elems spare, d1 = .slice elems spare ∧ elems.length = m.length) : Hid (l.length + m.length ≤ n) := by
  have e0 := (len_of (Nat.le_refl _) h0).out
  have e1 := (len_of (Nat.le_refl _) h1).out
  show _ ≤ _
  omega
end Cd
end Go.Proofs.YtlpdendoibdceaaDoor
/- Bytes that came in. -/
namespace Go.Proofs.YtlpdendoibdceaaDoor
namespace Sp
open Go.ChangeShapes Go.WideShapes Go.ChangeAt Go.RowKit Go.Joins
theorem ownK : ownKnob Tryd.prog.godebug = none := by kernel_rfl
theorem laidOutK : laidOutB Tryd.prog = true := by kernel_rfl
theorem cellsU8 : Tryd.prog.cellsOf 5 = 1 := by kernel_rfl
theorem bytesU8 : Tryd.prog.bytesOf 5 = 1 := by kernel_rfl
/-- Numbers as bytes. -/
def ub (zs : List Int) : List UInt8 := zs.map fun z => UInt8.ofNat z.toNat
theorem ub_length (zs : List Int) : (ub zs).length = zs.length := by simp [ub]
theorem ub_bz (zs : List Int) (hz : ∀ z ∈ zs, 0 ≤ z ∧ z < 256) (j : Nat) (h : j < zs.length) : bz (ub zs) j = zs.getD j 0 := by
  have hm := hz zs[j] (List.getElem_mem h)
  have h2 : j < (ub zs).length := by rw [ub_length]; exact h
  unfold bz
  rw [List.getD_eq_getElem?_getD, List.getD_eq_getElem?_getD, List.getElem?_eq_getElem h2, List.getElem?_eq_getElem h]
  simp only [Option.getD_some, ub, List.getElem_map, UInt8.toNat_ofNat']
  omega
theorem open_bytes {H : Type} {enc : TypeId × Value → H} {W : World} {r : Reach} {b0 : Nat} {v : Value} {d : DataW H} {p : List MemPlace}
    (hv : Value.okWide Tryd.prog W r b0 30 v) (h : DataW.Trod enc Tryd.prog W 0 (fun _ => true) true 30 v d p) :
    ∃ (l : List UInt8) (ao : Option Addr) (cap : Nat), v = .slice ao l.length cap ∧ l.length ≤ cap ∧ Vw l ao W ∧ (l = [] ∨ ∃ elems spare, d = .slice elems spare ∧ elems.length = l.length) := by
  obtain ⟨a0, len, cap, rfl⟩ := okWide_slice Tryd.underlying30 hv
  obtain ⟨fuel, hf⟩ := h
  rcases open_ints Tryd.underlying30 Tryd.underlying5 cellsU8 hf with ⟨hcs, hx⟩ | ⟨a, len', cap', zs, hcs, _, hl, hm, hz, hx, hcell, hwz⟩
  · simp [Value.cells] at hcs
    obtain ⟨rfl, rfl, rfl⟩ := hcs
    exact ⟨[], none, 0, rfl, Nat.le_refl _, Vw_nil _ _, .inl rfl⟩
  · simp [Value.cells] at hcs
    obtain ⟨rfl, rfl, rfl⟩ := hcs
    simp only [if_true] at hz
    have hb : ∀ z ∈ zs, 0 ≤ z ∧ z < 256 := fun z hz' => by have := bounds_u8 (hwz z hz'); omega
    have hb' : ∀ z ∈ zs.take len, 0 ≤ z ∧ z < 256 := fun z hz' => hb z (List.mem_of_mem_take hz')
    have hlt : (ub (zs.take len)).length = len := by rw [ub_length, List.length_take]; omega
    simp only [Prod.mk.injEq] at hx
    refine ⟨ub (zs.take len), some a, cap, by rw [hlt], by rw [hlt]; exact hl, ?_, .inr ⟨_, _, hx.1, by simp [lits, hlt]; omega⟩⟩
    intro h0
    rw [hlt] at h0
    obtain ⟨b, off, rfl, hc⟩ := ints_at hcell (by omega)
    refine ⟨b, off, rfl, ?_, fun j hj => ?_⟩
    · exact World.block_lt_of_cell? W ⟨b, off + 0, none⟩ (hc 0 (by omega))
    · rw [hlt] at hj
      rw [hc j (by omega), ub_bz _ hb' j (by rw [List.length_take]; omega)]
      simp [List.getD_eq_getElem?_getD, hj]
end Sp
end Go.Proofs.YtlpdendoibdceaaDoor
/- The laws HexBack and HexJoin. -/
namespace Go.Proofs.YtlpdendoibdceaaDoor
open Go.RowKit
theorem hexs_at (f : Nat → Nat) : ∀ (n j : Nat), j < n → (hexs f n).getD (2 * j) 0 = dsg (f j / 16) ∧ (hexs f n).getD (2 * j + 1) 0 = dsg (f j % 16)
  | 0, j, h => absurd h (Nat.not_lt_zero _)
  | n + 1, j, h => by
    have hl := hexs_len f n
    simp only [List.getD_eq_getElem?_getD]
    by_cases e : j < n
    · have ih := hexs_at f n j e
      simp only [List.getD_eq_getElem?_getD] at ih
      rw [hexs, List.getElem?_append_left (by omega), List.getElem?_append_left (by omega)]
      exact ih
    · have e2 : j = n := by omega
      subst e2
      rw [hexs, List.getElem?_append_right (by omega), List.getElem?_append_right (by omega), hl]
      simp
theorem hexs_congr (f g : Nat → Nat) : ∀ n, (∀ j, j < n → f j = g j) → hexs f n = hexs g n
  | 0, _ => rfl
  | n + 1, h => by rw [hexs, hexs, hexs_congr f g n (fun j hj => h j (by omega)), h n (by omega)]
theorem hexs_add (f : Nat → Nat) (n : Nat) : ∀ m, hexs f (n + m) = hexs f n ++ hexs (fun j => f (n + j)) m
  | 0 => by simp [hexs]
  | m + 1 => by rw [← Nat.add_assoc, hexs, hexs_add f n m, hexs, List.append_assoc]
theorem px_len (b : List UInt8) : (px b).length = 2 + 2 * b.length := by
  unfold px
  rw [List.length_cons, List.length_cons, hexs_len]
  omega
theorem px_drop (b : List UInt8) : (px b).drop 2 = hexs (fun j => (Sp.bz b j).toNat) b.length := by
  unfold px
  rw [drop_two]
theorem px_take (b : List UInt8) : (px b).take 2 = [48, 120] := by
  unfold px
  rw [take_two']
theorem cd_dsg (l : List UInt8) (j d : Nat) (hd : d < 16) (h : l.getD j 0 = dsg d) : dx l j = (d : Int) := by
  have h1 := gd_dsg d hd
  have h2 := dv_dsg d hd
  have e : dx l j = sx ((dsg d).toNat : Int) := by rw [dx, cd, h]
  rw [e, ← dv_sx _ h1, h2]
theorem px_dx (b : List UInt8) (j : Nat) (hj : j < b.length) : dx (px b) (2 + 2 * j) = ((Sp.bz b j).toNat / 16 : Nat) ∧ dx (px b) (2 + 2 * j + 1) = ((Sp.bz b j).toNat % 16 : Nat) := by
  have hb := Sp.bz_lt b j
  have hn := Sp.bz_nn b j
  have h := hexs_at (fun j => (Sp.bz b j).toNat) b.length j hj
  have e1 : dx (px b) (2 + 2 * j) = dx ((px b).drop 2) (2 * j) := (dx_drop _ _).symm
  have e2 : dx (px b) (2 + 2 * j + 1) = dx ((px b).drop 2) (2 * j + 1) := (dx_drop _ (2 * j + 1)).symm
  rw [e1, e2, px_drop]
  exact ⟨cd_dsg _ _ _ (by omega) h.1, cd_dsg _ _ _ (by omega) h.2⟩
theorem px_ps (b : List UInt8) : Ps (px b) := by
  have e : ((px b).length - 2) / 2 = b.length := by rw [px_len]; omega
  refine ⟨px_take b, by rw [px_len]; omega, ?_⟩
  rw [e]
  intro j hj
  obtain ⟨h1, h2⟩ := px_dx b j hj
  rw [h1, h2]
  exact ⟨Int.natCast_nonneg _, Int.natCast_nonneg _⟩
theorem px_bl (b : List UInt8) : bl (px b) (((px b).length - 2) / 2) = b := by
  have e : ((px b).length - 2) / 2 = b.length := by rw [px_len]; omega
  rw [e]
  apply List.ext_getElem (by rw [bl_length])
  intro j h1 h2
  obtain ⟨k1, k2⟩ := px_dx b j h2
  have hb := Sp.bz_lt b j
  have hn := Sp.bz_nn b j
  have hbx : bx (px b) j = Sp.bz b j := by
    rw [bx, k1, k2]
    omega
  have hz : Sp.bz b j = ((b[j]).toNat : Int) := by simp [Sp.bz, h2]
  simp only [bl, List.getElem_map, List.getElem_range, hbx, hz, Int.toNat_natCast]
  exact UInt8.ofNat_toNat
theorem dsg_of (c : UInt8) (h : gd c) (d : Nat) (hd : d = dv c) : dsg d = c := by
  subst hd
  exact dv_inj _ _ (gd_dsg _ (dv_lt c)) h (dv_dsg _ (dv_lt c))
theorem hexs_bl (l : List UInt8) (m : Nat) (hl : l.length = 2 + 2 * m) (hG : Gd l m) : ∀ k, k ≤ m → hexs (fun j => (Sp.bz (bl l m) j).toNat) k = (l.drop 2).take (2 * k)
  | 0, _ => by simp [hexs]
  | k + 1, h => by
    have hk : k < m := by omega
    have hq := hG k hk
    have e1 := bx_at l m k hG hk
    have e2 : Sp.bz (bl l m) k = bx l k := by
      rw [← e1]
      simp [Sp.bz, bl, hk]
    have hl2 : (l.drop 2).length = 2 * m := by rw [List.length_drop]; omega
    have b1 := dx_le l (2 + 2 * k)
    have b2 := dx_le l (2 + 2 * k + 1)
    have hbx : bx l k = 16 * dx l (2 + 2 * k) + dx l (2 + 2 * k + 1) := rfl
    have d1 : dx (l.drop 2) (2 * k) = dx l (2 + 2 * k) := dx_drop _ _
    have d2 : dx (l.drop 2) (2 * k + 1) = dx l (2 + 2 * k + 1) := dx_drop _ _
    rw [hexs, hexs_bl l m hl hG k (by omega), take_two _ k (by omega)]
    congr 2
    · exact dsg_of _ (show 0 ≤ dx (l.drop 2) (2 * k) by omega) _ (by show _ = (dx (l.drop 2) (2 * k)).toNat; simp only [e2]; omega)
    · congr 1
      exact dsg_of _ (show 0 ≤ dx (l.drop 2) (2 * k + 1) by omega) _ (by show _ = (dx (l.drop 2) (2 * k + 1)).toNat; simp only [e2]; omega)
theorem px_back (l : List UInt8) (h : Ps l) : px (bl l ((l.length - 2) / 2)) = l := by
  have h2 : 2 ≤ l.length := by have := congrArg List.length h.1; simp at this; omega
  obtain ⟨m, hm⟩ : ∃ m, l.length = 2 + 2 * m := ⟨(l.length - 2) / 2, by have := h.2.1; omega⟩
  have em : (l.length - 2) / 2 = m := by omega
  have hG := h.2.2
  rw [em] at hG ⊢
  unfold px
  rw [bl_length, hexs_bl l m hm hG m (Nat.le_refl _), List.take_of_length_le (by rw [List.length_drop]; omega)]
  exact take_drop2 l h.1
theorem bl_le (l : List UInt8) (hn : Hid (l.length ≤ 1048576)) : Hid ((bl l ((l.length - 2) / 2)).length ≤ 1048576) := by
  have := hn.out
  show _ ≤ _
  rw [bl_length]
  omega
def SB (w : World) (b x y : List UInt8) (v vx vy : Value) (wx : World) : Prop := Sl b v wx ∧ Sl x vx wx ∧ Sl y vy wx ∧ Below w.heap.size w wx
theorem SB_below {w : World} {b x y : List UInt8} {v vx vy : Value} {w1 w2 : World} (h : SB w b x y v vx vy w1) (hb : Below w1.heap.size w1 w2) : SB w b x y v vx vy w2 := ⟨Sl_below h.1 hb, Sl_below h.2.1 hb, Sl_below h.2.2.1 hb, h.2.2.2.trans (hb.mono h.2.2.2.size)⟩
theorem Sl_len {b : List UInt8} {v : Value} {w : World} (h : Sl b v w) : ∃ (ao : Option Addr) (cap : Nat), v = .slice ao b.length cap := by
  obtain ⟨ao, cap, h1, _⟩ := h
  exact ⟨ao, cap, h1⟩
set_option maxHeartbeats 400000 in
set_option maxRecDepth 100000 in
theorem back_yes (b : List UInt8) (v : Value) (N L : ByteArray) (y : List UInt8) (w : World) (hv : Sl b v w) (ka : ∀ w : World, Sl b v w → Calls Tryd.prog 14 #[v] w fun e w' => e = .returned (.string N) ∧ Below w.heap.size w w')
    (kb : ∀ w : World, Calls Tryd.prog 13 #[.string N] w fun e w' => ∃ vx, e = .returned (.tuple #[vx, .int .i64 0]) ∧ Sl b vx w' ∧ Below w.heap.size w w')
    (kc : ∀ w : World, Calls Tryd.prog 13 #[.string L] w fun e w' => ∃ vy, e = .returned (.tuple #[vy, .int .i64 0]) ∧ Sl y vy w' ∧ Below w.heap.size w w')
    (ky : ∀ w : World, ∀ {vy : Value}, Sl y vy w → Calls Tryd.prog 14 #[vy] w fun e w' => e = .returned (.string L) ∧ Below w.heap.size w w') :
    Calls Tryd.prog 4 #[v, .string L] w fun e w' => e = .returned (.bool true) ∧ Below w.heap.size w w' := by
  have K0 : Hid (∀ w : World, Calls Tryd.prog 12 #[] w fun e w' => e = .returned (.bool true) ∧ Below w.heap.size w w') := alive4_any
  have KA : Hid (∀ w : World, Sl b v w → Calls Tryd.prog 14 #[v] w fun e w' => e = .returned (.string N) ∧ Below w.heap.size w w') := ka
  have KB : Hid (∀ w : World, Calls Tryd.prog 13 #[.string N] w fun e w' => ∃ vx, e = .returned (.tuple #[vx, .int .i64 0]) ∧ Sl b vx w' ∧ Below w.heap.size w w') := kb
  have KC : Hid (∀ w : World, Calls Tryd.prog 13 #[.string L] w fun e w' => ∃ vy, e = .returned (.tuple #[vy, .int .i64 0]) ∧ Sl y vy w' ∧ Below w.heap.size w w') := kc
  have KY : Hid (∀ w : World, ∀ {vy : Value}, Sl y vy w → Calls Tryd.prog 14 #[vy] w fun e w' => e = .returned (.string L) ∧ Below w.heap.size w w') := ky
  clear ky
  have HV : Hid (Sl b v w) := hv
  clear ka kb kc hv
  go_enter Tryd.func4, Tryd.ntmps4
  go_wp2_with fail
  refine (K0.out _).mono ?_
  rintro e w1 ⟨rfl, b1⟩
  have h1 := Sl_below HV.out b1
  have HV1 : Hid (Sl b v w1) := h1
  clear HV h1
  go_wp2_with fail
  refine (KA.out _ HV1.out).mono ?_
  rintro e w2 ⟨rfl, b2⟩
  have HV2 : Hid (Sl b v w2) := Sl_below HV1.out b2
  have b3 := b1.trans (b2.mono b1.size)
  clear HV1 b1 b2
  go_wp2_with fail
  refine (KB.out _).mono ?_
  rintro e w3 ⟨vx, rfl, hx, b4⟩
  have HX : Hid (Sl b vx w3) := hx
  have HV3 : Hid (Sl b v w3) := Sl_below HV2.out b4
  have b5 := b3.trans (b4.mono b3.size)
  clear HV2 b3 b4 hx
  go_wp2_with fail
  refine (KC.out _).mono ?_
  rintro e w4 ⟨vy, rfl, hy, b6⟩
  have m4 : Hid (SB w b b y v vx vy w4) := ⟨Sl_below HV3.out b6, Sl_below HX.out b6, hy, b5.trans (b6.mono b5.size)⟩
  clear HV3 b5 b6 hy HX
  go_upto_region 5 with fail
  have m4 := m4.out
  refine RS.wp_region_flat (SB w b b y v vx vy) 29 (by kernel_rfl) (m4) ?_
  simp only [List.take_succ_cons, List.take_zero, List.drop_succ_cons, List.drop_zero]
  refine RS.go1 (v := ?_) (a' := ?_) rfl ?_ ?_ ?_
  rotate_left 2
  · intro K wx hS hK
    go_simp
    exact hK _ hS
  · simp only [Act.put, List.setIfInBounds_toArray, List.set_cons_succ, List.set_cons_zero]
    rfl
  refine RS.go1 (v := ?_) (a' := ?_) rfl ?_ ?_ ?_
  rotate_left 2
  · intro K wx hS hK
    go_simp
    exact hK _ hS
  · simp only [Act.put, List.setIfInBounds_toArray, List.set_cons_succ, List.set_cons_zero]
    rfl
  refine RS.go1 (v := ?_) (a' := ?_) rfl ?_ ?_ ?_
  rotate_left 2
  · intro K wx hS hK
    go_simp
    exact hK _ hS
  · simp only [Act.put, List.setIfInBounds_toArray, List.set_cons_succ, List.set_cons_zero]
    rfl
  refine RS.go1g (v := ?_) (a' := ?_) (by kernel_rfl) ?_ ?_ ?_
  rotate_left 2
  · intro K wx hS hK
    go_simp
    exact hK _ hS
  · simp only [Act.put, List.setIfInBounds_toArray, List.set_cons_succ, List.set_cons_zero]
    rfl
  refine RS.go1g (v := ?_) (a' := ?_) (by kernel_rfl) ?_ ?_ ?_
  rotate_left 2
  · intro K wx hS hK
    have hcv := Sl_conv hS.2.1
    go_simp
    exact hK _ hS
  · simp only [Act.put, List.setIfInBounds_toArray, List.set_cons_succ, List.set_cons_zero]
    rfl
  refine RS.go1g (v := ?_) (a' := ?_) (by kernel_rfl) ?_ ?_ ?_
  rotate_left 2
  · intro K wx hS hK
    go_simp
    exact hK _ hS
  · simp only [Act.put, List.setIfInBounds_toArray, List.set_cons_succ, List.set_cons_zero]
    rfl
  refine RS.go1g (v := ?_) (a' := ?_) (by kernel_rfl) ?_ ?_ ?_
  rotate_left 2
  · intro K wx hS hK
    have hcv := Sl_conv hS.1
    go_simp
    exact hK _ hS
  · simp only [Act.put, List.setIfInBounds_toArray, List.set_cons_succ, List.set_cons_zero]
    rfl
  refine RS.go1g (v := ?_) (a' := ?_) (by kernel_rfl) ?_ ?_ ?_
  rotate_left 2
  · intro K wx hS hK
    go_simp
    exact hK _ hS
  · simp only [Act.put, List.setIfInBounds_toArray, List.set_cons_succ, List.set_cons_zero]
    rfl
  refine RS.go1 (v := ?_) (a' := ?_) rfl ?_ ?_ ?_
  rotate_left 2
  · intro K wx hS hK
    go_simp
    exact hK _ hS
  · simp only [Act.put, List.setIfInBounds_toArray, List.set_cons_succ, List.set_cons_zero]
    rfl
  refine RS.go1 (v := ?_) (a' := ?_) rfl ?_ ?_ ?_
  rotate_left 2
  · intro K wx hS hK
    go_simp
    exact hK _ hS
  · simp only [Act.put, List.setIfInBounds_toArray, List.set_cons_succ, List.set_cons_zero]
    rfl
  refine RS.go1g (v := ?_) (a' := ?_) (by kernel_rfl) ?_ ?_ ?_
  rotate_left 2
  · intro K wx hS hK
    go_simp
    exact hK _ hS
  · simp only [Act.put, List.setIfInBounds_toArray, List.set_cons_succ, List.set_cons_zero]
    rfl
  refine RS.go1g (v := ?_) (a' := ?_) (by kernel_rfl) ?_ ?_ ?_
  rotate_left 2
  · intro K wx hS hK
    go_simp
    exact hK _ hS
  · simp only [Act.put, List.setIfInBounds_toArray, List.set_cons_succ, List.set_cons_zero]
    rfl
  refine RS.go1g (v := ?_) (a' := ?_) (by kernel_rfl) ?_ ?_ ?_
  rotate_left 2
  · intro K wx hS hK
    go_simp
    exact hK _ hS
  · simp only [Act.put, List.setIfInBounds_toArray, List.set_cons_succ, List.set_cons_zero]
    rfl
  refine RS.go1g (v := ?_) (a' := ?_) (by kernel_rfl) ?_ ?_ ?_
  rotate_left 2
  · intro K wx hS hK
    go_simp
    exact hK _ hS
  · simp only [Act.put, List.setIfInBounds_toArray, List.set_cons_succ, List.set_cons_zero]
    rfl
  refine RS.go1g (v := ?_) (a' := ?_) (by kernel_rfl) ?_ ?_ ?_
  rotate_left 2
  · intro K wx hS hK
    go_simp
    refine (KY.out _ hS.2.2.1).mono (fun e w2 he => ?_)
    refine ⟨_, he.1, ?_⟩
    exact hK _ (SB_below hS he.2)
  · simp only [Act.put, List.setIfInBounds_toArray, List.set_cons_succ, List.set_cons_zero]
    rfl
  refine RS.go1g (v := ?_) (a' := ?_) (by kernel_rfl) ?_ ?_ ?_
  rotate_left 2
  · intro K wx hS hK
    go_simp
    exact hK _ hS
  · simp only [Act.put, List.setIfInBounds_toArray, List.set_cons_succ, List.set_cons_zero]
    rfl
  refine RS.go1g (v := ?_) (a' := ?_) (by kernel_rfl) ?_ ?_ ?_
  rotate_left 2
  · intro K wx hS hK
    go_simp
    exact hK _ hS
  · simp only [Act.put, List.setIfInBounds_toArray, List.set_cons_succ, List.set_cons_zero]
    rfl
  refine RS.go1g (v := ?_) (a' := ?_) (by kernel_rfl) ?_ ?_ ?_
  rotate_left 2
  · intro K wx hS hK
    go_simp
    exact hK _ hS
  · simp only [Act.put, List.setIfInBounds_toArray, List.set_cons_succ, List.set_cons_zero]
    rfl
  refine RS.go1g (v := ?_) (a' := ?_) (by kernel_rfl) ?_ ?_ ?_
  rotate_left 2
  · intro K wx hS hK
    go_simp
    exact hK _ hS
  · simp only [Act.put, List.setIfInBounds_toArray, List.set_cons_succ, List.set_cons_zero]
    rfl
  refine RS.go0 (a' := ?_) (by kernel_rfl) ?_ ?_
  rotate_left 1
  · simp only [Act.put, List.setIfInBounds_toArray, List.set_cons_succ, List.set_cons_zero]
    rfl
  refine RS.go0 (a' := ?_) (by kernel_rfl) ?_ ?_
  rotate_left 1
  · simp only [Act.put, List.setIfInBounds_toArray, List.set_cons_succ, List.set_cons_zero]
    rfl
  refine RS.go0 (a' := ?_) (by kernel_rfl) ?_ ?_
  rotate_left 1
  · simp only [Act.put, List.setIfInBounds_toArray, List.set_cons_succ, List.set_cons_zero]
    rfl
  refine RS.go0 (a' := ?_) (by kernel_rfl) ?_ ?_
  rotate_left 1
  · simp only [Act.put, List.setIfInBounds_toArray, List.set_cons_succ, List.set_cons_zero]
    rfl
  refine RS.go0 (a' := ?_) (by kernel_rfl) ?_ ?_
  rotate_left 1
  · simp only [Act.put, List.setIfInBounds_toArray, List.set_cons_succ, List.set_cons_zero]
    rfl
  refine RS.go0 (a' := ?_) (by kernel_rfl) ?_ ?_
  rotate_left 1
  · simp only [Act.put, List.setIfInBounds_toArray, List.set_cons_succ, List.set_cons_zero]
    rfl
  refine RS.go0 (a' := ?_) (by kernel_rfl) ?_ ?_
  rotate_left 1
  · simp only [Act.put, List.setIfInBounds_toArray, List.set_cons_succ, List.set_cons_zero]
    rfl
  refine RS.go1g (v := ?_) (a' := ?_) (by kernel_rfl) ?_ ?_ ?_
  rotate_left 2
  · intro K wx hS hK
    go_simp
    exact hK _ hS
  · simp only [Act.put, List.setIfInBounds_toArray, List.set_cons_succ, List.set_cons_zero]
    rfl
  refine RS.go1 (v := ?_) (a' := ?_) rfl ?_ ?_ ?_
  rotate_left 2
  · intro K wx hS hK
    go_simp
    exact hK _ hS
  · simp only [Act.put, List.setIfInBounds_toArray, List.set_cons_succ, List.set_cons_zero]
    rfl
  refine RS.go1 (v := ?_) (a' := ?_) rfl ?_ ?_ ?_
  rotate_left 2
  · intro K wx hS hK
    go_simp
    exact hK _ hS
  · simp only [Act.put, List.setIfInBounds_toArray, List.set_cons_succ, List.set_cons_zero]
    rfl
  refine RS.go_end ?_
  intro w6 m6
  have HB : Hid (Below w.heap.size w w6) := m6.2.2.2
  clear m4 m6
  go_wp2_with fail
  go_ret
  exact ⟨rfl, HB.out⟩
set_option maxHeartbeats 400000 in
set_option maxRecDepth 100000 in
theorem back_no (b : List UInt8) (v : Value) (N L : ByteArray) (w : World) (hv : Sl b v w) (ka : ∀ w : World, Sl b v w → Calls Tryd.prog 14 #[v] w fun e w' => e = .returned (.string N) ∧ Below w.heap.size w w')
    (kb : ∀ w : World, Calls Tryd.prog 13 #[.string N] w fun e w' => ∃ vx, e = .returned (.tuple #[vx, .int .i64 0]) ∧ Sl b vx w' ∧ Below w.heap.size w w')
    (kc : ∀ w : World, Calls Tryd.prog 13 #[.string L] w fun e w' => ∃ vy, e = .returned (.tuple #[vy, .int .i64 1]) ∧ Sl [] vy w' ∧ Below w.heap.size w w') :
    Calls Tryd.prog 4 #[v, .string L] w fun e w' => e = .returned (.bool true) ∧ Below w.heap.size w w' := by
  have K0 : Hid (∀ w : World, Calls Tryd.prog 12 #[] w fun e w' => e = .returned (.bool true) ∧ Below w.heap.size w w') := alive4_any
  have KA : Hid (∀ w : World, Sl b v w → Calls Tryd.prog 14 #[v] w fun e w' => e = .returned (.string N) ∧ Below w.heap.size w w') := ka
  have KB : Hid (∀ w : World, Calls Tryd.prog 13 #[.string N] w fun e w' => ∃ vx, e = .returned (.tuple #[vx, .int .i64 0]) ∧ Sl b vx w' ∧ Below w.heap.size w w') := kb
  have KC : Hid (∀ w : World, Calls Tryd.prog 13 #[.string L] w fun e w' => ∃ vy, e = .returned (.tuple #[vy, .int .i64 1]) ∧ Sl [] vy w' ∧ Below w.heap.size w w') := kc
  have HV : Hid (Sl b v w) := hv
  clear ka kb kc hv
  go_enter Tryd.func4, Tryd.ntmps4
  go_wp2_with fail
  refine (K0.out _).mono ?_
  rintro e w1 ⟨rfl, b1⟩
  have h1 := Sl_below HV.out b1
  have HV1 : Hid (Sl b v w1) := h1
  clear HV h1
  go_wp2_with fail
  refine (KA.out _ HV1.out).mono ?_
  rintro e w2 ⟨rfl, b2⟩
  have HV2 : Hid (Sl b v w2) := Sl_below HV1.out b2
  have b3 := b1.trans (b2.mono b1.size)
  clear HV1 b1 b2
  go_wp2_with fail
  refine (KB.out _).mono ?_
  rintro e w3 ⟨vx, rfl, hx, b4⟩
  have HX : Hid (Sl b vx w3) := hx
  have HV3 : Hid (Sl b v w3) := Sl_below HV2.out b4
  have b5 := b3.trans (b4.mono b3.size)
  clear HV2 b3 b4 hx
  go_wp2_with fail
  refine (KC.out _).mono ?_
  rintro e w4 ⟨vy, rfl, hy, b6⟩
  have m4 : Hid (SB w b b [] v vx vy w4) := ⟨Sl_below HV3.out b6, Sl_below HX.out b6, hy, b5.trans (b6.mono b5.size)⟩
  obtain ⟨ao, cap, rfl⟩ := Sl_len hy
  clear HV3 b5 b6 hy HX
  go_upto_region 5 with fail
  have m4 := m4.out
  refine RS.wp_region_flat (SB w b b [] v vx (.slice ao ([] : List UInt8).length cap)) 29 (by kernel_rfl) (m4) ?_
  simp only [List.take_succ_cons, List.take_zero, List.drop_succ_cons, List.drop_zero]
  refine RS.go1 (v := ?_) (a' := ?_) rfl ?_ ?_ ?_
  rotate_left 2
  · intro K wx hS hK
    go_simp
    exact hK _ hS
  · simp only [Act.put, List.setIfInBounds_toArray, List.set_cons_succ, List.set_cons_zero]
    rfl
  refine RS.go1 (v := ?_) (a' := ?_) rfl ?_ ?_ ?_
  rotate_left 2
  · intro K wx hS hK
    go_simp
    exact hK _ hS
  · simp only [Act.put, List.setIfInBounds_toArray, List.set_cons_succ, List.set_cons_zero]
    rfl
  refine RS.go1 (v := ?_) (a' := ?_) rfl ?_ ?_ ?_
  rotate_left 2
  · intro K wx hS hK
    go_simp
    exact hK _ hS
  · simp only [Act.put, List.setIfInBounds_toArray, List.set_cons_succ, List.set_cons_zero]
    rfl
  refine RS.go1g (v := ?_) (a' := ?_) (by kernel_rfl) ?_ ?_ ?_
  rotate_left 2
  · intro K wx hS hK
    go_simp
    exact hK _ hS
  · simp only [Act.put, List.setIfInBounds_toArray, List.set_cons_succ, List.set_cons_zero]
    rfl
  refine RS.go1g (v := ?_) (a' := ?_) (by kernel_rfl) ?_ ?_ ?_
  rotate_left 2
  · intro K wx hS hK
    have hcv := Sl_conv hS.2.1
    go_simp
    exact hK _ hS
  · simp only [Act.put, List.setIfInBounds_toArray, List.set_cons_succ, List.set_cons_zero]
    rfl
  refine RS.go1g (v := ?_) (a' := ?_) (by kernel_rfl) ?_ ?_ ?_
  rotate_left 2
  · intro K wx hS hK
    go_simp
    exact hK _ hS
  · simp only [Act.put, List.setIfInBounds_toArray, List.set_cons_succ, List.set_cons_zero]
    rfl
  refine RS.go1g (v := ?_) (a' := ?_) (by kernel_rfl) ?_ ?_ ?_
  rotate_left 2
  · intro K wx hS hK
    have hcv := Sl_conv hS.1
    go_simp
    exact hK _ hS
  · simp only [Act.put, List.setIfInBounds_toArray, List.set_cons_succ, List.set_cons_zero]
    rfl
  refine RS.go1g (v := ?_) (a' := ?_) (by kernel_rfl) ?_ ?_ ?_
  rotate_left 2
  · intro K wx hS hK
    go_simp
    exact hK _ hS
  · simp only [Act.put, List.setIfInBounds_toArray, List.set_cons_succ, List.set_cons_zero]
    rfl
  refine RS.go1 (v := ?_) (a' := ?_) rfl ?_ ?_ ?_
  rotate_left 2
  · intro K wx hS hK
    go_simp
    exact hK _ hS
  · simp only [Act.put, List.setIfInBounds_toArray, List.set_cons_succ, List.set_cons_zero]
    rfl
  refine RS.go1 (v := ?_) (a' := ?_) rfl ?_ ?_ ?_
  rotate_left 2
  · intro K wx hS hK
    go_simp
    exact hK _ hS
  · simp only [Act.put, List.setIfInBounds_toArray, List.set_cons_succ, List.set_cons_zero]
    rfl
  refine RS.go1g (v := ?_) (a' := ?_) (by kernel_rfl) ?_ ?_ ?_
  rotate_left 2
  · intro K wx hS hK
    go_simp
    exact hK _ hS
  · simp only [Act.put, List.setIfInBounds_toArray, List.set_cons_succ, List.set_cons_zero]
    rfl
  refine RS.go1g (v := ?_) (a' := ?_) (by kernel_rfl) ?_ ?_ ?_
  rotate_left 2
  · intro K wx hS hK
    go_simp
    exact hK _ hS
  · simp only [Act.put, List.setIfInBounds_toArray, List.set_cons_succ, List.set_cons_zero]
    rfl
  refine RS.go1g (v := ?_) (a' := ?_) (by kernel_rfl) ?_ ?_ ?_
  rotate_left 2
  · intro K wx hS hK
    go_simp
    exact hK _ hS
  · simp only [Act.put, List.setIfInBounds_toArray, List.set_cons_succ, List.set_cons_zero]
    rfl
  refine RS.go0 (a' := ?_) (by kernel_rfl) ?_ ?_
  rotate_left 1
  · simp only [Act.put, List.setIfInBounds_toArray, List.set_cons_succ, List.set_cons_zero]
    rfl
  refine RS.go0 (a' := ?_) (by kernel_rfl) ?_ ?_
  rotate_left 1
  · simp only [Act.put, List.setIfInBounds_toArray, List.set_cons_succ, List.set_cons_zero]
    rfl
  refine RS.go0 (a' := ?_) (by kernel_rfl) ?_ ?_
  rotate_left 1
  · simp only [Act.put, List.setIfInBounds_toArray, List.set_cons_succ, List.set_cons_zero]
    rfl
  refine RS.go0 (a' := ?_) (by kernel_rfl) ?_ ?_
  rotate_left 1
  · simp only [Act.put, List.setIfInBounds_toArray, List.set_cons_succ, List.set_cons_zero]
    rfl
  refine RS.go1g (v := ?_) (a' := ?_) (by kernel_rfl) ?_ ?_ ?_
  rotate_left 2
  · intro K wx hS hK
    go_simp
    exact hK _ hS
  · simp only [Act.put, List.setIfInBounds_toArray, List.set_cons_succ, List.set_cons_zero]
    rfl
  refine RS.go1g (v := ?_) (a' := ?_) (by kernel_rfl) ?_ ?_ ?_
  rotate_left 2
  · intro K wx hS hK
    go_simp
    exact hK _ hS
  · simp only [Act.put, List.setIfInBounds_toArray, List.set_cons_succ, List.set_cons_zero]
    rfl
  refine RS.go1g (v := ?_) (a' := ?_) (by kernel_rfl) ?_ ?_ ?_
  rotate_left 2
  · intro K wx hS hK
    go_simp
    exact hK _ hS
  · simp only [Act.put, List.setIfInBounds_toArray, List.set_cons_succ, List.set_cons_zero]
    rfl
  refine RS.go1g (v := ?_) (a' := ?_) (by kernel_rfl) ?_ ?_ ?_
  rotate_left 2
  · intro K wx hS hK
    go_simp
    exact hK _ hS
  · simp only [Act.put, List.setIfInBounds_toArray, List.set_cons_succ, List.set_cons_zero]
    rfl
  refine RS.go1g (v := ?_) (a' := ?_) (by kernel_rfl) ?_ ?_ ?_
  rotate_left 2
  · intro K wx hS hK
    go_simp
    exact hK _ hS
  · simp only [Act.put, List.setIfInBounds_toArray, List.set_cons_succ, List.set_cons_zero]
    rfl
  refine RS.go1g (v := ?_) (a' := ?_) (by kernel_rfl) ?_ ?_ ?_
  rotate_left 2
  · intro K wx hS hK
    go_simp
    exact hK _ hS
  · simp only [Act.put, List.setIfInBounds_toArray, List.set_cons_succ, List.set_cons_zero]
    rfl
  refine RS.go1g (v := ?_) (a' := ?_) (by kernel_rfl) ?_ ?_ ?_
  rotate_left 2
  · intro K wx hS hK
    go_simp
    exact hK _ hS
  · simp only [Act.put, List.setIfInBounds_toArray, List.set_cons_succ, List.set_cons_zero]
    rfl
  refine RS.go1g (v := ?_) (a' := ?_) (by kernel_rfl) ?_ ?_ ?_
  rotate_left 2
  · intro K wx hS hK
    go_simp
    exact hK _ hS
  · simp only [Act.put, List.setIfInBounds_toArray, List.set_cons_succ, List.set_cons_zero]
    rfl
  refine RS.go1g (v := ?_) (a' := ?_) (by kernel_rfl) ?_ ?_ ?_
  rotate_left 2
  · intro K wx hS hK
    go_simp
    exact hK _ hS
  · simp only [Act.put, List.setIfInBounds_toArray, List.set_cons_succ, List.set_cons_zero]
    rfl
  refine RS.go1g (v := ?_) (a' := ?_) (by kernel_rfl) ?_ ?_ ?_
  rotate_left 2
  · intro K wx hS hK
    go_simp
    exact hK _ hS
  · simp only [Act.put, List.setIfInBounds_toArray, List.set_cons_succ, List.set_cons_zero]
    rfl
  refine RS.go1 (v := ?_) (a' := ?_) rfl ?_ ?_ ?_
  rotate_left 2
  · intro K wx hS hK
    go_simp
    exact hK _ hS
  · simp only [Act.put, List.setIfInBounds_toArray, List.set_cons_succ, List.set_cons_zero]
    rfl
  refine RS.go1 (v := ?_) (a' := ?_) rfl ?_ ?_ ?_
  rotate_left 2
  · intro K wx hS hK
    go_simp
    exact hK _ hS
  · simp only [Act.put, List.setIfInBounds_toArray, List.set_cons_succ, List.set_cons_zero]
    rfl
  refine RS.go_end ?_
  intro w6 m6
  have HB : Hid (Below w.heap.size w w6) := m6.2.2.2
  clear m4 m6
  go_wp2_with fail
  go_ret
  exact ⟨rfl, HB.out⟩
theorem law_hback (b l : List UInt8) (ao : Option Addr) (cap : Nat) (hcap : b.length ≤ cap) (hb : Hid (b.length ≤ 1048576)) (hl : Hid (l.length ≤ 1048576)) (w : World) (vw : Sp.Vw b ao w) :
    Calls Tryd.prog 4 #[.slice ao b.length cap, .string ⟨l.toArray⟩] w fun e w' => e = .returned (.bool true) ∧ Below w.heap.size w w' := by
  have hs : Sl b (.slice ao b.length cap) w := ⟨ao, cap, rfl, hcap, vw⟩
  have ka : ∀ w : World, Sl b (.slice ao b.length cap) w → Calls Tryd.prog 14 #[.slice ao b.length cap] w fun e w' => e = .returned (.string ⟨(px b).toArray⟩) ∧ Below w.heap.size w w' := fun w h => print_sl hb h
  have kb : ∀ w : World, Calls Tryd.prog 13 #[.string ⟨(px b).toArray⟩] w fun e w' => ∃ vx, e = .returned (.tuple #[vx, .int .i64 0]) ∧ Sl b vx w' ∧ Below w.heap.size w w' := fun w => (parse_sl (px b) (by have := hb.out; show _ ≤ _; rw [px_len]; omega) w).mono fun e w' he => by
    obtain ⟨v, c, x, he, hx, ⟨_, hc, hq⟩ | ⟨hp, _⟩, hB⟩ := he
    · rw [px_bl] at hq
      subst hc hq
      exact ⟨v, he, hx, hB⟩
    · exact absurd (px_ps b) hp
  have hl2 : Hid (l.length ≤ 2097154) := by have := hl.out; show _ ≤ _; omega
  by_cases hp : Ps l
  · refine back_yes b _ _ _ (bl l ((l.length - 2) / 2)) w hs ka kb (fun w => (parse_sl l hl2 w).mono fun e w' he => ?_) (fun w vy hy => ?_)
    · obtain ⟨v, c, x, he, hx, ⟨_, hc, hq⟩ | ⟨hp2, _⟩, hB⟩ := he
      · subst hc hq
        exact ⟨v, he, hx, hB⟩
      · exact absurd hp hp2
    · have k := print_sl (bl_le l hl) hy
      rw [px_back l hp] at k
      exact k
  · refine back_no b _ _ _ w hs ka kb (fun w => (parse_sl l hl2 w).mono fun e w' he => ?_)
    obtain ⟨v, c, x, he, hx, ⟨hp2, _⟩ | ⟨_, hc, hq⟩, hB⟩ := he
    · exact absurd hp2 hp
    · subst hc hq
      exact ⟨v, he, hx, hB⟩
end Go.Proofs.YtlpdendoibdceaaDoor
/- The law HexJoin. -/
namespace Go.Proofs.YtlpdendoibdceaaDoor
open Go.RowKit
theorem keep2 {d : Nat → Bool} {i j k : Nat} {p : Prop} (h1 : j ≠ i) (h2 : k ≠ i) (h : d j = true → d k = false → p) : RI.don d i j = true → RI.don d i k = false → p := by
  rw [RI.don_other _ _ _ h1, RI.don_other _ _ _ h2]
  exact h
theorem bcs_len (l : List UInt8) : (bcs l).length = l.length := by simp [bcs]
theorem own_sl {base : Nat} {l : List UInt8} {v : Value} {w : World} (h : w.ownsRow base 5 1 v l.length (bcs l)) : Sl l v w := by
  rcases h.2 with ⟨h3, h4⟩ | ⟨g, cap, cur, h3, h5⟩
  · have e : l = [] := List.length_eq_zero_iff.1 h4
    subst e
    exact ⟨none, 0, h3, Nat.le_refl _, Sp.Vw_nil _ _⟩
  · subst h3
    refine ⟨some ⟨g, 0, none⟩, cap, rfl, h5.2.2.1, fun _ => ⟨g, 0, rfl, lt_of_heap h5.2.1, fun j hj => ?_⟩⟩
    rw [Nat.zero_add, h.cellAt j (by omega)]
    simp [bcs, hj, Sp.bz]
theorem app_sl {base : Nat} {x b : List UInt8} {v vb : Value} {w : World} (ty : TypeId) (h : w.ownsRow base 5 1 v x.length (bcs x)) (hb : Sl b vb w) (hbase : base ≤ w.heap.size) (hlen : x.length + b.length ≤ 4194304) :
    ∃ v' w', (Builtin.append_ #[30, 30] ty #[v, vb]).run Tryd.prog w = .ok v' w' ∧ w'.ownsRow base 5 1 v' (x ++ b).length (bcs (x ++ b)) ∧ Below base w w' := by
  obtain ⟨i0, hi, hz0, hz1, hz2⟩ := info_parts Tryd.infoU8
  obtain ⟨ao, cap, rfl, hcap, vw⟩ := hb
  by_cases h0 : 0 < b.length
  · obtain ⟨g, off, rfl, hg, hc⟩ := vw h0
    obtain ⟨v', w', hr, ho, hgr, _⟩ := run_append_own (P := Tryd.prog) w base 30 ty 5 i0 (.int .u8 0) 1 1 Tryd.underlying30 hi hz0 hz1 hz2 rfl (by decide) v x.length (bcs x) h ⟨g, off, none⟩ b.length cap (bcs b) (by rw [bcs_len, Nat.mul_one])
      (fun j u hj => by
        have hj' : j < b.length := by
          have := (List.getElem?_eq_some_iff.1 hj).1
          rwa [bcs_len] at this
        have ea : (⟨g, off, none⟩ : Addr).add j = ⟨g, off + j, none⟩ := by unfold Addr.add; split <;> simp_all
        rw [ea, hc j hj', ← hj]
        simp [bcs, hj', Sp.bz]) (fun u hu => by
          obtain ⟨c, _, rfl⟩ := List.mem_map.1 hu
          rfl) (by unfold maxLen; omega) (by omega) hbase
    refine ⟨v', w', hr, ?_, ?_⟩
    · rw [List.length_append]
      have e : bcs (x ++ b) = bcs x ++ bcs b := by simp [bcs]
      rw [e]
      exact ho
    · refine (Below.refl _ _).grown hgr hbase (fun k hk => ?_)
      rcases h.2 with ⟨h3, _⟩ | ⟨g', cap', cur, h3, h5⟩
      · subst h3; cases hk
      · subst h3
        cases hk
        exact h5.1
  · have e : b = [] := List.length_eq_zero_iff.1 (by omega)
    subst e
    rw [List.append_nil]
    refine ⟨v, w, ?_, h, Below.refl _ _⟩
    have hs : Src Tryd.prog i0.size 30 (.slice ao 0 cap) 0 [] w := by
      cases ao with
      | none => exact Src.ofNil w Tryd.underlying30 cap
      | some ad => exact Src.ofSlice w Tryd.underlying30 ad 0 cap [] (by simp) (fun j u hj => by simp at hj) (fun u hu => by cases hu)
    rcases h.2 with ⟨h3, h4⟩ | ⟨g', cap', cur, h3, h5⟩
    · subst h3
      exact run_append_nothing w 30 30 ty 5 i0 Tryd.underlying30 hi none 0 0 (Nat.le_refl _) _ hs
    · subst h3
      exact run_append_nothing w 30 30 ty 5 i0 Tryd.underlying30 hi _ _ _ h5.2.2.1 _ hs
theorem wp_app {P : Program} {K : Act → World → Prop} {Q : Exit → Act → World → Prop} {a : Act} {o : Oper} {s x : Operand} {t : TypeId} {v v2 v' : Value} {w w' : World} (ho : o.op = .call { callee := .builtin .append, args := #[s, x], argTypes := #[t, t] }) (hs : a.eval s = v) (hx : a.eval x = v2)
    (hr : (Builtin.append_ #[t, t] o.type #[v, v2]).run P w = .ok v' w') (hK : K (a.put o.dst v') w') : o.wp P a w K Q := by
  unfold Oper.wp execOp
  simp only [ho, resolve, invoke, builtin, Sem.run_bind, Sem.run_pure, Result.andThen_ok, List.map_toArray, List.map_cons, List.map_nil, hs, hx, hr]
  exact hK
theorem own_nil {base : Nat} {w : World} (h : base ≤ w.heap.size) : (w.alloc (.cells #[] 5)).ownsRow base 5 1 (.slice (some ⟨w.heap.size, 0, none⟩) 0 0) ([] : List UInt8).length (bcs []) :=
  World.ownsRow_lit w #[] 0 h (Nat.zero_le _) rfl
theorem keep3 {d : Nat → Bool} {i j k : Nat} (h1 : j ≠ i) (h2 : k ≠ i) (h : d j = true → d k = true) : RI.don d i j = true → RI.don d i k = true := by
  rw [RI.don_other _ _ _ h1, RI.don_other _ _ _ h2]
  exact h
def JI (w : World) (a b : List UInt8) (aoa aob : Option Addr) (capa capb : Nat) (S A X T : ByteArray) (m2 : Int) (d : Nat → Bool) (x : Act) (wx : World) : Prop :=
  ∃ (u4 u10 u11 u12 u13 u14 u15 u16 u17 u18 u19 u20 u21 u22 u23 u24 u25 u26 u27 u28 u29 u30 : Value), x = { tmps := #[.slice aoa a.length capa, .slice aob b.length capb, undef, undef, u4, .string S, .bool true, .bool false, .slice aob b.length capb, .string S, u10, u11, u12, u13, u14, u15, u16, u17, u18, u19, u20, u21, u22, u23, u24, u25, u26, u27, u28, u29, u30], defers := [] } ∧ Below w.heap.size w wx ∧
    (d 0 = true → u10 = .string S) ∧ (d 1 = true → u11 = .int .i64 (S.size : Int)) ∧ (d 2 = true → u12 = .slice aob b.length capb) ∧ (d 3 = true → u13 = .int .i64 (b.length : Int)) ∧ (d 4 = true → u14 = .int .i64 m2) ∧ (d 5 = true → u15 = .int .i64 (S.size : Int)) ∧ (d 6 = true → u16 = .bool true) ∧ (d 7 = true → u17 = .bool true) ∧ (d 9 = true → u19 = .slice aoa a.length capa) ∧ (d 11 = true → u21 = .slice aob b.length capb) ∧ (d 13 = true → u23 = .string X) ∧ (d 14 = true → u24 = .slice aoa a.length capa) ∧ (d 15 = true → u25 = .string A) ∧ (d 16 = true → u26 = .string S) ∧ (d 17 = true → u27 = .string T) ∧ (d 18 = true → u28 = .string X) ∧ (d 19 = true → u29 = .bool true) ∧ (d 20 = true → u30 = .bool true) ∧ (d 21 = true → u4 = .bool true) ∧
    (d 8 = true → d 10 = false → wx.ownsRow w.heap.size 5 1 u18 ([] : List UInt8).length (bcs ([]))) ∧ (d 10 = true → d 12 = false → wx.ownsRow w.heap.size 5 1 u20 (a : List UInt8).length (bcs (a))) ∧ (d 12 = true → wx.ownsRow w.heap.size 5 1 u22 (a ++ b : List UInt8).length (bcs (a ++ b))) ∧ (d 12 = true → d 10 = true)
set_option maxHeartbeats 1000000 in
set_option maxRecDepth 100000 in
theorem join_walk (w : World) (a b : List UInt8) (aoa aob : Option Addr) (capa capb : Nat) (S A X T : ByteArray) (m2 : Int) (HA : Hid (Sl a (.slice aoa a.length capa) w)) (HB : Hid (Sl b (.slice aob b.length capb) w)) (HL : Hid (a.length + b.length ≤ 4194304))
    (KS : Hid (∀ w : World, Sl b (.slice aob b.length capb) w → Calls Tryd.prog 14 #[.slice aob b.length capb] w fun e w' => e = .returned (.string S) ∧ Below w.heap.size w w'))
    (KA : Hid (∀ w : World, Sl a (.slice aoa a.length capa) w → Calls Tryd.prog 14 #[.slice aoa a.length capa] w fun e w' => e = .returned (.string A) ∧ Below w.heap.size w w'))
    (KX : Hid (∀ w : World, ∀ {v : Value}, Sl (a ++ b) v w → Calls Tryd.prog 14 #[v] w fun e w' => e = .returned (.string X) ∧ Below w.heap.size w w'))
    (HM : Hid (IntKind.i64.wrap (2 * (b.length : Int)) = m2)) (HP : Hid (IntKind.i64.wrap (2 + m2) = (S.size : Int))) (HT : Hid (S.extract 2 S.size = T)) (HZ : Hid ((2 : Int) ≤ (S.size : Int))) (HX : Hid (∀ w : World, (Op.stringOp .add A T).run Tryd.prog w = .ok (.string X) w)) :
    Calls Tryd.prog 5 #[.slice aoa a.length capa, .slice aob b.length capb] w fun e w' => e = .returned (.bool true) ∧ Below w.heap.size w w' := by
  have K0 : Hid (∀ w : World, Calls Tryd.prog 12 #[] w fun e w' => e = .returned (.bool true) ∧ Below w.heap.size w w') := alive4_any
  go_enter Tryd.func5, Tryd.ntmps5
  go_wp2_with fail
  refine (K0.out _).mono ?_
  rintro e w1 ⟨rfl, b1⟩
  go_wp2_with fail
  refine (KS.out _ (Sl_below HB.out b1)).mono ?_
  rintro e w2 ⟨rfl, b2⟩
  have hw0 : Below w.heap.size w w2.drew := (b1.trans (b2.mono b1.size)).drew
  clear b1 b2 K0 KS
  go_upto_region 4 with fail
  refine RI.wp_region_inv (JI w a b aoa aob capa capb S A X T m2) (by kernel_rfl) (by kernel_rfl) ?_ ?_ ?_
  · exact ⟨.bool false, undef, undef, undef, undef, undef, undef, undef, undef, undef, undef, undef, undef, undef, undef, undef, undef, undef, undef, undef, undef, undef, rfl, hw0, nofun, nofun, nofun, nofun, nofun, nofun, nofun, nofun, nofun, nofun, nofun, nofun, nofun, nofun, nofun, nofun, nofun, nofun, nofun, nofun, nofun, nofun, nofun⟩
  · clear hw0
    intro d x wx i hI hi hm
    obtain ⟨u4, u10, u11, u12, u13, u14, u15, u16, u17, u18, u19, u20, u21, u22, u23, u24, u25, u26, u27, u28, u29, u30, rfl, hw, p0, p1, p2, p3, p4, p5, p6, p7, p9, p11, p13, p14, p15, p16, p17, p18, p19, p20, p21, q8, q10, q12, hc⟩ := hI
    have hi' : i = 0 ∨ i = 1 ∨ i = 2 ∨ i = 3 ∨ i = 4 ∨ i = 5 ∨ i = 6 ∨ i = 7 ∨ i = 8 ∨ i = 9 ∨ i = 10 ∨ i = 11 ∨ i = 12 ∨ i = 13 ∨ i = 14 ∨ i = 15 ∨ i = 16 ∨ i = 17 ∨ i = 18 ∨ i = 19 ∨ i = 20 ∨ i = 21 := by simp at hi; omega
    have hn := hm.1
    have hd := hm.2
    clear hm hi
    rcases hi' with rfl | rfl | rfl | rfl | rfl | rfl | rfl | rfl | rfl | rfl | rfl | rfl | rfl | rfl | rfl | rfl | rfl | rfl | rfl | rfl | rfl | rfl
    · refine RI.wpOp_plain rfl rfl ?_
      go_simp
      exact ⟨u4, _, u11, u12, u13, u14, u15, u16, u17, u18, u19, u20, u21, u22, u23, u24, u25, u26, u27, u28, u29, u30, rfl, hw, fun _ => rfl, RI.keep (by decide) p1, RI.keep (by decide) p2, RI.keep (by decide) p3, RI.keep (by decide) p4, RI.keep (by decide) p5, RI.keep (by decide) p6, RI.keep (by decide) p7, RI.keep (by decide) p9, RI.keep (by decide) p11, RI.keep (by decide) p13, RI.keep (by decide) p14, RI.keep (by decide) p15, RI.keep (by decide) p16, RI.keep (by decide) p17, RI.keep (by decide) p18, RI.keep (by decide) p19, RI.keep (by decide) p20, RI.keep (by decide) p21, keep2 (by decide) (by decide) q8, keep2 (by decide) (by decide) q10, RI.keep (by decide) q12, keep3 (by decide) (by decide) hc⟩
    · have hd := hd _ rfl
      simp [Region.binds] at hd
      obtain rfl := p0 (by simp [hd])
      refine RI.wpOp_plain rfl rfl ?_
      go_simp
      exact ⟨u4, _, _, u12, u13, u14, u15, u16, u17, u18, u19, u20, u21, u22, u23, u24, u25, u26, u27, u28, u29, u30, rfl, hw, RI.keep (by decide) p0, fun _ => rfl, RI.keep (by decide) p2, RI.keep (by decide) p3, RI.keep (by decide) p4, RI.keep (by decide) p5, RI.keep (by decide) p6, RI.keep (by decide) p7, RI.keep (by decide) p9, RI.keep (by decide) p11, RI.keep (by decide) p13, RI.keep (by decide) p14, RI.keep (by decide) p15, RI.keep (by decide) p16, RI.keep (by decide) p17, RI.keep (by decide) p18, RI.keep (by decide) p19, RI.keep (by decide) p20, RI.keep (by decide) p21, keep2 (by decide) (by decide) q8, keep2 (by decide) (by decide) q10, RI.keep (by decide) q12, keep3 (by decide) (by decide) hc⟩
    · refine RI.wpOp_plain rfl rfl ?_
      go_simp
      exact ⟨u4, u10, u11, _, u13, u14, u15, u16, u17, u18, u19, u20, u21, u22, u23, u24, u25, u26, u27, u28, u29, u30, rfl, hw, RI.keep (by decide) p0, RI.keep (by decide) p1, fun _ => rfl, RI.keep (by decide) p3, RI.keep (by decide) p4, RI.keep (by decide) p5, RI.keep (by decide) p6, RI.keep (by decide) p7, RI.keep (by decide) p9, RI.keep (by decide) p11, RI.keep (by decide) p13, RI.keep (by decide) p14, RI.keep (by decide) p15, RI.keep (by decide) p16, RI.keep (by decide) p17, RI.keep (by decide) p18, RI.keep (by decide) p19, RI.keep (by decide) p20, RI.keep (by decide) p21, keep2 (by decide) (by decide) q8, keep2 (by decide) (by decide) q10, RI.keep (by decide) q12, keep3 (by decide) (by decide) hc⟩
    · have hd := hd _ rfl
      simp [Region.binds] at hd
      obtain rfl := p2 (by simp [hd])
      refine RI.wpOp_plain rfl rfl ?_
      go_simp
      exact ⟨u4, u10, u11, _, _, u14, u15, u16, u17, u18, u19, u20, u21, u22, u23, u24, u25, u26, u27, u28, u29, u30, rfl, hw, RI.keep (by decide) p0, RI.keep (by decide) p1, RI.keep (by decide) p2, fun _ => rfl, RI.keep (by decide) p4, RI.keep (by decide) p5, RI.keep (by decide) p6, RI.keep (by decide) p7, RI.keep (by decide) p9, RI.keep (by decide) p11, RI.keep (by decide) p13, RI.keep (by decide) p14, RI.keep (by decide) p15, RI.keep (by decide) p16, RI.keep (by decide) p17, RI.keep (by decide) p18, RI.keep (by decide) p19, RI.keep (by decide) p20, RI.keep (by decide) p21, keep2 (by decide) (by decide) q8, keep2 (by decide) (by decide) q10, RI.keep (by decide) q12, keep3 (by decide) (by decide) hc⟩
    · have hd := hd _ rfl
      simp [Region.binds] at hd
      obtain rfl := p3 (by simp [hd])
      refine RI.wpOp_plain rfl rfl ?_
      have e := HM.out
      go_simp
      exact ⟨u4, u10, u11, u12, _, _, u15, u16, u17, u18, u19, u20, u21, u22, u23, u24, u25, u26, u27, u28, u29, u30, rfl, hw, RI.keep (by decide) p0, RI.keep (by decide) p1, RI.keep (by decide) p2, RI.keep (by decide) p3, fun _ => rfl, RI.keep (by decide) p5, RI.keep (by decide) p6, RI.keep (by decide) p7, RI.keep (by decide) p9, RI.keep (by decide) p11, RI.keep (by decide) p13, RI.keep (by decide) p14, RI.keep (by decide) p15, RI.keep (by decide) p16, RI.keep (by decide) p17, RI.keep (by decide) p18, RI.keep (by decide) p19, RI.keep (by decide) p20, RI.keep (by decide) p21, keep2 (by decide) (by decide) q8, keep2 (by decide) (by decide) q10, RI.keep (by decide) q12, keep3 (by decide) (by decide) hc⟩
    · have hd := hd _ rfl
      simp [Region.binds] at hd
      obtain rfl := p4 (by simp [hd])
      refine RI.wpOp_plain rfl rfl ?_
      have e := HP.out
      go_simp
      exact ⟨u4, u10, u11, u12, u13, _, _, u16, u17, u18, u19, u20, u21, u22, u23, u24, u25, u26, u27, u28, u29, u30, rfl, hw, RI.keep (by decide) p0, RI.keep (by decide) p1, RI.keep (by decide) p2, RI.keep (by decide) p3, RI.keep (by decide) p4, fun _ => rfl, RI.keep (by decide) p6, RI.keep (by decide) p7, RI.keep (by decide) p9, RI.keep (by decide) p11, RI.keep (by decide) p13, RI.keep (by decide) p14, RI.keep (by decide) p15, RI.keep (by decide) p16, RI.keep (by decide) p17, RI.keep (by decide) p18, RI.keep (by decide) p19, RI.keep (by decide) p20, RI.keep (by decide) p21, keep2 (by decide) (by decide) q8, keep2 (by decide) (by decide) q10, RI.keep (by decide) q12, keep3 (by decide) (by decide) hc⟩
    · have hd := hd _ rfl
      simp [Region.binds] at hd
      obtain rfl := p1 (by simp [hd])
      obtain rfl := p5 (by simp [hd])
      refine RI.wpOp_plain rfl rfl ?_
      go_simp
      exact ⟨u4, u10, _, u12, u13, u14, _, _, u17, u18, u19, u20, u21, u22, u23, u24, u25, u26, u27, u28, u29, u30, rfl, hw, RI.keep (by decide) p0, RI.keep (by decide) p1, RI.keep (by decide) p2, RI.keep (by decide) p3, RI.keep (by decide) p4, RI.keep (by decide) p5, fun _ => rfl, RI.keep (by decide) p7, RI.keep (by decide) p9, RI.keep (by decide) p11, RI.keep (by decide) p13, RI.keep (by decide) p14, RI.keep (by decide) p15, RI.keep (by decide) p16, RI.keep (by decide) p17, RI.keep (by decide) p18, RI.keep (by decide) p19, RI.keep (by decide) p20, RI.keep (by decide) p21, keep2 (by decide) (by decide) q8, keep2 (by decide) (by decide) q10, RI.keep (by decide) q12, keep3 (by decide) (by decide) hc⟩
    · have hd := hd _ rfl
      simp [Region.binds] at hd
      obtain rfl := p6 (by simp [hd])
      refine RI.wpOp_plain rfl rfl ?_
      go_simp
      exact ⟨u4, u10, u11, u12, u13, u14, u15, _, _, u18, u19, u20, u21, u22, u23, u24, u25, u26, u27, u28, u29, u30, rfl, hw, RI.keep (by decide) p0, RI.keep (by decide) p1, RI.keep (by decide) p2, RI.keep (by decide) p3, RI.keep (by decide) p4, RI.keep (by decide) p5, RI.keep (by decide) p6, fun _ => rfl, RI.keep (by decide) p9, RI.keep (by decide) p11, RI.keep (by decide) p13, RI.keep (by decide) p14, RI.keep (by decide) p15, RI.keep (by decide) p16, RI.keep (by decide) p17, RI.keep (by decide) p18, RI.keep (by decide) p19, RI.keep (by decide) p20, RI.keep (by decide) p21, keep2 (by decide) (by decide) q8, keep2 (by decide) (by decide) q10, RI.keep (by decide) q12, keep3 (by decide) (by decide) hc⟩
    · have hd := hd _ rfl
      simp [Region.binds] at hd
      obtain rfl := p7 (by simp [hd])
      refine RI.wpOp_guard rfl rfl rfl ?_
      have hb1 : Below wx.heap.size wx (wx.alloc (.cells #[] 5)) := (Below.refl _ _).alloc (Nat.le_refl _) _
      go_simp
      exact ⟨u4, u10, u11, u12, u13, u14, u15, u16, _, _, u19, u20, u21, u22, u23, u24, u25, u26, u27, u28, u29, u30, rfl, hw.alloc hw.size _, RI.keep (by decide) p0, RI.keep (by decide) p1, RI.keep (by decide) p2, RI.keep (by decide) p3, RI.keep (by decide) p4, RI.keep (by decide) p5, RI.keep (by decide) p6, RI.keep (by decide) p7, RI.keep (by decide) p9, RI.keep (by decide) p11, RI.keep (by decide) p13, RI.keep (by decide) p14, RI.keep (by decide) p15, RI.keep (by decide) p16, RI.keep (by decide) p17, RI.keep (by decide) p18, RI.keep (by decide) p19, RI.keep (by decide) p20, RI.keep (by decide) p21, fun _ _ => own_nil hw.size, keep2 (by decide) (by decide) (fun h1 h2 => ownb (q10 h1 h2) hb1), RI.keep (by decide) (fun h1 => ownb (q12 h1) hb1), keep3 (by decide) (by decide) hc⟩
    · have hd := hd _ rfl
      simp [Region.binds] at hd
      obtain rfl := p7 (by simp [hd])
      refine RI.wpOp_guard rfl rfl rfl ?_
      go_simp
      exact ⟨u4, u10, u11, u12, u13, u14, u15, u16, _, u18, _, u20, u21, u22, u23, u24, u25, u26, u27, u28, u29, u30, rfl, hw, RI.keep (by decide) p0, RI.keep (by decide) p1, RI.keep (by decide) p2, RI.keep (by decide) p3, RI.keep (by decide) p4, RI.keep (by decide) p5, RI.keep (by decide) p6, RI.keep (by decide) p7, fun _ => rfl, RI.keep (by decide) p11, RI.keep (by decide) p13, RI.keep (by decide) p14, RI.keep (by decide) p15, RI.keep (by decide) p16, RI.keep (by decide) p17, RI.keep (by decide) p18, RI.keep (by decide) p19, RI.keep (by decide) p20, RI.keep (by decide) p21, keep2 (by decide) (by decide) q8, keep2 (by decide) (by decide) q10, RI.keep (by decide) q12, keep3 (by decide) (by decide) hc⟩
    · have hd := hd _ rfl
      simp [Region.binds] at hd
      obtain rfl := p7 (by simp [hd])
      obtain rfl := p9 (by simp [hd])
      refine RI.wpOp_guard rfl rfl rfl ?_
      obtain ⟨v', w', hr, ho, hb⟩ := app_sl 30 (q8 (by simp [hd]) hn) (Sl_below HA.out hw) hw.size (by have := HL.out; rw [List.length_nil]; omega)
      rw [List.nil_append] at ho
      refine wp_app rfl rfl rfl hr ?_
      exact ⟨u4, u10, u11, u12, u13, u14, u15, u16, _, u18, _, _, u21, u22, u23, u24, u25, u26, u27, u28, u29, u30, rfl, hw.trans hb, RI.keep (by decide) p0, RI.keep (by decide) p1, RI.keep (by decide) p2, RI.keep (by decide) p3, RI.keep (by decide) p4, RI.keep (by decide) p5, RI.keep (by decide) p6, RI.keep (by decide) p7, RI.keep (by decide) p9, RI.keep (by decide) p11, RI.keep (by decide) p13, RI.keep (by decide) p14, RI.keep (by decide) p15, RI.keep (by decide) p16, RI.keep (by decide) p17, RI.keep (by decide) p18, RI.keep (by decide) p19, RI.keep (by decide) p20, RI.keep (by decide) p21, fun _ h => absurd h (by rw [RI.don_same]; decide), fun _ _ => ho, fun h => absurd (hc (by rwa [RI.don_other _ _ _ (by decide)] at h)) (by rw [hn]; decide), fun _ => RI.don_same _ _⟩
    · have hd := hd _ rfl
      simp [Region.binds] at hd
      obtain rfl := p7 (by simp [hd])
      refine RI.wpOp_guard rfl rfl rfl ?_
      go_simp
      exact ⟨u4, u10, u11, u12, u13, u14, u15, u16, _, u18, u19, u20, _, u22, u23, u24, u25, u26, u27, u28, u29, u30, rfl, hw, RI.keep (by decide) p0, RI.keep (by decide) p1, RI.keep (by decide) p2, RI.keep (by decide) p3, RI.keep (by decide) p4, RI.keep (by decide) p5, RI.keep (by decide) p6, RI.keep (by decide) p7, RI.keep (by decide) p9, fun _ => rfl, RI.keep (by decide) p13, RI.keep (by decide) p14, RI.keep (by decide) p15, RI.keep (by decide) p16, RI.keep (by decide) p17, RI.keep (by decide) p18, RI.keep (by decide) p19, RI.keep (by decide) p20, RI.keep (by decide) p21, keep2 (by decide) (by decide) q8, keep2 (by decide) (by decide) q10, RI.keep (by decide) q12, keep3 (by decide) (by decide) hc⟩
    · have hd := hd _ rfl
      simp [Region.binds] at hd
      obtain rfl := p7 (by simp [hd])
      obtain rfl := p11 (by simp [hd])
      refine RI.wpOp_guard rfl rfl rfl ?_
      obtain ⟨v', w', hr, ho, hb⟩ := app_sl 30 (q10 (by simp [hd]) hn) (Sl_below HB.out hw) hw.size HL.out
      refine wp_app rfl rfl rfl hr ?_
      exact ⟨u4, u10, u11, u12, u13, u14, u15, u16, _, u18, u19, u20, _, _, u23, u24, u25, u26, u27, u28, u29, u30, rfl, hw.trans hb, RI.keep (by decide) p0, RI.keep (by decide) p1, RI.keep (by decide) p2, RI.keep (by decide) p3, RI.keep (by decide) p4, RI.keep (by decide) p5, RI.keep (by decide) p6, RI.keep (by decide) p7, RI.keep (by decide) p9, RI.keep (by decide) p11, RI.keep (by decide) p13, RI.keep (by decide) p14, RI.keep (by decide) p15, RI.keep (by decide) p16, RI.keep (by decide) p17, RI.keep (by decide) p18, RI.keep (by decide) p19, RI.keep (by decide) p20, RI.keep (by decide) p21, fun _ h => absurd h (by rw [RI.don_other _ _ _ (by decide)]; simp [hd]), fun _ h => absurd h (by rw [RI.don_same]; decide), fun _ => ho, fun _ => by rw [RI.don_other _ _ _ (by decide)]; simp [hd]⟩
    · have hd := hd _ rfl
      simp [Region.binds] at hd
      obtain rfl := p7 (by simp [hd])
      refine RI.wpOp_guard rfl rfl rfl ?_
      go_simp
      refine (KX.out _ (own_sl (q12 (by simp [hd])))).mono ?_
      rintro e w1 ⟨rfl, hb1⟩
      exact ⟨u4, u10, u11, u12, u13, u14, u15, u16, _, u18, u19, u20, u21, u22, _, u24, u25, u26, u27, u28, u29, u30, rfl, hw.trans (hb1.mono hw.size), RI.keep (by decide) p0, RI.keep (by decide) p1, RI.keep (by decide) p2, RI.keep (by decide) p3, RI.keep (by decide) p4, RI.keep (by decide) p5, RI.keep (by decide) p6, RI.keep (by decide) p7, RI.keep (by decide) p9, RI.keep (by decide) p11, fun _ => rfl, RI.keep (by decide) p14, RI.keep (by decide) p15, RI.keep (by decide) p16, RI.keep (by decide) p17, RI.keep (by decide) p18, RI.keep (by decide) p19, RI.keep (by decide) p20, RI.keep (by decide) p21, keep2 (by decide) (by decide) (fun h1 h2 => ownb (q8 h1 h2) hb1), keep2 (by decide) (by decide) (fun h1 h2 => ownb (q10 h1 h2) hb1), RI.keep (by decide) (fun h1 => ownb (q12 h1) hb1), keep3 (by decide) (by decide) hc⟩
    · have hd := hd _ rfl
      simp [Region.binds] at hd
      obtain rfl := p7 (by simp [hd])
      refine RI.wpOp_guard rfl rfl rfl ?_
      go_simp
      exact ⟨u4, u10, u11, u12, u13, u14, u15, u16, _, u18, u19, u20, u21, u22, u23, _, u25, u26, u27, u28, u29, u30, rfl, hw, RI.keep (by decide) p0, RI.keep (by decide) p1, RI.keep (by decide) p2, RI.keep (by decide) p3, RI.keep (by decide) p4, RI.keep (by decide) p5, RI.keep (by decide) p6, RI.keep (by decide) p7, RI.keep (by decide) p9, RI.keep (by decide) p11, RI.keep (by decide) p13, fun _ => rfl, RI.keep (by decide) p15, RI.keep (by decide) p16, RI.keep (by decide) p17, RI.keep (by decide) p18, RI.keep (by decide) p19, RI.keep (by decide) p20, RI.keep (by decide) p21, keep2 (by decide) (by decide) q8, keep2 (by decide) (by decide) q10, RI.keep (by decide) q12, keep3 (by decide) (by decide) hc⟩
    · have hd := hd _ rfl
      simp [Region.binds] at hd
      obtain rfl := p7 (by simp [hd])
      obtain rfl := p14 (by simp [hd])
      obtain rfl := p13 (by simp [hd])
      refine RI.wpOp_guard rfl rfl rfl ?_
      go_simp
      refine (KA.out _ (Sl_below HA.out hw)).mono ?_
      rintro e w1 ⟨rfl, hb1⟩
      exact ⟨u4, u10, u11, u12, u13, u14, u15, u16, _, u18, u19, u20, u21, u22, _, _, _, u26, u27, u28, u29, u30, rfl, hw.trans (hb1.mono hw.size), RI.keep (by decide) p0, RI.keep (by decide) p1, RI.keep (by decide) p2, RI.keep (by decide) p3, RI.keep (by decide) p4, RI.keep (by decide) p5, RI.keep (by decide) p6, RI.keep (by decide) p7, RI.keep (by decide) p9, RI.keep (by decide) p11, RI.keep (by decide) p13, RI.keep (by decide) p14, fun _ => rfl, RI.keep (by decide) p16, RI.keep (by decide) p17, RI.keep (by decide) p18, RI.keep (by decide) p19, RI.keep (by decide) p20, RI.keep (by decide) p21, keep2 (by decide) (by decide) (fun h1 h2 => ownb (q8 h1 h2) hb1), keep2 (by decide) (by decide) (fun h1 h2 => ownb (q10 h1 h2) hb1), RI.keep (by decide) (fun h1 => ownb (q12 h1) hb1), keep3 (by decide) (by decide) hc⟩
    · have hd := hd _ rfl
      simp [Region.binds] at hd
      obtain rfl := p7 (by simp [hd])
      refine RI.wpOp_guard rfl rfl rfl ?_
      go_simp
      exact ⟨u4, u10, u11, u12, u13, u14, u15, u16, _, u18, u19, u20, u21, u22, u23, u24, u25, _, u27, u28, u29, u30, rfl, hw, RI.keep (by decide) p0, RI.keep (by decide) p1, RI.keep (by decide) p2, RI.keep (by decide) p3, RI.keep (by decide) p4, RI.keep (by decide) p5, RI.keep (by decide) p6, RI.keep (by decide) p7, RI.keep (by decide) p9, RI.keep (by decide) p11, RI.keep (by decide) p13, RI.keep (by decide) p14, RI.keep (by decide) p15, fun _ => rfl, RI.keep (by decide) p17, RI.keep (by decide) p18, RI.keep (by decide) p19, RI.keep (by decide) p20, RI.keep (by decide) p21, keep2 (by decide) (by decide) q8, keep2 (by decide) (by decide) q10, RI.keep (by decide) q12, keep3 (by decide) (by decide) hc⟩
    · have hd := hd _ rfl
      simp [Region.binds] at hd
      obtain rfl := p7 (by simp [hd])
      obtain rfl := p16 (by simp [hd])
      refine RI.wpOp_guard rfl rfl rfl ?_
      have e1 := HT.out
      have e2 := HZ.out
      go_simp
      exact ⟨u4, u10, u11, u12, u13, u14, u15, u16, _, u18, u19, u20, u21, u22, u23, u24, u25, _, _, u28, u29, u30, rfl, hw, RI.keep (by decide) p0, RI.keep (by decide) p1, RI.keep (by decide) p2, RI.keep (by decide) p3, RI.keep (by decide) p4, RI.keep (by decide) p5, RI.keep (by decide) p6, RI.keep (by decide) p7, RI.keep (by decide) p9, RI.keep (by decide) p11, RI.keep (by decide) p13, RI.keep (by decide) p14, RI.keep (by decide) p15, RI.keep (by decide) p16, fun _ => rfl, RI.keep (by decide) p18, RI.keep (by decide) p19, RI.keep (by decide) p20, RI.keep (by decide) p21, keep2 (by decide) (by decide) q8, keep2 (by decide) (by decide) q10, RI.keep (by decide) q12, keep3 (by decide) (by decide) hc⟩
    · have hd := hd _ rfl
      simp [Region.binds] at hd
      obtain rfl := p7 (by simp [hd])
      obtain rfl := p15 (by simp [hd])
      obtain rfl := p17 (by simp [hd])
      refine RI.wpOp_guard rfl rfl rfl ?_
      have e1 := HX.out
      go_simp
      exact ⟨u4, u10, u11, u12, u13, u14, u15, u16, _, u18, u19, u20, u21, u22, u23, u24, _, u26, _, _, u29, u30, rfl, hw, RI.keep (by decide) p0, RI.keep (by decide) p1, RI.keep (by decide) p2, RI.keep (by decide) p3, RI.keep (by decide) p4, RI.keep (by decide) p5, RI.keep (by decide) p6, RI.keep (by decide) p7, RI.keep (by decide) p9, RI.keep (by decide) p11, RI.keep (by decide) p13, RI.keep (by decide) p14, RI.keep (by decide) p15, RI.keep (by decide) p16, RI.keep (by decide) p17, fun _ => rfl, RI.keep (by decide) p19, RI.keep (by decide) p20, RI.keep (by decide) p21, keep2 (by decide) (by decide) q8, keep2 (by decide) (by decide) q10, RI.keep (by decide) q12, keep3 (by decide) (by decide) hc⟩
    · have hd := hd _ rfl
      simp [Region.binds] at hd
      obtain rfl := p7 (by simp [hd])
      obtain rfl := p13 (by simp [hd])
      obtain rfl := p18 (by simp [hd])
      refine RI.wpOp_guard rfl rfl rfl ?_
      go_simp
      exact ⟨u4, u10, u11, u12, u13, u14, u15, u16, _, u18, u19, u20, u21, u22, _, u24, u25, u26, u27, _, _, u30, rfl, hw, RI.keep (by decide) p0, RI.keep (by decide) p1, RI.keep (by decide) p2, RI.keep (by decide) p3, RI.keep (by decide) p4, RI.keep (by decide) p5, RI.keep (by decide) p6, RI.keep (by decide) p7, RI.keep (by decide) p9, RI.keep (by decide) p11, RI.keep (by decide) p13, RI.keep (by decide) p14, RI.keep (by decide) p15, RI.keep (by decide) p16, RI.keep (by decide) p17, RI.keep (by decide) p18, fun _ => rfl, RI.keep (by decide) p20, RI.keep (by decide) p21, keep2 (by decide) (by decide) q8, keep2 (by decide) (by decide) q10, RI.keep (by decide) q12, keep3 (by decide) (by decide) hc⟩
    · have hd := hd _ rfl
      simp [Region.binds] at hd
      obtain rfl := p7 (by simp [hd])
      obtain rfl := p19 (by simp [hd])
      refine RI.wpOp_plain rfl rfl ?_
      go_simp
      exact ⟨u4, u10, u11, u12, u13, u14, u15, u16, _, u18, u19, u20, u21, u22, u23, u24, u25, u26, u27, u28, _, _, rfl, hw, RI.keep (by decide) p0, RI.keep (by decide) p1, RI.keep (by decide) p2, RI.keep (by decide) p3, RI.keep (by decide) p4, RI.keep (by decide) p5, RI.keep (by decide) p6, RI.keep (by decide) p7, RI.keep (by decide) p9, RI.keep (by decide) p11, RI.keep (by decide) p13, RI.keep (by decide) p14, RI.keep (by decide) p15, RI.keep (by decide) p16, RI.keep (by decide) p17, RI.keep (by decide) p18, RI.keep (by decide) p19, fun _ => rfl, RI.keep (by decide) p21, keep2 (by decide) (by decide) q8, keep2 (by decide) (by decide) q10, RI.keep (by decide) q12, keep3 (by decide) (by decide) hc⟩
    · have hd := hd _ rfl
      simp [Region.binds] at hd
      obtain rfl := p0 (by simp [hd])
      obtain rfl := p1 (by simp [hd])
      obtain rfl := p2 (by simp [hd])
      obtain rfl := p3 (by simp [hd])
      obtain rfl := p4 (by simp [hd])
      obtain rfl := p5 (by simp [hd])
      obtain rfl := p6 (by simp [hd])
      obtain rfl := p7 (by simp [hd])
      obtain rfl := p9 (by simp [hd])
      obtain rfl := p11 (by simp [hd])
      obtain rfl := p13 (by simp [hd])
      obtain rfl := p14 (by simp [hd])
      obtain rfl := p15 (by simp [hd])
      obtain rfl := p16 (by simp [hd])
      obtain rfl := p17 (by simp [hd])
      obtain rfl := p18 (by simp [hd])
      obtain rfl := p19 (by simp [hd])
      obtain rfl := p20 (by simp [hd])
      refine RI.wpOp_plain rfl rfl ?_
      go_simp
      exact ⟨_, _, _, _, _, _, _, _, _, u18, _, u20, _, u22, _, _, _, _, _, _, _, _, rfl, hw, RI.keep (by decide) p0, RI.keep (by decide) p1, RI.keep (by decide) p2, RI.keep (by decide) p3, RI.keep (by decide) p4, RI.keep (by decide) p5, RI.keep (by decide) p6, RI.keep (by decide) p7, RI.keep (by decide) p9, RI.keep (by decide) p11, RI.keep (by decide) p13, RI.keep (by decide) p14, RI.keep (by decide) p15, RI.keep (by decide) p16, RI.keep (by decide) p17, RI.keep (by decide) p18, RI.keep (by decide) p19, RI.keep (by decide) p20, fun _ => rfl, keep2 (by decide) (by decide) q8, keep2 (by decide) (by decide) q10, RI.keep (by decide) q12, keep3 (by decide) (by decide) hc⟩
  · clear hw0
    intro d x wx hI hd
    obtain ⟨u4, u10, u11, u12, u13, u14, u15, u16, u17, u18, u19, u20, u21, u22, u23, u24, u25, u26, u27, u28, u29, u30, rfl, hw, p0, p1, p2, p3, p4, p5, p6, p7, p9, p11, p13, p14, p15, p16, p17, p18, p19, p20, p21, q8, q10, q12, hc⟩ := hI
    obtain rfl := p21 (hd 21 (by decide))
    clear p0 p1 p2 p3 p4 p5 p6 p7 p9 p11 p13 p14 p15 p16 p17 p18 p19 p20 q8 q10 q12 hc
    have HW : Hid (Below w.heap.size w wx) := hw
    clear hw
    go_wp2_with fail
    go_ret
    exact ⟨rfl, HW.out⟩
theorem law_hjoin (a b : List UInt8) (aoa aob : Option Addr) (capa capb : Nat) (hca : a.length ≤ capa) (hcb : b.length ≤ capb) (hab : Hid (a.length + b.length ≤ 1048576)) (w : World) (va : Sp.Vw a aoa w) (vb : Sp.Vw b aob w) :
    Calls Tryd.prog 5 #[.slice aoa a.length capa, .slice aob b.length capb] w fun e w' => e = .returned (.bool true) ∧ Below w.heap.size w w' := by
  have hl := hab.out
  have es : (((⟨(px b).toArray⟩ : ByteArray).size : Nat) : Int) = 2 + 2 * (b.length : Int) := by
    have : (⟨(px b).toArray⟩ : ByteArray).size = (px b).length := rfl
    rw [this, px_len]
    omega
  refine join_walk w a b aoa aob capa capb ⟨(px b).toArray⟩ ⟨(px a).toArray⟩ ⟨(px (a ++ b)).toArray⟩ ⟨((px b).drop 2).toArray⟩ (2 * (b.length : Int)) ⟨aoa, capa, rfl, hca, va⟩ ⟨aob, capb, rfl, hcb, vb⟩ (by show _ ≤ _; omega)
    (fun w h => print_sl (by show _ ≤ _; omega) h) (fun w h => print_sl (by show _ ≤ _; omega) h) (fun w v h => print_sl (by show _ ≤ _; rw [List.length_append]; omega) h) ?_ ?_ ?_ ?_ ?_
  · show _ = _
    rw [IntKind.wrap_i64]
    omega
  · show _ = _
    rw [es, IntKind.wrap_i64]
    omega
  · exact ext_drop (px b)
  · show _ ≤ _
    rw [es]
    omega
  · intro w
    have k := run_string_add_lists (P := Tryd.prog) w (px a) ((px b).drop 2) (by rw [px_len]; omega) (by rw [List.length_drop, px_len]; omega)
    have e : px a ++ (px b).drop 2 = px (a ++ b) := by
      have hz : ∀ j, j < b.length → Sp.bz (a ++ b) (a.length + j) = Sp.bz b j := fun j hj => by
        simp only [Sp.bz, List.getD_eq_getElem?_getD]
        rw [List.getElem?_append_right (by omega), Nat.add_sub_cancel_left]
      have hy : ∀ j, j < a.length → Sp.bz (a ++ b) j = Sp.bz a j := fun j hj => by
        simp only [Sp.bz, List.getD_eq_getElem?_getD, List.getElem?_append_left hj]
      rw [px_drop]
      unfold px
      rw [List.length_append, hexs_add, List.cons_append, List.cons_append]
      congr 3
      · exact hexs_congr _ _ _ (fun j hj => by simp only [hy j hj])
      · exact hexs_congr _ _ _ (fun j hj => by simp only [hz j hj])
    rw [e] at k
    exact k
end Go.Proofs.YtlpdendoibdceaaDoor
