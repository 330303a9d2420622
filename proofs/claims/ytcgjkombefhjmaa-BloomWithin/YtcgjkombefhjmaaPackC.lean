/- lampbearerref.JWithin, JJoin. -/
import Derived.Test.YtcgjkombefhjmaaPackB
import Derived.Test.YtcgjkombefhjmaaPackA
import Derived.ProofKit
import Derived.OpenShut
import Derived.ShutString
import Derived.ChangeOld
import Derived.Lib.SmallJoins
import Derived.SizedLaws
import Derived.Deep.AppendLies
import Derived.Great.BuildSlice
import Derived.Deep.Matrix
import Derived.Tactics2
import Derived.Lib.SlBytesConst
import Derived.Lib.AppendZeros
import Derived.Lib.SliceRun
namespace Go.Proofs.Ytcgjkombefhjmaa
namespace Bl
open Go.RowKit Sp
theorem step_i (k : Nat) (h : k < 256) : IntKind.i64.wrap ((k : Int) + 1) = (k : Int) + 1 := by rw [IntKind.wrap_i64]; omega
theorem wi_no {P Q : Nat → Bool} {k : Nat} (hk : k < 256) (hp : P k = true) (hq : Q k = false) : wi P Q = false := by
  rw [Bool.eq_false_iff]
  intro h
  have := (wi_iff P Q).1 h k hk hp
  rw [hq] at this
  exact absurd this (by decide)
set_option maxHeartbeats 2000000 in
set_option maxRecDepth 100000 in
theorem jwithin_any (P Q : Nat → Bool) (w : World) :
    Calls Try.prog 12 #[Hv (FB P), Hv (FB Q)] w fun e w' => e = .returned (.bool (wi P Q)) ∧ Below w.heap.size w w' := by
  go_enter Try.func12, Try.ntmps12
  go_upto_region 1 with fail
  dsimp only [Hv]
  have m0 := Mem_nil w
  have m1 := Mem_box m0 (P) 24
  have z1 : (w.alloc (.cells (h32 (FB (P))).toArray 24)).heap.size = w.heap.size + 1 := by simp
  generalize w.alloc (.cells (h32 (FB (P))).toArray 24) = W1 at m1 z1 ⊢
  have m2 := Mem_box m1 (Q) 24
  have z2 : (W1.alloc (.cells (h32 (FB (Q))).toArray 24)).heap.size = w.heap.size + 2 := by simp [z1]
  rw [z1] at m2
  generalize W1.alloc (.cells (h32 (FB (Q))).toArray 24) = W2 at m2 z2 ⊢
  generalize (h32 (FB (P))).toArray = c0
  generalize (h32 (FB (Q))).toArray = c1
  clear m1 z1 m0 z2
  go_upto_region 2 with fail
  go_loopw [6] (fun s wr => ∃ k : Nat, k ≤ 256 ∧ s = .int .i64 (k : Int) ∧ Hid (∀ n, n < k → P n = true → Q n = true) ∧ Mem w [(w.heap.size + 1, Q), (w.heap.size, P)] wr) (fun s _ => (256 - intOf s).toNat)
  case atStart => exact ⟨0, by omega, rfl, fun n hn => absurd hn (by omega), m2⟩
  case round =>
    clear m2
    obtain ⟨k, hk, rfl, hq, m0⟩ := hrel
    by_cases hlt : k < 256
    · have K1 : Hid (∀ w : World, Calls Try.prog 19 #[Hv (FB P), .int .i64 (k : Int)] w fun e w' => e = .returned (.bool (P k)) ∧ Below w.heap.size w w') := fun w => has_any P k hlt w
      have K2 : Hid (∀ w : World, Calls Try.prog 19 #[Hv (FB Q), .int .i64 (k : Int)] w fun e w' => e = .returned (.bool (Q k)) ∧ Below w.heap.size w w') := fun w => has_any Q k hlt w
      have d0 : (k : Int) < 256 := by omega
      cases hp : P k
      · rw [hp] at K1
        go_upto_region 4 with fail
        refine RS.wp_region_flat (Mem w [(w.heap.size + 1, Q), (w.heap.size, P)]) 9 (by kernel_rfl) (m0) ?_
        simp only [List.take_succ_cons, List.take_zero, List.drop_succ_cons, List.drop_zero]
        refine RS.go1 (v := ?_) (a' := ?_) rfl ?_ ?_ ?_
        rotate_left 2
        · intro K wx hS hK
          refine ld rfl rfl (hS.v (w.heap.size, P) (by simp)).c ?_
          exact hK _ hS
        · simp only [Act.put, List.setIfInBounds_toArray, List.set_cons_succ, List.set_cons_zero]
          rfl
        refine RS.go1 (v := ?_) (a' := ?_) rfl ?_ ?_ ?_
        rotate_left 2
        · intro K wx hS hK
          go_simp
          exact hK _ hS
        · simp only [Act.put, List.setIfInBounds_toArray, List.set_cons_succ, List.set_cons_zero]
          rfl
        refine RS.go1 (v := ?_) (a' := ?_) rfl ?_ ?_ ?_
        rotate_left 2
        · intro K wx hS hK
          go_simp
          refine (K1.out wx).mono (fun e w2 he => ?_)
          refine ⟨_, he.1, ?_⟩
          exact hK _ (Mem_below hS he.2)
        · simp only [Act.put, List.setIfInBounds_toArray, List.set_cons_succ, List.set_cons_zero]
          rfl
        refine RS.go1 (v := ?_) (a' := ?_) rfl ?_ ?_ ?_
        rotate_left 2
        · intro K wx hS hK
          go_simp
          exact hK _ hS
        · simp only [Act.put, List.setIfInBounds_toArray, List.set_cons_succ, List.set_cons_zero]
          rfl
        refine RS.go0 (a' := ?_) (by kernel_rfl) ?_ ?_
        rotate_left 1
        · simp only [Act.put, List.setIfInBounds_toArray, List.set_cons_succ, List.set_cons_zero]
          rfl
        refine RS.go0 (a' := ?_) (by kernel_rfl) ?_ ?_
        rotate_left 1
        · simp only [Act.put, List.setIfInBounds_toArray, List.set_cons_succ, List.set_cons_zero]
          rfl
        refine RS.go0 (a' := ?_) (by kernel_rfl) ?_ ?_
        rotate_left 1
        · simp only [Act.put, List.setIfInBounds_toArray, List.set_cons_succ, List.set_cons_zero]
          rfl
        refine RS.go0 (a' := ?_) (by kernel_rfl) ?_ ?_
        rotate_left 1
        · simp only [Act.put, List.setIfInBounds_toArray, List.set_cons_succ, List.set_cons_zero]
          rfl
        refine RS.go1 (v := ?_) (a' := ?_) rfl ?_ ?_ ?_
        rotate_left 2
        · intro K wx hS hK
          go_simp
          exact hK _ hS
        · simp only [Act.put, List.setIfInBounds_toArray, List.set_cons_succ, List.set_cons_zero]
          rfl
        refine RS.go_end ?_
        intro w9 m9
        clear m0 K1 K2
        have HM : Hid (Mem w [(w.heap.size + 1, Q), (w.heap.size, P)] w9) := m9
        clear m9
        have hw := step_i k hlt
        go_wp2_with fail
        go_roundw
        case rel => exact ⟨k + 1, hlt, rfl, (fun n hn hpn => by
          by_cases e : n = k
          · subst e; rw [hp] at hpn; exact absurd hpn (by decide)
          · exact hq.out n (by omega) hpn), HM.out⟩
        case measure => simp [intOf]; omega
      · rw [hp] at K1
        cases hqk : Q k
        · rw [hqk] at K2
          go_upto_region 4 with fail
          refine RS.wp_region_flat (Mem w [(w.heap.size + 1, Q), (w.heap.size, P)]) 9 (by kernel_rfl) (m0) ?_
          simp only [List.take_succ_cons, List.take_zero, List.drop_succ_cons, List.drop_zero]
          refine RS.go1 (v := ?_) (a' := ?_) rfl ?_ ?_ ?_
          rotate_left 2
          · intro K wx hS hK
            refine ld rfl rfl (hS.v (w.heap.size, P) (by simp)).c ?_
            exact hK _ hS
          · simp only [Act.put, List.setIfInBounds_toArray, List.set_cons_succ, List.set_cons_zero]
            rfl
          refine RS.go1 (v := ?_) (a' := ?_) rfl ?_ ?_ ?_
          rotate_left 2
          · intro K wx hS hK
            go_simp
            exact hK _ hS
          · simp only [Act.put, List.setIfInBounds_toArray, List.set_cons_succ, List.set_cons_zero]
            rfl
          refine RS.go1 (v := ?_) (a' := ?_) rfl ?_ ?_ ?_
          rotate_left 2
          · intro K wx hS hK
            go_simp
            refine (K1.out wx).mono (fun e w2 he => ?_)
            refine ⟨_, he.1, ?_⟩
            exact hK _ (Mem_below hS he.2)
          · simp only [Act.put, List.setIfInBounds_toArray, List.set_cons_succ, List.set_cons_zero]
            rfl
          refine RS.go1 (v := ?_) (a' := ?_) rfl ?_ ?_ ?_
          rotate_left 2
          · intro K wx hS hK
            go_simp
            exact hK _ hS
          · simp only [Act.put, List.setIfInBounds_toArray, List.set_cons_succ, List.set_cons_zero]
            rfl
          refine RS.go1g (v := ?_) (a' := ?_) (by kernel_rfl) ?_ ?_ ?_
          rotate_left 2
          · intro K wx hS hK
            refine ld rfl rfl (hS.v (w.heap.size + 1, Q) (by simp)).c ?_
            exact hK _ hS
          · simp only [Act.put, List.setIfInBounds_toArray, List.set_cons_succ, List.set_cons_zero]
            rfl
          refine RS.go1g (v := ?_) (a' := ?_) (by kernel_rfl) ?_ ?_ ?_
          rotate_left 2
          · intro K wx hS hK
            go_simp
            exact hK _ hS
          · simp only [Act.put, List.setIfInBounds_toArray, List.set_cons_succ, List.set_cons_zero]
            rfl
          refine RS.go1g (v := ?_) (a' := ?_) (by kernel_rfl) ?_ ?_ ?_
          rotate_left 2
          · intro K wx hS hK
            go_simp
            refine (K2.out wx).mono (fun e w2 he => ?_)
            refine ⟨_, he.1, ?_⟩
            exact hK _ (Mem_below hS he.2)
          · simp only [Act.put, List.setIfInBounds_toArray, List.set_cons_succ, List.set_cons_zero]
            rfl
          refine RS.go1g (v := ?_) (a' := ?_) (by kernel_rfl) ?_ ?_ ?_
          rotate_left 2
          · intro K wx hS hK
            go_simp
            exact hK _ hS
          · simp only [Act.put, List.setIfInBounds_toArray, List.set_cons_succ, List.set_cons_zero]
            rfl
          refine RS.go1 (v := ?_) (a' := ?_) rfl ?_ ?_ ?_
          rotate_left 2
          · intro K wx hS hK
            go_simp
            exact hK _ hS
          · simp only [Act.put, List.setIfInBounds_toArray, List.set_cons_succ, List.set_cons_zero]
            rfl
          refine RS.go_end ?_
          intro w9 m9
          have b9 := m9.b
          clear m0 K1 K2 m9
          go_wp2_with fail
          go_ret
          exact ⟨by rw [wi_no hlt hp hqk]; rfl, b9⟩
        · rw [hqk] at K2
          go_upto_region 4 with fail
          refine RS.wp_region_flat (Mem w [(w.heap.size + 1, Q), (w.heap.size, P)]) 9 (by kernel_rfl) (m0) ?_
          simp only [List.take_succ_cons, List.take_zero, List.drop_succ_cons, List.drop_zero]
          refine RS.go1 (v := ?_) (a' := ?_) rfl ?_ ?_ ?_
          rotate_left 2
          · intro K wx hS hK
            refine ld rfl rfl (hS.v (w.heap.size, P) (by simp)).c ?_
            exact hK _ hS
          · simp only [Act.put, List.setIfInBounds_toArray, List.set_cons_succ, List.set_cons_zero]
            rfl
          refine RS.go1 (v := ?_) (a' := ?_) rfl ?_ ?_ ?_
          rotate_left 2
          · intro K wx hS hK
            go_simp
            exact hK _ hS
          · simp only [Act.put, List.setIfInBounds_toArray, List.set_cons_succ, List.set_cons_zero]
            rfl
          refine RS.go1 (v := ?_) (a' := ?_) rfl ?_ ?_ ?_
          rotate_left 2
          · intro K wx hS hK
            go_simp
            refine (K1.out wx).mono (fun e w2 he => ?_)
            refine ⟨_, he.1, ?_⟩
            exact hK _ (Mem_below hS he.2)
          · simp only [Act.put, List.setIfInBounds_toArray, List.set_cons_succ, List.set_cons_zero]
            rfl
          refine RS.go1 (v := ?_) (a' := ?_) rfl ?_ ?_ ?_
          rotate_left 2
          · intro K wx hS hK
            go_simp
            exact hK _ hS
          · simp only [Act.put, List.setIfInBounds_toArray, List.set_cons_succ, List.set_cons_zero]
            rfl
          refine RS.go1g (v := ?_) (a' := ?_) (by kernel_rfl) ?_ ?_ ?_
          rotate_left 2
          · intro K wx hS hK
            refine ld rfl rfl (hS.v (w.heap.size + 1, Q) (by simp)).c ?_
            exact hK _ hS
          · simp only [Act.put, List.setIfInBounds_toArray, List.set_cons_succ, List.set_cons_zero]
            rfl
          refine RS.go1g (v := ?_) (a' := ?_) (by kernel_rfl) ?_ ?_ ?_
          rotate_left 2
          · intro K wx hS hK
            go_simp
            exact hK _ hS
          · simp only [Act.put, List.setIfInBounds_toArray, List.set_cons_succ, List.set_cons_zero]
            rfl
          refine RS.go1g (v := ?_) (a' := ?_) (by kernel_rfl) ?_ ?_ ?_
          rotate_left 2
          · intro K wx hS hK
            go_simp
            refine (K2.out wx).mono (fun e w2 he => ?_)
            refine ⟨_, he.1, ?_⟩
            exact hK _ (Mem_below hS he.2)
          · simp only [Act.put, List.setIfInBounds_toArray, List.set_cons_succ, List.set_cons_zero]
            rfl
          refine RS.go1g (v := ?_) (a' := ?_) (by kernel_rfl) ?_ ?_ ?_
          rotate_left 2
          · intro K wx hS hK
            go_simp
            exact hK _ hS
          · simp only [Act.put, List.setIfInBounds_toArray, List.set_cons_succ, List.set_cons_zero]
            rfl
          refine RS.go1 (v := ?_) (a' := ?_) rfl ?_ ?_ ?_
          rotate_left 2
          · intro K wx hS hK
            go_simp
            exact hK _ hS
          · simp only [Act.put, List.setIfInBounds_toArray, List.set_cons_succ, List.set_cons_zero]
            rfl
          refine RS.go_end ?_
          intro w9 m9
          clear m0 K1 K2
          have HM : Hid (Mem w [(w.heap.size + 1, Q), (w.heap.size, P)] w9) := m9
          clear m9
          have hw := step_i k hlt
          go_wp2_with fail
          go_roundw
          case rel => exact ⟨k + 1, hlt, rfl, (fun n hn hpn => by
            by_cases e : n = k
            · subst e; exact hqk
            · exact hq.out n (by omega) hpn), HM.out⟩
          case measure => simp [intOf]; omega
    · have hk2 : k = 256 := by omega
      subst hk2
      have hw : wi P Q = true := (wi_iff P Q).2 hq.out
      have b9 := m0.b
      clear m0
      go_wp2_with fail
      go_ret
      exact ⟨by rw [hw]; rfl, b9⟩
theorem sum_byte : ∀ i : Nat, i < 8 → (2 ^ i : Int) % 256 = ((2 ^ i : Nat) : Int) := by decide +kernel
theorem Mem_upd {w : World} {g N : Nat} {P : Nat → Bool} {x : Int} {L : List (Nat × (Nat → Bool))} {w1 : World} (h : Mem w ((g, P) :: L) w1) (hL : ∀ x ∈ L, x.1 ≠ g) (hN : N < 256) (hP : P N = false) (hx : x = FB P (N / 8) + ((2 ^ (N % 8) : Nat) : Int)) : Mem w ((g, ad P N) :: L) (w1.setCell ⟨g, N / 8, none⟩ (.int .u8 x)) := by
  have v := h.v (g, P) (by simp)
  refine ⟨fun y hy => ?_, h.b.setCell v.lo _⟩
  rcases List.mem_cons.1 hy with rfl | hy
  · have k := Sp.Vb_set (v := x) v (i := N / 8) (by omega)
    refine ⟨k.lo, k.hi, Sp.CK_ext k.c (fun o _ => ?_), k.f⟩
    unfold Sp.upd
    by_cases e : o = N / 8
    · subst e
      rw [if_pos rfl, hx]
      unfold FB
      rw [by8_add _ _ hP]
      omega
    · rw [if_neg e]
      unfold FB
      dsimp only
      rw [by8_ad_other _ _ _ e]
  · exact Sp.Vb_other (h.v y (List.mem_cons_of_mem _ hy)) (fun e => hL y hy e.symm)
theorem add_fits (P : Nat → Bool) (N : Nat) (h : P N = false) : IntKind.u8.wrap (FB P (N / 8) + ((2 ^ (N % 8) : Nat) : Int)) = FB P (N / 8) + ((2 ^ (N % 8) : Nat) : Int) := by
  have h1 := by8_add P N h
  have h2 := by8_lt (ad P N) (N / 8)
  unfold FB
  rw [IntKind.wrap_u8]
  omega
/-- The joined bits below k. -/
def cu (P : Nat → Bool) (k n : Nat) : Bool := decide (n < k) && P n
theorem cu_zero (P : Nat → Bool) : cu P 0 = fun _ => false := by funext n; simp [cu]
theorem cu_self (P : Nat → Bool) (k : Nat) : cu P k k = false := by simp [cu]
theorem cu_yes {P : Nat → Bool} {k : Nat} (h : P k = true) : cu P (k + 1) = ad (cu P k) k := by
  funext n
  unfold cu ad
  by_cases e : n = k
  · subst e; simp [h]
  · rw [decide_eq_false e, Bool.or_false]
    congr 1
    rw [decide_eq_decide]; omega
theorem cu_no {P : Nat → Bool} {k : Nat} (h : P k = false) : cu P (k + 1) = cu P k := by
  funext n
  unfold cu
  by_cases e : n = k
  · subst e; simp [h]
  · congr 1
    rw [decide_eq_decide]; omega
theorem FB_ext {P Q : Nat → Bool} (h : ∀ n, n < 256 → P n = Q n) (j : Nat) (hj : j < 32) : FB P j = FB Q j := by
  unfold FB
  rw [by8_ext (fun i hi => h (8 * j + i) (by omega))]
theorem Hv_FB {P Q : Nat → Bool} (h : ∀ n, n < 256 → P n = Q n) : Hv (FB P) = Hv (FB Q) := Hv_ext (FB_ext h)
theorem cu_full (P : Nat → Bool) : Hv (FB (cu P 256)) = Hv (FB P) := Hv_FB fun n hn => by unfold cu; rw [decide_eq_true hn, Bool.true_and]
set_option maxHeartbeats 2000000 in
set_option maxRecDepth 100000 in
theorem jjoin_any (P Q : Nat → Bool) (w : World) :
    Calls Try.prog 10 #[Hv (FB P), Hv (FB Q)] w fun e w' => e = .returned (Hv (FB (jn P Q))) ∧ Below w.heap.size w w' := by
  go_enter Try.func10, Try.ntmps10
  go_upto_region 1 with fail
  dsimp only [Hv]
  have m0 := Mem_nil w
  have m1 := Mem_box m0 (P) 24
  have z1 : (w.alloc (.cells (h32 (FB (P))).toArray 24)).heap.size = w.heap.size + 1 := by simp
  generalize w.alloc (.cells (h32 (FB (P))).toArray 24) = W1 at m1 z1 ⊢
  have m2 := Mem_box m1 (Q) 24
  have z2 : (W1.alloc (.cells (h32 (FB (Q))).toArray 24)).heap.size = w.heap.size + 2 := by simp [z1]
  rw [z1] at m2
  generalize W1.alloc (.cells (h32 (FB (Q))).toArray 24) = W2 at m2 z2 ⊢
  generalize (h32 (FB (P))).toArray = c0
  generalize (h32 (FB (Q))).toArray = c1
  clear m1 z1 m0
  have m3 := Mem_zero m2
  have z3 : (W2.alloc (.cells #[.int .u8 0, .int .u8 0, .int .u8 0, .int .u8 0, .int .u8 0, .int .u8 0, .int .u8 0, .int .u8 0, .int .u8 0, .int .u8 0, .int .u8 0, .int .u8 0, .int .u8 0, .int .u8 0, .int .u8 0, .int .u8 0, .int .u8 0, .int .u8 0, .int .u8 0, .int .u8 0, .int .u8 0, .int .u8 0, .int .u8 0, .int .u8 0, .int .u8 0, .int .u8 0, .int .u8 0, .int .u8 0, .int .u8 0, .int .u8 0, .int .u8 0, .int .u8 0] 24)).heap.size = w.heap.size + 3 := by simp [z2]
  rw [z2] at m3
  generalize W2.alloc (.cells #[.int .u8 0, .int .u8 0, .int .u8 0, .int .u8 0, .int .u8 0, .int .u8 0, .int .u8 0, .int .u8 0, .int .u8 0, .int .u8 0, .int .u8 0, .int .u8 0, .int .u8 0, .int .u8 0, .int .u8 0, .int .u8 0, .int .u8 0, .int .u8 0, .int .u8 0, .int .u8 0, .int .u8 0, .int .u8 0, .int .u8 0, .int .u8 0, .int .u8 0, .int .u8 0, .int .u8 0, .int .u8 0, .int .u8 0, .int .u8 0, .int .u8 0, .int .u8 0] 24) = W3 at m3 z3 ⊢
  clear z2 m2
  go_upto_region 2 with fail
  have m4 := Mem_zero m3
  rw [z3] at m4
  generalize W3.alloc (.cells #[.int .u8 0, .int .u8 0, .int .u8 0, .int .u8 0, .int .u8 0, .int .u8 0, .int .u8 0, .int .u8 0, .int .u8 0, .int .u8 0, .int .u8 0, .int .u8 0, .int .u8 0, .int .u8 0, .int .u8 0, .int .u8 0, .int .u8 0, .int .u8 0, .int .u8 0, .int .u8 0, .int .u8 0, .int .u8 0, .int .u8 0, .int .u8 0, .int .u8 0, .int .u8 0, .int .u8 0, .int .u8 0, .int .u8 0, .int .u8 0, .int .u8 0, .int .u8 0] 24) = W4 at m4 ⊢
  clear z3 m3
  go_upto_region 3 with fail
  go_loopw [7] (fun s wr => ∃ k : Nat, k ≤ 256 ∧ s = .int .i64 (k : Int) ∧ Mem w [(w.heap.size + 3, cu (jn P Q) k), (w.heap.size + 2, fun _ => false), (w.heap.size + 1, Q), (w.heap.size, P)] wr) (fun s _ => (256 - intOf s).toNat)
  case atStart => exact ⟨0, by omega, rfl, by rw [cu_zero]; exact m4⟩
  case round =>
    clear m4
    obtain ⟨k, hk, rfl, m0⟩ := hrel
    by_cases hlt : k < 256
    · have K1 : Hid (∀ w : World, Calls Try.prog 19 #[Hv (FB P), .int .i64 (k : Int)] w fun e w' => e = .returned (.bool (P k)) ∧ Below w.heap.size w w') := fun w => has_any P k hlt w
      have K2 : Hid (∀ w : World, Calls Try.prog 19 #[Hv (FB Q), .int .i64 (k : Int)] w fun e w' => e = .returned (.bool (Q k)) ∧ Below w.heap.size w w') := fun w => has_any Q k hlt w
      have d0 : (k : Int) < 256 := by omega
      have HY : Hid (jn P Q k = true → cu (jn P Q) (k + 1) = ad (cu (jn P Q) k) k) := cu_yes
      have HN : Hid (jn P Q k = false → cu (jn P Q) (k + 1) = cu (jn P Q) k) := cu_no
      have HC : Hid (cu (jn P Q) k k = false) := cu_self _ _
      generalize cu (jn P Q) k = C at m0 HY HN HC
      cases hp : P k
      · rw [hp] at K1
        cases hq : Q k
        · rw [hq] at K2
          have hj : jn P Q k = false := by unfold jn; rw [hp, hq]; rfl
          go_upto_region 5 with fail
          refine RS.wp_region_flat (Mem w [(w.heap.size + 3, C), (w.heap.size + 2, fun _ => false), (w.heap.size + 1, Q), (w.heap.size, P)]) 8 (by kernel_rfl) (m0) ?_
          simp only [List.take_succ_cons, List.take_zero, List.drop_succ_cons, List.drop_zero]
          refine RS.go1 (v := ?_) (a' := ?_) rfl ?_ ?_ ?_
          rotate_left 2
          · intro K wx hS hK
            refine ld rfl rfl (hS.v (w.heap.size, P) (by simp)).c ?_
            exact hK _ hS
          · simp only [Act.put, List.setIfInBounds_toArray, List.set_cons_succ, List.set_cons_zero]
            rfl
          refine RS.go1 (v := ?_) (a' := ?_) rfl ?_ ?_ ?_
          rotate_left 2
          · intro K wx hS hK
            go_simp
            exact hK _ hS
          · simp only [Act.put, List.setIfInBounds_toArray, List.set_cons_succ, List.set_cons_zero]
            rfl
          refine RS.go1 (v := ?_) (a' := ?_) rfl ?_ ?_ ?_
          rotate_left 2
          · intro K wx hS hK
            go_simp
            refine (K1.out wx).mono (fun e w2 he => ?_)
            refine ⟨_, he.1, ?_⟩
            exact hK _ (Mem_below hS he.2)
          · simp only [Act.put, List.setIfInBounds_toArray, List.set_cons_succ, List.set_cons_zero]
            rfl
          refine RS.go1 (v := ?_) (a' := ?_) rfl ?_ ?_ ?_
          rotate_left 2
          · intro K wx hS hK
            go_simp
            exact hK _ hS
          · simp only [Act.put, List.setIfInBounds_toArray, List.set_cons_succ, List.set_cons_zero]
            rfl
          refine RS.go1g (v := ?_) (a' := ?_) (by kernel_rfl) ?_ ?_ ?_
          rotate_left 2
          · intro K wx hS hK
            refine ld rfl rfl (hS.v (w.heap.size + 1, Q) (by simp)).c ?_
            exact hK _ hS
          · simp only [Act.put, List.setIfInBounds_toArray, List.set_cons_succ, List.set_cons_zero]
            rfl
          refine RS.go1g (v := ?_) (a' := ?_) (by kernel_rfl) ?_ ?_ ?_
          rotate_left 2
          · intro K wx hS hK
            go_simp
            exact hK _ hS
          · simp only [Act.put, List.setIfInBounds_toArray, List.set_cons_succ, List.set_cons_zero]
            rfl
          refine RS.go1g (v := ?_) (a' := ?_) (by kernel_rfl) ?_ ?_ ?_
          rotate_left 2
          · intro K wx hS hK
            go_simp
            refine (K2.out wx).mono (fun e w2 he => ?_)
            refine ⟨_, he.1, ?_⟩
            exact hK _ (Mem_below hS he.2)
          · simp only [Act.put, List.setIfInBounds_toArray, List.set_cons_succ, List.set_cons_zero]
            rfl
          refine RS.go1 (v := ?_) (a' := ?_) rfl ?_ ?_ ?_
          rotate_left 2
          · intro K wx hS hK
            go_simp
            exact hK _ hS
          · simp only [Act.put, List.setIfInBounds_toArray, List.set_cons_succ, List.set_cons_zero]
            rfl
          refine RS.go_end ?_
          intro w9 m9
          clear m0 K1 K2
          have HM : Hid (Mem w [(w.heap.size + 3, C), (w.heap.size + 2, fun _ => false), (w.heap.size + 1, Q), (w.heap.size, P)] w9) := m9
          have hy := HN.out hj
          clear m9
          have hw := step_i k hlt
          go_wp2_with fail
          go_roundw
          case rel => exact ⟨k + 1, hlt, rfl, by rw [hy]; exact HM.out⟩
          case measure => simp [intOf]; omega
        · rw [hq] at K2
          have hj : jn P Q k = true := by unfold jn; rw [hp, hq]; rfl
          go_upto_region 5 with fail
          refine RS.wp_region_flat (Mem w [(w.heap.size + 3, C), (w.heap.size + 2, fun _ => false), (w.heap.size + 1, Q), (w.heap.size, P)]) 8 (by kernel_rfl) (m0) ?_
          simp only [List.take_succ_cons, List.take_zero, List.drop_succ_cons, List.drop_zero]
          refine RS.go1 (v := ?_) (a' := ?_) rfl ?_ ?_ ?_
          rotate_left 2
          · intro K wx hS hK
            refine ld rfl rfl (hS.v (w.heap.size, P) (by simp)).c ?_
            exact hK _ hS
          · simp only [Act.put, List.setIfInBounds_toArray, List.set_cons_succ, List.set_cons_zero]
            rfl
          refine RS.go1 (v := ?_) (a' := ?_) rfl ?_ ?_ ?_
          rotate_left 2
          · intro K wx hS hK
            go_simp
            exact hK _ hS
          · simp only [Act.put, List.setIfInBounds_toArray, List.set_cons_succ, List.set_cons_zero]
            rfl
          refine RS.go1 (v := ?_) (a' := ?_) rfl ?_ ?_ ?_
          rotate_left 2
          · intro K wx hS hK
            go_simp
            refine (K1.out wx).mono (fun e w2 he => ?_)
            refine ⟨_, he.1, ?_⟩
            exact hK _ (Mem_below hS he.2)
          · simp only [Act.put, List.setIfInBounds_toArray, List.set_cons_succ, List.set_cons_zero]
            rfl
          refine RS.go1 (v := ?_) (a' := ?_) rfl ?_ ?_ ?_
          rotate_left 2
          · intro K wx hS hK
            go_simp
            exact hK _ hS
          · simp only [Act.put, List.setIfInBounds_toArray, List.set_cons_succ, List.set_cons_zero]
            rfl
          refine RS.go1g (v := ?_) (a' := ?_) (by kernel_rfl) ?_ ?_ ?_
          rotate_left 2
          · intro K wx hS hK
            refine ld rfl rfl (hS.v (w.heap.size + 1, Q) (by simp)).c ?_
            exact hK _ hS
          · simp only [Act.put, List.setIfInBounds_toArray, List.set_cons_succ, List.set_cons_zero]
            rfl
          refine RS.go1g (v := ?_) (a' := ?_) (by kernel_rfl) ?_ ?_ ?_
          rotate_left 2
          · intro K wx hS hK
            go_simp
            exact hK _ hS
          · simp only [Act.put, List.setIfInBounds_toArray, List.set_cons_succ, List.set_cons_zero]
            rfl
          refine RS.go1g (v := ?_) (a' := ?_) (by kernel_rfl) ?_ ?_ ?_
          rotate_left 2
          · intro K wx hS hK
            go_simp
            refine (K2.out wx).mono (fun e w2 he => ?_)
            refine ⟨_, he.1, ?_⟩
            exact hK _ (Mem_below hS he.2)
          · simp only [Act.put, List.setIfInBounds_toArray, List.set_cons_succ, List.set_cons_zero]
            rfl
          refine RS.go1 (v := ?_) (a' := ?_) rfl ?_ ?_ ?_
          rotate_left 2
          · intro K wx hS hK
            go_simp
            exact hK _ hS
          · simp only [Act.put, List.setIfInBounds_toArray, List.set_cons_succ, List.set_cons_zero]
            rfl
          refine RS.go_end ?_
          intro w9 m9
          clear m0 K1 K2
          have v9 := m9.v (w.heap.size + 3, C) (by simp)
          have c9 := v9.c (k / 8) (by omega)
          have f9 := v9.f (k / 8)
          have HM : Hid (Mem w [(w.heap.size + 3, C), (w.heap.size + 2, fun _ => false), (w.heap.size + 1, Q), (w.heap.size, P)] w9) := m9
          have hy := HY.out hj
          clear v9 m9
          have d2 : (0 : Int) ≤ (k : Int) / 8 := by omega
          have d3 : (k : Int) / 8 < 32 := by omega
          have t1 : ((k : Int) / 8).toNat = k / 8 := by omega
          have d4 : (0 : Int) ≤ (k : Int) % 8 := by omega
          have t2 : ((k : Int) % 8).toNat = k % 8 := by omega
          have hw := step_i k hlt
          have y2 := sum_byte (k % 8) (Nat.mod_lt _ (by decide))
          have y3 := add_fits C k HC.out
          go_wp2_with fail
          go_region
          all_goals
            clear c9 f9 d2 d3 t1 d4 t2 y2
            go_wp2_with fail
            go_roundw
            case rel =>
              first | exact ⟨k + 1, hlt, rfl, by rw [hy]; exact Mem_drew (Mem_upd HM.out (by simp) hlt HC.out y3)⟩ | ((repeat apply Exists.intro); exact ⟨⟨k + 1, hlt, rfl, by rw [hy]; exact Mem_drew (Mem_upd HM.out (by simp) hlt HC.out y3)⟩, rfl⟩)
            case measure => simp [intOf]; omega
      · rw [hp] at K1
        have hj : jn P Q k = true := by unfold jn; rw [hp]; rfl
        go_upto_region 5 with fail
        refine RS.wp_region_flat (Mem w [(w.heap.size + 3, C), (w.heap.size + 2, fun _ => false), (w.heap.size + 1, Q), (w.heap.size, P)]) 8 (by kernel_rfl) (m0) ?_
        simp only [List.take_succ_cons, List.take_zero, List.drop_succ_cons, List.drop_zero]
        refine RS.go1 (v := ?_) (a' := ?_) rfl ?_ ?_ ?_
        rotate_left 2
        · intro K wx hS hK
          refine ld rfl rfl (hS.v (w.heap.size, P) (by simp)).c ?_
          exact hK _ hS
        · simp only [Act.put, List.setIfInBounds_toArray, List.set_cons_succ, List.set_cons_zero]
          rfl
        refine RS.go1 (v := ?_) (a' := ?_) rfl ?_ ?_ ?_
        rotate_left 2
        · intro K wx hS hK
          go_simp
          exact hK _ hS
        · simp only [Act.put, List.setIfInBounds_toArray, List.set_cons_succ, List.set_cons_zero]
          rfl
        refine RS.go1 (v := ?_) (a' := ?_) rfl ?_ ?_ ?_
        rotate_left 2
        · intro K wx hS hK
          go_simp
          refine (K1.out wx).mono (fun e w2 he => ?_)
          refine ⟨_, he.1, ?_⟩
          exact hK _ (Mem_below hS he.2)
        · simp only [Act.put, List.setIfInBounds_toArray, List.set_cons_succ, List.set_cons_zero]
          rfl
        refine RS.go1 (v := ?_) (a' := ?_) rfl ?_ ?_ ?_
        rotate_left 2
        · intro K wx hS hK
          go_simp
          exact hK _ hS
        · simp only [Act.put, List.setIfInBounds_toArray, List.set_cons_succ, List.set_cons_zero]
          rfl
        refine RS.go0 (a' := ?_) (by kernel_rfl) ?_ ?_
        rotate_left 1
        · simp only [Act.put, List.setIfInBounds_toArray, List.set_cons_succ, List.set_cons_zero]
          rfl
        refine RS.go0 (a' := ?_) (by kernel_rfl) ?_ ?_
        rotate_left 1
        · simp only [Act.put, List.setIfInBounds_toArray, List.set_cons_succ, List.set_cons_zero]
          rfl
        refine RS.go0 (a' := ?_) (by kernel_rfl) ?_ ?_
        rotate_left 1
        · simp only [Act.put, List.setIfInBounds_toArray, List.set_cons_succ, List.set_cons_zero]
          rfl
        refine RS.go1 (v := ?_) (a' := ?_) rfl ?_ ?_ ?_
        rotate_left 2
        · intro K wx hS hK
          go_simp
          exact hK _ hS
        · simp only [Act.put, List.setIfInBounds_toArray, List.set_cons_succ, List.set_cons_zero]
          rfl
        refine RS.go_end ?_
        intro w9 m9
        clear m0 K1 K2
        have v9 := m9.v (w.heap.size + 3, C) (by simp)
        have c9 := v9.c (k / 8) (by omega)
        have f9 := v9.f (k / 8)
        have HM : Hid (Mem w [(w.heap.size + 3, C), (w.heap.size + 2, fun _ => false), (w.heap.size + 1, Q), (w.heap.size, P)] w9) := m9
        have hy := HY.out hj
        clear v9 m9
        have d2 : (0 : Int) ≤ (k : Int) / 8 := by omega
        have d3 : (k : Int) / 8 < 32 := by omega
        have t1 : ((k : Int) / 8).toNat = k / 8 := by omega
        have d4 : (0 : Int) ≤ (k : Int) % 8 := by omega
        have t2 : ((k : Int) % 8).toNat = k % 8 := by omega
        have hw := step_i k hlt
        have y2 := sum_byte (k % 8) (Nat.mod_lt _ (by decide))
        have y3 := add_fits C k HC.out
        go_wp2_with fail
        go_region
        all_goals
          clear c9 f9 d2 d3 t1 d4 t2 y2
          go_wp2_with fail
          go_roundw
          case rel =>
            first | exact ⟨k + 1, hlt, rfl, by rw [hy]; exact Mem_drew (Mem_upd HM.out (by simp) hlt HC.out y3)⟩ | ((repeat apply Exists.intro); exact ⟨⟨k + 1, hlt, rfl, by rw [hy]; exact Mem_drew (Mem_upd HM.out (by simp) hlt HC.out y3)⟩, rfl⟩)
          case measure => simp [intOf]; omega
    · have hk2 : k = 256 := by omega
      subst hk2
      have v0 := m0.v (w.heap.size + 2, fun _ => false) (by simp)
      have ef := cu_full (jn P Q)
      have r1 := range32 (Mem_CK m0 (g := w.heap.size + 3) (P := cu (jn P Q) 256) (by simp))
      generalize cu (jn P Q) 256 = C at ef r1 m0
      have t1 : wr.there (w.heap.size + 2) 0 (h32 (FB C)).toArray.size := there32a v0.c v0.f
      have C0 : Hid (Sp.CK .u8 (w.heap.size + 2) 32 (FB C) (wr.setCells (w.heap.size + 2) 0 (h32 (FB C)).toArray.toList)) := CK_set32 v0.c v0.f
      have HB : Hid (Below w.heap.size w (wr.setCells (w.heap.size + 2) 0 (h32 (FB C)).toArray.toList)) := Bel_sets (by omega) _ _ _ m0.b
      clear m0 v0
      go_upto_region 8 with fail
      refine wp_region_lit ?_
      refine wpList_load_mid rfl 24 (.tmp 5) rfl (w.heap.size + 3) 0 rfl (h32 (FB C)) _ r1 Try.underlying24 rfl info32 ?_
      refine wpList_store_mid rfl 24 (.tmp 4) (.tmp 28) rfl (w.heap.size + 2) 0 (h32 (FB C)).toArray rfl rfl t1 info32a (all_oneCell_toArray (h32_one (FB C))) ?_
      refine wpList_nil ?_
      generalize wr.setCells (w.heap.size + 2) 0 (h32 (FB C)).toArray.toList = W4 at C0 HB ⊢
      generalize (h32 (FB C)).toArray = cs
      go_wp2_with fail
      refine bodyPost_ret (v := Hv (FB C)) (result32 _ _ _ (w.heap.size + 2) 4 _ rfl rfl C0.out) rfl ⟨by rw [ef], HB.out⟩
end Bl
end Go.Proofs.Ytcgjkombefhjmaa
/- lampbearerref.JOf. -/
namespace Go.Proofs.Ytcgjkombefhjmaa
namespace Bl
open Go.RowKit Sp
/-- The bits below k, and bit k, if one of the first j texts has it. -/
def dd (ps : List (List UInt8)) (k j n : Nat) : Bool := cu (of ps) k n || (decide (n = k) && of (ps.take j) n)
theorem dd_zero (ps : List (List UInt8)) (k : Nat) : dd ps k 0 = cu (of ps) k := by funext n; simp [dd, of]
theorem dd_last (ps : List (List UInt8)) (k : Nat) : dd ps k ps.length = cu (of ps) (k + 1) := by
  funext n
  unfold dd cu
  rw [List.take_length]
  by_cases e : n = k
  · subst e; simp
  · rw [decide_eq_false e, Bool.false_and, Bool.or_false]
    congr 1
    rw [decide_eq_decide]; omega
theorem dd_step {ps : List (List UInt8)} {j : Nat} (h : j < ps.length) (k n : Nat) : dd ps k (j + 1) n = (dd ps k j n || (decide (n = k) && tb (ps.getD j []) n)) := by
  unfold dd
  rw [of_take ps j h]
  unfold jn
  cases cu (of ps) k n <;> cases decide (n = k) <;> simp
theorem dd_no {ps : List (List UInt8)} {j k : Nat} (h : j < ps.length) (ht : tb (ps.getD j []) k = false) : dd ps k (j + 1) = dd ps k j := by
  funext n
  rw [dd_step h]
  by_cases e : n = k
  · subst e; rw [ht]; simp
  · rw [decide_eq_false e]; simp
theorem dd_there {ps : List (List UInt8)} {j k : Nat} (h : j < ps.length) (hd : dd ps k j k = true) : dd ps k (j + 1) = dd ps k j := by
  funext n
  rw [dd_step h]
  by_cases e : n = k
  · subst e; rw [hd]; simp
  · rw [decide_eq_false e]; simp
theorem dd_yes {ps : List (List UInt8)} {j k : Nat} (h : j < ps.length) (ht : tb (ps.getD j []) k = true) : dd ps k (j + 1) = ad (dd ps k j) k := by
  funext n
  rw [dd_step h]
  unfold ad
  by_cases e : n = k
  · subst e; rw [ht]; simp
  · rw [decide_eq_false e]; simp
theorem ieq {a k : Nat} (h : ¬ a = k) : ((a : Int) == (k : Int)) = false := by
  rw [beq_eq_false_iff_ne]
  omega
theorem tb_iff (l : List UInt8) (a b c n : Nat) (ha : sumf l 0 = (a : Int)) (hb : sumf l 1 = (b : Int)) (hc : sumf l 2 = (c : Int)) : tb l n = true ↔ a = n ∨ b = n ∨ c = n := by
  unfold tb
  rw [ha, hb, hc, Bool.or_eq_true, Bool.or_eq_true, decide_eq_true_iff, decide_eq_true_iff, decide_eq_true_iff]
  omega
set_option maxHeartbeats 2000000 in
set_option maxRecDepth 100000 in
theorem jof_any (ps : List (List UInt8)) (v : Value) (w : World) (hps : Hid (ps.flatten.length ≤ 1048576)) (hn : Hid (ps.length ≤ 1048576)) (h : Ls ps v w) :
    Calls Try.prog 8 #[v] w fun e w' => e = .returned (Hv (FB (of ps))) ∧ Below w.heap.size w w' := by
  have HL : Hid (Ls ps v w) := h
  obtain ⟨ao, cap, rfl, hL⟩ := h
  clear hL
  obtain ⟨n, en⟩ : ∃ n, n = ps.length := ⟨_, rfl⟩
  rw [← en] at HL hn ⊢
  have EN : Hid (n = ps.length) := en
  clear en
  go_enter Try.func8, Try.ntmps8
  go_upto_region 1 with fail
  have m1 := Mem_zero (Mem_nil w)
  have z1 : (w.alloc (.cells #[.int .u8 0, .int .u8 0, .int .u8 0, .int .u8 0, .int .u8 0, .int .u8 0, .int .u8 0, .int .u8 0, .int .u8 0, .int .u8 0, .int .u8 0, .int .u8 0, .int .u8 0, .int .u8 0, .int .u8 0, .int .u8 0, .int .u8 0, .int .u8 0, .int .u8 0, .int .u8 0, .int .u8 0, .int .u8 0, .int .u8 0, .int .u8 0, .int .u8 0, .int .u8 0, .int .u8 0, .int .u8 0, .int .u8 0, .int .u8 0, .int .u8 0, .int .u8 0] 24)).heap.size = w.heap.size + 1 := by simp
  generalize w.alloc (.cells #[.int .u8 0, .int .u8 0, .int .u8 0, .int .u8 0, .int .u8 0, .int .u8 0, .int .u8 0, .int .u8 0, .int .u8 0, .int .u8 0, .int .u8 0, .int .u8 0, .int .u8 0, .int .u8 0, .int .u8 0, .int .u8 0, .int .u8 0, .int .u8 0, .int .u8 0, .int .u8 0, .int .u8 0, .int .u8 0, .int .u8 0, .int .u8 0, .int .u8 0, .int .u8 0, .int .u8 0, .int .u8 0, .int .u8 0, .int .u8 0, .int .u8 0, .int .u8 0] 24) = W1 at m1 z1 ⊢
  go_upto_region 2 with fail
  have m2 := Mem_zero m1
  rw [z1] at m2
  generalize W1.alloc (.cells #[.int .u8 0, .int .u8 0, .int .u8 0, .int .u8 0, .int .u8 0, .int .u8 0, .int .u8 0, .int .u8 0, .int .u8 0, .int .u8 0, .int .u8 0, .int .u8 0, .int .u8 0, .int .u8 0, .int .u8 0, .int .u8 0, .int .u8 0, .int .u8 0, .int .u8 0, .int .u8 0, .int .u8 0, .int .u8 0, .int .u8 0, .int .u8 0, .int .u8 0, .int .u8 0, .int .u8 0, .int .u8 0, .int .u8 0, .int .u8 0, .int .u8 0, .int .u8 0] 24) = W2 at m2 ⊢
  clear m1 z1
  go_upto_region 3 with fail
  go_loopw [8] (fun i wr => ∃ k : Nat, k ≤ 256 ∧ i = .int .i64 (k : Int) ∧ Mem w [(w.heap.size + 1, cu (of ps) k), (w.heap.size, fun _ => false)] wr) (fun i _ => (256 - intOf i).toNat)
  case atStart => exact ⟨0, by omega, rfl, by rw [cu_zero]; exact m2⟩
  case round =>
    clear m2
    obtain ⟨k, hk, rfl, m0⟩ := hrel
    by_cases hlt : k < 256
    · have d0 : (k : Int) < 256 := by omega
      go_upto_region 6 with fail
      go_loopw [13] (fun i wr => ∃ j : Nat, j ≤ n ∧ i = .int .i64 (j : Int) ∧ Mem w [(w.heap.size + 1, dd ps k j), (w.heap.size, fun _ => false)] wr) (fun i _ => ((n : Int) - intOf i).toNat)
      case atStart => exact ⟨0, by omega, rfl, by rw [dd_zero]; exact m0⟩
      case round =>
        clear m0
        obtain ⟨j, hj, rfl, m0⟩ := hrel
        by_cases hlj : j < n
        · have en := EN.out
          obtain ⟨ao2, cap2, e2, hL2⟩ := HL.out
          obtain ⟨gp, op, hao, hgp, hcell⟩ := hL2 (by omega)
          obtain ⟨vi, c1, hsl⟩ := hcell j (by omega)
          have hao2 : ao = some ⟨gp, op, none⟩ := by
            rw [← hao]
            injection e2
          subst hao2
          have c2 := (m0.b.cell (p := ⟨gp, op + j, none⟩) hgp).trans c1
          have hln := len_le (ps := ps) (k := j) (by omega)
          have hps2 := hps.out
          obtain ⟨bo, bap, rfl, hbap, hvw⟩ := hsl
          have HG : Hid (tb (ps.getD j []) k = true → dd ps k (j + 1) = ad (dd ps k j) k) := dd_yes (by omega)
          have HS1 : Hid (tb (ps.getD j []) k = false → dd ps k (j + 1) = dd ps k j) := dd_no (by omega)
          have HS2 : Hid (dd ps k j k = true → dd ps k (j + 1) = dd ps k j) := dd_there (by omega)
          generalize dd ps k j = D at m0 HG HS1 HS2
          generalize ps.getD j [] = t at hln c2 hvw c1 HG HS1
          have K1 : Hid (∀ wx : World, Below w.heap.size w wx → Calls Try.prog 18 #[.slice bo t.length bap] wx fun e w' => e = .returned (Hv (sumf t)) ∧ Below wx.heap.size wx w') := fun wx hb => Sp.ssum_any t bo bap wx (by omega) (Sp.Vw_below hvw hb)
          have K2 : Hid (∀ w : World, Calls Try.prog 19 #[Hv (FB D), .int .i64 (k : Int)] w fun e w' => e = .returned (.bool (D k)) ∧ Below w.heap.size w w') := fun w => has_any D k hlt w
          have d2 : (j : Int) < (n : Int) := by omega
          have d1 : (0 : Int) ≤ (j : Int) := by omega
          clear hcell hL2 e2 hao hgp en c1 hln hps2 hbap hvw
          go_wp2_with fail
          refine (K1.out _ m0.b).mono ?_
          rintro e w3 ⟨rfl, hb3⟩
          have m3 := Mem_below m0 hb3
          clear m0 hb3 K1 c2
          dsimp only
          go_step
          go_step
          go_step
          have m4 := Mem_al m3 (.cells #[.int .u8 0, .int .u8 0, .int .u8 0, .int .u8 0, .int .u8 0, .int .u8 0, .int .u8 0, .int .u8 0, .int .u8 0, .int .u8 0, .int .u8 0, .int .u8 0, .int .u8 0, .int .u8 0, .int .u8 0, .int .u8 0, .int .u8 0, .int .u8 0, .int .u8 0, .int .u8 0, .int .u8 0, .int .u8 0, .int .u8 0, .int .u8 0, .int .u8 0, .int .u8 0, .int .u8 0, .int .u8 0, .int .u8 0, .int .u8 0, .int .u8 0, .int .u8 0] 24)
          have s4 := Sp.Vb_zero32 w.heap.size w3 24 m3.b.size
          have hz3 : w.heap.size + 1 < w3.heap.size := (m3.v (w.heap.size + 1, D) (by simp)).hi
          generalize hg : w3.heap.size = g at hz3 s4 ⊢
          generalize w3.alloc (.cells #[.int .u8 0, .int .u8 0, .int .u8 0, .int .u8 0, .int .u8 0, .int .u8 0, .int .u8 0, .int .u8 0, .int .u8 0, .int .u8 0, .int .u8 0, .int .u8 0, .int .u8 0, .int .u8 0, .int .u8 0, .int .u8 0, .int .u8 0, .int .u8 0, .int .u8 0, .int .u8 0, .int .u8 0, .int .u8 0, .int .u8 0, .int .u8 0, .int .u8 0, .int .u8 0, .int .u8 0, .int .u8 0, .int .u8 0, .int .u8 0, .int .u8 0, .int .u8 0] 24) = W4 at m4 s4 ⊢
          clear hg m3
          have tt : W4.there g 0 (h32 (sumf t)).toArray.size := there32a s4.c s4.f
          have m5 : MS w [(w.heap.size + 1, D), (w.heap.size, fun _ => false)] g (sumf t) (W4.setCells g 0 (h32 (sumf t)).toArray.toList) := by
            refine ⟨⟨fun x hx => Sp.Vb_gb (m4.v x hx) (gb_sets g (h32 (sumf t)).toArray.toList 0 W4) ?_, Bel_sets (by omega) _ _ _ m4.b⟩, CK_set32 s4.c s4.f, by rw [size_setCells]; exact s4.hi⟩
            simp only [List.mem_cons, List.not_mem_nil, or_false] at hx
            rcases hx with rfl | rfl <;> (dsimp only; omega)
          go_step
          refine wpList_store_mid rfl 24 (.tmp 7) (.tmp 18) rfl g 0 (h32 (sumf t)).toArray rfl rfl tt info32a (all_oneCell_toArray (h32_one (sumf t))) ?_
          refine wpList_nil ?_
          generalize W4.setCells g 0 (h32 (sumf t)).toArray.toList = W5 at m5 ⊢
          clear tt s4 m4
          obtain ⟨a, ha⟩ : ∃ N : Nat, sumf t 0 = (N : Int) := ⟨(sumf t 0).toNat, by have := sumf_nn t 0; omega⟩
          obtain ⟨b, hb⟩ : ∃ N : Nat, sumf t 1 = (N : Int) := ⟨(sumf t 1).toNat, by have := sumf_nn t 1; omega⟩
          obtain ⟨c, hc⟩ : ∃ N : Nat, sumf t 2 = (N : Int) := ⟨(sumf t 2).toNat, by have := sumf_nn t 2; omega⟩
          have ya : IntKind.i64.wrap (a : Int) = a := by rw [IntKind.wrap_i64]; have := sumf_lt t 0; omega
          have yb : IntKind.i64.wrap (b : Int) = b := by rw [IntKind.wrap_i64]; have := sumf_lt t 1; omega
          have yc : IntKind.i64.wrap (c : Int) = c := by rw [IntKind.wrap_i64]; have := sumf_lt t 2; omega
          have HT : Hid (tb t k = true ↔ a = k ∨ b = k ∨ c = k) := tb_iff t a b c k ha hb hc
          have HA : Hid (sumf t 0 = (a : Int)) := ha
          have HB : Hid (sumf t 1 = (b : Int)) := hb
          have HC : Hid (sumf t 2 = (c : Int)) := hc
          clear ha hb hc
          generalize Hv (sumf t) = hs
          by_cases qa : a = k
          · replace qa := qa.symm
            subst qa
            cases hD : D k
            · rw [hD] at K2
              have hgo := HG.out (HT.out.2 (by simp))
              go_upto_region 9 with fail
              refine RS.wp_region_flat (MS w [(w.heap.size + 1, D), (w.heap.size, fun _ => false)] g (sumf t)) 25 (by kernel_rfl) (m5) ?_
              simp only [List.take_succ_cons, List.take_zero, List.drop_succ_cons, List.drop_zero]
              refine RS.go1 (v := ?_) (a' := ?_) rfl ?_ ?_ ?_
              rotate_left 2
              · intro K wx hS hK
                go_simp
                exact hK _ hS
              · simp only [Act.put, List.setIfInBounds_toArray, List.set_cons_succ, List.set_cons_zero]
                rfl
              refine RS.go1 (v := ?_) (a' := ?_) rfl ?_ ?_ ?_
              rotate_left 2
              · intro K wx hS hK
                have x0 := hS.c 0 (by decide)
                rw [HA.out] at x0
                go_simp
                exact hK _ hS
              · simp only [Act.put, List.setIfInBounds_toArray, List.set_cons_succ, List.set_cons_zero]
                rfl
              refine RS.go1 (v := ?_) (a' := ?_) rfl ?_ ?_ ?_
              rotate_left 2
              · intro K wx hS hK
                go_simp
                exact hK _ hS
              · simp only [Act.put, List.setIfInBounds_toArray, List.set_cons_succ, List.set_cons_zero]
                rfl
              refine RS.go1 (v := ?_) (a' := ?_) rfl ?_ ?_ ?_
              rotate_left 2
              · intro K wx hS hK
                go_simp
                exact hK _ hS
              · simp only [Act.put, List.setIfInBounds_toArray, List.set_cons_succ, List.set_cons_zero]
                rfl
              refine RS.go1 (v := ?_) (a' := ?_) rfl ?_ ?_ ?_
              rotate_left 2
              · intro K wx hS hK
                go_simp
                exact hK _ hS
              · simp only [Act.put, List.setIfInBounds_toArray, List.set_cons_succ, List.set_cons_zero]
                rfl
              refine RS.go1 (v := ?_) (a' := ?_) rfl ?_ ?_ ?_
              rotate_left 2
              · intro K wx hS hK
                go_simp
                exact hK _ hS
              · simp only [Act.put, List.setIfInBounds_toArray, List.set_cons_succ, List.set_cons_zero]
                rfl
              refine RS.go0 (a' := ?_) (by kernel_rfl) ?_ ?_
              rotate_left 1
              · simp only [Act.put, List.setIfInBounds_toArray, List.set_cons_succ, List.set_cons_zero]
                rfl
              refine RS.go0 (a' := ?_) (by kernel_rfl) ?_ ?_
              rotate_left 1
              · simp only [Act.put, List.setIfInBounds_toArray, List.set_cons_succ, List.set_cons_zero]
                rfl
              refine RS.go0 (a' := ?_) (by kernel_rfl) ?_ ?_
              rotate_left 1
              · simp only [Act.put, List.setIfInBounds_toArray, List.set_cons_succ, List.set_cons_zero]
                rfl
              refine RS.go0 (a' := ?_) (by kernel_rfl) ?_ ?_
              rotate_left 1
              · simp only [Act.put, List.setIfInBounds_toArray, List.set_cons_succ, List.set_cons_zero]
                rfl
              refine RS.go0 (a' := ?_) (by kernel_rfl) ?_ ?_
              rotate_left 1
              · simp only [Act.put, List.setIfInBounds_toArray, List.set_cons_succ, List.set_cons_zero]
                rfl
              refine RS.go1 (v := ?_) (a' := ?_) rfl ?_ ?_ ?_
              rotate_left 2
              · intro K wx hS hK
                go_simp
                exact hK _ hS
              · simp only [Act.put, List.setIfInBounds_toArray, List.set_cons_succ, List.set_cons_zero]
                rfl
              refine RS.go1 (v := ?_) (a' := ?_) rfl ?_ ?_ ?_
              rotate_left 2
              · intro K wx hS hK
                go_simp
                exact hK _ hS
              · simp only [Act.put, List.setIfInBounds_toArray, List.set_cons_succ, List.set_cons_zero]
                rfl
              refine RS.go0 (a' := ?_) (by kernel_rfl) ?_ ?_
              rotate_left 1
              · simp only [Act.put, List.setIfInBounds_toArray, List.set_cons_succ, List.set_cons_zero]
                rfl
              refine RS.go0 (a' := ?_) (by kernel_rfl) ?_ ?_
              rotate_left 1
              · simp only [Act.put, List.setIfInBounds_toArray, List.set_cons_succ, List.set_cons_zero]
                rfl
              refine RS.go0 (a' := ?_) (by kernel_rfl) ?_ ?_
              rotate_left 1
              · simp only [Act.put, List.setIfInBounds_toArray, List.set_cons_succ, List.set_cons_zero]
                rfl
              refine RS.go0 (a' := ?_) (by kernel_rfl) ?_ ?_
              rotate_left 1
              · simp only [Act.put, List.setIfInBounds_toArray, List.set_cons_succ, List.set_cons_zero]
                rfl
              refine RS.go0 (a' := ?_) (by kernel_rfl) ?_ ?_
              rotate_left 1
              · simp only [Act.put, List.setIfInBounds_toArray, List.set_cons_succ, List.set_cons_zero]
                rfl
              refine RS.go1 (v := ?_) (a' := ?_) rfl ?_ ?_ ?_
              rotate_left 2
              · intro K wx hS hK
                go_simp
                exact hK _ hS
              · simp only [Act.put, List.setIfInBounds_toArray, List.set_cons_succ, List.set_cons_zero]
                rfl
              refine RS.go1 (v := ?_) (a' := ?_) rfl ?_ ?_ ?_
              rotate_left 2
              · intro K wx hS hK
                go_simp
                exact hK _ hS
              · simp only [Act.put, List.setIfInBounds_toArray, List.set_cons_succ, List.set_cons_zero]
                rfl
              refine RS.go1g (v := ?_) (a' := ?_) (by kernel_rfl) ?_ ?_ ?_
              rotate_left 2
              · intro K wx hS hK
                refine ld rfl rfl (hS.m.v (w.heap.size + 1, D) (by simp)).c ?_
                exact hK _ hS
              · simp only [Act.put, List.setIfInBounds_toArray, List.set_cons_succ, List.set_cons_zero]
                rfl
              refine RS.go1g (v := ?_) (a' := ?_) (by kernel_rfl) ?_ ?_ ?_
              rotate_left 2
              · intro K wx hS hK
                go_simp
                exact hK _ hS
              · simp only [Act.put, List.setIfInBounds_toArray, List.set_cons_succ, List.set_cons_zero]
                rfl
              refine RS.go1g (v := ?_) (a' := ?_) (by kernel_rfl) ?_ ?_ ?_
              rotate_left 2
              · intro K wx hS hK
                go_simp
                refine (K2.out wx).mono (fun e w2 he => ?_)
                refine ⟨_, he.1, ?_⟩
                exact hK _ (MS_below hS he.2)
              · simp only [Act.put, List.setIfInBounds_toArray, List.set_cons_succ, List.set_cons_zero]
                rfl
              refine RS.go1g (v := ?_) (a' := ?_) (by kernel_rfl) ?_ ?_ ?_
              rotate_left 2
              · intro K wx hS hK
                go_simp
                exact hK _ hS
              · simp only [Act.put, List.setIfInBounds_toArray, List.set_cons_succ, List.set_cons_zero]
                rfl
              refine RS.go1 (v := ?_) (a' := ?_) rfl ?_ ?_ ?_
              rotate_left 2
              · intro K wx hS hK
                go_simp
                exact hK _ hS
              · simp only [Act.put, List.setIfInBounds_toArray, List.set_cons_succ, List.set_cons_zero]
                rfl
              refine RS.go_end ?_
              intro w9 m9
              have v9 := m9.m.v (w.heap.size + 1, D) (by simp)
              have c9 := v9.c (k / 8) (by omega)
              have f9 := v9.f (k / 8)
              have HM : Hid (Mem w [(w.heap.size + 1, D), (w.heap.size, fun _ => false)] w9) := m9.m
              clear v9 m9 m5 K2 HA HB HC
              have d2 : (0 : Int) ≤ (k : Int) / 8 := by omega
              have d3 : (k : Int) / 8 < 32 := by omega
              have t1 : ((k : Int) / 8).toNat = k / 8 := by omega
              have d4 : (0 : Int) ≤ (k : Int) % 8 := by omega
              have t2 : ((k : Int) % 8).toNat = k % 8 := by omega
              have hw := Pk.step_w9 j n hlj hn
              have y2 := sum_byte (k % 8) (Nat.mod_lt _ (by decide))
              have y3 := add_fits D k hD
              go_wp2_with fail
              go_region
              all_goals
                clear c9 f9 d2 d3 t1 d4 t2 y2
                go_wp2_with fail
                go_roundw
                case rel =>
                  first | exact ⟨j + 1, hlj, Pk.step_v j _ hw.out, by rw [hgo]; exact Mem_drew (Mem_upd HM.out (by simp) hlt hD y3)⟩ | ((repeat apply Exists.intro); exact ⟨⟨j + 1, hlj, Pk.step_v j _ hw.out, by rw [hgo]; exact Mem_drew (Mem_upd HM.out (by simp) hlt hD y3)⟩, rfl⟩)
                case measure => exact Pk.msr j n hlj _ hw.out
            · rw [hD] at K2
              have hstay := HS2.out hD
              go_upto_region 9 with fail
              refine RS.wp_region_flat (MS w [(w.heap.size + 1, D), (w.heap.size, fun _ => false)] g (sumf t)) 25 (by kernel_rfl) (m5) ?_
              simp only [List.take_succ_cons, List.take_zero, List.drop_succ_cons, List.drop_zero]
              refine RS.go1 (v := ?_) (a' := ?_) rfl ?_ ?_ ?_
              rotate_left 2
              · intro K wx hS hK
                go_simp
                exact hK _ hS
              · simp only [Act.put, List.setIfInBounds_toArray, List.set_cons_succ, List.set_cons_zero]
                rfl
              refine RS.go1 (v := ?_) (a' := ?_) rfl ?_ ?_ ?_
              rotate_left 2
              · intro K wx hS hK
                have x0 := hS.c 0 (by decide)
                rw [HA.out] at x0
                go_simp
                exact hK _ hS
              · simp only [Act.put, List.setIfInBounds_toArray, List.set_cons_succ, List.set_cons_zero]
                rfl
              refine RS.go1 (v := ?_) (a' := ?_) rfl ?_ ?_ ?_
              rotate_left 2
              · intro K wx hS hK
                go_simp
                exact hK _ hS
              · simp only [Act.put, List.setIfInBounds_toArray, List.set_cons_succ, List.set_cons_zero]
                rfl
              refine RS.go1 (v := ?_) (a' := ?_) rfl ?_ ?_ ?_
              rotate_left 2
              · intro K wx hS hK
                go_simp
                exact hK _ hS
              · simp only [Act.put, List.setIfInBounds_toArray, List.set_cons_succ, List.set_cons_zero]
                rfl
              refine RS.go1 (v := ?_) (a' := ?_) rfl ?_ ?_ ?_
              rotate_left 2
              · intro K wx hS hK
                go_simp
                exact hK _ hS
              · simp only [Act.put, List.setIfInBounds_toArray, List.set_cons_succ, List.set_cons_zero]
                rfl
              refine RS.go1 (v := ?_) (a' := ?_) rfl ?_ ?_ ?_
              rotate_left 2
              · intro K wx hS hK
                go_simp
                exact hK _ hS
              · simp only [Act.put, List.setIfInBounds_toArray, List.set_cons_succ, List.set_cons_zero]
                rfl
              refine RS.go0 (a' := ?_) (by kernel_rfl) ?_ ?_
              rotate_left 1
              · simp only [Act.put, List.setIfInBounds_toArray, List.set_cons_succ, List.set_cons_zero]
                rfl
              refine RS.go0 (a' := ?_) (by kernel_rfl) ?_ ?_
              rotate_left 1
              · simp only [Act.put, List.setIfInBounds_toArray, List.set_cons_succ, List.set_cons_zero]
                rfl
              refine RS.go0 (a' := ?_) (by kernel_rfl) ?_ ?_
              rotate_left 1
              · simp only [Act.put, List.setIfInBounds_toArray, List.set_cons_succ, List.set_cons_zero]
                rfl
              refine RS.go0 (a' := ?_) (by kernel_rfl) ?_ ?_
              rotate_left 1
              · simp only [Act.put, List.setIfInBounds_toArray, List.set_cons_succ, List.set_cons_zero]
                rfl
              refine RS.go0 (a' := ?_) (by kernel_rfl) ?_ ?_
              rotate_left 1
              · simp only [Act.put, List.setIfInBounds_toArray, List.set_cons_succ, List.set_cons_zero]
                rfl
              refine RS.go1 (v := ?_) (a' := ?_) rfl ?_ ?_ ?_
              rotate_left 2
              · intro K wx hS hK
                go_simp
                exact hK _ hS
              · simp only [Act.put, List.setIfInBounds_toArray, List.set_cons_succ, List.set_cons_zero]
                rfl
              refine RS.go1 (v := ?_) (a' := ?_) rfl ?_ ?_ ?_
              rotate_left 2
              · intro K wx hS hK
                go_simp
                exact hK _ hS
              · simp only [Act.put, List.setIfInBounds_toArray, List.set_cons_succ, List.set_cons_zero]
                rfl
              refine RS.go0 (a' := ?_) (by kernel_rfl) ?_ ?_
              rotate_left 1
              · simp only [Act.put, List.setIfInBounds_toArray, List.set_cons_succ, List.set_cons_zero]
                rfl
              refine RS.go0 (a' := ?_) (by kernel_rfl) ?_ ?_
              rotate_left 1
              · simp only [Act.put, List.setIfInBounds_toArray, List.set_cons_succ, List.set_cons_zero]
                rfl
              refine RS.go0 (a' := ?_) (by kernel_rfl) ?_ ?_
              rotate_left 1
              · simp only [Act.put, List.setIfInBounds_toArray, List.set_cons_succ, List.set_cons_zero]
                rfl
              refine RS.go0 (a' := ?_) (by kernel_rfl) ?_ ?_
              rotate_left 1
              · simp only [Act.put, List.setIfInBounds_toArray, List.set_cons_succ, List.set_cons_zero]
                rfl
              refine RS.go0 (a' := ?_) (by kernel_rfl) ?_ ?_
              rotate_left 1
              · simp only [Act.put, List.setIfInBounds_toArray, List.set_cons_succ, List.set_cons_zero]
                rfl
              refine RS.go1 (v := ?_) (a' := ?_) rfl ?_ ?_ ?_
              rotate_left 2
              · intro K wx hS hK
                go_simp
                exact hK _ hS
              · simp only [Act.put, List.setIfInBounds_toArray, List.set_cons_succ, List.set_cons_zero]
                rfl
              refine RS.go1 (v := ?_) (a' := ?_) rfl ?_ ?_ ?_
              rotate_left 2
              · intro K wx hS hK
                go_simp
                exact hK _ hS
              · simp only [Act.put, List.setIfInBounds_toArray, List.set_cons_succ, List.set_cons_zero]
                rfl
              refine RS.go1g (v := ?_) (a' := ?_) (by kernel_rfl) ?_ ?_ ?_
              rotate_left 2
              · intro K wx hS hK
                refine ld rfl rfl (hS.m.v (w.heap.size + 1, D) (by simp)).c ?_
                exact hK _ hS
              · simp only [Act.put, List.setIfInBounds_toArray, List.set_cons_succ, List.set_cons_zero]
                rfl
              refine RS.go1g (v := ?_) (a' := ?_) (by kernel_rfl) ?_ ?_ ?_
              rotate_left 2
              · intro K wx hS hK
                go_simp
                exact hK _ hS
              · simp only [Act.put, List.setIfInBounds_toArray, List.set_cons_succ, List.set_cons_zero]
                rfl
              refine RS.go1g (v := ?_) (a' := ?_) (by kernel_rfl) ?_ ?_ ?_
              rotate_left 2
              · intro K wx hS hK
                go_simp
                refine (K2.out wx).mono (fun e w2 he => ?_)
                refine ⟨_, he.1, ?_⟩
                exact hK _ (MS_below hS he.2)
              · simp only [Act.put, List.setIfInBounds_toArray, List.set_cons_succ, List.set_cons_zero]
                rfl
              refine RS.go1g (v := ?_) (a' := ?_) (by kernel_rfl) ?_ ?_ ?_
              rotate_left 2
              · intro K wx hS hK
                go_simp
                exact hK _ hS
              · simp only [Act.put, List.setIfInBounds_toArray, List.set_cons_succ, List.set_cons_zero]
                rfl
              refine RS.go1 (v := ?_) (a' := ?_) rfl ?_ ?_ ?_
              rotate_left 2
              · intro K wx hS hK
                go_simp
                exact hK _ hS
              · simp only [Act.put, List.setIfInBounds_toArray, List.set_cons_succ, List.set_cons_zero]
                rfl
              refine RS.go_end ?_
              intro w9 m9
              have HM : Hid (Mem w [(w.heap.size + 1, D), (w.heap.size, fun _ => false)] w9) := m9.m
              clear m9 m5 K2 HA HB HC
              have hw := Pk.step_w9 j n hlj hn
              go_wp2_with fail
              go_roundw
              case rel => exact ⟨j + 1, hlj, Pk.step_v j _ hw.out, by rw [hstay]; exact HM.out⟩
              case measure => exact Pk.msr j n hlj _ hw.out
          · have ea := ieq qa
            by_cases qb : b = k
            · replace qb := qb.symm
              subst qb
              cases hD : D k
              · rw [hD] at K2
                have hgo := HG.out (HT.out.2 (by simp))
                go_upto_region 9 with fail
                refine RS.wp_region_flat (MS w [(w.heap.size + 1, D), (w.heap.size, fun _ => false)] g (sumf t)) 25 (by kernel_rfl) (m5) ?_
                simp only [List.take_succ_cons, List.take_zero, List.drop_succ_cons, List.drop_zero]
                refine RS.go1 (v := ?_) (a' := ?_) rfl ?_ ?_ ?_
                rotate_left 2
                · intro K wx hS hK
                  go_simp
                  exact hK _ hS
                · simp only [Act.put, List.setIfInBounds_toArray, List.set_cons_succ, List.set_cons_zero]
                  rfl
                refine RS.go1 (v := ?_) (a' := ?_) rfl ?_ ?_ ?_
                rotate_left 2
                · intro K wx hS hK
                  have x0 := hS.c 0 (by decide)
                  rw [HA.out] at x0
                  go_simp
                  exact hK _ hS
                · simp only [Act.put, List.setIfInBounds_toArray, List.set_cons_succ, List.set_cons_zero]
                  rfl
                refine RS.go1 (v := ?_) (a' := ?_) rfl ?_ ?_ ?_
                rotate_left 2
                · intro K wx hS hK
                  go_simp
                  exact hK _ hS
                · simp only [Act.put, List.setIfInBounds_toArray, List.set_cons_succ, List.set_cons_zero]
                  rfl
                refine RS.go1 (v := ?_) (a' := ?_) rfl ?_ ?_ ?_
                rotate_left 2
                · intro K wx hS hK
                  go_simp
                  exact hK _ hS
                · simp only [Act.put, List.setIfInBounds_toArray, List.set_cons_succ, List.set_cons_zero]
                  rfl
                refine RS.go1 (v := ?_) (a' := ?_) rfl ?_ ?_ ?_
                rotate_left 2
                · intro K wx hS hK
                  go_simp
                  exact hK _ hS
                · simp only [Act.put, List.setIfInBounds_toArray, List.set_cons_succ, List.set_cons_zero]
                  rfl
                refine RS.go1 (v := ?_) (a' := ?_) rfl ?_ ?_ ?_
                rotate_left 2
                · intro K wx hS hK
                  go_simp
                  exact hK _ hS
                · simp only [Act.put, List.setIfInBounds_toArray, List.set_cons_succ, List.set_cons_zero]
                  rfl
                refine RS.go1g (v := ?_) (a' := ?_) (by kernel_rfl) ?_ ?_ ?_
                rotate_left 2
                · intro K wx hS hK
                  go_simp
                  exact hK _ hS
                · simp only [Act.put, List.setIfInBounds_toArray, List.set_cons_succ, List.set_cons_zero]
                  rfl
                refine RS.go1g (v := ?_) (a' := ?_) (by kernel_rfl) ?_ ?_ ?_
                rotate_left 2
                · intro K wx hS hK
                  have x0 := hS.c 1 (by decide)
                  rw [HB.out] at x0
                  go_simp
                  exact hK _ hS
                · simp only [Act.put, List.setIfInBounds_toArray, List.set_cons_succ, List.set_cons_zero]
                  rfl
                refine RS.go1g (v := ?_) (a' := ?_) (by kernel_rfl) ?_ ?_ ?_
                rotate_left 2
                · intro K wx hS hK
                  go_simp
                  exact hK _ hS
                · simp only [Act.put, List.setIfInBounds_toArray, List.set_cons_succ, List.set_cons_zero]
                  rfl
                refine RS.go1g (v := ?_) (a' := ?_) (by kernel_rfl) ?_ ?_ ?_
                rotate_left 2
                · intro K wx hS hK
                  go_simp
                  exact hK _ hS
                · simp only [Act.put, List.setIfInBounds_toArray, List.set_cons_succ, List.set_cons_zero]
                  rfl
                refine RS.go1g (v := ?_) (a' := ?_) (by kernel_rfl) ?_ ?_ ?_
                rotate_left 2
                · intro K wx hS hK
                  go_simp
                  exact hK _ hS
                · simp only [Act.put, List.setIfInBounds_toArray, List.set_cons_succ, List.set_cons_zero]
                  rfl
                refine RS.go1 (v := ?_) (a' := ?_) rfl ?_ ?_ ?_
                rotate_left 2
                · intro K wx hS hK
                  go_simp
                  exact hK _ hS
                · simp only [Act.put, List.setIfInBounds_toArray, List.set_cons_succ, List.set_cons_zero]
                  rfl
                refine RS.go1 (v := ?_) (a' := ?_) rfl ?_ ?_ ?_
                rotate_left 2
                · intro K wx hS hK
                  go_simp
                  exact hK _ hS
                · simp only [Act.put, List.setIfInBounds_toArray, List.set_cons_succ, List.set_cons_zero]
                  rfl
                refine RS.go0 (a' := ?_) (by kernel_rfl) ?_ ?_
                rotate_left 1
                · simp only [Act.put, List.setIfInBounds_toArray, List.set_cons_succ, List.set_cons_zero]
                  rfl
                refine RS.go0 (a' := ?_) (by kernel_rfl) ?_ ?_
                rotate_left 1
                · simp only [Act.put, List.setIfInBounds_toArray, List.set_cons_succ, List.set_cons_zero]
                  rfl
                refine RS.go0 (a' := ?_) (by kernel_rfl) ?_ ?_
                rotate_left 1
                · simp only [Act.put, List.setIfInBounds_toArray, List.set_cons_succ, List.set_cons_zero]
                  rfl
                refine RS.go0 (a' := ?_) (by kernel_rfl) ?_ ?_
                rotate_left 1
                · simp only [Act.put, List.setIfInBounds_toArray, List.set_cons_succ, List.set_cons_zero]
                  rfl
                refine RS.go0 (a' := ?_) (by kernel_rfl) ?_ ?_
                rotate_left 1
                · simp only [Act.put, List.setIfInBounds_toArray, List.set_cons_succ, List.set_cons_zero]
                  rfl
                refine RS.go1 (v := ?_) (a' := ?_) rfl ?_ ?_ ?_
                rotate_left 2
                · intro K wx hS hK
                  go_simp
                  exact hK _ hS
                · simp only [Act.put, List.setIfInBounds_toArray, List.set_cons_succ, List.set_cons_zero]
                  rfl
                refine RS.go1 (v := ?_) (a' := ?_) rfl ?_ ?_ ?_
                rotate_left 2
                · intro K wx hS hK
                  go_simp
                  exact hK _ hS
                · simp only [Act.put, List.setIfInBounds_toArray, List.set_cons_succ, List.set_cons_zero]
                  rfl
                refine RS.go1g (v := ?_) (a' := ?_) (by kernel_rfl) ?_ ?_ ?_
                rotate_left 2
                · intro K wx hS hK
                  refine ld rfl rfl (hS.m.v (w.heap.size + 1, D) (by simp)).c ?_
                  exact hK _ hS
                · simp only [Act.put, List.setIfInBounds_toArray, List.set_cons_succ, List.set_cons_zero]
                  rfl
                refine RS.go1g (v := ?_) (a' := ?_) (by kernel_rfl) ?_ ?_ ?_
                rotate_left 2
                · intro K wx hS hK
                  go_simp
                  exact hK _ hS
                · simp only [Act.put, List.setIfInBounds_toArray, List.set_cons_succ, List.set_cons_zero]
                  rfl
                refine RS.go1g (v := ?_) (a' := ?_) (by kernel_rfl) ?_ ?_ ?_
                rotate_left 2
                · intro K wx hS hK
                  go_simp
                  refine (K2.out wx).mono (fun e w2 he => ?_)
                  refine ⟨_, he.1, ?_⟩
                  exact hK _ (MS_below hS he.2)
                · simp only [Act.put, List.setIfInBounds_toArray, List.set_cons_succ, List.set_cons_zero]
                  rfl
                refine RS.go1g (v := ?_) (a' := ?_) (by kernel_rfl) ?_ ?_ ?_
                rotate_left 2
                · intro K wx hS hK
                  go_simp
                  exact hK _ hS
                · simp only [Act.put, List.setIfInBounds_toArray, List.set_cons_succ, List.set_cons_zero]
                  rfl
                refine RS.go1 (v := ?_) (a' := ?_) rfl ?_ ?_ ?_
                rotate_left 2
                · intro K wx hS hK
                  go_simp
                  exact hK _ hS
                · simp only [Act.put, List.setIfInBounds_toArray, List.set_cons_succ, List.set_cons_zero]
                  rfl
                refine RS.go_end ?_
                intro w9 m9
                have v9 := m9.m.v (w.heap.size + 1, D) (by simp)
                have c9 := v9.c (k / 8) (by omega)
                have f9 := v9.f (k / 8)
                have HM : Hid (Mem w [(w.heap.size + 1, D), (w.heap.size, fun _ => false)] w9) := m9.m
                clear v9 m9 m5 K2 HA HB HC
                have d2 : (0 : Int) ≤ (k : Int) / 8 := by omega
                have d3 : (k : Int) / 8 < 32 := by omega
                have t1 : ((k : Int) / 8).toNat = k / 8 := by omega
                have d4 : (0 : Int) ≤ (k : Int) % 8 := by omega
                have t2 : ((k : Int) % 8).toNat = k % 8 := by omega
                have hw := Pk.step_w9 j n hlj hn
                have y2 := sum_byte (k % 8) (Nat.mod_lt _ (by decide))
                have y3 := add_fits D k hD
                go_wp2_with fail
                go_region
                all_goals
                  clear c9 f9 d2 d3 t1 d4 t2 y2
                  go_wp2_with fail
                  go_roundw
                  case rel =>
                    first | exact ⟨j + 1, hlj, Pk.step_v j _ hw.out, by rw [hgo]; exact Mem_drew (Mem_upd HM.out (by simp) hlt hD y3)⟩ | ((repeat apply Exists.intro); exact ⟨⟨j + 1, hlj, Pk.step_v j _ hw.out, by rw [hgo]; exact Mem_drew (Mem_upd HM.out (by simp) hlt hD y3)⟩, rfl⟩)
                  case measure => exact Pk.msr j n hlj _ hw.out
              · rw [hD] at K2
                have hstay := HS2.out hD
                go_upto_region 9 with fail
                refine RS.wp_region_flat (MS w [(w.heap.size + 1, D), (w.heap.size, fun _ => false)] g (sumf t)) 25 (by kernel_rfl) (m5) ?_
                simp only [List.take_succ_cons, List.take_zero, List.drop_succ_cons, List.drop_zero]
                refine RS.go1 (v := ?_) (a' := ?_) rfl ?_ ?_ ?_
                rotate_left 2
                · intro K wx hS hK
                  go_simp
                  exact hK _ hS
                · simp only [Act.put, List.setIfInBounds_toArray, List.set_cons_succ, List.set_cons_zero]
                  rfl
                refine RS.go1 (v := ?_) (a' := ?_) rfl ?_ ?_ ?_
                rotate_left 2
                · intro K wx hS hK
                  have x0 := hS.c 0 (by decide)
                  rw [HA.out] at x0
                  go_simp
                  exact hK _ hS
                · simp only [Act.put, List.setIfInBounds_toArray, List.set_cons_succ, List.set_cons_zero]
                  rfl
                refine RS.go1 (v := ?_) (a' := ?_) rfl ?_ ?_ ?_
                rotate_left 2
                · intro K wx hS hK
                  go_simp
                  exact hK _ hS
                · simp only [Act.put, List.setIfInBounds_toArray, List.set_cons_succ, List.set_cons_zero]
                  rfl
                refine RS.go1 (v := ?_) (a' := ?_) rfl ?_ ?_ ?_
                rotate_left 2
                · intro K wx hS hK
                  go_simp
                  exact hK _ hS
                · simp only [Act.put, List.setIfInBounds_toArray, List.set_cons_succ, List.set_cons_zero]
                  rfl
                refine RS.go1 (v := ?_) (a' := ?_) rfl ?_ ?_ ?_
                rotate_left 2
                · intro K wx hS hK
                  go_simp
                  exact hK _ hS
                · simp only [Act.put, List.setIfInBounds_toArray, List.set_cons_succ, List.set_cons_zero]
                  rfl
                refine RS.go1 (v := ?_) (a' := ?_) rfl ?_ ?_ ?_
                rotate_left 2
                · intro K wx hS hK
                  go_simp
                  exact hK _ hS
                · simp only [Act.put, List.setIfInBounds_toArray, List.set_cons_succ, List.set_cons_zero]
                  rfl
                refine RS.go1g (v := ?_) (a' := ?_) (by kernel_rfl) ?_ ?_ ?_
                rotate_left 2
                · intro K wx hS hK
                  go_simp
                  exact hK _ hS
                · simp only [Act.put, List.setIfInBounds_toArray, List.set_cons_succ, List.set_cons_zero]
                  rfl
                refine RS.go1g (v := ?_) (a' := ?_) (by kernel_rfl) ?_ ?_ ?_
                rotate_left 2
                · intro K wx hS hK
                  have x0 := hS.c 1 (by decide)
                  rw [HB.out] at x0
                  go_simp
                  exact hK _ hS
                · simp only [Act.put, List.setIfInBounds_toArray, List.set_cons_succ, List.set_cons_zero]
                  rfl
                refine RS.go1g (v := ?_) (a' := ?_) (by kernel_rfl) ?_ ?_ ?_
                rotate_left 2
                · intro K wx hS hK
                  go_simp
                  exact hK _ hS
                · simp only [Act.put, List.setIfInBounds_toArray, List.set_cons_succ, List.set_cons_zero]
                  rfl
                refine RS.go1g (v := ?_) (a' := ?_) (by kernel_rfl) ?_ ?_ ?_
                rotate_left 2
                · intro K wx hS hK
                  go_simp
                  exact hK _ hS
                · simp only [Act.put, List.setIfInBounds_toArray, List.set_cons_succ, List.set_cons_zero]
                  rfl
                refine RS.go1g (v := ?_) (a' := ?_) (by kernel_rfl) ?_ ?_ ?_
                rotate_left 2
                · intro K wx hS hK
                  go_simp
                  exact hK _ hS
                · simp only [Act.put, List.setIfInBounds_toArray, List.set_cons_succ, List.set_cons_zero]
                  rfl
                refine RS.go1 (v := ?_) (a' := ?_) rfl ?_ ?_ ?_
                rotate_left 2
                · intro K wx hS hK
                  go_simp
                  exact hK _ hS
                · simp only [Act.put, List.setIfInBounds_toArray, List.set_cons_succ, List.set_cons_zero]
                  rfl
                refine RS.go1 (v := ?_) (a' := ?_) rfl ?_ ?_ ?_
                rotate_left 2
                · intro K wx hS hK
                  go_simp
                  exact hK _ hS
                · simp only [Act.put, List.setIfInBounds_toArray, List.set_cons_succ, List.set_cons_zero]
                  rfl
                refine RS.go0 (a' := ?_) (by kernel_rfl) ?_ ?_
                rotate_left 1
                · simp only [Act.put, List.setIfInBounds_toArray, List.set_cons_succ, List.set_cons_zero]
                  rfl
                refine RS.go0 (a' := ?_) (by kernel_rfl) ?_ ?_
                rotate_left 1
                · simp only [Act.put, List.setIfInBounds_toArray, List.set_cons_succ, List.set_cons_zero]
                  rfl
                refine RS.go0 (a' := ?_) (by kernel_rfl) ?_ ?_
                rotate_left 1
                · simp only [Act.put, List.setIfInBounds_toArray, List.set_cons_succ, List.set_cons_zero]
                  rfl
                refine RS.go0 (a' := ?_) (by kernel_rfl) ?_ ?_
                rotate_left 1
                · simp only [Act.put, List.setIfInBounds_toArray, List.set_cons_succ, List.set_cons_zero]
                  rfl
                refine RS.go0 (a' := ?_) (by kernel_rfl) ?_ ?_
                rotate_left 1
                · simp only [Act.put, List.setIfInBounds_toArray, List.set_cons_succ, List.set_cons_zero]
                  rfl
                refine RS.go1 (v := ?_) (a' := ?_) rfl ?_ ?_ ?_
                rotate_left 2
                · intro K wx hS hK
                  go_simp
                  exact hK _ hS
                · simp only [Act.put, List.setIfInBounds_toArray, List.set_cons_succ, List.set_cons_zero]
                  rfl
                refine RS.go1 (v := ?_) (a' := ?_) rfl ?_ ?_ ?_
                rotate_left 2
                · intro K wx hS hK
                  go_simp
                  exact hK _ hS
                · simp only [Act.put, List.setIfInBounds_toArray, List.set_cons_succ, List.set_cons_zero]
                  rfl
                refine RS.go1g (v := ?_) (a' := ?_) (by kernel_rfl) ?_ ?_ ?_
                rotate_left 2
                · intro K wx hS hK
                  refine ld rfl rfl (hS.m.v (w.heap.size + 1, D) (by simp)).c ?_
                  exact hK _ hS
                · simp only [Act.put, List.setIfInBounds_toArray, List.set_cons_succ, List.set_cons_zero]
                  rfl
                refine RS.go1g (v := ?_) (a' := ?_) (by kernel_rfl) ?_ ?_ ?_
                rotate_left 2
                · intro K wx hS hK
                  go_simp
                  exact hK _ hS
                · simp only [Act.put, List.setIfInBounds_toArray, List.set_cons_succ, List.set_cons_zero]
                  rfl
                refine RS.go1g (v := ?_) (a' := ?_) (by kernel_rfl) ?_ ?_ ?_
                rotate_left 2
                · intro K wx hS hK
                  go_simp
                  refine (K2.out wx).mono (fun e w2 he => ?_)
                  refine ⟨_, he.1, ?_⟩
                  exact hK _ (MS_below hS he.2)
                · simp only [Act.put, List.setIfInBounds_toArray, List.set_cons_succ, List.set_cons_zero]
                  rfl
                refine RS.go1g (v := ?_) (a' := ?_) (by kernel_rfl) ?_ ?_ ?_
                rotate_left 2
                · intro K wx hS hK
                  go_simp
                  exact hK _ hS
                · simp only [Act.put, List.setIfInBounds_toArray, List.set_cons_succ, List.set_cons_zero]
                  rfl
                refine RS.go1 (v := ?_) (a' := ?_) rfl ?_ ?_ ?_
                rotate_left 2
                · intro K wx hS hK
                  go_simp
                  exact hK _ hS
                · simp only [Act.put, List.setIfInBounds_toArray, List.set_cons_succ, List.set_cons_zero]
                  rfl
                refine RS.go_end ?_
                intro w9 m9
                have HM : Hid (Mem w [(w.heap.size + 1, D), (w.heap.size, fun _ => false)] w9) := m9.m
                clear m9 m5 K2 HA HB HC
                have hw := Pk.step_w9 j n hlj hn
                go_wp2_with fail
                go_roundw
                case rel => exact ⟨j + 1, hlj, Pk.step_v j _ hw.out, by rw [hstay]; exact HM.out⟩
                case measure => exact Pk.msr j n hlj _ hw.out
            · have eb := ieq qb
              by_cases qc : c = k
              · replace qc := qc.symm
                subst qc
                cases hD : D k
                · rw [hD] at K2
                  have hgo := HG.out (HT.out.2 (by simp))
                  go_upto_region 9 with fail
                  refine RS.wp_region_flat (MS w [(w.heap.size + 1, D), (w.heap.size, fun _ => false)] g (sumf t)) 25 (by kernel_rfl) (m5) ?_
                  simp only [List.take_succ_cons, List.take_zero, List.drop_succ_cons, List.drop_zero]
                  refine RS.go1 (v := ?_) (a' := ?_) rfl ?_ ?_ ?_
                  rotate_left 2
                  · intro K wx hS hK
                    go_simp
                    exact hK _ hS
                  · simp only [Act.put, List.setIfInBounds_toArray, List.set_cons_succ, List.set_cons_zero]
                    rfl
                  refine RS.go1 (v := ?_) (a' := ?_) rfl ?_ ?_ ?_
                  rotate_left 2
                  · intro K wx hS hK
                    have x0 := hS.c 0 (by decide)
                    rw [HA.out] at x0
                    go_simp
                    exact hK _ hS
                  · simp only [Act.put, List.setIfInBounds_toArray, List.set_cons_succ, List.set_cons_zero]
                    rfl
                  refine RS.go1 (v := ?_) (a' := ?_) rfl ?_ ?_ ?_
                  rotate_left 2
                  · intro K wx hS hK
                    go_simp
                    exact hK _ hS
                  · simp only [Act.put, List.setIfInBounds_toArray, List.set_cons_succ, List.set_cons_zero]
                    rfl
                  refine RS.go1 (v := ?_) (a' := ?_) rfl ?_ ?_ ?_
                  rotate_left 2
                  · intro K wx hS hK
                    go_simp
                    exact hK _ hS
                  · simp only [Act.put, List.setIfInBounds_toArray, List.set_cons_succ, List.set_cons_zero]
                    rfl
                  refine RS.go1 (v := ?_) (a' := ?_) rfl ?_ ?_ ?_
                  rotate_left 2
                  · intro K wx hS hK
                    go_simp
                    exact hK _ hS
                  · simp only [Act.put, List.setIfInBounds_toArray, List.set_cons_succ, List.set_cons_zero]
                    rfl
                  refine RS.go1 (v := ?_) (a' := ?_) rfl ?_ ?_ ?_
                  rotate_left 2
                  · intro K wx hS hK
                    go_simp
                    exact hK _ hS
                  · simp only [Act.put, List.setIfInBounds_toArray, List.set_cons_succ, List.set_cons_zero]
                    rfl
                  refine RS.go1g (v := ?_) (a' := ?_) (by kernel_rfl) ?_ ?_ ?_
                  rotate_left 2
                  · intro K wx hS hK
                    go_simp
                    exact hK _ hS
                  · simp only [Act.put, List.setIfInBounds_toArray, List.set_cons_succ, List.set_cons_zero]
                    rfl
                  refine RS.go1g (v := ?_) (a' := ?_) (by kernel_rfl) ?_ ?_ ?_
                  rotate_left 2
                  · intro K wx hS hK
                    have x0 := hS.c 1 (by decide)
                    rw [HB.out] at x0
                    go_simp
                    exact hK _ hS
                  · simp only [Act.put, List.setIfInBounds_toArray, List.set_cons_succ, List.set_cons_zero]
                    rfl
                  refine RS.go1g (v := ?_) (a' := ?_) (by kernel_rfl) ?_ ?_ ?_
                  rotate_left 2
                  · intro K wx hS hK
                    go_simp
                    exact hK _ hS
                  · simp only [Act.put, List.setIfInBounds_toArray, List.set_cons_succ, List.set_cons_zero]
                    rfl
                  refine RS.go1g (v := ?_) (a' := ?_) (by kernel_rfl) ?_ ?_ ?_
                  rotate_left 2
                  · intro K wx hS hK
                    go_simp
                    exact hK _ hS
                  · simp only [Act.put, List.setIfInBounds_toArray, List.set_cons_succ, List.set_cons_zero]
                    rfl
                  refine RS.go1g (v := ?_) (a' := ?_) (by kernel_rfl) ?_ ?_ ?_
                  rotate_left 2
                  · intro K wx hS hK
                    go_simp
                    exact hK _ hS
                  · simp only [Act.put, List.setIfInBounds_toArray, List.set_cons_succ, List.set_cons_zero]
                    rfl
                  refine RS.go1 (v := ?_) (a' := ?_) rfl ?_ ?_ ?_
                  rotate_left 2
                  · intro K wx hS hK
                    go_simp
                    exact hK _ hS
                  · simp only [Act.put, List.setIfInBounds_toArray, List.set_cons_succ, List.set_cons_zero]
                    rfl
                  refine RS.go1 (v := ?_) (a' := ?_) rfl ?_ ?_ ?_
                  rotate_left 2
                  · intro K wx hS hK
                    go_simp
                    exact hK _ hS
                  · simp only [Act.put, List.setIfInBounds_toArray, List.set_cons_succ, List.set_cons_zero]
                    rfl
                  refine RS.go1g (v := ?_) (a' := ?_) (by kernel_rfl) ?_ ?_ ?_
                  rotate_left 2
                  · intro K wx hS hK
                    go_simp
                    exact hK _ hS
                  · simp only [Act.put, List.setIfInBounds_toArray, List.set_cons_succ, List.set_cons_zero]
                    rfl
                  refine RS.go1g (v := ?_) (a' := ?_) (by kernel_rfl) ?_ ?_ ?_
                  rotate_left 2
                  · intro K wx hS hK
                    have x0 := hS.c 2 (by decide)
                    rw [HC.out] at x0
                    go_simp
                    exact hK _ hS
                  · simp only [Act.put, List.setIfInBounds_toArray, List.set_cons_succ, List.set_cons_zero]
                    rfl
                  refine RS.go1g (v := ?_) (a' := ?_) (by kernel_rfl) ?_ ?_ ?_
                  rotate_left 2
                  · intro K wx hS hK
                    go_simp
                    exact hK _ hS
                  · simp only [Act.put, List.setIfInBounds_toArray, List.set_cons_succ, List.set_cons_zero]
                    rfl
                  refine RS.go1g (v := ?_) (a' := ?_) (by kernel_rfl) ?_ ?_ ?_
                  rotate_left 2
                  · intro K wx hS hK
                    go_simp
                    exact hK _ hS
                  · simp only [Act.put, List.setIfInBounds_toArray, List.set_cons_succ, List.set_cons_zero]
                    rfl
                  refine RS.go1g (v := ?_) (a' := ?_) (by kernel_rfl) ?_ ?_ ?_
                  rotate_left 2
                  · intro K wx hS hK
                    go_simp
                    exact hK _ hS
                  · simp only [Act.put, List.setIfInBounds_toArray, List.set_cons_succ, List.set_cons_zero]
                    rfl
                  refine RS.go1 (v := ?_) (a' := ?_) rfl ?_ ?_ ?_
                  rotate_left 2
                  · intro K wx hS hK
                    go_simp
                    exact hK _ hS
                  · simp only [Act.put, List.setIfInBounds_toArray, List.set_cons_succ, List.set_cons_zero]
                    rfl
                  refine RS.go1 (v := ?_) (a' := ?_) rfl ?_ ?_ ?_
                  rotate_left 2
                  · intro K wx hS hK
                    go_simp
                    exact hK _ hS
                  · simp only [Act.put, List.setIfInBounds_toArray, List.set_cons_succ, List.set_cons_zero]
                    rfl
                  refine RS.go1g (v := ?_) (a' := ?_) (by kernel_rfl) ?_ ?_ ?_
                  rotate_left 2
                  · intro K wx hS hK
                    refine ld rfl rfl (hS.m.v (w.heap.size + 1, D) (by simp)).c ?_
                    exact hK _ hS
                  · simp only [Act.put, List.setIfInBounds_toArray, List.set_cons_succ, List.set_cons_zero]
                    rfl
                  refine RS.go1g (v := ?_) (a' := ?_) (by kernel_rfl) ?_ ?_ ?_
                  rotate_left 2
                  · intro K wx hS hK
                    go_simp
                    exact hK _ hS
                  · simp only [Act.put, List.setIfInBounds_toArray, List.set_cons_succ, List.set_cons_zero]
                    rfl
                  refine RS.go1g (v := ?_) (a' := ?_) (by kernel_rfl) ?_ ?_ ?_
                  rotate_left 2
                  · intro K wx hS hK
                    go_simp
                    refine (K2.out wx).mono (fun e w2 he => ?_)
                    refine ⟨_, he.1, ?_⟩
                    exact hK _ (MS_below hS he.2)
                  · simp only [Act.put, List.setIfInBounds_toArray, List.set_cons_succ, List.set_cons_zero]
                    rfl
                  refine RS.go1g (v := ?_) (a' := ?_) (by kernel_rfl) ?_ ?_ ?_
                  rotate_left 2
                  · intro K wx hS hK
                    go_simp
                    exact hK _ hS
                  · simp only [Act.put, List.setIfInBounds_toArray, List.set_cons_succ, List.set_cons_zero]
                    rfl
                  refine RS.go1 (v := ?_) (a' := ?_) rfl ?_ ?_ ?_
                  rotate_left 2
                  · intro K wx hS hK
                    go_simp
                    exact hK _ hS
                  · simp only [Act.put, List.setIfInBounds_toArray, List.set_cons_succ, List.set_cons_zero]
                    rfl
                  refine RS.go_end ?_
                  intro w9 m9
                  have v9 := m9.m.v (w.heap.size + 1, D) (by simp)
                  have c9 := v9.c (k / 8) (by omega)
                  have f9 := v9.f (k / 8)
                  have HM : Hid (Mem w [(w.heap.size + 1, D), (w.heap.size, fun _ => false)] w9) := m9.m
                  clear v9 m9 m5 K2 HA HB HC
                  have d2 : (0 : Int) ≤ (k : Int) / 8 := by omega
                  have d3 : (k : Int) / 8 < 32 := by omega
                  have t1 : ((k : Int) / 8).toNat = k / 8 := by omega
                  have d4 : (0 : Int) ≤ (k : Int) % 8 := by omega
                  have t2 : ((k : Int) % 8).toNat = k % 8 := by omega
                  have hw := Pk.step_w9 j n hlj hn
                  have y2 := sum_byte (k % 8) (Nat.mod_lt _ (by decide))
                  have y3 := add_fits D k hD
                  go_wp2_with fail
                  go_region
                  all_goals
                    clear c9 f9 d2 d3 t1 d4 t2 y2
                    go_wp2_with fail
                    go_roundw
                    case rel =>
                      first | exact ⟨j + 1, hlj, Pk.step_v j _ hw.out, by rw [hgo]; exact Mem_drew (Mem_upd HM.out (by simp) hlt hD y3)⟩ | ((repeat apply Exists.intro); exact ⟨⟨j + 1, hlj, Pk.step_v j _ hw.out, by rw [hgo]; exact Mem_drew (Mem_upd HM.out (by simp) hlt hD y3)⟩, rfl⟩)
                    case measure => exact Pk.msr j n hlj _ hw.out
                · rw [hD] at K2
                  have hstay := HS2.out hD
                  go_upto_region 9 with fail
                  refine RS.wp_region_flat (MS w [(w.heap.size + 1, D), (w.heap.size, fun _ => false)] g (sumf t)) 25 (by kernel_rfl) (m5) ?_
                  simp only [List.take_succ_cons, List.take_zero, List.drop_succ_cons, List.drop_zero]
                  refine RS.go1 (v := ?_) (a' := ?_) rfl ?_ ?_ ?_
                  rotate_left 2
                  · intro K wx hS hK
                    go_simp
                    exact hK _ hS
                  · simp only [Act.put, List.setIfInBounds_toArray, List.set_cons_succ, List.set_cons_zero]
                    rfl
                  refine RS.go1 (v := ?_) (a' := ?_) rfl ?_ ?_ ?_
                  rotate_left 2
                  · intro K wx hS hK
                    have x0 := hS.c 0 (by decide)
                    rw [HA.out] at x0
                    go_simp
                    exact hK _ hS
                  · simp only [Act.put, List.setIfInBounds_toArray, List.set_cons_succ, List.set_cons_zero]
                    rfl
                  refine RS.go1 (v := ?_) (a' := ?_) rfl ?_ ?_ ?_
                  rotate_left 2
                  · intro K wx hS hK
                    go_simp
                    exact hK _ hS
                  · simp only [Act.put, List.setIfInBounds_toArray, List.set_cons_succ, List.set_cons_zero]
                    rfl
                  refine RS.go1 (v := ?_) (a' := ?_) rfl ?_ ?_ ?_
                  rotate_left 2
                  · intro K wx hS hK
                    go_simp
                    exact hK _ hS
                  · simp only [Act.put, List.setIfInBounds_toArray, List.set_cons_succ, List.set_cons_zero]
                    rfl
                  refine RS.go1 (v := ?_) (a' := ?_) rfl ?_ ?_ ?_
                  rotate_left 2
                  · intro K wx hS hK
                    go_simp
                    exact hK _ hS
                  · simp only [Act.put, List.setIfInBounds_toArray, List.set_cons_succ, List.set_cons_zero]
                    rfl
                  refine RS.go1 (v := ?_) (a' := ?_) rfl ?_ ?_ ?_
                  rotate_left 2
                  · intro K wx hS hK
                    go_simp
                    exact hK _ hS
                  · simp only [Act.put, List.setIfInBounds_toArray, List.set_cons_succ, List.set_cons_zero]
                    rfl
                  refine RS.go1g (v := ?_) (a' := ?_) (by kernel_rfl) ?_ ?_ ?_
                  rotate_left 2
                  · intro K wx hS hK
                    go_simp
                    exact hK _ hS
                  · simp only [Act.put, List.setIfInBounds_toArray, List.set_cons_succ, List.set_cons_zero]
                    rfl
                  refine RS.go1g (v := ?_) (a' := ?_) (by kernel_rfl) ?_ ?_ ?_
                  rotate_left 2
                  · intro K wx hS hK
                    have x0 := hS.c 1 (by decide)
                    rw [HB.out] at x0
                    go_simp
                    exact hK _ hS
                  · simp only [Act.put, List.setIfInBounds_toArray, List.set_cons_succ, List.set_cons_zero]
                    rfl
                  refine RS.go1g (v := ?_) (a' := ?_) (by kernel_rfl) ?_ ?_ ?_
                  rotate_left 2
                  · intro K wx hS hK
                    go_simp
                    exact hK _ hS
                  · simp only [Act.put, List.setIfInBounds_toArray, List.set_cons_succ, List.set_cons_zero]
                    rfl
                  refine RS.go1g (v := ?_) (a' := ?_) (by kernel_rfl) ?_ ?_ ?_
                  rotate_left 2
                  · intro K wx hS hK
                    go_simp
                    exact hK _ hS
                  · simp only [Act.put, List.setIfInBounds_toArray, List.set_cons_succ, List.set_cons_zero]
                    rfl
                  refine RS.go1g (v := ?_) (a' := ?_) (by kernel_rfl) ?_ ?_ ?_
                  rotate_left 2
                  · intro K wx hS hK
                    go_simp
                    exact hK _ hS
                  · simp only [Act.put, List.setIfInBounds_toArray, List.set_cons_succ, List.set_cons_zero]
                    rfl
                  refine RS.go1 (v := ?_) (a' := ?_) rfl ?_ ?_ ?_
                  rotate_left 2
                  · intro K wx hS hK
                    go_simp
                    exact hK _ hS
                  · simp only [Act.put, List.setIfInBounds_toArray, List.set_cons_succ, List.set_cons_zero]
                    rfl
                  refine RS.go1 (v := ?_) (a' := ?_) rfl ?_ ?_ ?_
                  rotate_left 2
                  · intro K wx hS hK
                    go_simp
                    exact hK _ hS
                  · simp only [Act.put, List.setIfInBounds_toArray, List.set_cons_succ, List.set_cons_zero]
                    rfl
                  refine RS.go1g (v := ?_) (a' := ?_) (by kernel_rfl) ?_ ?_ ?_
                  rotate_left 2
                  · intro K wx hS hK
                    go_simp
                    exact hK _ hS
                  · simp only [Act.put, List.setIfInBounds_toArray, List.set_cons_succ, List.set_cons_zero]
                    rfl
                  refine RS.go1g (v := ?_) (a' := ?_) (by kernel_rfl) ?_ ?_ ?_
                  rotate_left 2
                  · intro K wx hS hK
                    have x0 := hS.c 2 (by decide)
                    rw [HC.out] at x0
                    go_simp
                    exact hK _ hS
                  · simp only [Act.put, List.setIfInBounds_toArray, List.set_cons_succ, List.set_cons_zero]
                    rfl
                  refine RS.go1g (v := ?_) (a' := ?_) (by kernel_rfl) ?_ ?_ ?_
                  rotate_left 2
                  · intro K wx hS hK
                    go_simp
                    exact hK _ hS
                  · simp only [Act.put, List.setIfInBounds_toArray, List.set_cons_succ, List.set_cons_zero]
                    rfl
                  refine RS.go1g (v := ?_) (a' := ?_) (by kernel_rfl) ?_ ?_ ?_
                  rotate_left 2
                  · intro K wx hS hK
                    go_simp
                    exact hK _ hS
                  · simp only [Act.put, List.setIfInBounds_toArray, List.set_cons_succ, List.set_cons_zero]
                    rfl
                  refine RS.go1g (v := ?_) (a' := ?_) (by kernel_rfl) ?_ ?_ ?_
                  rotate_left 2
                  · intro K wx hS hK
                    go_simp
                    exact hK _ hS
                  · simp only [Act.put, List.setIfInBounds_toArray, List.set_cons_succ, List.set_cons_zero]
                    rfl
                  refine RS.go1 (v := ?_) (a' := ?_) rfl ?_ ?_ ?_
                  rotate_left 2
                  · intro K wx hS hK
                    go_simp
                    exact hK _ hS
                  · simp only [Act.put, List.setIfInBounds_toArray, List.set_cons_succ, List.set_cons_zero]
                    rfl
                  refine RS.go1 (v := ?_) (a' := ?_) rfl ?_ ?_ ?_
                  rotate_left 2
                  · intro K wx hS hK
                    go_simp
                    exact hK _ hS
                  · simp only [Act.put, List.setIfInBounds_toArray, List.set_cons_succ, List.set_cons_zero]
                    rfl
                  refine RS.go1g (v := ?_) (a' := ?_) (by kernel_rfl) ?_ ?_ ?_
                  rotate_left 2
                  · intro K wx hS hK
                    refine ld rfl rfl (hS.m.v (w.heap.size + 1, D) (by simp)).c ?_
                    exact hK _ hS
                  · simp only [Act.put, List.setIfInBounds_toArray, List.set_cons_succ, List.set_cons_zero]
                    rfl
                  refine RS.go1g (v := ?_) (a' := ?_) (by kernel_rfl) ?_ ?_ ?_
                  rotate_left 2
                  · intro K wx hS hK
                    go_simp
                    exact hK _ hS
                  · simp only [Act.put, List.setIfInBounds_toArray, List.set_cons_succ, List.set_cons_zero]
                    rfl
                  refine RS.go1g (v := ?_) (a' := ?_) (by kernel_rfl) ?_ ?_ ?_
                  rotate_left 2
                  · intro K wx hS hK
                    go_simp
                    refine (K2.out wx).mono (fun e w2 he => ?_)
                    refine ⟨_, he.1, ?_⟩
                    exact hK _ (MS_below hS he.2)
                  · simp only [Act.put, List.setIfInBounds_toArray, List.set_cons_succ, List.set_cons_zero]
                    rfl
                  refine RS.go1g (v := ?_) (a' := ?_) (by kernel_rfl) ?_ ?_ ?_
                  rotate_left 2
                  · intro K wx hS hK
                    go_simp
                    exact hK _ hS
                  · simp only [Act.put, List.setIfInBounds_toArray, List.set_cons_succ, List.set_cons_zero]
                    rfl
                  refine RS.go1 (v := ?_) (a' := ?_) rfl ?_ ?_ ?_
                  rotate_left 2
                  · intro K wx hS hK
                    go_simp
                    exact hK _ hS
                  · simp only [Act.put, List.setIfInBounds_toArray, List.set_cons_succ, List.set_cons_zero]
                    rfl
                  refine RS.go_end ?_
                  intro w9 m9
                  have HM : Hid (Mem w [(w.heap.size + 1, D), (w.heap.size, fun _ => false)] w9) := m9.m
                  clear m9 m5 K2 HA HB HC
                  have hw := Pk.step_w9 j n hlj hn
                  go_wp2_with fail
                  go_roundw
                  case rel => exact ⟨j + 1, hlj, Pk.step_v j _ hw.out, by rw [hstay]; exact HM.out⟩
                  case measure => exact Pk.msr j n hlj _ hw.out
              · have ec := ieq qc
                have hstay := HS1.out (by rw [Bool.eq_false_iff]; intro e; rcases HT.out.1 e with e | e | e <;> contradiction)
                go_upto_region 9 with fail
                refine RS.wp_region_flat (MS w [(w.heap.size + 1, D), (w.heap.size, fun _ => false)] g (sumf t)) 25 (by kernel_rfl) (m5) ?_
                simp only [List.take_succ_cons, List.take_zero, List.drop_succ_cons, List.drop_zero]
                refine RS.go1 (v := ?_) (a' := ?_) rfl ?_ ?_ ?_
                rotate_left 2
                · intro K wx hS hK
                  go_simp
                  exact hK _ hS
                · simp only [Act.put, List.setIfInBounds_toArray, List.set_cons_succ, List.set_cons_zero]
                  rfl
                refine RS.go1 (v := ?_) (a' := ?_) rfl ?_ ?_ ?_
                rotate_left 2
                · intro K wx hS hK
                  have x0 := hS.c 0 (by decide)
                  rw [HA.out] at x0
                  go_simp
                  exact hK _ hS
                · simp only [Act.put, List.setIfInBounds_toArray, List.set_cons_succ, List.set_cons_zero]
                  rfl
                refine RS.go1 (v := ?_) (a' := ?_) rfl ?_ ?_ ?_
                rotate_left 2
                · intro K wx hS hK
                  go_simp
                  exact hK _ hS
                · simp only [Act.put, List.setIfInBounds_toArray, List.set_cons_succ, List.set_cons_zero]
                  rfl
                refine RS.go1 (v := ?_) (a' := ?_) rfl ?_ ?_ ?_
                rotate_left 2
                · intro K wx hS hK
                  go_simp
                  exact hK _ hS
                · simp only [Act.put, List.setIfInBounds_toArray, List.set_cons_succ, List.set_cons_zero]
                  rfl
                refine RS.go1 (v := ?_) (a' := ?_) rfl ?_ ?_ ?_
                rotate_left 2
                · intro K wx hS hK
                  go_simp
                  exact hK _ hS
                · simp only [Act.put, List.setIfInBounds_toArray, List.set_cons_succ, List.set_cons_zero]
                  rfl
                refine RS.go1 (v := ?_) (a' := ?_) rfl ?_ ?_ ?_
                rotate_left 2
                · intro K wx hS hK
                  go_simp
                  exact hK _ hS
                · simp only [Act.put, List.setIfInBounds_toArray, List.set_cons_succ, List.set_cons_zero]
                  rfl
                refine RS.go1g (v := ?_) (a' := ?_) (by kernel_rfl) ?_ ?_ ?_
                rotate_left 2
                · intro K wx hS hK
                  go_simp
                  exact hK _ hS
                · simp only [Act.put, List.setIfInBounds_toArray, List.set_cons_succ, List.set_cons_zero]
                  rfl
                refine RS.go1g (v := ?_) (a' := ?_) (by kernel_rfl) ?_ ?_ ?_
                rotate_left 2
                · intro K wx hS hK
                  have x0 := hS.c 1 (by decide)
                  rw [HB.out] at x0
                  go_simp
                  exact hK _ hS
                · simp only [Act.put, List.setIfInBounds_toArray, List.set_cons_succ, List.set_cons_zero]
                  rfl
                refine RS.go1g (v := ?_) (a' := ?_) (by kernel_rfl) ?_ ?_ ?_
                rotate_left 2
                · intro K wx hS hK
                  go_simp
                  exact hK _ hS
                · simp only [Act.put, List.setIfInBounds_toArray, List.set_cons_succ, List.set_cons_zero]
                  rfl
                refine RS.go1g (v := ?_) (a' := ?_) (by kernel_rfl) ?_ ?_ ?_
                rotate_left 2
                · intro K wx hS hK
                  go_simp
                  exact hK _ hS
                · simp only [Act.put, List.setIfInBounds_toArray, List.set_cons_succ, List.set_cons_zero]
                  rfl
                refine RS.go1g (v := ?_) (a' := ?_) (by kernel_rfl) ?_ ?_ ?_
                rotate_left 2
                · intro K wx hS hK
                  go_simp
                  exact hK _ hS
                · simp only [Act.put, List.setIfInBounds_toArray, List.set_cons_succ, List.set_cons_zero]
                  rfl
                refine RS.go1 (v := ?_) (a' := ?_) rfl ?_ ?_ ?_
                rotate_left 2
                · intro K wx hS hK
                  go_simp
                  exact hK _ hS
                · simp only [Act.put, List.setIfInBounds_toArray, List.set_cons_succ, List.set_cons_zero]
                  rfl
                refine RS.go1 (v := ?_) (a' := ?_) rfl ?_ ?_ ?_
                rotate_left 2
                · intro K wx hS hK
                  go_simp
                  exact hK _ hS
                · simp only [Act.put, List.setIfInBounds_toArray, List.set_cons_succ, List.set_cons_zero]
                  rfl
                refine RS.go1g (v := ?_) (a' := ?_) (by kernel_rfl) ?_ ?_ ?_
                rotate_left 2
                · intro K wx hS hK
                  go_simp
                  exact hK _ hS
                · simp only [Act.put, List.setIfInBounds_toArray, List.set_cons_succ, List.set_cons_zero]
                  rfl
                refine RS.go1g (v := ?_) (a' := ?_) (by kernel_rfl) ?_ ?_ ?_
                rotate_left 2
                · intro K wx hS hK
                  have x0 := hS.c 2 (by decide)
                  rw [HC.out] at x0
                  go_simp
                  exact hK _ hS
                · simp only [Act.put, List.setIfInBounds_toArray, List.set_cons_succ, List.set_cons_zero]
                  rfl
                refine RS.go1g (v := ?_) (a' := ?_) (by kernel_rfl) ?_ ?_ ?_
                rotate_left 2
                · intro K wx hS hK
                  go_simp
                  exact hK _ hS
                · simp only [Act.put, List.setIfInBounds_toArray, List.set_cons_succ, List.set_cons_zero]
                  rfl
                refine RS.go1g (v := ?_) (a' := ?_) (by kernel_rfl) ?_ ?_ ?_
                rotate_left 2
                · intro K wx hS hK
                  go_simp
                  exact hK _ hS
                · simp only [Act.put, List.setIfInBounds_toArray, List.set_cons_succ, List.set_cons_zero]
                  rfl
                refine RS.go1g (v := ?_) (a' := ?_) (by kernel_rfl) ?_ ?_ ?_
                rotate_left 2
                · intro K wx hS hK
                  go_simp
                  exact hK _ hS
                · simp only [Act.put, List.setIfInBounds_toArray, List.set_cons_succ, List.set_cons_zero]
                  rfl
                refine RS.go1 (v := ?_) (a' := ?_) rfl ?_ ?_ ?_
                rotate_left 2
                · intro K wx hS hK
                  go_simp
                  exact hK _ hS
                · simp only [Act.put, List.setIfInBounds_toArray, List.set_cons_succ, List.set_cons_zero]
                  rfl
                refine RS.go1 (v := ?_) (a' := ?_) rfl ?_ ?_ ?_
                rotate_left 2
                · intro K wx hS hK
                  go_simp
                  exact hK _ hS
                · simp only [Act.put, List.setIfInBounds_toArray, List.set_cons_succ, List.set_cons_zero]
                  rfl
                refine RS.go0 (a' := ?_) (by kernel_rfl) ?_ ?_
                rotate_left 1
                · simp only [Act.put, List.setIfInBounds_toArray, List.set_cons_succ, List.set_cons_zero]
                  rfl
                refine RS.go0 (a' := ?_) (by kernel_rfl) ?_ ?_
                rotate_left 1
                · simp only [Act.put, List.setIfInBounds_toArray, List.set_cons_succ, List.set_cons_zero]
                  rfl
                refine RS.go0 (a' := ?_) (by kernel_rfl) ?_ ?_
                rotate_left 1
                · simp only [Act.put, List.setIfInBounds_toArray, List.set_cons_succ, List.set_cons_zero]
                  rfl
                refine RS.go0 (a' := ?_) (by kernel_rfl) ?_ ?_
                rotate_left 1
                · simp only [Act.put, List.setIfInBounds_toArray, List.set_cons_succ, List.set_cons_zero]
                  rfl
                refine RS.go1 (v := ?_) (a' := ?_) rfl ?_ ?_ ?_
                rotate_left 2
                · intro K wx hS hK
                  go_simp
                  exact hK _ hS
                · simp only [Act.put, List.setIfInBounds_toArray, List.set_cons_succ, List.set_cons_zero]
                  rfl
                refine RS.go_end ?_
                intro w9 m9
                have HM : Hid (Mem w [(w.heap.size + 1, D), (w.heap.size, fun _ => false)] w9) := m9.m
                clear m9 m5 K2 HA HB HC
                have hw := Pk.step_w9 j n hlj hn
                go_wp2_with fail
                go_roundw
                case rel => exact ⟨j + 1, hlj, Pk.step_v j _ hw.out, by rw [hstay]; exact HM.out⟩
                case measure => exact Pk.msr j n hlj _ hw.out
        · have hjn : j = n := by omega
          subst hjn
          rw [EN.out, dd_last] at m0
          have d2 : ¬ ((j : Int) < (j : Int)) := by omega
          have hw := step_i k hlt
          have HM : Hid (Mem w [(w.heap.size + 1, cu (of ps) (k + 1)), (w.heap.size, fun _ => false)] wr) := m0
          clear m0
          go_wp2_with fail
          go_roundw
          case rel => exact ⟨k + 1, hlt, rfl, HM.out⟩
          case measure => simp [intOf]; omega
    · have hk2 : k = 256 := by omega
      subst hk2
      have v0 := m0.v (w.heap.size, fun _ => false) (by simp)
      have ef := cu_full (of ps)
      have r1 := range32 (Mem_CK m0 (g := w.heap.size + 1) (P := cu (of ps) 256) (by simp))
      generalize cu (of ps) 256 = C at ef r1 m0
      have t1 : wr.there w.heap.size 0 (h32 (FB C)).toArray.size := there32a v0.c v0.f
      have C0 : Hid (Sp.CK .u8 w.heap.size 32 (FB C) (wr.setCells w.heap.size 0 (h32 (FB C)).toArray.toList)) := CK_set32 v0.c v0.f
      have HB : Hid (Below w.heap.size w (wr.setCells w.heap.size 0 (h32 (FB C)).toArray.toList)) := Bel_sets (by omega) _ _ _ m0.b
      clear m0 v0
      go_upto_region 13 with fail
      refine wp_region_lit ?_
      refine wpList_load_mid rfl 24 (.tmp 3) rfl (w.heap.size + 1) 0 rfl (h32 (FB C)) _ r1 Try.underlying24 rfl info32 ?_
      refine wpList_store_mid rfl 24 (.tmp 2) (.tmp 55) rfl w.heap.size 0 (h32 (FB C)).toArray rfl rfl t1 info32a (all_oneCell_toArray (h32_one (FB C))) ?_
      refine wpList_nil ?_
      generalize wr.setCells w.heap.size 0 (h32 (FB C)).toArray.toList = W4 at C0 HB ⊢
      generalize (h32 (FB C)).toArray = cs
      go_wp2_with fail
      refine bodyPost_ret (v := Hv (FB C)) (result32 _ _ _ w.heap.size 2 _ rfl rfl C0.out) rfl ⟨by rw [ef], HB.out⟩
end Bl
end Go.Proofs.Ytcgjkombefhjmaa
/- lampbearerlaw.BloomFilters: bloom answers as the document's own does. -/
namespace Go.Proofs.Ytcgjkombefhjmaa
namespace Bl
open Go.RowKit Sp
set_option maxHeartbeats 2000000 in
set_option maxRecDepth 100000 in
theorem law_filters (ps : List (List UInt8)) (v : Value) (P Q : Nat → Bool) (l : List UInt8) (ao : Option Addr) (cap : Nat) (w : World) (hps : Hid (ps.flatten.length ≤ 1048576)) (hn : Hid (ps.length ≤ 1048576)) (h : Ls ps v w) (hl : (l.length : Int) ≤ 140737488355328) (hv : Sp.Vw l ao w) :
    Calls Try.prog 3 #[v, Hv (FB P), Hv (FB Q), .slice ao l.length cap] w fun e w' => e = .returned (.bool true) ∧ Below w.heap.size w w' := by
  have K1 : Hid (∀ wx, Below w.heap.size w wx → Calls Try.prog 7 #[v] wx fun e w' => e = .returned (Hv (FB (of ps))) ∧ Below wx.heap.size wx w') := fun wx hb => of_any ps v wx hps hn (Ls_below h hb)
  have K2 : Hid (∀ wx, Below w.heap.size w wx → Calls Try.prog 8 #[v] wx fun e w' => e = .returned (Hv (FB (of ps))) ∧ Below wx.heap.size wx w') := fun wx hb => jof_any ps v wx hps hn (Ls_below h hb)
  have K3 : Hid (∀ w : World, Calls Try.prog 9 #[Hv (FB P), Hv (FB Q)] w fun e w' => e = .returned (Hv (FB (jn P Q))) ∧ Below w.heap.size w w') := fun w => join_any P Q w
  have K4 : Hid (∀ w : World, Calls Try.prog 10 #[Hv (FB P), Hv (FB Q)] w fun e w' => e = .returned (Hv (FB (jn P Q))) ∧ Below w.heap.size w w') := fun w => jjoin_any P Q w
  have K5 : Hid (∀ w : World, Calls Try.prog 11 #[Hv (FB P), Hv (FB Q)] w fun e w' => e = .returned (.bool (wi P Q)) ∧ Below w.heap.size w w') := fun w => within_any P Q w
  have K6 : Hid (∀ w : World, Calls Try.prog 12 #[Hv (FB P), Hv (FB Q)] w fun e w' => e = .returned (.bool (wi P Q)) ∧ Below w.heap.size w w') := fun w => jwithin_any P Q w
  have K7 : Hid (∀ wx, Below w.heap.size w wx → Calls Try.prog 13 #[Hv (FB P), .slice ao l.length cap] wx fun e w' => e = .returned (.bool (wi (tb l) P)) ∧ Below wx.heap.size wx w') := fun wx hb => may_any P l ao cap wx hl (Sp.Vw_below hv hb)
  have K8 : Hid (∀ wx, Below w.heap.size w wx → Calls Try.prog 14 #[Hv (FB P), .slice ao l.length cap] wx fun e w' => e = .returned (.bool (wi (tb l) P)) ∧ Below wx.heap.size wx w') := fun wx hb => jmay_any P l ao cap wx hl (Sp.Vw_below hv hb)
  clear hl hv h hps hn
  generalize FB (of ps) = F1 at K1 K2
  go_enter Try.func3, Try.ntmps3
  go_upto_region 1 with fail
  dsimp only [Hv]
  have m0 := Mem_nil w
  have m1 := Mem_box m0 (P) 24
  have z1 : (w.alloc (.cells (h32 (FB (P))).toArray 24)).heap.size = w.heap.size + 1 := by simp
  generalize w.alloc (.cells (h32 (FB (P))).toArray 24) = W1 at m1 z1 ⊢
  have m2 := Mem_box m1 (Q) 24
  have z2 : (W1.alloc (.cells (h32 (FB (Q))).toArray 24)).heap.size = w.heap.size + 2 := by simp [z1]
  rw [z1] at m2
  generalize W1.alloc (.cells (h32 (FB (Q))).toArray 24) = W2 at m2 z2 ⊢
  generalize (h32 (FB (P))).toArray = c0
  generalize (h32 (FB (Q))).toArray = c1
  clear m1 z1 m0 z2
  generalize FB (jn P Q) = F2 at K3 K4
  generalize wi P Q = x5 at K5 K6
  generalize wi (tb l) P = x6 at K7 K8
  refine RS.wp_region_one (Mem w [(w.heap.size + 1, Q), (w.heap.size, P)]) (by kernel_rfl) (by kernel_rfl) (Mem_drew m2) ?_
  dsimp only [List.toList_toArray]
  refine RS.go1 (v := ?_) (a' := ?_) rfl ?_ ?_ ?_
  rotate_left 2
  · intro K wx hS hK
    go_simp
    exact hK _ hS
  · simp only [Act.put, List.setIfInBounds_toArray, List.set_cons_succ, List.set_cons_zero]
    rfl
  refine RS.go1 (v := ?_) (a' := ?_) rfl ?_ ?_ ?_
  rotate_left 2
  · intro K wx hS hK
    go_simp
    refine (K1.out wx hS.b).mono (fun e w2 he => ?_)
    refine ⟨_, he.1, ?_⟩
    exact hK _ (Mem_below hS he.2)
  · simp only [Act.put, List.setIfInBounds_toArray, List.set_cons_succ, List.set_cons_zero]
    rfl
  refine RS.go1 (v := ?_) (a' := ?_) rfl ?_ ?_ ?_
  rotate_left 2
  · intro K wx hS hK
    go_simp
    exact hK _ hS
  · simp only [Act.put, List.setIfInBounds_toArray, List.set_cons_succ, List.set_cons_zero]
    rfl
  refine RS.go1 (v := ?_) (a' := ?_) rfl ?_ ?_ ?_
  rotate_left 2
  · intro K wx hS hK
    go_simp
    refine (K2.out wx hS.b).mono (fun e w2 he => ?_)
    refine ⟨_, he.1, ?_⟩
    exact hK _ (Mem_below hS he.2)
  · simp only [Act.put, List.setIfInBounds_toArray, List.set_cons_succ, List.set_cons_zero]
    rfl
  refine RS.go1 (v := ?_) (a' := ?_) rfl ?_ ?_ ?_
  rotate_left 2
  · intro K wx hS hK
    refine eq (b := true) rfl rfl rfl (same_self _ _) ?_
    exact hK _ hS
  · simp only [Act.put, List.setIfInBounds_toArray, List.set_cons_succ, List.set_cons_zero]
    rfl
  refine RS.go1 (v := ?_) (a' := ?_) rfl ?_ ?_ ?_
  rotate_left 2
  · intro K wx hS hK
    go_simp
    exact hK _ hS
  · simp only [Act.put, List.setIfInBounds_toArray, List.set_cons_succ, List.set_cons_zero]
    rfl
  refine RS.go1g (v := ?_) (a' := ?_) (by kernel_rfl) ?_ ?_ ?_
  rotate_left 2
  · intro K wx hS hK
    refine ld rfl rfl (hS.v (w.heap.size, P) (by simp)).c ?_
    exact hK _ hS
  · simp only [Act.put, List.setIfInBounds_toArray, List.set_cons_succ, List.set_cons_zero]
    rfl
  refine RS.go1g (v := ?_) (a' := ?_) (by kernel_rfl) ?_ ?_ ?_
  rotate_left 2
  · intro K wx hS hK
    refine ld rfl rfl (hS.v (w.heap.size + 1, Q) (by simp)).c ?_
    exact hK _ hS
  · simp only [Act.put, List.setIfInBounds_toArray, List.set_cons_succ, List.set_cons_zero]
    rfl
  refine RS.go1g (v := ?_) (a' := ?_) (by kernel_rfl) ?_ ?_ ?_
  rotate_left 2
  · intro K wx hS hK
    go_simp
    refine (K3.out wx).mono (fun e w2 he => ?_)
    refine ⟨_, he.1, ?_⟩
    exact hK _ (Mem_below hS he.2)
  · simp only [Act.put, List.setIfInBounds_toArray, List.set_cons_succ, List.set_cons_zero]
    rfl
  refine RS.go1g (v := ?_) (a' := ?_) (by kernel_rfl) ?_ ?_ ?_
  rotate_left 2
  · intro K wx hS hK
    refine ld rfl rfl (hS.v (w.heap.size, P) (by simp)).c ?_
    exact hK _ hS
  · simp only [Act.put, List.setIfInBounds_toArray, List.set_cons_succ, List.set_cons_zero]
    rfl
  refine RS.go1g (v := ?_) (a' := ?_) (by kernel_rfl) ?_ ?_ ?_
  rotate_left 2
  · intro K wx hS hK
    refine ld rfl rfl (hS.v (w.heap.size + 1, Q) (by simp)).c ?_
    exact hK _ hS
  · simp only [Act.put, List.setIfInBounds_toArray, List.set_cons_succ, List.set_cons_zero]
    rfl
  refine RS.go1g (v := ?_) (a' := ?_) (by kernel_rfl) ?_ ?_ ?_
  rotate_left 2
  · intro K wx hS hK
    go_simp
    refine (K4.out wx).mono (fun e w2 he => ?_)
    refine ⟨_, he.1, ?_⟩
    exact hK _ (Mem_below hS he.2)
  · simp only [Act.put, List.setIfInBounds_toArray, List.set_cons_succ, List.set_cons_zero]
    rfl
  refine RS.go1g (v := ?_) (a' := ?_) (by kernel_rfl) ?_ ?_ ?_
  rotate_left 2
  · intro K wx hS hK
    refine eq (b := true) rfl rfl rfl (same_self _ _) ?_
    exact hK _ hS
  · simp only [Act.put, List.setIfInBounds_toArray, List.set_cons_succ, List.set_cons_zero]
    rfl
  refine RS.go1 (v := ?_) (a' := ?_) rfl ?_ ?_ ?_
  rotate_left 2
  · intro K wx hS hK
    go_simp
    exact hK _ hS
  · simp only [Act.put, List.setIfInBounds_toArray, List.set_cons_succ, List.set_cons_zero]
    rfl
  refine RS.go1 (v := ?_) (a' := ?_) rfl ?_ ?_ ?_
  rotate_left 2
  · intro K wx hS hK
    go_simp
    exact hK _ hS
  · simp only [Act.put, List.setIfInBounds_toArray, List.set_cons_succ, List.set_cons_zero]
    rfl
  refine RS.go1g (v := ?_) (a' := ?_) (by kernel_rfl) ?_ ?_ ?_
  rotate_left 2
  · intro K wx hS hK
    refine ld rfl rfl (hS.v (w.heap.size, P) (by simp)).c ?_
    exact hK _ hS
  · simp only [Act.put, List.setIfInBounds_toArray, List.set_cons_succ, List.set_cons_zero]
    rfl
  refine RS.go1g (v := ?_) (a' := ?_) (by kernel_rfl) ?_ ?_ ?_
  rotate_left 2
  · intro K wx hS hK
    refine ld rfl rfl (hS.v (w.heap.size + 1, Q) (by simp)).c ?_
    exact hK _ hS
  · simp only [Act.put, List.setIfInBounds_toArray, List.set_cons_succ, List.set_cons_zero]
    rfl
  refine RS.go1g (v := ?_) (a' := ?_) (by kernel_rfl) ?_ ?_ ?_
  rotate_left 2
  · intro K wx hS hK
    go_simp
    refine (K5.out wx).mono (fun e w2 he => ?_)
    refine ⟨_, he.1, ?_⟩
    exact hK _ (Mem_below hS he.2)
  · simp only [Act.put, List.setIfInBounds_toArray, List.set_cons_succ, List.set_cons_zero]
    rfl
  refine RS.go1g (v := ?_) (a' := ?_) (by kernel_rfl) ?_ ?_ ?_
  rotate_left 2
  · intro K wx hS hK
    refine ld rfl rfl (hS.v (w.heap.size, P) (by simp)).c ?_
    exact hK _ hS
  · simp only [Act.put, List.setIfInBounds_toArray, List.set_cons_succ, List.set_cons_zero]
    rfl
  refine RS.go1g (v := ?_) (a' := ?_) (by kernel_rfl) ?_ ?_ ?_
  rotate_left 2
  · intro K wx hS hK
    refine ld rfl rfl (hS.v (w.heap.size + 1, Q) (by simp)).c ?_
    exact hK _ hS
  · simp only [Act.put, List.setIfInBounds_toArray, List.set_cons_succ, List.set_cons_zero]
    rfl
  refine RS.go1g (v := ?_) (a' := ?_) (by kernel_rfl) ?_ ?_ ?_
  rotate_left 2
  · intro K wx hS hK
    go_simp
    refine (K6.out wx).mono (fun e w2 he => ?_)
    refine ⟨_, he.1, ?_⟩
    exact hK _ (Mem_below hS he.2)
  · simp only [Act.put, List.setIfInBounds_toArray, List.set_cons_succ, List.set_cons_zero]
    rfl
  refine RS.go1g (v := ?_) (a' := ?_) (by kernel_rfl) ?_ ?_ ?_
  rotate_left 2
  · intro K wx hS hK
    go_simp
    exact hK _ hS
  · simp only [Act.put, List.setIfInBounds_toArray, List.set_cons_succ, List.set_cons_zero]
    rfl
  refine RS.go1 (v := ?_) (a' := ?_) rfl ?_ ?_ ?_
  rotate_left 2
  · intro K wx hS hK
    go_simp
    exact hK _ hS
  · simp only [Act.put, List.setIfInBounds_toArray, List.set_cons_succ, List.set_cons_zero]
    rfl
  refine RS.go1 (v := ?_) (a' := ?_) rfl ?_ ?_ ?_
  rotate_left 2
  · intro K wx hS hK
    go_simp
    exact hK _ hS
  · simp only [Act.put, List.setIfInBounds_toArray, List.set_cons_succ, List.set_cons_zero]
    rfl
  refine RS.go1g (v := ?_) (a' := ?_) (by kernel_rfl) ?_ ?_ ?_
  rotate_left 2
  · intro K wx hS hK
    refine ld rfl rfl (hS.v (w.heap.size, P) (by simp)).c ?_
    exact hK _ hS
  · simp only [Act.put, List.setIfInBounds_toArray, List.set_cons_succ, List.set_cons_zero]
    rfl
  refine RS.go1g (v := ?_) (a' := ?_) (by kernel_rfl) ?_ ?_ ?_
  rotate_left 2
  · intro K wx hS hK
    go_simp
    exact hK _ hS
  · simp only [Act.put, List.setIfInBounds_toArray, List.set_cons_succ, List.set_cons_zero]
    rfl
  refine RS.go1g (v := ?_) (a' := ?_) (by kernel_rfl) ?_ ?_ ?_
  rotate_left 2
  · intro K wx hS hK
    go_simp
    refine (K7.out wx hS.b).mono (fun e w2 he => ?_)
    refine ⟨_, he.1, ?_⟩
    exact hK _ (Mem_below hS he.2)
  · simp only [Act.put, List.setIfInBounds_toArray, List.set_cons_succ, List.set_cons_zero]
    rfl
  refine RS.go1g (v := ?_) (a' := ?_) (by kernel_rfl) ?_ ?_ ?_
  rotate_left 2
  · intro K wx hS hK
    refine ld rfl rfl (hS.v (w.heap.size, P) (by simp)).c ?_
    exact hK _ hS
  · simp only [Act.put, List.setIfInBounds_toArray, List.set_cons_succ, List.set_cons_zero]
    rfl
  refine RS.go1g (v := ?_) (a' := ?_) (by kernel_rfl) ?_ ?_ ?_
  rotate_left 2
  · intro K wx hS hK
    go_simp
    exact hK _ hS
  · simp only [Act.put, List.setIfInBounds_toArray, List.set_cons_succ, List.set_cons_zero]
    rfl
  refine RS.go1g (v := ?_) (a' := ?_) (by kernel_rfl) ?_ ?_ ?_
  rotate_left 2
  · intro K wx hS hK
    go_simp
    refine (K8.out wx hS.b).mono (fun e w2 he => ?_)
    refine ⟨_, he.1, ?_⟩
    exact hK _ (Mem_below hS he.2)
  · simp only [Act.put, List.setIfInBounds_toArray, List.set_cons_succ, List.set_cons_zero]
    rfl
  refine RS.go1g (v := ?_) (a' := ?_) (by kernel_rfl) ?_ ?_ ?_
  rotate_left 2
  · intro K wx hS hK
    go_simp
    exact hK _ hS
  · simp only [Act.put, List.setIfInBounds_toArray, List.set_cons_succ, List.set_cons_zero]
    rfl
  refine RS.go1 (v := ?_) (a' := ?_) rfl ?_ ?_ ?_
  rotate_left 2
  · intro K wx hS hK
    go_simp
    exact hK _ hS
  · simp only [Act.put, List.setIfInBounds_toArray, List.set_cons_succ, List.set_cons_zero]
    rfl
  refine RS.go1 (v := ?_) (a' := ?_) rfl ?_ ?_ ?_
  rotate_left 2
  · intro K wx hS hK
    go_simp
    exact hK _ hS
  · simp only [Act.put, List.setIfInBounds_toArray, List.set_cons_succ, List.set_cons_zero]
    rfl
  refine RS.go_end ?_
  intro w9 m9
  have b9 := m9.b
  clear m9 m2
  go_wp2_with fail
  go_ret
  exact ⟨rfl, b9⟩
end Bl
end Go.Proofs.Ytcgjkombefhjmaa
/- Bytes that came in. -/
namespace Go.Proofs.Ytcgjkombefhjmaa
namespace Sp
open Go.ChangeShapes Go.WideShapes Go.ChangeAt Go.RowKit Go.Joins
theorem ownK : ownKnob Try.prog.godebug = none := by kernel_rfl
theorem laidOutK : laidOutB Try.prog = true := by kernel_rfl
theorem cellsU8 : Try.prog.cellsOf 5 = 1 := by kernel_rfl
theorem bytesU8 : Try.prog.bytesOf 5 = 1 := by kernel_rfl
/-- Numbers as bytes. -/
def ub (zs : List Int) : List UInt8 := zs.map fun z => UInt8.ofNat z.toNat
theorem ub_length (zs : List Int) : (ub zs).length = zs.length := by simp [ub]
theorem ub_bz (zs : List Int) (hz : ∀ z ∈ zs, 0 ≤ z ∧ z < 256) (j : Nat) (h : j < zs.length) : bz (ub zs) j = zs.getD j 0 := by
  have hm := hz zs[j] (List.getElem_mem h)
  have h2 : j < (ub zs).length := by rw [ub_length]; exact h
  unfold bz
  rw [List.getD_eq_getElem?_getD, List.getD_eq_getElem?_getD, List.getElem?_eq_getElem h2, List.getElem?_eq_getElem h]
  simp only [Option.getD_some, ub, List.getElem_map, UInt8.toNat_ofNat']
  omega
set_option maxRecDepth 100000 in
theorem open_bytes {H : Type} {enc : TypeId × Value → H} {W : World} {r : Reach} {b0 : Nat} {v : Value} {d : DataW H} {p : List MemPlace}
    (hv : Value.okWide Try.prog W r b0 25 v) (h : DataW.Trod enc Try.prog W 0 (fun _ => true) true 25 v d p) :
    ∃ (l : List UInt8) (ao : Option Addr) (cap : Nat), v = .slice ao l.length cap ∧ l.length ≤ cap ∧ Vw l ao W ∧ (l = [] ∨ ∃ elems spare, d = .slice elems spare ∧ elems.length = l.length) := by
  obtain ⟨a0, len, cap, rfl⟩ := okWide_slice Try.underlying25 hv
  obtain ⟨fuel, hf⟩ := h
  rcases open_ints Try.underlying25 Try.underlying5 cellsU8 hf with ⟨hcs, hx⟩ | ⟨a, len', cap', zs, hcs, _, hl, hm, hz, hx, hcell, hwz⟩
  · simp [Value.cells] at hcs
    obtain ⟨rfl, rfl, rfl⟩ := hcs
    exact ⟨[], none, 0, rfl, Nat.le_refl _, Vw_nil _ _, .inl rfl⟩
  · simp [Value.cells] at hcs
    obtain ⟨rfl, rfl, rfl⟩ := hcs
    simp only [if_true] at hz
    have hb : ∀ z ∈ zs, 0 ≤ z ∧ z < 256 := fun z hz' => by have := bounds_u8 (hwz z hz'); omega
    have hb' : ∀ z ∈ zs.take len, 0 ≤ z ∧ z < 256 := fun z hz' => hb z (List.mem_of_mem_take hz')
    have hlt : (ub (zs.take len)).length = len := by rw [ub_length, List.length_take]; omega
    simp only [Prod.mk.injEq] at hx
    refine ⟨ub (zs.take len), some a, cap, by rw [hlt], by rw [hlt]; exact hl, ?_, .inr ⟨_, _, hx.1, by simp [lits, hlt]; omega⟩⟩
    intro h0
    rw [hlt] at h0
    obtain ⟨b, off, rfl, hc⟩ := ints_at hcell (by omega)
    refine ⟨b, off, rfl, ?_, fun j hj => ?_⟩
    · exact World.block_lt_of_cell? W ⟨b, off + 0, none⟩ (hc 0 (by omega))
    · rw [hlt] at hj
      rw [hc j (by omega), ub_bz _ hb' j (by rw [List.length_take]; omega)]
      simp [List.getD_eq_getElem?_getD, hj]
end Sp
end Go.Proofs.Ytcgjkombefhjmaa
/- A slice of bytes that came in: its room too. -/
namespace Go.Proofs.Ytcgjkombefhjmaa
namespace Sp
open Go.ChangeShapes Go.WideShapes Go.ChangeAt Go.RowKit
set_option maxRecDepth 100000 in
theorem open_bytes2 {H : Type} {enc : TypeId × Value → H} {W : World} {r : Reach} {b0 : Nat} {v : Value} {d : DataW H} {p : List MemPlace}
    (hv : Value.okWide Try.prog W r b0 25 v) (h : DataW.Trod enc Try.prog W 0 (fun _ => true) true 25 v d p) :
    ∃ (l : List UInt8) (ao : Option Addr) (cap : Nat), v = .slice ao l.length cap ∧ l.length ≤ cap ∧ (cap : Int) ≤ 9223372036854775807 ∧ Vw l ao W ∧ (l = [] ∨ ∃ elems spare, d = .slice elems spare ∧ elems.length = l.length) := by
  obtain ⟨l, ao, cap, rfl, h1, h2, h3⟩ := open_bytes hv h
  refine ⟨l, ao, cap, rfl, h1, ?_, h2, h3⟩
  obtain ⟨fuel, hf⟩ := h
  rcases open_ints Try.underlying25 Try.underlying5 cellsU8 hf with ⟨hcs, _⟩ | ⟨a, len', cap', zs, hcs, _, _, hm, _⟩
  · simp [Value.cells] at hcs
    omega
  · simp [Value.cells] at hcs
    obtain ⟨_, _, rfl⟩ := hcs
    unfold maxLen at hm
    omega
end Sp
end Go.Proofs.Ytcgjkombefhjmaa
/- lampbearerref.SEach. -/
namespace Go.Proofs.Ytcgjkombefhjmaa
namespace Sp
open Go.RowKit
theorem own_gb {B e s n : Nat} {v : Value} {xs : List Value} {k : Option Nat} {w w' : World} (h : w.ownsRow B e s v n xs) (b : w.grownBy w' k) (hk : ∀ g, v.ownBlock = some g → k ≠ some g) : w'.ownsRow B e s v n xs := by
  refine ⟨h.1, ?_⟩
  rcases h.2 with h2 | ⟨g, cap, cur, h2, h3, h4, h5⟩
  · exact .inl h2
  · refine .inr ⟨g, cap, cur, h2, h3, ?_, h5⟩
    rw [b.block g (Pk.lt_of_heap h4) (fun e => hk g (by rw [h2]; rfl) e.symm)]
    exact h4
theorem own_lo {B e s n : Nat} {v : Value} {xs : List Value} {w : World} (h : w.ownsRow B e s v n xs) : ∀ g, v.ownBlock = some g → B ≤ g ∧ g < w.heap.size := by
  rcases h.2 with ⟨h2, _⟩ | ⟨g, cap, cur, h2, h3, h4, h5⟩
  · subst h2; intro g e; cases e
  · subst h2; intro g' e; cases e; exact ⟨h3, Pk.lt_of_heap h4⟩
theorem app_own {base : Nat} {x b : List UInt8} {v vb : Value} {w : World} (ty : TypeId) (h : w.ownsRow base 5 1 v x.length (Pk.bcs x)) (hb : Pk.Sl b vb w) (hbase : base ≤ w.heap.size) (hlen : x.length + b.length ≤ 4194304) :
    ∃ v' w', (Builtin.append_ #[25, 25] ty #[v, vb]).run Try.prog w = .ok v' w' ∧ w'.ownsRow base 5 1 v' (x ++ b).length (Pk.bcs (x ++ b)) ∧ w.grownBy w' v.ownBlock ∧ (v'.ownBlock = v.ownBlock ∨ v'.ownBlock = some w.heap.size) := by
  obtain ⟨i0, hi, hz0, hz1, hz2⟩ := info_parts Pk.Try.infoU8'
  obtain ⟨ao, cap, rfl, hcap, vw⟩ := hb
  by_cases h0 : 0 < b.length
  · obtain ⟨g, off, rfl, hg, hc⟩ := vw h0
    obtain ⟨g', cap', w', hr, ho, hgr, hl, _⟩ := run_append_lies (P := Try.prog) w 25 ty base 5 i0 (.int .u8 0) 1 1 Try.underlying25 hi hz0 hz1 hz2 rfl (by decide) v x.length (Pk.bcs x) h ⟨g, off, none⟩ b.length cap (Pk.bcs b) (by rw [Pk.bcs_len, Nat.mul_one])
      (fun j u hj => by
        have hj' : j < b.length := by
          have := (List.getElem?_eq_some_iff.1 hj).1
          rwa [Pk.bcs_len] at this
        rw [add_lit, hc j hj', ← hj, bcs_get b j hj']) (fun u hu => by
          obtain ⟨c, _, rfl⟩ := List.mem_map.1 hu
          rfl) h0 (by unfold maxLen; omega) (by omega) hbase w.heap.size rfl
    refine ⟨_, w', hr, by rw [List.length_append, Pk.bcs_app]; exact ho, hgr, ?_⟩
    rcases hl with hl | hl
    · exact .inl hl.symm
    · exact .inr (by rw [hl]; rfl)
  · have e : b = [] := List.length_eq_zero_iff.1 (by omega)
    subst e
    rw [List.append_nil]
    refine ⟨v, w, ?_, h, gb_refl _ _, .inl rfl⟩
    have hs : Src Try.prog i0.size 25 (.slice ao 0 cap) 0 [] w := by
      cases ao with
      | none => exact Src.ofNil w Try.underlying25 cap
      | some ad => exact Src.ofSlice w Try.underlying25 ad 0 cap [] (by simp) (fun j u hj => by simp at hj) (fun u hu => by cases hu)
    rcases h.2 with ⟨h3, h4⟩ | ⟨g', cap', cur, h3, h5⟩
    · subst h3
      exact run_append_nothing w 25 25 ty 5 i0 Try.underlying25 hi none 0 0 (Nat.le_refl _) _ hs
    · subst h3
      exact run_append_nothing w 25 25 ty 5 i0 Try.underlying25 hi _ _ _ h5.2.2.1 _ hs
/-- The cells of the first k sums. -/
def hcs (ps : List (List UInt8)) (k : Nat) : List Value := (List.range k).flatMap fun j => h32 (sumf (pre ps (j + 1)))
theorem hcs_succ (ps : List (List UInt8)) (k : Nat) : hcs ps (k + 1) = hcs ps k ++ h32 (sumf (pre ps (k + 1))) := by simp [hcs, List.range_succ]
theorem fill_h (G : Nat → Int) : Instr.fill (fun i => some (i * 32, 32)) ((Array.range (1 * 32)).map ((Value.agg #[.int .u8 0, .int .u8 0, .int .u8 0, .int .u8 0, .int .u8 0, .int .u8 0, .int .u8 0, .int .u8 0, .int .u8 0, .int .u8 0, .int .u8 0, .int .u8 0, .int .u8 0, .int .u8 0, .int .u8 0, .int .u8 0, .int .u8 0, .int .u8 0, .int .u8 0, .int .u8 0, .int .u8 0, .int .u8 0, .int .u8 0, .int .u8 0, .int .u8 0, .int .u8 0, .int .u8 0, .int .u8 0, .int .u8 0, .int .u8 0, .int .u8 0, .int .u8 0]).cells[· % (Value.agg #[.int .u8 0, .int .u8 0, .int .u8 0, .int .u8 0, .int .u8 0, .int .u8 0, .int .u8 0, .int .u8 0, .int .u8 0, .int .u8 0, .int .u8 0, .int .u8 0, .int .u8 0, .int .u8 0, .int .u8 0, .int .u8 0, .int .u8 0, .int .u8 0, .int .u8 0, .int .u8 0, .int .u8 0, .int .u8 0, .int .u8 0, .int .u8 0, .int .u8 0, .int .u8 0, .int .u8 0, .int .u8 0, .int .u8 0, .int .u8 0, .int .u8 0, .int .u8 0]).cells.size]!)) [(0, Hv G)] = some (h32 G).toArray := by kernel_rfl
structure SI (w : World) (ps : List (List UInt8)) (k : Nat) (va vo : Value) (wr : World) : Prop where
  a : wr.ownsRow w.heap.size 5 1 va (pre ps k).length (Pk.bcs (pre ps k))
  o : wr.ownsRow w.heap.size 24 32 vo k (hcs ps k)
  d : ∀ g, vo.ownBlock = some g → va.ownBlock ≠ some g
  b : Below w.heap.size w wr
end Sp
end Go.Proofs.Ytcgjkombefhjmaa
/- slices.Equal of rows of sums. -/
namespace Go.Proofs.Ytcgjkombefhjmaa
namespace Sp
open Go.RowKit
/-- A slice of n sums that reads as F. -/
def Hs (n : Nat) (F : Nat → Int) (v : Value) (w : World) : Prop := ∃ (ao : Option Addr) (cap : Nat), v = .slice ao n cap ∧ (0 < n → ∃ g, ao = some ⟨g, 0, none⟩ ∧ g < w.heap.size ∧ ∀ x, x < 32 * n → w.cell? ⟨g, x, none⟩ = some (.int .u8 (F x)))
theorem Hs_below {n : Nat} {F : Nat → Int} {v : Value} {w w' : World} (h : Hs n F v w) (hb : Below w.heap.size w w') : Hs n F v w' := by
  obtain ⟨ao, cap, h1, h2⟩ := h
  refine ⟨ao, cap, h1, fun h0 => ?_⟩
  obtain ⟨g, h3, h4, h5⟩ := h2 h0
  exact ⟨g, h3, Nat.lt_of_lt_of_le h4 hb.size, fun x hx => (hb.cell (p := ⟨g, x, none⟩) h4).trans (h5 x hx)⟩
theorem Hs_vb {B O n : Nat} {F : Nat → Int} {w : World} (h : Vb .u8 B O (32 * n) F w) : Hs n F (.slice (some ⟨O, 0, none⟩) n n) w := ⟨_, n, rfl, fun _ => ⟨O, rfl, h.hi, h.c⟩⟩
theorem hcs_get (ps : List (List UInt8)) : ∀ (n x : Nat), x < 32 * n → (hcs ps n)[x]? = some (.int .u8 (HF ps n x))
  | 0, x, h => absurd h (by omega)
  | n + 1, x, h => by
    have hl : ∀ m, (hcs ps m).length = 32 * m := fun m => by
      induction m with
      | zero => rfl
      | succ m ih => rw [hcs_succ, List.length_append, ih, h32_length]; omega
    rw [hcs_succ, HF_step]
    by_cases e : x < 32 * n
    · rw [List.getElem?_append_left (by rw [hl]; exact e), if_neg (by omega)]
      exact hcs_get ps n x e
    · rw [List.getElem?_append_right (by rw [hl]; omega), hl, if_pos (by omega), h32_get _ _ (by omega)]
      congr 3
      omega
theorem Hs_own {B : Nat} {ps : List (List UInt8)} {n : Nat} {v : Value} {w : World} (h : w.ownsRow B 24 32 v n (hcs ps n)) : Hs n (HF ps n) v w := by
  rcases h.2 with ⟨h2, h3⟩ | ⟨g, cap, cur, h2, h3, h4, h5⟩
  · subst h3
    exact ⟨none, 0, h2, fun h => absurd h (by decide)⟩
  · subst h2
    exact ⟨_, cap, rfl, fun _ => ⟨g, rfl, Pk.lt_of_heap h4, fun x hx => by rw [h.cellAt x (by omega), hcs_get ps n x hx]⟩⟩
def EI (g1 g2 n c1 c2 k : Nat) (q4 q25 : Value) (G : Nat → Int) (W : World) (d : Nat → Bool) (x : Act) (wx : World) : Prop :=
  ∃ (y16 y17 y18 y19 y20 y21 y22 y23 y24 : Value), x = { tmps := #[.slice (some ⟨g1, 0, none⟩) n c1, .slice (some ⟨g2, 0, none⟩) n c2, undef, undef, q4, .int .i64 (k : Int), .slice (some ⟨g1, 0, none⟩) n c1, .int .i64 (n : Int), .slice (some ⟨g2, 0, none⟩) n c2, .int .i64 (n : Int), .bool false, .slice (some ⟨g1, 0, none⟩) n c1, .int .i64 (n : Int), .int .i64 (k : Int), .bool true, .int .i64 (k : Int), y16, y17, y18, y19, y20, y21, y22, y23, y24, q25], defers := [] } ∧ (Hid (W = wx)) ∧ (d 0 = true → y16 = .slice (some ⟨g1, 0, none⟩) n c1) ∧ (d 1 = true → y17 = .int .i64 (k : Int)) ∧ (d 2 = true → y18 = .pointer (some ⟨g1, k * 32, none⟩)) ∧ (d 3 = true → y19 = Hv G) ∧ (d 4 = true → y20 = .slice (some ⟨g2, 0, none⟩) n c2) ∧ (d 5 = true → y21 = .int .i64 (k : Int)) ∧ (d 6 = true → y22 = .pointer (some ⟨g2, k * 32, none⟩)) ∧ (d 7 = true → y23 = Hv G) ∧ (d 8 = true → y24 = .bool false)
end Sp
end Go.Proofs.Ytcgjkombefhjmaa
/- Texts that came in. -/
namespace Go.Proofs.Ytcgjkombefhjmaa
namespace Sp
open Go.ChangeShapes Go.WideShapes Go.ChangeAt Go.RowKit Go.Joins Go.Deep
theorem cellsBs : Try.prog.cellsOf 25 = 1 := by kernel_rfl
theorem blk_one {H : Type} (d : DataW H) : 1 ≤ Rows.uptoBulk d := by
  unfold Rows.uptoBulk
  split <;> omega
theorem blk_len {H : Type} : ∀ l : List (DataW H), l.length ≤ Rows.uptoBulkAll l
  | [] => Nat.zero_le _
  | d :: r => by
    have h1 := blk_one d
    have h2 := blk_len r
    rw [Rows.uptoBulkAll, List.length_cons]
    omega
theorem blk_sum {H : Type} (f : Nat → DataW H) (g : Nat → List UInt8) (hf : ∀ r, (g r).length ≤ Rows.uptoBulk (f r)) : ∀ l : List Nat, ((l.map g).flatten).length ≤ Rows.uptoBulkAll (l.map f)
  | [] => Nat.zero_le _
  | r :: l => by
    have h1 := hf r
    have h2 := blk_sum f g hf l
    rw [List.map_cons, List.map_cons, List.flatten_cons, List.length_append, Rows.uptoBulkAll]
    omega
theorem row_len {H : Type} (A : Option Addr) (L C : Nat) (zs : List Int) (hl : zs.length = C) (hL : L ≤ C) (hA : A = none → C = 0) : (ub (zs.take L)).length ≤ Rows.uptoBulk (intRow .u8 A L zs : DataW H) := by
  rw [ub_length, List.length_take]
  cases A with
  | none => have := hA rfl; omega
  | some a =>
    have h := blk_len (lits (H := H) .u8 (zs.take L))
    have e : (lits (H := H) .u8 (zs.take L)).length = (zs.take L).length := by simp [lits]
    rw [e, List.length_take] at h
    show _ ≤ Rows.uptoBulk (.slice (lits .u8 (zs.take L)) (lits .u8 (zs.drop L)))
    rw [Rows.uptoBulk]
    omega
set_option maxRecDepth 100000 in
theorem open_texts {H : Type} {enc : TypeId × Value → H} {W : World} {r : Reach} {b0 : Nat} {v : Value} {d : DataW H} {p : List MemPlace}
    (hv : Value.okWide Try.prog W r b0 22 v) (h : DataW.Trod enc Try.prog W 0 (fun _ => true) true 22 v d p) :
    ∃ ps : List (List UInt8), Ls ps v W ∧ ps.length + 1 ≤ Rows.uptoBulk d ∧ ps.flatten.length ≤ Rows.uptoBulk d := by
  obtain ⟨a0, len, cap, rfl⟩ := okWide_slice Try.underlying22 hv
  obtain ⟨fuel, hf⟩ := h
  rcases open_int_rows Try.underlying22 Try.underlying25 Try.underlying5 cellsBs cellsU8 hf with ⟨hcs, hx⟩ | ⟨a, len', cap', A, L, C, Z, hcs, _, hl, hm, hx, hcell⟩
  · simp [Value.cells] at hcs
    obtain ⟨rfl, rfl, rfl⟩ := hcs
    exact ⟨[], ⟨none, 0, rfl, fun h => absurd h (by decide)⟩, blk_one d, Nat.zero_le _⟩
  · simp [Value.cells] at hcs
    obtain ⟨rfl, rfl, rfl⟩ := hcs
    simp only [Prod.mk.injEq] at hx
    have hpl : ((List.range len).map fun r => ub ((Z r).take (L r))).length = len := by simp
    have hb : Rows.uptoBulk d = Rows.uptoBulkAll ((List.range len).map fun r => (intRow .u8 (A r) (L r) (Z r) : DataW H)) + Rows.uptoBulkAll ((List.range (cap - len)).map fun j => (intRow .u8 (A (len + j)) (L (len + j)) (Z (len + j)) : DataW H)) + 1 := by rw [hx.1, Rows.uptoBulk]
    refine ⟨(List.range len).map fun r => ub ((Z r).take (L r)), ⟨some a, cap, by rw [hpl], fun h0 => ?_⟩, ?_, ?_⟩
    · rw [hpl] at h0
      obtain ⟨b, off, spot⟩ := a
      have hspot : spot = none := by simpa [Addr.add] using World.cell?_spot (hcell 0 (by omega)).1
      subst hspot
      refine ⟨b, off, rfl, World.block_lt_of_cell? W _ (by have := (hcell 0 (by omega)).1; simpa [Addr.add] using this), fun i hi => ?_⟩
      rw [hpl] at hi
      obtain ⟨q1, q2, q3, q4, q5, q6, q7⟩ := hcell i (by omega)
      rw [Go.WideShapes.add_plain] at q1
      refine ⟨_, q1, ?_⟩
      have e : (((List.range len).map fun r => ub ((Z r).take (L r))).getD i []) = ub ((Z i).take (L i)) := by simp [hi]
      rw [e]
      have hlt : (ub ((Z i).take (L i))).length = L i := by rw [ub_length, List.length_take]; omega
      have hb1 : ∀ z ∈ Z i, 0 ≤ z ∧ z < 256 := fun z hz' => by have := bounds_u8 (q5 z hz'); omega
      have hb2 : ∀ z ∈ (Z i).take (L i), 0 ≤ z ∧ z < 256 := fun z hz' => hb1 z (List.mem_of_mem_take hz')
      refine ⟨A i, C i, by rw [hlt], by rw [hlt]; exact q2, fun h1 => ?_⟩
      rw [hlt] at h1
      cases hA : A i with
      | none => have := q6 hA; omega
      | some a' =>
        obtain ⟨_, hc⟩ := q7 a' hA
        obtain ⟨b', off', rfl, hc'⟩ := ints_at (zs := Z i) (fun j hj => hc j (by omega)) (by omega)
        refine ⟨b', off', rfl, World.block_lt_of_cell? W ⟨b', off' + 0, none⟩ (hc' 0 (by omega)), fun j hj => ?_⟩
        rw [hlt] at hj
        rw [hc' j (by omega), ub_bz _ hb2 j (by rw [List.length_take]; omega)]
        simp [List.getD_eq_getElem?_getD, hj]
    · have := blk_len ((List.range len).map fun r => (intRow .u8 (A r) (L r) (Z r) : DataW H))
      rw [hpl, hb]
      simp at this
      omega
    · have hs := blk_sum (fun r => (if r < cap then intRow .u8 (A r) (L r) (Z r) else .nil : DataW H)) (fun r => if r < cap then ub ((Z r).take (L r)) else []) (fun r => by
        by_cases hr : r < cap
        · obtain ⟨q1, q2, q3, q4, q5, q6, q7⟩ := hcell r hr
          rw [if_pos hr, if_pos hr]
          exact row_len (A r) (L r) (C r) (Z r) q4 q2 q6
        · rw [if_neg hr, if_neg hr]
          exact Nat.zero_le _) (List.range len)
      have e1 : ((List.range len).map fun r => if r < cap then ub ((Z r).take (L r)) else []) = (List.range len).map fun r => ub ((Z r).take (L r)) := List.map_congr_left (fun r hr => by rw [if_pos (by have := List.mem_range.1 hr; omega)])
      have e2 : ((List.range len).map fun r => (if r < cap then intRow .u8 (A r) (L r) (Z r) else .nil : DataW H)) = (List.range len).map fun r => (intRow .u8 (A r) (L r) (Z r) : DataW H) := List.map_congr_left (fun r hr => by rw [if_pos (by have := List.mem_range.1 hr; omega)])
      rw [e1, e2] at hs
      rw [hb]
      omega
end Sp
end Go.Proofs.Ytcgjkombefhjmaa
/- A filter that came in. -/
namespace Go.Proofs.Ytcgjkombefhjmaa
namespace Bl
open Go.ChangeShapes Go.WideShapes Go.ChangeAt Go.RowKit Go.Joins
theorem cellsHash : Try.prog.cellsOf 24 = 32 := by kernel_rfl
theorem okWide_arr {P : Program} {w : World} {r : Reach} {base : Nat} {t e : TypeId} {n : Nat} {v : Value} (ht : P.underlying t = some (.array n e)) (h : Value.okWide P w r base t v) : ∃ cs, v = .agg cs ∧ cs.size = P.cellsOf t := by
  simp only [Value.okWide, ht] at h
  obtain ⟨cs, h1, h2, _⟩ := h
  exact ⟨cs, h1, h2⟩
/-- A value's number. -/
def nm : Value → Int
  | .int _ a => a
  | _ => 0
theorem open_hash {H : Type} {enc : TypeId × Value → H} {W : World} {r : Reach} {b0 base : Nat} {spare : Nat → Bool} {held : Bool} {v : Value} {d : DataW H} {p : List MemPlace}
    (hv : Value.okWide Try.prog W r b0 24 v) (h : DataW.Trod enc Try.prog W base spare held 24 v d p) : ∃ P : Nat → Bool, v = Sp.Hv (FB P) := by
  obtain ⟨cs, rfl, hsz⟩ := okWide_arr Try.underlying24 hv
  rw [cellsHash] at hsz
  obtain ⟨fuel, hf⟩ := h
  obtain ⟨xs, m, _, _, _, hl, hi⟩ := DataW.trod_array Try.underlying24 (by simpa [Value.cells] using hf)
  rw [Sp.cellsU8] at hi
  have g : ∀ i, i < 32 → ∃ a : Int, (0 ≤ a ∧ a < 256) ∧ cs[i]? = some (.int .u8 a) := by
    intro i h8
    have hx := hi i h8
    rw [List.getElem?_eq_getElem (by omega)] at hx
    obtain ⟨a, e0, _, wa⟩ := DataW.trod_int Try.underlying5 hx
    have := bounds_u8 wa
    refine ⟨a, ⟨by omega, by omega⟩, ?_⟩
    have e1 := congrArg (fun l => l[0]?) e0
    simpa using e1
  refine ⟨bt (fun i => nm (cs.getD i (.int .u8 0))), ?_⟩
  have e : cs = (Sp.h32 (FB (bt (fun i => nm (cs.getD i (.int .u8 0)))))).toArray := by
    apply Array.ext_getElem?
    intro i
    by_cases h8 : i < 32
    · obtain ⟨a, ha, hc⟩ := g i h8
      rw [hc, List.getElem?_toArray, Sp.h32_get _ _ h8, FB_bt _ (fun j hj => ?_) i h8]
      · simp [Array.getD_eq_getD_getElem?, hc, nm]
      · obtain ⟨a', ha', hc'⟩ := g j hj
        simpa [Array.getD_eq_getD_getElem?, hc', nm] using ha'
    · rw [Array.getElem?_eq_none (by omega), Array.getElem?_eq_none (by rw [List.size_toArray, Sp.h32_length]; omega)]
  unfold Sp.Hv
  rw [← e]
end Bl
end Go.Proofs.Ytcgjkombefhjmaa
/- A region that draws nothing, operation by operation, the world changing. -/
namespace Go.Proofs.Ytcgjkombefhjmaa
namespace RF
open RS
variable {P : Program} {ops : Array Oper} {Q : Exit → Act → World → Prop}
theorem go {o : Oper} {rest : List Oper} {a : Act} {w : World} (hw : Region.wanted o (yielded ops a.tmps) = true) (h : upv P (fun v w' => wpList P ops Q rest (a.put o.dst v) w') ((execOp a.eval o).run P w)) : wpList P ops Q (o :: rest) a w := by
  unfold wpList
  rw [if_pos hw]
  exact .inl (upv_upon (K := fun a' w' => wpList P ops Q rest a' w') h)
end RF
end Go.Proofs.Ytcgjkombefhjmaa
/- lampbearerkeep.alive10. -/
namespace Go.Proofs.Ytcgjkombefhjmaa
namespace Bl
open Go.RowKit Sp
set_option maxRecDepth 100000 in
theorem bz0 {K : Value → World → Prop} {a : Act} {o : Oper} {w : World} (ho : o.op = .build 24 #[]) (hK : K (Hv (fun _ => 0)) w) : RS.upv Try.prog K ((execOp a.eval o).run Try.prog w) := by
  obtain ⟨dst, op, ty, pos, after, guard⟩ := o
  simp only at ho
  subst ho
  generalize a.eval = ρ at *
  go_simp
  exact hK
/-- One text of one byte. -/
theorem one_text (x : UInt8) (g h : Nat) (w : World) (hg : g < w.heap.size) (hh : h < w.heap.size) (c1 : w.cell? ⟨g, 0, none⟩ = some (.int .u8 (x.toNat : Int))) (c2 : w.cell? ⟨h, 0, none⟩ = some (.slice (some ⟨g, 0, none⟩) 1 1)) : Ls [[x]] (.slice (some ⟨h, 0, none⟩) 1 1) w := by
  refine ⟨_, 1, rfl, fun _ => ⟨h, 0, rfl, hh, fun i hi => ?_⟩⟩
  have : i = 0 := by simp at hi; exact hi
  subst this
  refine ⟨_, c2, _, 1, rfl, Nat.le_refl _, fun _ => ⟨g, 0, rfl, hg, fun j hj => ?_⟩⟩
  have : j = 0 := by simp at hj; exact hj
  subst this
  exact c1
theorem text1 (x : Nat) (w : World) (hx : x < 256 := by decide) : Sp.Vw [UInt8.ofNat x] (some ⟨w.heap.size, 0, none⟩) (w.alloc (.cells #[.int .u8 (x : Int)] 5 (1, 2))) := fun _ => ⟨w.heap.size, 0, rfl, by simp, fun j hj => by
  have : j = 0 := by simp at hj; exact hj
  subst this
  have h := heap_alloc_new w (.cells #[.int .u8 (x : Int)] 5 (1, 2))
  simp only [World.cell?, h]
  have e : x % 256 = x := Nat.mod_eq_of_lt hx
  simp [bz, UInt8.toNat_ofNat', e]⟩
theorem text2 {l : List UInt8} {g : Nat} {w : World} (h : Sp.Vw l (some ⟨g, 0, none⟩) w) (hl : l.length = 1 := by rfl) : Ls [l] (.slice (some ⟨w.heap.size, 0, none⟩) 1 1) (w.alloc (.cells #[.slice (some ⟨g, 0, none⟩) 1 1] 25)) := by
  refine ⟨_, 1, rfl, fun _ => ⟨w.heap.size, 0, rfl, by simp, fun i hi => ?_⟩⟩
  have : i = 0 := by simp at hi; exact hi
  subst this
  refine ⟨.slice (some ⟨g, 0, none⟩) 1 1, ?_, some ⟨g, 0, none⟩, 1, by simp [hl], by simp [hl], Sp.Vw_al h _⟩
  have h2 := heap_alloc_new w (.cells #[.slice (some ⟨g, 0, none⟩) 1 1] 25)
  simp only [World.cell?, h2]
  simp
theorem tb_some (l : List UInt8) : ∃ n, n < 256 ∧ tb l n = true := by
  refine ⟨(sumf l 0).toNat, by have := sumf_lt l 0; have := sumf_nn l 0; omega, ?_⟩
  unfold tb
  rw [decide_eq_true (show sumf l 0 = ((sumf l 0).toNat : Int) by have := sumf_nn l 0; omega)]
  rfl
theorem wi_none (Q : Nat → Bool) : wi (fun _ => false) Q = true := (wi_iff _ _).2 fun _ _ h => by cases h
theorem wi_self (Q : Nat → Bool) : wi Q Q = true := (wi_iff _ _).2 fun _ _ h => h
theorem wi_tb_none (l : List UInt8) : wi (tb l) (fun _ => false) = false := by
  rw [Bool.eq_false_iff]
  intro h
  obtain ⟨n, hn, ht⟩ := tb_some l
  have := (wi_iff _ _).1 h n hn ht
  cases this
theorem of_one (l : List UInt8) : of [l] = tb l := by funext n; simp [of]
theorem neq_none (l : List UInt8) : (!same 32 (FB (tb l)) (fun _ => 0)) = true := by
  rw [← FB_none, Bool.not_eq_true', Bool.eq_false_iff]
  intro h
  rw [same_FB] at h
  obtain ⟨n, hn, ht⟩ := tb_some l
  rw [h n hn] at ht
  cases ht
set_option maxHeartbeats 2000000 in
set_option maxRecDepth 100000 in
theorem alive10_any (w : World) : Calls Try.prog 15 #[] w fun e w' => e = .returned (.bool true) ∧ Below w.heap.size w w' := by
  have KO : Hid (∀ (v : Value) (wx : World), Ls [[97]] v wx → Calls Try.prog 7 #[v] wx fun e w' => e = .returned (Hv (FB (tb [97]))) ∧ Below wx.heap.size wx w') := fun v wx h => by
    have := of_any [[97]] v wx (by show _ ≤ _; decide) (by show _ ≤ _; decide) h
    rwa [of_one] at this
  have KM : Hid (∀ (ao : Option Addr) (cap : Nat) (wx : World), Sp.Vw [97] ao wx → Calls Try.prog 13 #[Hv (FB (tb [97])), .slice ao 1 cap] wx fun e w' => e = .returned (.bool true) ∧ Below wx.heap.size wx w') := fun ao cap wx h => by
    have := may_any (tb [97]) [97] ao cap wx (by decide) h
    rwa [wi_self] at this
  have KZ : Hid (∀ (ao : Option Addr) (cap : Nat) (wx : World), Sp.Vw [97] ao wx → Calls Try.prog 13 #[Hv (fun _ => 0), .slice ao 1 cap] wx fun e w' => e = .returned (.bool false) ∧ Below wx.heap.size wx w') := fun ao cap wx h => by
    have := may_any (fun _ => false) [97] ao cap wx (by decide) h
    rwa [wi_tb_none, FB_none] at this
  have KW : Hid (∀ (wx : World), Calls Try.prog 11 #[Hv (fun _ => 0), Hv (FB (tb [97]))] wx fun e w' => e = .returned (.bool true) ∧ Below wx.heap.size wx w') := fun wx => by
    have := within_any (fun _ => false) (tb [97]) wx
    rwa [wi_none, FB_none] at this
  have KV : Hid (∀ (wx : World), Calls Try.prog 11 #[Hv (FB (tb [97])), Hv (fun _ => 0)] wx fun e w' => e = .returned (.bool false) ∧ Below wx.heap.size wx w') := fun wx => by
    have := within_any (tb [97]) (fun _ => false) wx
    rwa [wi_tb_none, FB_none] at this
  have EN : Hid ((!same 32 (FB (tb [97])) (fun _ => 0)) = true) := neq_none [97]
  generalize hF : FB (tb [97]) = F at *
  clear hF
  go_enter Try.func15, Try.ntmps15
  go_upto_region 1 with fail
  refine wp_region_lit ?_
  refine RF.go (by kernel_rfl) ?_
  go_simp
  try simp only [Act.put, List.setIfInBounds_toArray, List.set_cons_succ, List.set_cons_zero]
  refine RF.go (by kernel_rfl) ?_
  have cv := Lib.run_convert_bytes_const (P := Try.prog) w 25 5 #[.int .u8 97] 1 1 Try.underlying25 Try.underlying5
  go_simp
  clear cv
  have vw1 := text1 97 w
  have b1 : Below w.heap.size w (w.alloc (.cells #[.int .u8 97] 5 (1, 2))) := (Below.refl _ _).alloc (Nat.le_refl _) _
  generalize w.alloc (.cells #[.int .u8 97] 5 (1, 2)) = W1 at vw1 b1 ⊢
  try simp only [Act.put, List.setIfInBounds_toArray, List.set_cons_succ, List.set_cons_zero]
  refine RF.go (by kernel_rfl) ?_
  go_simp
  have hL : Ls [[97]] (.slice (some ⟨W1.heap.size, 0, none⟩) 1 1) (W1.alloc (.cells #[.slice (some ⟨w.heap.size, 0, none⟩) 1 1] 25)) := text2 vw1
  have b2 := b1.alloc (o := .cells #[.slice (some ⟨w.heap.size, 0, none⟩) 1 1] 25) b1.size
  generalize W1.alloc (.cells #[.slice (some ⟨w.heap.size, 0, none⟩) 1 1] 25) = W2 at hL b2 ⊢
  generalize W1.heap.size = g1 at hL ⊢
  try simp only [Act.put, List.setIfInBounds_toArray, List.set_cons_succ, List.set_cons_zero]
  refine RF.go (by kernel_rfl) ?_
  go_simp
  refine (KO.out _ _ hL).mono (fun e w3 he => ⟨_, he.1, ?_⟩)
  have b3 := b2.trans (he.2.mono b2.size)
  clear he hL b2 vw1 b1
  try simp only [Act.put, List.setIfInBounds_toArray, List.set_cons_succ, List.set_cons_zero]
  refine RF.go (by kernel_rfl) ?_
  go_simp
  have s4 := Sp.Vb_zero32 w.heap.size w3 24 b3.size
  have b4 := b3.alloc (o := .cells #[.int .u8 0, .int .u8 0, .int .u8 0, .int .u8 0, .int .u8 0, .int .u8 0, .int .u8 0, .int .u8 0, .int .u8 0, .int .u8 0, .int .u8 0, .int .u8 0, .int .u8 0, .int .u8 0, .int .u8 0, .int .u8 0, .int .u8 0, .int .u8 0, .int .u8 0, .int .u8 0, .int .u8 0, .int .u8 0, .int .u8 0, .int .u8 0, .int .u8 0, .int .u8 0, .int .u8 0, .int .u8 0, .int .u8 0, .int .u8 0, .int .u8 0, .int .u8 0] 24) b3.size
  generalize w3.alloc (.cells #[.int .u8 0, .int .u8 0, .int .u8 0, .int .u8 0, .int .u8 0, .int .u8 0, .int .u8 0, .int .u8 0, .int .u8 0, .int .u8 0, .int .u8 0, .int .u8 0, .int .u8 0, .int .u8 0, .int .u8 0, .int .u8 0, .int .u8 0, .int .u8 0, .int .u8 0, .int .u8 0, .int .u8 0, .int .u8 0, .int .u8 0, .int .u8 0, .int .u8 0, .int .u8 0, .int .u8 0, .int .u8 0, .int .u8 0, .int .u8 0, .int .u8 0, .int .u8 0] 24) = W4 at s4 b4 ⊢
  have lo := b3.size
  generalize w3.heap.size = g at s4 lo ⊢
  clear b3
  try simp only [Act.put, List.setIfInBounds_toArray, List.set_cons_succ, List.set_cons_zero]
  refine RF.go (by kernel_rfl) ?_
  refine st rfl rfl rfl s4.c s4.f ?_
  have m5 : Sp.Vb .u8 w.heap.size g 32 F (W4.setCells g 0 (h32 F).toArray.toList) := ⟨s4.lo, by rw [size_setCells]; exact s4.hi, CK_set32 s4.c s4.f, Fz_sets s4.f _ _⟩
  have b5 : Below w.heap.size w (W4.setCells g 0 (h32 F).toArray.toList) := Bel_sets lo _ _ _ b4
  generalize W4.setCells g 0 (h32 F).toArray.toList = W5 at m5 b5 ⊢
  clear s4 b4
  try simp only [Act.put]
  refine wpList_nil ?_
  go_upto_region 2 with fail
  refine wp_region_lit ?_
  refine RF.go (by kernel_rfl) ?_
  refine ld rfl rfl m5.c ?_
  try simp only [Act.put, List.setIfInBounds_toArray, List.set_cons_succ, List.set_cons_zero]
  refine RF.go (by kernel_rfl) ?_
  refine bz0 rfl ?_
  try simp only [Act.put, List.setIfInBounds_toArray, List.set_cons_succ, List.set_cons_zero]
  refine RF.go (by kernel_rfl) ?_
  refine neq (b := true) rfl rfl rfl EN.out ?_
  try simp only [Act.put, List.setIfInBounds_toArray, List.set_cons_succ, List.set_cons_zero]
  refine RF.go (by kernel_rfl) ?_
  go_simp
  try simp only [Act.put, List.setIfInBounds_toArray, List.set_cons_succ, List.set_cons_zero]
  refine RF.go (by kernel_rfl) ?_
  refine ld rfl rfl m5.c ?_
  try simp only [Act.put, List.setIfInBounds_toArray, List.set_cons_succ, List.set_cons_zero]
  refine RF.go (by kernel_rfl) ?_
  go_simp
  try simp only [Act.put, List.setIfInBounds_toArray, List.set_cons_succ, List.set_cons_zero]
  refine RF.go (by kernel_rfl) ?_
  have cv := Lib.run_convert_bytes_const (P := Try.prog) W5 25 5 #[.int .u8 97] 1 1 Try.underlying25 Try.underlying5
  go_simp
  clear cv
  have vw1 := text1 97 W5
  have mA := Sp.Vb_al m5 (.cells #[.int .u8 97] 5 (1, 2))
  have bA := b5.alloc (o := .cells #[.int .u8 97] 5 (1, 2)) b5.size
  generalize W5.alloc (.cells #[.int .u8 97] 5 (1, 2)) = WB at vw1 mA bA ⊢
  clear m5 b5
  try simp only [Act.put, List.setIfInBounds_toArray, List.set_cons_succ, List.set_cons_zero]
  refine RF.go (by kernel_rfl) ?_
  go_simp
  refine (KM.out _ _ _ vw1).mono (fun e W6 he => ⟨_, he.1, ?_⟩)
  have m5 := Sp.Vb_below mA he.2
  have b5 := bA.trans (he.2.mono bA.size)
  clear he mA bA vw1
  try simp only [Act.put, List.setIfInBounds_toArray, List.set_cons_succ, List.set_cons_zero]
  refine RF.go (by kernel_rfl) ?_
  go_simp
  try simp only [Act.put, List.setIfInBounds_toArray, List.set_cons_succ, List.set_cons_zero]
  refine RF.go (by kernel_rfl) ?_
  go_simp
  try simp only [Act.put, List.setIfInBounds_toArray, List.set_cons_succ, List.set_cons_zero]
  refine RF.go (by kernel_rfl) ?_
  refine bz0 rfl ?_
  try simp only [Act.put, List.setIfInBounds_toArray, List.set_cons_succ, List.set_cons_zero]
  refine RF.go (by kernel_rfl) ?_
  go_simp
  try simp only [Act.put, List.setIfInBounds_toArray, List.set_cons_succ, List.set_cons_zero]
  refine RF.go (by kernel_rfl) ?_
  have cv := Lib.run_convert_bytes_const (P := Try.prog) W6 25 5 #[.int .u8 97] 1 1 Try.underlying25 Try.underlying5
  go_simp
  clear cv
  have vw1 := text1 97 W6
  have mA := Sp.Vb_al m5 (.cells #[.int .u8 97] 5 (1, 2))
  have bA := b5.alloc (o := .cells #[.int .u8 97] 5 (1, 2)) b5.size
  generalize W6.alloc (.cells #[.int .u8 97] 5 (1, 2)) = WB at vw1 mA bA ⊢
  clear m5 b5
  try simp only [Act.put, List.setIfInBounds_toArray, List.set_cons_succ, List.set_cons_zero]
  refine RF.go (by kernel_rfl) ?_
  go_simp
  refine (KZ.out _ _ _ vw1).mono (fun e W7 he => ⟨_, he.1, ?_⟩)
  have m5 := Sp.Vb_below mA he.2
  have b5 := bA.trans (he.2.mono bA.size)
  clear he mA bA vw1
  try simp only [Act.put, List.setIfInBounds_toArray, List.set_cons_succ, List.set_cons_zero]
  refine RF.go (by kernel_rfl) ?_
  go_simp
  try simp only [Act.put, List.setIfInBounds_toArray, List.set_cons_succ, List.set_cons_zero]
  refine RF.go (by kernel_rfl) ?_
  go_simp
  try simp only [Act.put, List.setIfInBounds_toArray, List.set_cons_succ, List.set_cons_zero]
  refine RF.go (by kernel_rfl) ?_
  go_simp
  try simp only [Act.put, List.setIfInBounds_toArray, List.set_cons_succ, List.set_cons_zero]
  refine RF.go (by kernel_rfl) ?_
  refine bz0 rfl ?_
  try simp only [Act.put, List.setIfInBounds_toArray, List.set_cons_succ, List.set_cons_zero]
  refine RF.go (by kernel_rfl) ?_
  refine ld rfl rfl m5.c ?_
  try simp only [Act.put, List.setIfInBounds_toArray, List.set_cons_succ, List.set_cons_zero]
  refine RF.go (by kernel_rfl) ?_
  go_simp
  refine (KW.out _).mono (fun e W8 he => ⟨_, he.1, ?_⟩)
  replace b5 := b5.trans (he.2.mono b5.size)
  replace m5 := Sp.Vb_below m5 he.2
  clear he
  try simp only [Act.put, List.setIfInBounds_toArray, List.set_cons_succ, List.set_cons_zero]
  refine RF.go (by kernel_rfl) ?_
  go_simp
  try simp only [Act.put, List.setIfInBounds_toArray, List.set_cons_succ, List.set_cons_zero]
  refine RF.go (by kernel_rfl) ?_
  go_simp
  try simp only [Act.put, List.setIfInBounds_toArray, List.set_cons_succ, List.set_cons_zero]
  refine RF.go (by kernel_rfl) ?_
  refine ld rfl rfl m5.c ?_
  try simp only [Act.put, List.setIfInBounds_toArray, List.set_cons_succ, List.set_cons_zero]
  refine RF.go (by kernel_rfl) ?_
  refine bz0 rfl ?_
  try simp only [Act.put, List.setIfInBounds_toArray, List.set_cons_succ, List.set_cons_zero]
  refine RF.go (by kernel_rfl) ?_
  go_simp
  refine (KV.out _).mono (fun e W9 he => ⟨_, he.1, ?_⟩)
  replace b5 := b5.trans (he.2.mono b5.size)
  replace m5 := Sp.Vb_below m5 he.2
  clear he
  try simp only [Act.put, List.setIfInBounds_toArray, List.set_cons_succ, List.set_cons_zero]
  refine RF.go (by kernel_rfl) ?_
  go_simp
  try simp only [Act.put, List.setIfInBounds_toArray, List.set_cons_succ, List.set_cons_zero]
  refine RF.go (by kernel_rfl) ?_
  go_simp
  try simp only [Act.put, List.setIfInBounds_toArray, List.set_cons_succ, List.set_cons_zero]
  refine RF.go (by kernel_rfl) ?_
  go_simp
  try simp only [Act.put, List.setIfInBounds_toArray, List.set_cons_zero]
  refine wpList_nil ?_
  clear m5
  go_wp2_with fail
  go_ret
  exact ⟨rfl, b5⟩
end Bl
end Go.Proofs.Ytcgjkombefhjmaa
/- lampbearerkeep.BloomNever: nothing that is there is denied. -/
namespace Go.Proofs.Ytcgjkombefhjmaa
namespace Bl
open Go.RowKit Sp
theorem wi_of {ps : List (List UInt8)} {t : List UInt8} (h : t ∈ ps) : wi (tb t) (of ps) = true := (wi_iff _ _).2 fun n _ ht => by
  unfold of
  rw [List.any_eq_true]
  exact ⟨t, h, ht⟩
theorem wi_l {P Q R : Nat → Bool} (h : wi P Q = true) : wi P (jn Q R) = true := (wi_iff _ _).2 fun n hn hp => by
  unfold jn
  rw [(wi_iff _ _).1 h n hn hp]; rfl
theorem wi_r {P Q R : Nat → Bool} (h : wi P Q = true) : wi P (jn R Q) = true := (wi_iff _ _).2 fun n hn hp => by
  unfold jn
  rw [(wi_iff _ _).1 h n hn hp]; exact Bool.or_true _
set_option maxHeartbeats 2000000 in
set_option maxRecDepth 100000 in
theorem law_never (ps qs : List (List UInt8)) (v u : Value) (w : World) (hps : Hid (ps.flatten.length ≤ 1048576)) (hn : Hid (ps.length ≤ 1048576)) (hqs : Hid (qs.flatten.length ≤ 1048576)) (hm : Hid (qs.length ≤ 1048576)) (h : Ls ps v w) (h2 : Ls qs u w) :
    Calls Try.prog 4 #[v, u] w fun e w' => e = .returned (.bool true) ∧ Below w.heap.size w w' := by
  have HL : Hid (Ls ps v w) := h
  have KP : Hid (∀ wx, Below w.heap.size w wx → Calls Try.prog 7 #[v] wx fun e w' => e = .returned (Hv (FB (of ps))) ∧ Below wx.heap.size wx w') := fun wx hb => of_any ps v wx hps hn (Ls_below h hb)
  have KQ : Hid (∀ wx, Below w.heap.size w wx → Calls Try.prog 7 #[u] wx fun e w' => e = .returned (Hv (FB (of qs))) ∧ Below wx.heap.size wx w') := fun wx hb => of_any qs u wx hqs hm (Ls_below h2 hb)
  have KJ : Hid (∀ w : World, Calls Try.prog 9 #[Hv (FB (of ps)), Hv (FB (of qs))] w fun e w' => e = .returned (Hv (FB (jn (of ps) (of qs)))) ∧ Below w.heap.size w w') := fun w => join_any _ _ w
  have KK : Hid (∀ w : World, Calls Try.prog 9 #[Hv (FB (of qs)), Hv (FB (of ps))] w fun e w' => e = .returned (Hv (FB (jn (of qs) (of ps)))) ∧ Below w.heap.size w w') := fun w => join_any _ _ w
  have HW : Hid (∀ t, t ∈ ps → wi (tb t) (of ps) = true) := fun t ht => wi_of ht
  clear h2 hqs hm
  generalize of ps = P at KP KJ KK HW
  generalize of qs = Q at KQ KJ KK
  obtain ⟨ao, cap, rfl, hL⟩ := h
  clear hL
  obtain ⟨n, en⟩ : ∃ n, n = ps.length := ⟨_, rfl⟩
  rw [← en] at HL hn KP ⊢
  have EN : Hid (n = ps.length) := en
  clear en
  go_enter Try.func4, Try.ntmps4
  go_upto_region 1 with fail
  go_wp2_with fail
  refine (alive10_any _).mono ?_
  rintro e w0 ⟨rfl, b0⟩
  go_upto_region 3 with fail
  refine wp_region_lit ?_
  refine RF.go (by kernel_rfl) ?_
  go_simp
  try simp only [Act.put, List.setIfInBounds_toArray, List.set_cons_succ, List.set_cons_zero]
  refine RF.go (by kernel_rfl) ?_
  go_simp
  refine (KP.out _ b0).mono (fun e w1 he => ⟨_, he.1, ?_⟩)
  have b1 := b0.trans (he.2.mono b0.size)
  clear he b0
  try simp only [Act.put, List.setIfInBounds_toArray, List.set_cons_succ, List.set_cons_zero]
  refine RF.go (by kernel_rfl) ?_
  go_simp
  try simp only [Act.put, List.setIfInBounds_toArray, List.set_cons_succ, List.set_cons_zero]
  refine RF.go (by kernel_rfl) ?_
  go_simp
  refine (KQ.out _ b1).mono (fun e w3 he => ⟨_, he.1, ?_⟩)
  have b3 := b1.trans (he.2.mono b1.size)
  clear he b1
  try simp only [Act.put, List.setIfInBounds_toArray, List.set_cons_succ, List.set_cons_zero]
  refine RF.go (by kernel_rfl) ?_
  go_simp
  try simp only [Act.put, List.setIfInBounds_toArray, List.set_cons_succ, List.set_cons_zero]
  refine RF.go (by kernel_rfl) ?_
  go_simp
  try simp only [Act.put, List.setIfInBounds_toArray, List.set_cons_succ, List.set_cons_zero]
  refine RF.go (by kernel_rfl) ?_
  have n1 := Mem_zero (Mem_zero (w := w) (L := []) (w1 := w3) ⟨fun _ h => (nomatch h), b3⟩)
  rw [World.size_alloc] at n1
  have n2 : Mem w [(w3.heap.size, fun _ => false), (w3.heap.size + 1, fun _ => false)] ((w3.alloc (.cells #[.int .u8 0, .int .u8 0, .int .u8 0, .int .u8 0, .int .u8 0, .int .u8 0, .int .u8 0, .int .u8 0, .int .u8 0, .int .u8 0, .int .u8 0, .int .u8 0, .int .u8 0, .int .u8 0, .int .u8 0, .int .u8 0, .int .u8 0, .int .u8 0, .int .u8 0, .int .u8 0, .int .u8 0, .int .u8 0, .int .u8 0, .int .u8 0, .int .u8 0, .int .u8 0, .int .u8 0, .int .u8 0, .int .u8 0, .int .u8 0, .int .u8 0, .int .u8 0] 24)).alloc (.cells #[.int .u8 0, .int .u8 0, .int .u8 0, .int .u8 0, .int .u8 0, .int .u8 0, .int .u8 0, .int .u8 0, .int .u8 0, .int .u8 0, .int .u8 0, .int .u8 0, .int .u8 0, .int .u8 0, .int .u8 0, .int .u8 0, .int .u8 0, .int .u8 0, .int .u8 0, .int .u8 0, .int .u8 0, .int .u8 0, .int .u8 0, .int .u8 0, .int .u8 0, .int .u8 0, .int .u8 0, .int .u8 0, .int .u8 0, .int .u8 0, .int .u8 0, .int .u8 0] 24)) := Mem_sub n1 (fun x hx => by simp at hx ⊢; rcases hx with h | h <;> simp [h])
  generalize (w3.alloc (.cells #[.int .u8 0, .int .u8 0, .int .u8 0, .int .u8 0, .int .u8 0, .int .u8 0, .int .u8 0, .int .u8 0, .int .u8 0, .int .u8 0, .int .u8 0, .int .u8 0, .int .u8 0, .int .u8 0, .int .u8 0, .int .u8 0, .int .u8 0, .int .u8 0, .int .u8 0, .int .u8 0, .int .u8 0, .int .u8 0, .int .u8 0, .int .u8 0, .int .u8 0, .int .u8 0, .int .u8 0, .int .u8 0, .int .u8 0, .int .u8 0, .int .u8 0, .int .u8 0] 24)).alloc (.cells #[.int .u8 0, .int .u8 0, .int .u8 0, .int .u8 0, .int .u8 0, .int .u8 0, .int .u8 0, .int .u8 0, .int .u8 0, .int .u8 0, .int .u8 0, .int .u8 0, .int .u8 0, .int .u8 0, .int .u8 0, .int .u8 0, .int .u8 0, .int .u8 0, .int .u8 0, .int .u8 0, .int .u8 0, .int .u8 0, .int .u8 0, .int .u8 0, .int .u8 0, .int .u8 0, .int .u8 0, .int .u8 0, .int .u8 0, .int .u8 0, .int .u8 0, .int .u8 0] 24) = W4 at n2 ⊢
  clear n1 b3
  generalize w3.heap.size = g at n2 ⊢
  have n3 := n2.v (g, fun _ => false) (by simp)
  refine st rfl rfl rfl n3.c n3.f ?_
  have n4 := Mem_set (Q := P) n2 (by simp)
  clear n2 n3
  generalize W4.setCells g 0 (h32 (FB P)).toArray.toList = W4' at n4 ⊢
  try simp only [Act.put]
  refine RF.go (by kernel_rfl) ?_
  have n5 : Mem w [(g + 1, fun _ => false), (g, P)] W4' := Mem_sub n4 (fun x hx => by simp at hx ⊢; rcases hx with h | h <;> simp [h])
  have n6 := n5.v (g + 1, fun _ => false) (by simp)
  refine st rfl rfl rfl n6.c n6.f ?_
  have m5 := Mem_set (Q := Q) n5 (by simp)
  clear n4 n5 n6
  generalize W4'.setCells (g + 1) 0 (h32 (FB Q)).toArray.toList = W5 at m5 ⊢
  try simp only [Act.put]
  refine wpList_nil ?_
  go_upto_region 5 with fail
  go_loopw [17] (fun i wr => ∃ k : Nat, k ≤ n ∧ i = .int .i64 (k : Int) ∧ Mem w [(g + 1, Q), (g, P)] wr) (fun i _ => ((n : Int) - intOf i).toNat)
  case atStart => exact ⟨0, Nat.zero_le _, rfl, m5⟩
  case round =>
    clear m5
    obtain ⟨k, hk, rfl, m0⟩ := hrel
    by_cases hlt : k < n
    · have en := EN.out
      obtain ⟨ao2, cap2, e2, hL2⟩ := HL.out
      obtain ⟨gp, op, hao, hgp, hcell⟩ := hL2 (by omega)
      obtain ⟨vi, c1, hsl⟩ := hcell k (by omega)
      have hao2 : ao = some ⟨gp, op, none⟩ := by
        rw [← hao]
        injection e2
      subst hao2
      have c2 := (m0.b.cell (p := ⟨gp, op + k, none⟩) hgp).trans c1
      have hln := len_le (ps := ps) (k := k) (by omega)
      have hps2 := hps.out
      have hmem : ps.getD k [] ∈ ps := by
        rw [List.getD_eq_getElem?_getD, List.getElem?_eq_getElem (by omega)]
        exact List.getElem_mem _
      have ht := HW.out _ hmem
      obtain ⟨bo, bap, rfl, hbap, hvw⟩ := hsl
      generalize ps.getD k [] = t at hln c2 hvw c1 ht
      have K1 : Hid (∀ wx, Below w.heap.size w wx → Calls Try.prog 13 #[Hv (FB P), .slice bo t.length bap] wx fun e w' => e = .returned (.bool true) ∧ Below wx.heap.size wx w') := fun wx hb => by
        have := may_any P t bo bap wx (by omega) (Sp.Vw_below hvw hb)
        rwa [ht] at this
      have K2 : Hid (∀ wx, Below w.heap.size w wx → Calls Try.prog 13 #[Hv (FB (jn P Q)), .slice bo t.length bap] wx fun e w' => e = .returned (.bool true) ∧ Below wx.heap.size wx w') := fun wx hb => by
        have := may_any (jn P Q) t bo bap wx (by omega) (Sp.Vw_below hvw hb)
        rwa [wi_l ht] at this
      have K3 : Hid (∀ wx, Below w.heap.size w wx → Calls Try.prog 13 #[Hv (FB (jn Q P)), .slice bo t.length bap] wx fun e w' => e = .returned (.bool true) ∧ Below wx.heap.size wx w') := fun wx hb => by
        have := may_any (jn Q P) t bo bap wx (by omega) (Sp.Vw_below hvw hb)
        rwa [wi_r ht] at this
      have d0 : (k : Int) < (n : Int) := by omega
      have d1 : (0 : Int) ≤ (k : Int) := by omega
      clear hcell hL2 e2 hao hgp en c1 hln hps2 hbap hvw ht hmem
      go_upto_region 7 with fail
      clear c2 d1
      refine RS.wp_region_flat (Mem w [(g + 1, Q), (g, P)]) 20 (by kernel_rfl) (m0) ?_
      simp only [List.take_succ_cons, List.take_zero, List.drop_succ_cons, List.drop_zero]
      refine RS.go1 (v := ?_) (a' := ?_) rfl ?_ ?_ ?_
      rotate_left 2
      · intro K wx hS hK
        refine ld rfl rfl (hS.v (g, P) (by simp)).c ?_
        exact hK _ hS
      · simp only [Act.put, List.setIfInBounds_toArray, List.set_cons_succ, List.set_cons_zero]
        rfl
      refine RS.go1 (v := ?_) (a' := ?_) rfl ?_ ?_ ?_
      rotate_left 2
      · intro K wx hS hK
        go_simp
        exact hK _ hS
      · simp only [Act.put, List.setIfInBounds_toArray, List.set_cons_succ, List.set_cons_zero]
        rfl
      refine RS.go1 (v := ?_) (a' := ?_) rfl ?_ ?_ ?_
      rotate_left 2
      · intro K wx hS hK
        go_simp
        refine (K1.out wx hS.b).mono (fun e w2 he => ?_)
        refine ⟨_, he.1, ?_⟩
        exact hK _ (Mem_below hS he.2)
      · simp only [Act.put, List.setIfInBounds_toArray, List.set_cons_succ, List.set_cons_zero]
        rfl
      refine RS.go1 (v := ?_) (a' := ?_) rfl ?_ ?_ ?_
      rotate_left 2
      · intro K wx hS hK
        go_simp
        exact hK _ hS
      · simp only [Act.put, List.setIfInBounds_toArray, List.set_cons_succ, List.set_cons_zero]
        rfl
      refine RS.go1 (v := ?_) (a' := ?_) rfl ?_ ?_ ?_
      rotate_left 2
      · intro K wx hS hK
        go_simp
        exact hK _ hS
      · simp only [Act.put, List.setIfInBounds_toArray, List.set_cons_succ, List.set_cons_zero]
        rfl
      refine RS.go1g (v := ?_) (a' := ?_) (by kernel_rfl) ?_ ?_ ?_
      rotate_left 2
      · intro K wx hS hK
        refine ld rfl rfl (hS.v (g, P) (by simp)).c ?_
        exact hK _ hS
      · simp only [Act.put, List.setIfInBounds_toArray, List.set_cons_succ, List.set_cons_zero]
        rfl
      refine RS.go1g (v := ?_) (a' := ?_) (by kernel_rfl) ?_ ?_ ?_
      rotate_left 2
      · intro K wx hS hK
        refine ld rfl rfl (hS.v (g + 1, Q) (by simp)).c ?_
        exact hK _ hS
      · simp only [Act.put, List.setIfInBounds_toArray, List.set_cons_succ, List.set_cons_zero]
        rfl
      refine RS.go1g (v := ?_) (a' := ?_) (by kernel_rfl) ?_ ?_ ?_
      rotate_left 2
      · intro K wx hS hK
        go_simp
        refine (KJ.out wx).mono (fun e w2 he => ?_)
        refine ⟨_, he.1, ?_⟩
        exact hK _ (Mem_below hS he.2)
      · simp only [Act.put, List.setIfInBounds_toArray, List.set_cons_succ, List.set_cons_zero]
        rfl
      refine RS.go1g (v := ?_) (a' := ?_) (by kernel_rfl) ?_ ?_ ?_
      rotate_left 2
      · intro K wx hS hK
        go_simp
        exact hK _ hS
      · simp only [Act.put, List.setIfInBounds_toArray, List.set_cons_succ, List.set_cons_zero]
        rfl
      refine RS.go1g (v := ?_) (a' := ?_) (by kernel_rfl) ?_ ?_ ?_
      rotate_left 2
      · intro K wx hS hK
        go_simp
        refine (K2.out wx hS.b).mono (fun e w2 he => ?_)
        refine ⟨_, he.1, ?_⟩
        exact hK _ (Mem_below hS he.2)
      · simp only [Act.put, List.setIfInBounds_toArray, List.set_cons_succ, List.set_cons_zero]
        rfl
      refine RS.go1g (v := ?_) (a' := ?_) (by kernel_rfl) ?_ ?_ ?_
      rotate_left 2
      · intro K wx hS hK
        go_simp
        exact hK _ hS
      · simp only [Act.put, List.setIfInBounds_toArray, List.set_cons_succ, List.set_cons_zero]
        rfl
      refine RS.go1 (v := ?_) (a' := ?_) rfl ?_ ?_ ?_
      rotate_left 2
      · intro K wx hS hK
        go_simp
        exact hK _ hS
      · simp only [Act.put, List.setIfInBounds_toArray, List.set_cons_succ, List.set_cons_zero]
        rfl
      refine RS.go1 (v := ?_) (a' := ?_) rfl ?_ ?_ ?_
      rotate_left 2
      · intro K wx hS hK
        go_simp
        exact hK _ hS
      · simp only [Act.put, List.setIfInBounds_toArray, List.set_cons_succ, List.set_cons_zero]
        rfl
      refine RS.go1g (v := ?_) (a' := ?_) (by kernel_rfl) ?_ ?_ ?_
      rotate_left 2
      · intro K wx hS hK
        refine ld rfl rfl (hS.v (g + 1, Q) (by simp)).c ?_
        exact hK _ hS
      · simp only [Act.put, List.setIfInBounds_toArray, List.set_cons_succ, List.set_cons_zero]
        rfl
      refine RS.go1g (v := ?_) (a' := ?_) (by kernel_rfl) ?_ ?_ ?_
      rotate_left 2
      · intro K wx hS hK
        refine ld rfl rfl (hS.v (g, P) (by simp)).c ?_
        exact hK _ hS
      · simp only [Act.put, List.setIfInBounds_toArray, List.set_cons_succ, List.set_cons_zero]
        rfl
      refine RS.go1g (v := ?_) (a' := ?_) (by kernel_rfl) ?_ ?_ ?_
      rotate_left 2
      · intro K wx hS hK
        go_simp
        refine (KK.out wx).mono (fun e w2 he => ?_)
        refine ⟨_, he.1, ?_⟩
        exact hK _ (Mem_below hS he.2)
      · simp only [Act.put, List.setIfInBounds_toArray, List.set_cons_succ, List.set_cons_zero]
        rfl
      refine RS.go1g (v := ?_) (a' := ?_) (by kernel_rfl) ?_ ?_ ?_
      rotate_left 2
      · intro K wx hS hK
        go_simp
        exact hK _ hS
      · simp only [Act.put, List.setIfInBounds_toArray, List.set_cons_succ, List.set_cons_zero]
        rfl
      refine RS.go1g (v := ?_) (a' := ?_) (by kernel_rfl) ?_ ?_ ?_
      rotate_left 2
      · intro K wx hS hK
        go_simp
        refine (K3.out wx hS.b).mono (fun e w2 he => ?_)
        refine ⟨_, he.1, ?_⟩
        exact hK _ (Mem_below hS he.2)
      · simp only [Act.put, List.setIfInBounds_toArray, List.set_cons_succ, List.set_cons_zero]
        rfl
      refine RS.go1g (v := ?_) (a' := ?_) (by kernel_rfl) ?_ ?_ ?_
      rotate_left 2
      · intro K wx hS hK
        go_simp
        exact hK _ hS
      · simp only [Act.put, List.setIfInBounds_toArray, List.set_cons_succ, List.set_cons_zero]
        rfl
      refine RS.go1 (v := ?_) (a' := ?_) rfl ?_ ?_ ?_
      rotate_left 2
      · intro K wx hS hK
        go_simp
        exact hK _ hS
      · simp only [Act.put, List.setIfInBounds_toArray, List.set_cons_succ, List.set_cons_zero]
        rfl
      refine RS.go_end ?_
      intro w9 m9
      clear m0 K1 K2 K3
      have hw := Pk.step_w9 k n hlt hn
      have HM : Hid (Mem w [(g + 1, Q), (g, P)] w9) := m9
      clear m9
      go_wp2_with fail
      go_roundw
      case rel => exact ⟨k + 1, hlt, Pk.step_v k _ hw.out, HM.out⟩
      case measure => exact Pk.msr k n hlt _ hw.out
    · have hkn : k = n := by omega
      subst hkn
      have b9 := m0.b
      have d0 : ¬ ((k : Int) < (k : Int)) := by omega
      clear m0
      go_wp2_with fail
      go_ret
      exact ⟨rfl, b9⟩
end Bl
end Go.Proofs.Ytcgjkombefhjmaa
/- slices.Grow of nothing, and slices.Concat: of bytes, and of texts. -/
namespace Go.Proofs.Ytcgjkombefhjmaa
namespace Sp
open Go.RowKit
/-- A slice whose cells are xs. -/
def Vl (xs : List Value) (v : Value) (w : World) : Prop := ∃ (ao : Option Addr) (cap : Nat), v = .slice ao xs.length cap ∧ (0 < xs.length → ∃ g off, ao = some ⟨g, off, none⟩ ∧ g < w.heap.size ∧ ∀ j, j < xs.length → w.cell? ⟨g, off + j, none⟩ = xs[j]?)
theorem Vl_below {xs : List Value} {v : Value} {w w' : World} (h : Vl xs v w) (hb : Below w.heap.size w w') : Vl xs v w' := by
  obtain ⟨ao, cap, h1, h3⟩ := h
  refine ⟨ao, cap, h1, fun h0 => ?_⟩
  obtain ⟨g, off, h4, h5, h6⟩ := h3 h0
  exact ⟨g, off, h4, Nat.lt_of_lt_of_le h5 hb.size, fun j hj => (hb.cell (p := ⟨g, off + j, none⟩) h5).trans (h6 j hj)⟩
/-- A slice of such slices. -/
def Vls (xss : List (List Value)) (v : Value) (w : World) : Prop := ∃ (ao : Option Addr) (cap : Nat), v = .slice ao xss.length cap ∧ (0 < xss.length → ∃ g off, ao = some ⟨g, off, none⟩ ∧ g < w.heap.size ∧ ∀ i, i < xss.length → ∃ vi, w.cell? ⟨g, off + i, none⟩ = some vi ∧ Vl (xss.getD i []) vi w)
theorem Vls_below {xss : List (List Value)} {v : Value} {w w' : World} (h : Vls xss v w) (hb : Below w.heap.size w w') : Vls xss v w' := by
  obtain ⟨ao, cap, h1, h2⟩ := h
  refine ⟨ao, cap, h1, fun h0 => ?_⟩
  obtain ⟨g, off, h3, h4, h5⟩ := h2 h0
  refine ⟨g, off, h3, Nat.lt_of_lt_of_le h4 hb.size, fun i hi => ?_⟩
  obtain ⟨vi, h6, h7⟩ := h5 i hi
  exact ⟨vi, (hb.cell (p := ⟨g, off + i, none⟩) h4).trans h6, Vl_below h7 hb⟩
def prv (xss : List (List Value)) (k : Nat) : List Value := (xss.take k).flatten
theorem prv_succ (xss : List (List Value)) (k : Nat) (h : k < xss.length) : prv xss (k + 1) = prv xss k ++ xss.getD k [] := by
  unfold prv
  rw [List.take_succ_eq_append_getElem h, List.flatten_append]
  simp [h]
theorem prv_le (xss : List (List Value)) (k : Nat) : (prv xss k).length ≤ xss.flatten.length := by
  unfold prv
  conv => rhs; rw [← List.take_append_drop k xss, List.flatten_append, List.length_append]
  omega
theorem wpList_app2 {P : Program} {ops : Array Oper} {rest : List Oper} {o : Oper} {a : Act} {Q : Exit → Act → World → Prop} {s x : Operand} {t u : TypeId} {v v2 v' : Value} {w w' : World} (hgd : o.guard = none) (ho : o.op = .call { callee := .builtin .append, args := #[s, x], argTypes := #[t, u] }) (hs : a.eval s = v) (hx : a.eval x = v2)
    (hr : (Builtin.append_ #[t, u] o.type #[v, v2]).run P w = .ok v' w') (h : wpList P ops Q rest (a.put o.dst v') w') : wpList P ops Q (o :: rest) a w := by
  refine wpList_plain hgd fun _ hK => ?_
  unfold Oper.wp execOp
  simp only [ho, resolve, invoke, builtin, Sem.run_bind, Sem.run_pure, Result.andThen_ok, List.map_toArray, List.map_cons, List.map_nil, hs, hx, hr]
  exact hK _ _ h
theorem info_b : (Try.prog.info? 5).map (fun i => (i.zero, i.size, i.bytes)) = some (some (.int .u8 0), 1, 1) := by kernel_rfl
theorem appv_b {base : Nat} {xs ys : List Value} {v vb : Value} {w : World} (ty : TypeId) (h : w.ownsRow base 5 1 v xs.length xs) (hb : Vl ys vb w) (h1 : ∀ u ∈ ys, u.oneCell' = true) (hbase : base ≤ w.heap.size) (hlen : xs.length + ys.length ≤ 4194304) :
    ∃ v' w', (Builtin.append_ #[25, 25] ty #[v, vb]).run Try.prog w = .ok v' w' ∧ w'.ownsRow base 5 1 v' (xs ++ ys).length (xs ++ ys) ∧ Below base w w' := by
  obtain ⟨i0, hi, hz0, hz1, hz2⟩ := info_parts info_b
  obtain ⟨ao, cap, rfl, vw⟩ := hb
  by_cases h0 : 0 < ys.length
  · obtain ⟨g, off, rfl, hg, hc⟩ := vw h0
    obtain ⟨v', w', hr, ho, hgr, _⟩ := run_append_own (P := Try.prog) w base 25 ty 5 i0 (.int .u8 0) 1 1 Try.underlying25 hi hz0 hz1 hz2 rfl (by decide) v xs.length xs h ⟨g, off, none⟩ ys.length cap ys (by rw [Nat.mul_one])
      (fun j u hj => by
        have hj' : j < ys.length := (List.getElem?_eq_some_iff.1 hj).1
        rw [add_lit, hc j hj', hj]) h1 (by unfold maxLen; omega) (by omega) hbase
    refine ⟨v', w', hr, by rw [List.length_append]; exact ho, (Below.refl _ _).grown hgr hbase (fun k hk => (own_lo h k hk).1)⟩
  · have e : ys = [] := List.length_eq_zero_iff.1 (by omega)
    subst e
    rw [List.append_nil]
    refine ⟨v, w, ?_, h, Below.refl _ _⟩
    have hs : Src Try.prog i0.size 25 (.slice ao 0 cap) 0 [] w := by
      cases ao with
      | none => exact Src.ofNil w Try.underlying25 cap
      | some ad => exact Src.ofSlice w Try.underlying25 ad 0 cap [] (by simp) (fun j u hj => by simp at hj) (fun u hu => by cases hu)
    rcases h.2 with ⟨h3, h4⟩ | ⟨g', cap', cur, h3, h5⟩
    · subst h3
      exact run_append_nothing w 25 25 ty 5 i0 Try.underlying25 hi none 0 0 (Nat.le_refl _) _ hs
    · subst h3
      exact run_append_nothing w 25 25 ty 5 i0 Try.underlying25 hi _ _ _ h5.2.2.1 _ hs
theorem info_r : (Try.prog.info? 25).map (fun i => (i.zero, i.size, i.bytes)) = some (some (.slice none 0 0), 1, 24) := by kernel_rfl
theorem appv_r {base : Nat} {xs ys : List Value} {v vb : Value} {w : World} (ty : TypeId) (h : w.ownsRow base 25 1 v xs.length xs) (hb : Vl ys vb w) (h1 : ∀ u ∈ ys, u.oneCell' = true) (hbase : base ≤ w.heap.size) (hlen : xs.length + ys.length ≤ 4194304) :
    ∃ v' w', (Builtin.append_ #[22, 22] ty #[v, vb]).run Try.prog w = .ok v' w' ∧ w'.ownsRow base 25 1 v' (xs ++ ys).length (xs ++ ys) ∧ Below base w w' := by
  obtain ⟨i0, hi, hz0, hz1, hz2⟩ := info_parts info_r
  obtain ⟨ao, cap, rfl, vw⟩ := hb
  by_cases h0 : 0 < ys.length
  · obtain ⟨g, off, rfl, hg, hc⟩ := vw h0
    obtain ⟨v', w', hr, ho, hgr, _⟩ := run_append_own (P := Try.prog) w base 22 ty 25 i0 (.slice none 0 0) 1 24 Try.underlying22 hi hz0 hz1 hz2 rfl (by decide) v xs.length xs h ⟨g, off, none⟩ ys.length cap ys (by rw [Nat.mul_one])
      (fun j u hj => by
        have hj' : j < ys.length := (List.getElem?_eq_some_iff.1 hj).1
        rw [add_lit, hc j hj', hj]) h1 (by unfold maxLen; omega) (by omega) hbase
    refine ⟨v', w', hr, by rw [List.length_append]; exact ho, (Below.refl _ _).grown hgr hbase (fun k hk => (own_lo h k hk).1)⟩
  · have e : ys = [] := List.length_eq_zero_iff.1 (by omega)
    subst e
    rw [List.append_nil]
    refine ⟨v, w, ?_, h, Below.refl _ _⟩
    have hs : Src Try.prog i0.size 22 (.slice ao 0 cap) 0 [] w := by
      cases ao with
      | none => exact Src.ofNil w Try.underlying22 cap
      | some ad => exact Src.ofSlice w Try.underlying22 ad 0 cap [] (by simp) (fun j u hj => by simp at hj) (fun u hu => by cases hu)
    rcases h.2 with ⟨h3, h4⟩ | ⟨g', cap', cur, h3, h5⟩
    · subst h3
      exact run_append_nothing w 22 22 ty 25 i0 Try.underlying22 hi none 0 0 (Nat.le_refl _) _ hs
    · subst h3
      exact run_append_nothing w 22 22 ty 25 i0 Try.underlying22 hi _ _ _ h5.2.2.1 _ hs
set_option maxHeartbeats 400000 in
set_option maxRecDepth 100000 in
theorem grow_r (n : Nat) (hn : Hid (n ≤ 4194304)) (w : World) :
    Calls Try.prog 20 #[.slice none 0 0, .int .i64 (n : Int)] w fun e w' => ∃ v, e = .returned v ∧ w'.ownsRow w.heap.size 25 1 v 0 [] ∧ Below w.heap.size w w' := by
  have hww : wrap64 (n : Int) = n := by have := hn.out; unfold wrap64; omega
  have hn0 : decide ((n : Int) < 0) = false := decide_eq_false (by omega)
  by_cases h0 : n = 0
  · subst h0
    go_enter Try.func20, Try.ntmps20
    go_wp2
    go_ret
    exact ⟨_, rfl, World.ownsRow_nil _ _ _ _, Below.refl _ _⟩
  · obtain ⟨i0, hi, hz0, hz1, hz2⟩ := info_parts info_r
    have hap := Lib.run_append_nil_zeros (P := Try.prog) w 22 3 22 25 i0 (.slice none 0 0) .i64 .i64 Try.underlying22 Try.underlying3 hi hz0 n (by omega) (by omega) (by have := hn.out; omega) (by have := hn.out; rw [hz2]; omega)
    have hge := grownCap_ge w n 0 25
    have hle := grownCap_le_maxLen w n 0 25 (by have := hn.out; unfold maxLen; omega)
    generalize grownCap w n 0 25 = C at hap hge hle
    have hsz : (Builtin.zeroCells (.slice none 0 0 : Value).cells n ++ Builtin.zeroCells (.slice none 0 0 : Value).cells (C - n)).size = C := by
      have hz : (.slice none 0 0 : Value).cells.size = 1 := rfl
      simp only [Array.size_append, size_zeroCells, hz, Nat.mul_one]
      omega
    have HO : Hid ((w.drew.alloc (.cells (Builtin.zeroCells (.slice none 0 0 : Value).cells n ++ Builtin.zeroCells (.slice none 0 0 : Value).cells (C - n)) 25)).ownsRow w.heap.size 25 1 (.slice (some ⟨w.heap.size, 0, none⟩) 0 C) 0 []) := ⟨rfl, .inr ⟨w.heap.size, C, _, rfl, Nat.le_refl _, heap_alloc_new w.drew _, Nat.zero_le _, hle, by rw [hsz, Nat.mul_one], by rw [Nat.zero_mul]; rfl⟩⟩
    have HB : Hid (Below w.heap.size w (w.drew.alloc (.cells (Builtin.zeroCells (.slice none 0 0 : Value).cells n ++ Builtin.zeroCells (.slice none 0 0 : Value).cells (C - n)) 25))) := (Below.refl _ _).drew.alloc (Nat.le_refl _) _
    generalize w.drew.alloc (.cells (Builtin.zeroCells (.slice none 0 0 : Value).cells n ++ Builtin.zeroCells (.slice none 0 0 : Value).cells (C - n)) 25) = W1 at hap HO HB
    have p0 : (0 : Int) < (n : Int) := by omega
    have p1 : (n : Int) ≤ (C : Int) := by omega
    clear hsz hi hz0 hz1 hz2 hle
    go_enter Try.func20, Try.ntmps20
    go_upto_region 5 with fail
    simp only [hww]
    go_wp2_with (at_builtin; refine wpList_app2 rfl rfl rfl rfl hap ?_)
    go_ret
    exact ⟨_, rfl, HO.out, HB.out⟩
set_option maxHeartbeats 2000000 in
set_option maxRecDepth 100000 in
theorem concat_r (xss : List (List Value)) (v : Value) (w : World) (hx : Hid (xss.flatten.length ≤ 1048576)) (hn : Hid (xss.length ≤ 1048576)) (h1 : Hid (∀ xs ∈ xss, ∀ u ∈ xs, u.oneCell' = true)) (h : Vls xss v w) :
    Calls Try.prog 16 #[v] w fun e w' => ∃ v', e = .returned v' ∧ w'.ownsRow w.heap.size 25 1 v' xss.flatten.length xss.flatten ∧ Below w.heap.size w w' := by
  have HL : Hid (Vls xss v w) := h
  obtain ⟨ao, cap, rfl, hL⟩ := h
  clear hL
  obtain ⟨n, en⟩ : ∃ n, n = xss.length := ⟨_, rfl⟩
  rw [← en] at HL hn ⊢
  have EN : Hid (n = xss.length) := en
  clear en
  have HE : Hid (prv xss n = xss.flatten) := by
    show _ = _
    unfold prv
    rw [EN.out, List.take_length]
  have KG : Hid (∀ w : World, Calls Try.prog 20 #[.slice none 0 0, .int .i64 ((prv xss n).length : Int)] w fun e w' => ∃ v, e = .returned v ∧ w'.ownsRow w.heap.size 25 1 v 0 [] ∧ Below w.heap.size w w') := fun w => grow_r _ (by have := prv_le xss n; have := hx.out; show _ ≤ _; omega) w
  go_enter Try.func16, Try.ntmps16
  go_wp2_with fail
  go_loopw [3, 11] (fun sz i wr => ∃ k : Nat, k ≤ n ∧ i = .int .i64 (k : Int) ∧ sz = .int .i64 ((prv xss k).length : Int) ∧ w = wr) (fun _ i _ => ((n : Int) - intOf i).toNat)
  case atStart => exact ⟨0, Nat.zero_le _, rfl, rfl, rfl⟩
  case round =>
    obtain ⟨k, hk, rfl, rfl, rfl⟩ := hrel
    by_cases hlt : k < n
    · have en := EN.out
      obtain ⟨ao2, cap2, e2, hL2⟩ := HL.out
      obtain ⟨gp, op, hao, hgp, hcell⟩ := hL2 (by omega)
      obtain ⟨vi, c1, hvl⟩ := hcell k (by omega)
      have hao2 : ao = some ⟨gp, op, none⟩ := by
        rw [← hao]
        injection e2
      subst hao2
      obtain ⟨ai, ci, rfl, _⟩ := hvl
      have hsum : (prv xss (k + 1)).length = (prv xss k).length + (xss.getD k []).length := by rw [prv_succ xss k (by omega), List.length_append]
      have hpl := prv_le xss (k + 1)
      have hx2 := hx.out
      have hw1 : Hid (wrap64 (((prv xss k).length : Int) + ((xss.getD k []).length : Int)) = ((prv xss (k + 1)).length : Int)) := by show _ = _; unfold wrap64; omega
      have hw := Pk.step_w9 k n hlt hn
      have d0 : (k : Int) < (n : Int) := by omega
      have d1 : (0 : Int) ≤ (k : Int) := by omega
      have d2 : decide (((prv xss (k + 1)).length : Int) < 0) = false := decide_eq_false (by omega)
      clear hsum hpl hx2 hcell hL2 e2 hao en hgp
      generalize (xss.getD k []).length = li at *
      obtain ⟨s2, e3⟩ : ∃ s2, s2 = (prv xss (k + 1)).length := ⟨_, rfl⟩
      rw [← e3] at hw1 d2
      have HS2 : Hid (s2 = (prv xss (k + 1)).length) := e3
      clear e3
      generalize (prv xss k).length = s1 at *
      have hw2 := hw1.out
      go_wp2_with fail
      go_roundw
      case rel => first | exact ⟨k + 1, hlt, Pk.step_v k _ hw.out, (by rw [← HS2.out]; first | rfl | rw [hw1.out]), trivial⟩ | exact ⟨k + 1, hlt, Pk.step_v k _ hw.out, (by rw [← HS2.out]; first | rfl | rw [hw1.out]), rfl⟩ | ((repeat apply Exists.intro); exact ⟨⟨k + 1, hlt, Pk.step_v k _ hw.out, (by rw [← HS2.out]; first | rfl | rw [hw1.out]), rfl⟩, rfl⟩)
      case measure => exact Pk.msr k n hlt _ hw.out
    · have ek : k = n := by omega
      subst ek
      have d0 : decide ((k : Int) < (k : Int)) = false := decide_eq_false (by omega)
      go_wp2_with fail
      refine (KG.out _).mono (fun e w2 he => ?_)
      obtain ⟨v2, rfl, o2, b2⟩ := he
      clear d0 KG
      go_wp2_with fail
      go_loopw [6, 27] (fun vn i wr => ∃ j : Nat, j ≤ k ∧ i = .int .i64 (j : Int) ∧ wr.ownsRow w.heap.size 25 1 vn (prv xss j).length (prv xss j) ∧ Below w.heap.size w wr) (fun _ i _ => ((k : Int) - intOf i).toNat)
      case atStart => exact ⟨0, Nat.zero_le _, rfl, o2, b2⟩
      case round =>
        clear o2 b2
        obtain ⟨j, hj, rfl, oj, bj⟩ := hrel
        by_cases hlt2 : j < k
        · have en := EN.out
          obtain ⟨ao2, cap2, e2, hL2⟩ := Vls_below HL.out bj
          obtain ⟨gp, op, hao, hgp, hcell⟩ := hL2 (by omega)
          obtain ⟨vi, c1, hvl⟩ := hcell j (by omega)
          have hao2 : ao = some ⟨gp, op, none⟩ := by
            rw [← hao]
            injection e2
          subst hao2
          have hs1 := prv_succ xss j (by omega)
          have hpl := prv_le xss (j + 1)
          rw [hs1, List.length_append] at hpl
          obtain ⟨v3, w3, hap, o3, b3⟩ := appv_r 22 oj hvl (fun u hu => h1.out (xss.getD j []) (by
            rw [List.getD_eq_getElem?_getD, List.getElem?_eq_getElem (by omega)]
            exact List.getElem_mem _) u hu) bj.size (by have := hx.out; omega)
          rw [← hs1] at o3
          have HO : Hid (w3.ownsRow w.heap.size 25 1 v3 (prv xss (j + 1)).length (prv xss (j + 1))) := o3
          have HB : Hid (Below w.heap.size w w3) := bj.trans b3
          have hw := Pk.step_w9 j k hlt2 hn
          have d0 : (j : Int) < (k : Int) := by omega
          have d1 : (0 : Int) ≤ (j : Int) := by omega
          clear hs1 hpl hcell hL2 e2 hao en hgp hvl o3 b3 oj bj
          go_wp2_with (at_builtin; refine wpList_app rfl rfl rfl rfl hap ?_)
          go_roundw
          case rel => exact ⟨j + 1, hlt2, Pk.step_v j _ hw.out, HO.out, HB.out⟩
          case measure => exact Pk.msr j k hlt2 _ hw.out
        · have ej : j = k := by omega
          subst ej
          have HO : Hid (wr.ownsRow w.heap.size 25 1 u6 (prv xss j).length (prv xss j)) := oj
          have HB : Hid (Below w.heap.size w wr) := bj
          have d0 : decide ((j : Int) < (j : Int)) = false := decide_eq_false (by omega)
          clear oj bj
          go_wp2
          go_ret
          exact ⟨_, rfl, by have := HO.out; rw [HE.out] at this; exact this, HB.out⟩
end Sp
end Go.Proofs.Ytcgjkombefhjmaa
/- slices.Clone of texts; texts by their heads. -/
namespace Go.Proofs.Ytcgjkombefhjmaa
namespace Sp
open Go.RowKit
/-- Heads of slices that read as ps. -/
structure Hds (ps : List (List UInt8)) (hs : List Value) (w : World) : Prop where
  l : hs.length = ps.length
  s : ∀ i, i < ps.length → Pk.Sl (ps.getD i []) (hs.getD i undef) w
theorem Hds_below {ps : List (List UInt8)} {hs : List Value} {w w' : World} (h : Hds ps hs w) (hb : Below w.heap.size w w') : Hds ps hs w' := ⟨h.l, fun i hi => Pk.Sl_below (h.s i hi) hb⟩
theorem Hds_app {ps qs : List (List UInt8)} {hs ks : List Value} {w : World} (h : Hds ps hs w) (k : Hds qs ks w) : Hds (ps ++ qs) (hs ++ ks) w := by
  refine ⟨by rw [List.length_append, List.length_append, h.l, k.l], fun i hi => ?_⟩
  rw [List.length_append] at hi
  simp only [List.getD_eq_getElem?_getD]
  by_cases e : i < ps.length
  · rw [List.getElem?_append_left e, List.getElem?_append_left (by rw [h.l]; exact e)]
    have := h.s i e
    simpa only [List.getD_eq_getElem?_getD] using this
  · rw [List.getElem?_append_right (by omega), List.getElem?_append_right (by rw [h.l]; omega), h.l]
    have := k.s (i - ps.length) (by omega)
    simpa only [List.getD_eq_getElem?_getD] using this
theorem Hds_one {p : List UInt8} {v : Value} {w : World} (h : Pk.Sl p v w) : Hds [p] [v] w := ⟨rfl, fun i hi => by
  have e : i = 0 := by simp at hi; omega
  subst e
  exact h⟩
theorem Hds_one' {ps : List (List UInt8)} {hs : List Value} {w : World} (h : Hds ps hs w) : ∀ u ∈ hs, u.oneCell' = true := fun u hu => by
  obtain ⟨i, hi, rfl⟩ := List.getElem_of_mem hu
  have hs1 := h.s i (by rw [← h.l]; exact hi)
  obtain ⟨ao, cap, e, _⟩ := hs1
  have e2 : hs.getD i undef = hs[i] := by simp [hi]
  rw [e2] at e
  rw [e]
  rfl
theorem ls_heads {ps : List (List UInt8)} {v : Value} {w : World} (h : Ls ps v w) : ∃ hs, Hds ps hs w ∧ Vl hs v w := by
  obtain ⟨ao, cap, rfl, hL⟩ := h
  by_cases h0 : 0 < ps.length
  · obtain ⟨g, off, rfl, hg, hc⟩ := hL h0
    have hx : ∀ i, ∃ vi, i < ps.length → w.cell? ⟨g, off + i, none⟩ = some vi ∧ Pk.Sl (ps.getD i []) vi w := fun i => by
      by_cases hi : i < ps.length
      · obtain ⟨vi, h1, h2⟩ := hc i hi
        exact ⟨vi, fun _ => ⟨h1, h2⟩⟩
      · exact ⟨undef, fun h => absurd h hi⟩
    obtain ⟨V, hV⟩ := Classical.axiomOfChoice hx
    have hl : ((List.range ps.length).map V).length = ps.length := by simp
    refine ⟨(List.range ps.length).map V, ⟨hl, fun i hi => ?_⟩, ⟨some ⟨g, off, none⟩, cap, by rw [hl], fun _ => ⟨g, off, rfl, hg, fun j hj => ?_⟩⟩⟩
    · have e : ((List.range ps.length).map V).getD i undef = V i := by simp [hi]
      rw [e]
      exact (hV i hi).2
    · rw [hl] at hj
      rw [(hV j hj).1]
      simp [hj]
  · have e : ps = [] := List.length_eq_zero_iff.1 (by omega)
    subst e
    exact ⟨[], ⟨rfl, fun i hi => absurd hi (by simp)⟩, ⟨ao, cap, rfl, fun h => absurd h (by simp)⟩⟩
theorem own_ls {B : Nat} {ps : List (List UInt8)} {hs : List Value} {v : Value} {w : World} (h : w.ownsRow B 25 1 v hs.length hs) (hh : Hds ps hs w) : Ls ps v w := by
  rcases h.2 with ⟨h2, h3⟩ | ⟨g, cap, cur, h2, h3, h4, h5⟩
  · have e : ps = [] := List.length_eq_zero_iff.1 (by rw [← hh.l]; exact h3)
    subst e
    exact ⟨none, 0, h2, fun h => absurd h (by simp)⟩
  · subst h2
    refine ⟨some ⟨g, 0, none⟩, cap, by rw [hh.l], fun _ => ⟨g, 0, rfl, Pk.lt_of_heap h4, fun i hi => ⟨hs.getD i undef, ?_, hh.s i hi⟩⟩⟩
    have hi2 : i < hs.length := by rw [hh.l]; exact hi
    rw [Nat.zero_add, h.cellAt i (by omega)]
    simp [hi2]
theorem own_vl {B e : Nat} {xs : List Value} {v : Value} {w : World} (h : w.ownsRow B e 1 v xs.length xs) : Vl xs v w := by
  rcases h.2 with ⟨h2, h3⟩ | ⟨g, cap, cur, h2, h3, h4, h5⟩
  · have e : xs = [] := List.length_eq_zero_iff.1 h3
    subst e
    exact ⟨none, 0, h2, fun h => absurd h (by simp)⟩
  · subst h2
    exact ⟨some ⟨g, 0, none⟩, cap, rfl, fun _ => ⟨g, 0, rfl, Pk.lt_of_heap h4, fun j hj => by rw [Nat.zero_add, h.cellAt j (by omega)]⟩⟩
theorem sl_vl {l : List UInt8} {v : Value} {w : World} (h : Pk.Sl l v w) : Vl (Pk.bcs l) v w := by
  obtain ⟨ao, cap, rfl, _, vw⟩ := h
  refine ⟨ao, cap, by rw [Pk.bcs_len], fun h0 => ?_⟩
  rw [Pk.bcs_len] at h0
  obtain ⟨g, off, h1, h2, h3⟩ := vw h0
  exact ⟨g, off, h1, h2, fun j hj => by rw [Pk.bcs_len] at hj; rw [h3 j hj, bcs_get l j hj]⟩
theorem ls_vls {ps : List (List UInt8)} {v : Value} {w : World} (h : Ls ps v w) : Vls (ps.map Pk.bcs) v w := by
  obtain ⟨ao, cap, rfl, hL⟩ := h
  have hl : (ps.map Pk.bcs).length = ps.length := List.length_map ..
  refine ⟨ao, cap, by rw [hl], fun h0 => ?_⟩
  rw [hl] at h0
  obtain ⟨g, off, h1, h2, h3⟩ := hL h0
  refine ⟨g, off, h1, h2, fun i hi => ?_⟩
  rw [hl] at hi
  obtain ⟨vi, c1, hs⟩ := h3 i hi
  refine ⟨vi, c1, ?_⟩
  have e : (ps.map Pk.bcs).getD i [] = Pk.bcs (ps.getD i []) := by simp [hi]
  rw [e]
  exact sl_vl hs
theorem flat_bcs (ps : List (List UInt8)) : (ps.map Pk.bcs).flatten = Pk.bcs ps.flatten := by
  induction ps with
  | nil => rfl
  | cons p r ih => rw [List.map_cons, List.flatten_cons, List.flatten_cons, Pk.bcs_app, ih]
theorem own_nil_r {base : Nat} {w : World} (h : base ≤ w.heap.size) : (w.alloc (.cells #[] 25)).ownsRow base 25 1 (.slice (some ⟨w.heap.size, 0, none⟩) 0 0) ([] : List Value).length [] :=
  World.ownsRow_lit w #[] 0 h (Nat.zero_le _) rfl
end Sp
end Go.Proofs.Ytcgjkombefhjmaa
/- slices.Concat of texts, of greater rows. -/
namespace Go.Proofs.Ytcgjkombefhjmaa
namespace Sp
open Go.RowKit
set_option maxHeartbeats 2000000 in
set_option maxRecDepth 100000 in
theorem concat_rb (xss : List (List Value)) (v : Value) (w : World) (hx : Hid (xss.flatten.length ≤ 4194304)) (hn : Hid (xss.length ≤ 1048576)) (h1 : Hid (∀ xs ∈ xss, ∀ u ∈ xs, u.oneCell' = true)) (h : Vls xss v w) :
    Calls Try.prog 16 #[v] w fun e w' => ∃ v', e = .returned v' ∧ w'.ownsRow w.heap.size 25 1 v' xss.flatten.length xss.flatten ∧ Below w.heap.size w w' := by
  have HL : Hid (Vls xss v w) := h
  obtain ⟨ao, cap, rfl, hL⟩ := h
  clear hL
  obtain ⟨n, en⟩ : ∃ n, n = xss.length := ⟨_, rfl⟩
  rw [← en] at HL hn ⊢
  have EN : Hid (n = xss.length) := en
  clear en
  have HE : Hid (prv xss n = xss.flatten) := by
    show _ = _
    unfold prv
    rw [EN.out, List.take_length]
  have KG : Hid (∀ w : World, Calls Try.prog 20 #[.slice none 0 0, .int .i64 ((prv xss n).length : Int)] w fun e w' => ∃ v, e = .returned v ∧ w'.ownsRow w.heap.size 25 1 v 0 [] ∧ Below w.heap.size w w') := fun w => grow_r _ (by have := prv_le xss n; have := hx.out; show _ ≤ _; omega) w
  go_enter Try.func16, Try.ntmps16
  go_wp2_with fail
  go_loopw [3, 11] (fun sz i wr => ∃ k : Nat, k ≤ n ∧ i = .int .i64 (k : Int) ∧ sz = .int .i64 ((prv xss k).length : Int) ∧ w = wr) (fun _ i _ => ((n : Int) - intOf i).toNat)
  case atStart => exact ⟨0, Nat.zero_le _, rfl, rfl, rfl⟩
  case round =>
    obtain ⟨k, hk, rfl, rfl, rfl⟩ := hrel
    by_cases hlt : k < n
    · have en := EN.out
      obtain ⟨ao2, cap2, e2, hL2⟩ := HL.out
      obtain ⟨gp, op, hao, hgp, hcell⟩ := hL2 (by omega)
      obtain ⟨vi, c1, hvl⟩ := hcell k (by omega)
      have hao2 : ao = some ⟨gp, op, none⟩ := by
        rw [← hao]
        injection e2
      subst hao2
      obtain ⟨ai, ci, rfl, _⟩ := hvl
      have hsum : (prv xss (k + 1)).length = (prv xss k).length + (xss.getD k []).length := by rw [prv_succ xss k (by omega), List.length_append]
      have hpl := prv_le xss (k + 1)
      have hx2 := hx.out
      have hw1 : Hid (wrap64 (((prv xss k).length : Int) + ((xss.getD k []).length : Int)) = ((prv xss (k + 1)).length : Int)) := by show _ = _; unfold wrap64; omega
      have hw := Pk.step_w9 k n hlt hn
      have d0 : (k : Int) < (n : Int) := by omega
      have d1 : (0 : Int) ≤ (k : Int) := by omega
      have d2 : decide (((prv xss (k + 1)).length : Int) < 0) = false := decide_eq_false (by omega)
      clear hsum hpl hx2 hcell hL2 e2 hao en hgp
      generalize (xss.getD k []).length = li at *
      obtain ⟨s2, e3⟩ : ∃ s2, s2 = (prv xss (k + 1)).length := ⟨_, rfl⟩
      rw [← e3] at hw1 d2
      have HS2 : Hid (s2 = (prv xss (k + 1)).length) := e3
      clear e3
      generalize (prv xss k).length = s1 at *
      have hw2 := hw1.out
      go_wp2_with fail
      go_roundw
      case rel => first | exact ⟨k + 1, hlt, Pk.step_v k _ hw.out, (by rw [← HS2.out]; first | rfl | rw [hw1.out]), trivial⟩ | exact ⟨k + 1, hlt, Pk.step_v k _ hw.out, (by rw [← HS2.out]; first | rfl | rw [hw1.out]), rfl⟩ | ((repeat apply Exists.intro); exact ⟨⟨k + 1, hlt, Pk.step_v k _ hw.out, (by rw [← HS2.out]; first | rfl | rw [hw1.out]), rfl⟩, rfl⟩)
      case measure => exact Pk.msr k n hlt _ hw.out
    · have ek : k = n := by omega
      subst ek
      have d0 : decide ((k : Int) < (k : Int)) = false := decide_eq_false (by omega)
      go_wp2_with fail
      refine (KG.out _).mono (fun e w2 he => ?_)
      obtain ⟨v2, rfl, o2, b2⟩ := he
      clear d0 KG
      go_wp2_with fail
      go_loopw [6, 27] (fun vn i wr => ∃ j : Nat, j ≤ k ∧ i = .int .i64 (j : Int) ∧ wr.ownsRow w.heap.size 25 1 vn (prv xss j).length (prv xss j) ∧ Below w.heap.size w wr) (fun _ i _ => ((k : Int) - intOf i).toNat)
      case atStart => exact ⟨0, Nat.zero_le _, rfl, o2, b2⟩
      case round =>
        clear o2 b2
        obtain ⟨j, hj, rfl, oj, bj⟩ := hrel
        by_cases hlt2 : j < k
        · have en := EN.out
          obtain ⟨ao2, cap2, e2, hL2⟩ := Vls_below HL.out bj
          obtain ⟨gp, op, hao, hgp, hcell⟩ := hL2 (by omega)
          obtain ⟨vi, c1, hvl⟩ := hcell j (by omega)
          have hao2 : ao = some ⟨gp, op, none⟩ := by
            rw [← hao]
            injection e2
          subst hao2
          have hs1 := prv_succ xss j (by omega)
          have hpl := prv_le xss (j + 1)
          rw [hs1, List.length_append] at hpl
          obtain ⟨v3, w3, hap, o3, b3⟩ := appv_r 22 oj hvl (fun u hu => h1.out (xss.getD j []) (by
            rw [List.getD_eq_getElem?_getD, List.getElem?_eq_getElem (by omega)]
            exact List.getElem_mem _) u hu) bj.size (by have := hx.out; omega)
          rw [← hs1] at o3
          have HO : Hid (w3.ownsRow w.heap.size 25 1 v3 (prv xss (j + 1)).length (prv xss (j + 1))) := o3
          have HB : Hid (Below w.heap.size w w3) := bj.trans b3
          have hw := Pk.step_w9 j k hlt2 hn
          have d0 : (j : Int) < (k : Int) := by omega
          have d1 : (0 : Int) ≤ (j : Int) := by omega
          clear hs1 hpl hcell hL2 e2 hao en hgp hvl o3 b3 oj bj
          go_wp2_with (at_builtin; refine wpList_app rfl rfl rfl rfl hap ?_)
          go_roundw
          case rel => exact ⟨j + 1, hlt2, Pk.step_v j _ hw.out, HO.out, HB.out⟩
          case measure => exact Pk.msr j k hlt2 _ hw.out
        · have ej : j = k := by omega
          subst ej
          have HO : Hid (wr.ownsRow w.heap.size 25 1 u6 (prv xss j).length (prv xss j)) := oj
          have HB : Hid (Below w.heap.size w wr) := bj
          have d0 : decide ((j : Int) < (j : Int)) = false := decide_eq_false (by omega)
          clear oj bj
          go_wp2
          go_ret
          exact ⟨_, rfl, by have := HO.out; rw [HE.out] at this; exact this, HB.out⟩
end Sp
end Go.Proofs.Ytcgjkombefhjmaa
