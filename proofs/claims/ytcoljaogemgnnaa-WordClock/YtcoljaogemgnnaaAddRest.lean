/- lampbearerref.addRest: the rest of a sum of two rests. -/
import Derived.Test.YtcoljaogemgnnaaMulMod
import Derived.Test.YtcoljaogemgnnaaWDivMod
namespace Go.Proofs.Ytcoljaogemgnnaa
open Go.RowKit Go.Shelf
attribute [local go_sem ↓] Go.wp_at_zero Go.wp_at_succ
theorem neq_of_eql {T : TypeId} {xs ys : Array Value} {v : Bool} {w : World} (h : (binOp .eql T (.agg xs) (.agg ys)).run Try.prog w = .ok (.bool v) w) : (binOp .neq T (.agg xs) (.agg ys)).run Try.prog w = .ok (.bool (!v)) w := by
  rw [run_eql_struct] at h
  rw [run_neq_struct]
  generalize (Op.equalIn 10000 T (.agg xs) (.agg ys)).run Try.prog w = r at *
  cases r with
  | ok b w' => simp only [Result.andThen_ok, Result.ok.injEq, Value.bool.injEq] at h ⊢; exact ⟨by rw [h.1], h.2⟩
  | halt x w' => simp [Result.andThen] at h
theorem result4 (f : Func) (tm : Array Value) (W : World) (g y s : Nat) (hf : f.results = #[.cell s 24]) (h : tm.getD s undef = .pointer (some ⟨g, 0, none⟩)) (c : CF g 4 (dg y) W) : (results f tm).run Try.prog W = .ok (Wd y) W := by
  have c2 : ∀ o, o < 4 → W.cell? ⟨g, o, none⟩ = some (.int .u64 (dg y o)) := c
  simp at h
  simp [Wd, results, hf, go_sem, h, c2]
theorem eq_nil0 (w : World) : (binOp .eql 24 (.agg #[.int .u64 (dg 0 0), .int .u64 (dg 0 1), .int .u64 (dg 0 2), .int .u64 (dg 0 3)]) (.agg #[.int .u64 0, .int .u64 0, .int .u64 0, .int .u64 0])).run Try.prog w = .ok (.bool true) w := by
  rw [dg_zero, dg_zero, dg_zero, dg_zero]
  exact eq_zero w
set_option maxHeartbeats 4000000 in
set_option maxRecDepth 100000 in
theorem addrest_any (a b m : Nat) (ha : a < m) (hb : b < m) (hm : m < 2 ^ 256) (w : World) :
    Calls Try.prog 40 #[Wd a, Wd b, Wd m] w fun e w' => e = .returned (Wd ((a + b) % m)) ∧ Below w.heap.size w w' := by
  obtain ⟨f, hf⟩ : ∃ f, f = 256 := ⟨_, rfl⟩
  obtain ⟨R, hR⟩ : ∃ R, R = (a + b) % m := ⟨_, rfl⟩
  obtain ⟨L, hL⟩ : ∃ L, L = m - b := ⟨_, rfl⟩
  rw [← hR]
  have K1 : Hid (∀ w : World, Calls Try.prog 57 #[Wd m, Wd b] w fun e w' => e = .returned (Wd L) ∧ Below w.heap.size w w') := fun w => by
    have k := wsub_any m b (by omega) w
    rw [← Wd_mod (m + 2 ^ 256 - b), show (m + 2 ^ 256 - b) = L + 2 ^ 256 by omega, Nat.add_mod_right, Wd_mod] at k
    exact k
  have m0 := M4_start3 w a b m 24
  have q1 := eq_guard2
  by_cases h0 : b = 0
  · subst h0
    have q2 := fun w => neq_of_eql (eq_nil0 w)
    have K3 : Hid (∀ w : World, Calls Try.prog 68 #[Wd a, Wd 0] w fun e w' => e = .returned (Wd R) ∧ Below w.heap.size w w') := fun w => by
      have k := wadd_any a 0 w
      rw [show a + 0 = R by rw [hR, Nat.mod_eq_of_lt (by omega)]] at k
      exact k
    clear ha hb hm hR hL hf  f
    conv => arg 3; unfold Wd
    go_enter Try.func40, Try.ntmps40
    go_wp2_with fail
    generalize (((w.alloc (.cells #[.int .u64 (dg a 0), .int .u64 (dg a 1), .int .u64 (dg a 2), .int .u64 (dg a 3)] 24)).alloc (.cells #[.int .u64 (dg 0 0), .int .u64 (dg 0 1), .int .u64 (dg 0 2), .int .u64 (dg 0 3)] 24)).alloc (.cells #[.int .u64 (dg m 0), .int .u64 (dg m 1), .int .u64 (dg m 2), .int .u64 (dg m 3)] 24)).alloc (.cells #[.int .u64 0, .int .u64 0, .int .u64 0, .int .u64 0] 24) = W0 at m0 ⊢
    refine (K1.out _).mono ?_
    rintro e w1 ⟨rfl, hb1⟩
    have m1 := M4_below m0 hb1
    have vL := Vb_new4 w.heap.size L w1 24 (Nat.le_of_lt m1.v0.hi)
    have m2 := M4_al m1 (.cells #[.int .u64 (dg L 0), .int .u64 (dg L 1), .int .u64 (dg L 2), .int .u64 (dg L 3)] 24)
    clear hb1 m0
    have c0 : ∀ o, o < 4 → w1.cell? ⟨w.heap.size, o, none⟩ = some (.int .u64 (dg a o)) := m1.v0.c
    have c1 : ∀ o, o < 4 → w1.cell? ⟨w.heap.size + 1, o, none⟩ = some (.int .u64 (dg 0 o)) := m1.v1.c
    have c3 : ∀ o, o < 4 → w1.cell? ⟨w.heap.size + 1 + 1 + 1, o, none⟩ = some (.int .u64 (dg 0 o)) := m1.v3.c
    have f3 : ∀ o, w1.frozen? ⟨w.heap.size + 1 + 1 + 1, o, none⟩ = false := m1.v3.f
    have z3 := m1.v3.hi
    have z2 := m1.v2.hi
    have z1 := m1.v1.hi
    have z0 := m1.v0.hi
    have HM : Hid (M4 w a 0 m 0 (w1.alloc (.cells #[.int .u64 (dg L 0), .int .u64 (dg L 1), .int .u64 (dg L 2), .int .u64 (dg L 3)] 24))) := m2
    have HL : Hid (Vb w.heap.size w1.heap.size 4 (dg L) (w1.alloc (.cells #[.int .u64 (dg L 0), .int .u64 (dg L 1), .int .u64 (dg L 2), .int .u64 (dg L 3)] 24))) := vL
    clear m1 m2 vL
    unfold Wd
    go_wp2_with fail
    refine (K3.out _).mono ?_
    rintro e w3 ⟨rfl, hb3⟩
    have m4 := M4_below HM.out hb3
    clear hb3 HM c0 c1 c3 f3
    have c0 : ∀ o, o < 4 → w3.cell? ⟨w.heap.size, o, none⟩ = some (.int .u64 (dg a o)) := m4.v0.c
    have c1 : ∀ o, o < 4 → w3.cell? ⟨w.heap.size + 1, o, none⟩ = some (.int .u64 (dg 0 o)) := m4.v1.c
    have c3 : ∀ o, o < 4 → w3.cell? ⟨w.heap.size + 1 + 1 + 1, o, none⟩ = some (.int .u64 (dg 0 o)) := m4.v3.c
    have f3 : ∀ o, w3.frozen? ⟨w.heap.size + 1 + 1 + 1, o, none⟩ = false := m4.v3.f
    have z3 := m4.v3.hi
    have z2 := m4.v2.hi
    have z1 := m4.v1.hi
    have z0 := m4.v0.hi
    have HM : Hid (M4 w a 0 m 0 w3) := m4
    clear m4
    unfold Wd
    go_wp2_with fail
    have m5 := M4_set3 (m := R) HM.out
    exact bodyPost_ret (v := Wd R) (result4 _ _ _ (w.heap.size + 1 + 1 + 1) R 6 rfl rfl m5.v3.c) rfl ⟨rfl, m5.bel⟩
  · have q2 := fun w => neq_of_eql (eq_no b (by omega) h0 w)
    have K2 : Hid (∀ w : World, Calls Try.prog 44 #[Wd a, Wd L] w fun e w' => e = .returned (.bool (decide (a < L))) ∧ Below w.heap.size w w') := fun w => wless_any a L (by omega) (by omega) w
    by_cases hlt : a < L
    · have K3 : Hid (∀ w : World, Calls Try.prog 68 #[Wd a, Wd b] w fun e w' => e = .returned (Wd R) ∧ Below w.heap.size w w') := fun w => by
        have k := wadd_any a b w
        rw [show a + b = R by rw [hR, Nat.mod_eq_of_lt (by omega)]] at k
        exact k
      rw [decide_eq_true hlt] at K2
      clear ha hb hm hR hL hf h0 hlt f
      conv => arg 3; unfold Wd
      go_enter Try.func40, Try.ntmps40
      go_wp2_with fail
      generalize (((w.alloc (.cells #[.int .u64 (dg a 0), .int .u64 (dg a 1), .int .u64 (dg a 2), .int .u64 (dg a 3)] 24)).alloc (.cells #[.int .u64 (dg b 0), .int .u64 (dg b 1), .int .u64 (dg b 2), .int .u64 (dg b 3)] 24)).alloc (.cells #[.int .u64 (dg m 0), .int .u64 (dg m 1), .int .u64 (dg m 2), .int .u64 (dg m 3)] 24)).alloc (.cells #[.int .u64 0, .int .u64 0, .int .u64 0, .int .u64 0] 24) = W0 at m0 ⊢
      refine (K1.out _).mono ?_
      rintro e w1 ⟨rfl, hb1⟩
      have m1 := M4_below m0 hb1
      have vL := Vb_new4 w.heap.size L w1 24 (Nat.le_of_lt m1.v0.hi)
      have m2 := M4_al m1 (.cells #[.int .u64 (dg L 0), .int .u64 (dg L 1), .int .u64 (dg L 2), .int .u64 (dg L 3)] 24)
      clear hb1 m0
      have c0 : ∀ o, o < 4 → w1.cell? ⟨w.heap.size, o, none⟩ = some (.int .u64 (dg a o)) := m1.v0.c
      have c1 : ∀ o, o < 4 → w1.cell? ⟨w.heap.size + 1, o, none⟩ = some (.int .u64 (dg b o)) := m1.v1.c
      have c3 : ∀ o, o < 4 → w1.cell? ⟨w.heap.size + 1 + 1 + 1, o, none⟩ = some (.int .u64 (dg 0 o)) := m1.v3.c
      have f3 : ∀ o, w1.frozen? ⟨w.heap.size + 1 + 1 + 1, o, none⟩ = false := m1.v3.f
      have z3 := m1.v3.hi
      have z2 := m1.v2.hi
      have z1 := m1.v1.hi
      have z0 := m1.v0.hi
      have HM : Hid (M4 w a b m 0 (w1.alloc (.cells #[.int .u64 (dg L 0), .int .u64 (dg L 1), .int .u64 (dg L 2), .int .u64 (dg L 3)] 24))) := m2
      have HL : Hid (Vb w.heap.size w1.heap.size 4 (dg L) (w1.alloc (.cells #[.int .u64 (dg L 0), .int .u64 (dg L 1), .int .u64 (dg L 2), .int .u64 (dg L 3)] 24))) := vL
      clear m1 m2 vL
      unfold Wd
      go_wp2_with fail
      refine (K2.out _).mono ?_
      rintro e w2 ⟨rfl, hb2⟩
      have m3 := M4_below HM.out hb2
      have vL := Vb_below HL.out hb2
      clear c0 c1 c3 f3 hb2 HM HL
      have c0 : ∀ o, o < 4 → w2.cell? ⟨w.heap.size, o, none⟩ = some (.int .u64 (dg a o)) := m3.v0.c
      have c1 : ∀ o, o < 4 → w2.cell? ⟨w.heap.size + 1, o, none⟩ = some (.int .u64 (dg b o)) := m3.v1.c
      have c3 : ∀ o, o < 4 → w2.cell? ⟨w.heap.size + 1 + 1 + 1, o, none⟩ = some (.int .u64 (dg 0 o)) := m3.v3.c
      have f3 : ∀ o, w2.frozen? ⟨w.heap.size + 1 + 1 + 1, o, none⟩ = false := m3.v3.f
      have z3 := m3.v3.hi
      have z2 := m3.v2.hi
      have z1 := m3.v1.hi
      have z0 := m3.v0.hi
      have cL : ∀ o, o < 4 → w2.cell? ⟨w1.heap.size, o, none⟩ = some (.int .u64 (dg L o)) := vL.c
      have HM : Hid (M4 w a b m 0 w2) := m3
      clear m3 vL
      go_wp2_with fail
      refine (K3.out _).mono ?_
      rintro e w3 ⟨rfl, hb3⟩
      have m4 := M4_below HM.out hb3
      clear hb3 HM c0 c1 c3 f3
      have c0 : ∀ o, o < 4 → w3.cell? ⟨w.heap.size, o, none⟩ = some (.int .u64 (dg a o)) := m4.v0.c
      have c1 : ∀ o, o < 4 → w3.cell? ⟨w.heap.size + 1, o, none⟩ = some (.int .u64 (dg b o)) := m4.v1.c
      have c3 : ∀ o, o < 4 → w3.cell? ⟨w.heap.size + 1 + 1 + 1, o, none⟩ = some (.int .u64 (dg 0 o)) := m4.v3.c
      have f3 : ∀ o, w3.frozen? ⟨w.heap.size + 1 + 1 + 1, o, none⟩ = false := m4.v3.f
      have z3 := m4.v3.hi
      have z2 := m4.v2.hi
      have z1 := m4.v1.hi
      have z0 := m4.v0.hi
      have HM : Hid (M4 w a b m 0 w3) := m4
      clear m4
      unfold Wd
      go_wp2_with fail
      have m5 := M4_set3 (m := R) HM.out
      exact bodyPost_ret (v := Wd R) (result4 _ _ _ (w.heap.size + 1 + 1 + 1) R 6 rfl rfl m5.v3.c) rfl ⟨rfl, m5.bel⟩
    · have K3 : Hid (∀ w : World, Calls Try.prog 57 #[Wd a, Wd L] w fun e w' => e = .returned (Wd R) ∧ Below w.heap.size w w') := fun w => by
        have k := wsub_any a L (by omega) w
        have e1 : (a + b) % m = a - L := by
          rw [show a + b = (a - L) + m by omega, Nat.add_mod_right, Nat.mod_eq_of_lt (by omega)]
        rw [← Wd_mod (a + 2 ^ 256 - L), show (a + 2 ^ 256 - L) = (a - L) + 2 ^ 256 by omega, Nat.add_mod_right, Wd_mod, ← e1, ← hR] at k
        exact k
      rw [decide_eq_false hlt] at K2
      clear ha hb hm hR hL hf h0 hlt f
      conv => arg 3; unfold Wd
      go_enter Try.func40, Try.ntmps40
      go_wp2_with fail
      generalize (((w.alloc (.cells #[.int .u64 (dg a 0), .int .u64 (dg a 1), .int .u64 (dg a 2), .int .u64 (dg a 3)] 24)).alloc (.cells #[.int .u64 (dg b 0), .int .u64 (dg b 1), .int .u64 (dg b 2), .int .u64 (dg b 3)] 24)).alloc (.cells #[.int .u64 (dg m 0), .int .u64 (dg m 1), .int .u64 (dg m 2), .int .u64 (dg m 3)] 24)).alloc (.cells #[.int .u64 0, .int .u64 0, .int .u64 0, .int .u64 0] 24) = W0 at m0 ⊢
      refine (K1.out _).mono ?_
      rintro e w1 ⟨rfl, hb1⟩
      have m1 := M4_below m0 hb1
      have vL := Vb_new4 w.heap.size L w1 24 (Nat.le_of_lt m1.v0.hi)
      have m2 := M4_al m1 (.cells #[.int .u64 (dg L 0), .int .u64 (dg L 1), .int .u64 (dg L 2), .int .u64 (dg L 3)] 24)
      clear hb1 m0
      have c0 : ∀ o, o < 4 → w1.cell? ⟨w.heap.size, o, none⟩ = some (.int .u64 (dg a o)) := m1.v0.c
      have c1 : ∀ o, o < 4 → w1.cell? ⟨w.heap.size + 1, o, none⟩ = some (.int .u64 (dg b o)) := m1.v1.c
      have c3 : ∀ o, o < 4 → w1.cell? ⟨w.heap.size + 1 + 1 + 1, o, none⟩ = some (.int .u64 (dg 0 o)) := m1.v3.c
      have f3 : ∀ o, w1.frozen? ⟨w.heap.size + 1 + 1 + 1, o, none⟩ = false := m1.v3.f
      have z3 := m1.v3.hi
      have z2 := m1.v2.hi
      have z1 := m1.v1.hi
      have z0 := m1.v0.hi
      have HM : Hid (M4 w a b m 0 (w1.alloc (.cells #[.int .u64 (dg L 0), .int .u64 (dg L 1), .int .u64 (dg L 2), .int .u64 (dg L 3)] 24))) := m2
      have HL : Hid (Vb w.heap.size w1.heap.size 4 (dg L) (w1.alloc (.cells #[.int .u64 (dg L 0), .int .u64 (dg L 1), .int .u64 (dg L 2), .int .u64 (dg L 3)] 24))) := vL
      clear m1 m2 vL
      unfold Wd
      go_wp2_with fail
      refine (K2.out _).mono ?_
      rintro e w2 ⟨rfl, hb2⟩
      have m3 := M4_below HM.out hb2
      have vL := Vb_below HL.out hb2
      clear c0 c1 c3 f3 hb2 HM HL
      have c0 : ∀ o, o < 4 → w2.cell? ⟨w.heap.size, o, none⟩ = some (.int .u64 (dg a o)) := m3.v0.c
      have c1 : ∀ o, o < 4 → w2.cell? ⟨w.heap.size + 1, o, none⟩ = some (.int .u64 (dg b o)) := m3.v1.c
      have c3 : ∀ o, o < 4 → w2.cell? ⟨w.heap.size + 1 + 1 + 1, o, none⟩ = some (.int .u64 (dg 0 o)) := m3.v3.c
      have f3 : ∀ o, w2.frozen? ⟨w.heap.size + 1 + 1 + 1, o, none⟩ = false := m3.v3.f
      have z3 := m3.v3.hi
      have z2 := m3.v2.hi
      have z1 := m3.v1.hi
      have z0 := m3.v0.hi
      have cL : ∀ o, o < 4 → w2.cell? ⟨w1.heap.size, o, none⟩ = some (.int .u64 (dg L o)) := vL.c
      have HM : Hid (M4 w a b m 0 w2) := m3
      clear m3 vL
      go_wp2_with fail
      refine (K3.out _).mono ?_
      rintro e w3 ⟨rfl, hb3⟩
      have m4 := M4_below HM.out hb3
      clear hb3 HM c0 c1 c3 f3
      have c0 : ∀ o, o < 4 → w3.cell? ⟨w.heap.size, o, none⟩ = some (.int .u64 (dg a o)) := m4.v0.c
      have c1 : ∀ o, o < 4 → w3.cell? ⟨w.heap.size + 1, o, none⟩ = some (.int .u64 (dg b o)) := m4.v1.c
      have c3 : ∀ o, o < 4 → w3.cell? ⟨w.heap.size + 1 + 1 + 1, o, none⟩ = some (.int .u64 (dg 0 o)) := m4.v3.c
      have f3 : ∀ o, w3.frozen? ⟨w.heap.size + 1 + 1 + 1, o, none⟩ = false := m4.v3.f
      have z3 := m4.v3.hi
      have z2 := m4.v2.hi
      have z1 := m4.v1.hi
      have z0 := m4.v0.hi
      have HM : Hid (M4 w a b m 0 w3) := m4
      clear m4
      unfold Wd
      go_wp2_with fail
      have m5 := M4_set3 (m := R) HM.out
      exact bodyPost_ret (v := Wd R) (result4 _ _ _ (w.heap.size + 1 + 1 + 1) R 6 rfl rfl m5.v3.c) rfl ⟨rfl, m5.bel⟩
theorem wdivmod_nz (a b : Nat) (ha : a < 2 ^ 256) (hb : b < 2 ^ 256) (h0 : b ≠ 0) (w : World) :
    Calls Try.prog 39 #[Wd a, Wd b] w fun e w' => e = .returned (.tuple #[Wd (a / b), Wd (a % b)]) ∧ Below w.heap.size w w' := by
  have k := wdivmod_any a b ha hb w
  rw [md, if_neg h0] at k
  exact k
end Go.Proofs.Ytcoljaogemgnnaa
