/- word.divide at every word; word.DivMod. -/
import Derived.Test.YtblodmjnhmfjeaaMem
import Derived.Test.YtblodmjnhmfjeaaLow
namespace Go.Proofs.Ytblodmjnhmfjeaa
open Go.RowKit Go.Shelf
attribute [local go_sem ↓] Go.wp_at_zero Go.wp_at_succ
/-- The rest; 0, if b is 0. -/
def md (a b : Nat) : Nat := if b = 0 then 0 else a % b
theorem wd_zero : Wd 0 = .agg #[.int .u64 0, .int .u64 0, .int .u64 0, .int .u64 0] := by unfold Wd; simp only [dg_zero]
theorem wi_zero : Wi 0 = .agg #[.int .u64 0, .int .u64 0, .int .u64 0, .int .u64 0, .int .u64 0, .int .u64 0, .int .u64 0, .int .u64 0] := by unfold Wi; simp only [dg_zero]
theorem eq_zero (w : World) : (binOp .eql 24 (.agg #[.int .u64 0, .int .u64 0, .int .u64 0, .int .u64 0]) (.agg #[.int .u64 0, .int .u64 0, .int .u64 0, .int .u64 0])).run Try.prog w = .ok (.bool true) w := by
  obtain ⟨i, hi⟩ := Try.infoU64
  rw [run_eql_struct, run_equalIn_array w 9999 _ _ Try.underlying24 hi, Try.cellsU64]
  simp [Op.eqItems, go_sem, List.range, List.range.loop]
set_option maxHeartbeats 4000000 in
set_option maxRecDepth 100000 in
theorem divide_zero (a : Nat) (w : World) :
    Calls Try.prog 42 #[Wi a, Wd 0] w fun e w' => e = .returned (.tuple #[Wi 0, Wd 0]) ∧ Below w.heap.size w w' := by
  have q0 := eq_zero
  have q1 := eq_guard2
  rw [wd_zero, wi_zero]
  conv => arg 3; unfold Wi
  go_enter Try.func42, Try.ntmps42
  go_wp2_with fail
  refine bodyPost_ret (v := .tuple #[.agg #[.int .u64 0, .int .u64 0, .int .u64 0, .int .u64 0, .int .u64 0, .int .u64 0, .int .u64 0, .int .u64 0], .agg #[.int .u64 0, .int .u64 0, .int .u64 0, .int .u64 0]]) (by simp [results, Try.results42, go_sem]) rfl ⟨rfl, ?_⟩
  repeat (first | exact Below.refl _ _ | refine Below.alloc ?_ (by simp <;> omega) _)
theorem divide_all (a b e : Nat) (he : e = 512) (ha : a < 2 ^ e) (hb : b < 2 ^ 256) (w : World) :
    Calls Try.prog 42 #[Wi a, Wd b] w fun e w' => e = .returned (.tuple #[Wi (a / b), Wd (md a b)]) ∧ Below w.heap.size w w' := by
  by_cases h0 : b = 0
  · subst h0
    rw [Nat.div_zero]
    exact divide_zero a w
  · unfold md
    rw [if_neg h0]
    exact divide_any a b e he ha hb h0 w
theorem resultM (tm : Array Value) (w W : World) (a b x y : Nat) (h4 : tm.getD 4 undef = .pointer (some ⟨w.heap.size + 1 + 1, 0, none⟩)) (h5 : tm.getD 5 undef = .pointer (some ⟨w.heap.size + 1 + 1 + 1, 0, none⟩)) (m : M4 w a b x y W) : (results Try.f22 tm).run Try.prog W = .ok (.tuple #[Wd x, Wd y]) W := by
  have c1 : ∀ o, o < 4 → W.cell? ⟨w.heap.size + 1 + 1, o, none⟩ = some (.int .u64 (dg x o)) := m.v2.c
  have c2 : ∀ o, o < 4 → W.cell? ⟨w.heap.size + 1 + 1 + 1, o, none⟩ = some (.int .u64 (dg y o)) := m.v3.c
  simp at h4 h5
  simp [Wd, results, Try.results22, go_sem, h4, h5, c1, c2]
theorem widen_zero (a : Nat) (ha : a < 2 ^ 256) (w : World) :
    Calls Try.prog 43 #[Wd a, .int .u64 0] w fun e w' => e = .returned (Wi a) ∧ Below w.heap.size w w' := by
  have := widen_any a 0 ha (by decide) w
  rw [Nat.zero_mul, Nat.add_zero] at this
  exact this
set_option maxHeartbeats 4000000 in
set_option maxRecDepth 100000 in
theorem divmod_any (a b : Nat) (ha : a < 2 ^ 256) (hb : b < 2 ^ 256) (w : World) :
    Calls Try.prog 22 #[Wd a, Wd b] w fun e w' => e = .returned (.tuple #[Wd (a / b), Wd (md a b)]) ∧ Below w.heap.size w w' := by
  have HW : Hid (∀ w : World, Calls Try.prog 43 #[Wd a, .int .u64 0] w fun e w' => e = .returned (Wi a) ∧ Below w.heap.size w w') := fun w => widen_zero a ha w
  obtain ⟨e, he⟩ : ∃ e, e = 512 := ⟨_, rfl⟩
  have h5 : a < 2 ^ e := Nat.lt_of_lt_of_le ha (Nat.pow_le_pow_right (by decide) (by omega))
  obtain ⟨N, hN⟩ : ∃ N, N = a / b := ⟨_, rfl⟩
  obtain ⟨R, hR⟩ : ∃ R, R = md a b := ⟨_, rfl⟩
  have HD : Hid (∀ w : World, Calls Try.prog 42 #[Wi a, Wd b] w fun e w' => e = .returned (.tuple #[Wi N, Wd R]) ∧ Below w.heap.size w w') := fun w => by rw [hN, hR]; exact divide_all a b e he h5 hb w
  have HL : Hid (∀ w : World, Calls Try.prog 37 #[Wi N] w fun e w' => e = .returned (Wd N) ∧ Below w.heap.size w w') := fun w => low_any N w
  rw [← hN, ← hR]
  clear ha hb hN hR h5 he e
  have m0 := M4_start w a b 24
  conv => arg 3; unfold Wd
  go_enter Try.func22, Try.ntmps22
  go_wp2_with fail
  generalize (((w.alloc (.cells #[.int .u64 (dg a 0), .int .u64 (dg a 1), .int .u64 (dg a 2), .int .u64 (dg a 3)] 24)).alloc (.cells #[.int .u64 (dg b 0), .int .u64 (dg b 1), .int .u64 (dg b 2), .int .u64 (dg b 3)] 24)).alloc (.cells #[.int .u64 0, .int .u64 0, .int .u64 0, .int .u64 0] 24)).alloc (.cells #[.int .u64 0, .int .u64 0, .int .u64 0, .int .u64 0] 24) = W0 at m0 ⊢
  have n0 := m0
  have t0 : (∀ o, o < 4 → W0.cell? ⟨w.heap.size, o, none⟩ = some (.int .u64 (dg a o))) ∧ (∀ o, o < 4 → W0.cell? ⟨w.heap.size + 1, o, none⟩ = some (.int .u64 (dg b o))) := ⟨n0.v0.c, n0.v1.c⟩
  replace m0 := M4_drew m0
  have s0 : (∀ o, o < 4 → W0.drew.cell? ⟨w.heap.size, o, none⟩ = some (.int .u64 (dg a o))) ∧ (∀ o, o < 4 → W0.drew.cell? ⟨w.heap.size + 1, o, none⟩ = some (.int .u64 (dg b o))) := ⟨m0.v0.c, m0.v1.c⟩
  go_cut [6] (fun p wx => ∃ g : Nat, p = .pointer (some ⟨g, 0, none⟩) ∧ Vb (w.heap.size + 1 + 1 + 1 + 1) g 8 (dg N) wx ∧ M4 w a b 0 R wx)
  case first =>
    go_region_held3 (fun w' => (∀ o, o < 4 → w'.cell? ⟨w.heap.size, o, none⟩ = some (.int .u64 (dg a o))) ∧ (∀ o, o < 4 → w'.cell? ⟨w.heap.size + 1, o, none⟩ = some (.int .u64 (dg b o)))) (first | with_reducible exact s2 | with_reducible exact s1 | with_reducible exact s0 | exact ⟨(by with_reducible exact K_drew (K_al t0.1 n0.v0.hi _)), (by with_reducible exact K_drew (K_al t0.2 n0.v1.hi _))⟩ | exact ⟨(by with_reducible exact K_al s1.1 m1.v0.hi _), (by with_reducible exact K_al s1.2 m1.v1.hi _)⟩ | (refine ⟨?_, ?_⟩ <;> (repeat (first | with_reducible exact s2.1 | with_reducible exact s2.2 | (with_reducible refine K_o4 ?_ (by omega)) | (with_reducible refine K_o8 ?_ (by omega)) | (with_reducible refine K_al ?_ (by first | omega | (simp <;> omega)) _)))))
      (first
        | (go_at_call 43; refine (HW.out _).mono ?_; rintro e1 w1 ⟨rfl, hb1⟩; (first | (have m1 := (by with_reducible exact M4_below m0 hb1 : M4 w a b 0 0 w1)) | (have m1 := M4_below (M4_drew (M4_al n0 (.cells #[.int .u64 0, .int .u64 0, .int .u64 0, .int .u64 0, .int .u64 0, .int .u64 0, .int .u64 0, .int .u64 0] 39))) hb1; have v1 : Vb (w.heap.size + 1 + 1 + 1 + 1) W0.heap.size 8 (dg 0) w1 := Vb_below (Vb_drew (Vb_new80 (w.heap.size + 1 + 1 + 1 + 1) W0 39 n0.v3.hi)) hb1)); have s1 : (∀ o, o < 4 → w1.cell? ⟨w.heap.size, o, none⟩ = some (.int .u64 (dg a o))) ∧ (∀ o, o < 4 → w1.cell? ⟨w.heap.size + 1, o, none⟩ = some (.int .u64 (dg b o))) := ⟨m1.v0.c, m1.v1.c⟩; clear hb1)
        | (go_at_call 42; refine (HD.out _).mono ?_; rintro e2 w2 ⟨rfl, hb2⟩; (first | (have m2 := (by with_reducible exact M4_below m1 hb2 : M4 w a b 0 0 w2); have v2 := Vb_below v1 hb2; have l2 := v2.lo; have c4 := v2.c; have f4 := v2.f; unfold CF at c4; unfold Fz at f4) | (have m2 := (by with_reducible exact M4_below m1 hb2 : M4 w a b 0 0 w2)) | (have m2 := M4_below (M4_al m1 (.cells #[.int .u64 0, .int .u64 0, .int .u64 0, .int .u64 0, .int .u64 0, .int .u64 0, .int .u64 0, .int .u64 0] 39)) hb2; have v2 := Vb_below (Vb_new80 (w.heap.size + 1 + 1 + 1 + 1) _ 39 m1.v3.hi) hb2; have l2 := v2.lo; have c4 := v2.c; have f4 := v2.f; unfold CF at c4; unfold Fz at f4)); have s2 : (∀ o, o < 4 → w2.cell? ⟨w.heap.size, o, none⟩ = some (.int .u64 (dg a o))) ∧ (∀ o, o < 4 → w2.cell? ⟨w.heap.size + 1, o, none⟩ = some (.int .u64 (dg b o))) := ⟨m2.v0.c, m2.v1.c⟩; have z2 := m2.v3.hi; have c3 := m2.v3.c; have f3 := m2.v3.f; unfold CF at c3; unfold Fz at f3; clear hb2; simp only [Wi, Wd]))
    all_goals
      go_wp2_with fail
      go_meet
      case rel => first | (refine ⟨_, rfl, (by with_reducible exact Vb_o4 (Vb_set8 v2) (by omega)), ?_⟩; exact M4_set3 (M4_o8 m2 (by omega))) | (refine ⟨w2.heap.size, rfl, (by with_reducible exact Vb_o4 (Vb_new8 _ N w2 _ (by omega)) (by omega)), ?_⟩; exact M4_set3 (M4_al m2 _)) | exact ⟨w2.heap.size, rfl, Vb_new8e (by simp) (by omega), M4_al (M4_set3 m2) _⟩
  case rest =>
    obtain ⟨g, rfl, vg, mm⟩ := hcut
    clear m0 n0 t0 s0 HW HD
    have cg := vg.c
    unfold CF at cg
    have c3 := mm.v3.c
    unfold CF at c3
    go_wp2_with fail
    go_region_with (first | (go_at_call 37; refine (HL.out _).mono ?_; rintro e1 w3 ⟨rfl, hb3⟩; have m3 := M4_below (M4_drew mm) hb3; have d2 := m3.v2.c; have d3 := m3.v3.c; have f2 := m3.v2.f; have f3 := m3.v3.f; unfold CF at d2 d3; unfold Fz at f2 f3; clear hb3; simp only [Wd]))
    all_goals
      go_wp2_with fail
      have m5 := M4_set3 (m := R) (M4_set2 (m := N) m3)
      exact bodyPost_ret (v := .tuple #[Wd N, Wd R]) (resultM _ w _ a b N R rfl rfl m5) rfl ⟨rfl, m5.bel⟩
end Go.Proofs.Ytblodmjnhmfjeaa
