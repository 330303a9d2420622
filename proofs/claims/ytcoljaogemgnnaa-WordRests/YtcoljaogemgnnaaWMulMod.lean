/- lampbearerref.WMulMod: the document's own rest of the whole product. -/
import Derived.Test.YtcoljaogemgnnaaWAddMod
namespace Go.Proofs.Ytcoljaogemgnnaa
open Go.RowKit Go.Shelf
attribute [local go_sem ↓] Go.wp_at_zero Go.wp_at_succ
/-- The rest of x times the bits of b from place k on. -/
def om (x b m k : Nat) : Nat := x * (b / 2 ^ k) % m
theorem om_lt (x b m k : Nat) (hm : 0 < m) : om x b m k < m := Nat.mod_lt _ hm
theorem om_no (x b m k : Nat) (h : wb b k = false) : (om x b m (k + 1) + om x b m (k + 1)) % m = om x b m k := by
  unfold om
  unfold wb at h
  have h1 := of_decide_eq_false h
  have e : b / 2 ^ k = b / 2 ^ (k + 1) + b / 2 ^ (k + 1) := by rw [Nat.pow_succ, ← Nat.div_div_eq_div_mul]; omega
  rw [← Nat.add_mod, ← Nat.mul_add, ← e]
theorem om_yes (x b m k : Nat) (hx : x < m) (h : wb b k = true) : ((om x b m (k + 1) + om x b m (k + 1)) % m + x) % m = om x b m k := by
  unfold om
  unfold wb at h
  have h1 := of_decide_eq_true h
  have e : b / 2 ^ k = b / 2 ^ (k + 1) + b / 2 ^ (k + 1) + 1 := by rw [Nat.pow_succ, ← Nat.div_div_eq_div_mul]; omega
  rw [← Nat.add_mod, ← Nat.mul_add, e, Nat.mul_add x _ 1, Nat.mul_one, Nat.add_mod (x * _) x m, Nat.mod_eq_of_lt hx]
theorem om_start (x b m : Nat) (hb : b < 2 ^ 256) : om x b m 256 = 0 := by
  unfold om; rw [Nat.div_eq_of_lt hb]; simp
theorem om_end (a b m : Nat) (h0 : m ≠ 0) : om (a % m) b m 0 = md (a * b) m := by
  unfold om md; rw [Nat.pow_zero, Nat.div_one, if_neg h0, Nat.mod_mul_mod]
set_option maxHeartbeats 4000000 in
set_option maxRecDepth 100000 in
theorem wmulmod_any (a b m : Nat) (ha : a < 2 ^ 256) (hb : b < 2 ^ 256) (hm : m < 2 ^ 256) (w : World) :
    Calls Try.prog 12 #[Wd a, Wd b, Wd m] w fun e w' => e = .returned (Wd (md (a * b) m)) ∧ Below w.heap.size w w' := by
  have m0 := M4_start3 w a b m 24
  have q1 := eq_guard2
  by_cases h0 : m = 0
  · subst h0
    have q2 := eq_nil0
    rw [show md (a * b) 0 = 0 by simp [md]]
    clear ha hb hm
    conv => arg 3; unfold Wd
    go_enter Try.func12, Try.ntmps12
    go_wp2_with fail
    refine bodyPost_ret (v := Wd 0) (result4 _ _ _ (w.heap.size + 1 + 1 + 1) 0 6 rfl rfl ?_) rfl ⟨rfl, ?_⟩
    · exact (Vb_new4e (B := w.heap.size) (n := 0) (by simp) (by omega)).c
    · repeat (first | exact Below.refl _ _ | refine Below.alloc ?_ (by simp <;> omega) _)
  · have q2 := eq_no m hm h0
    obtain ⟨X, hX⟩ : ∃ X, X = a % m := ⟨_, rfl⟩
    obtain ⟨X', hX'⟩ : ∃ X, X = a / m := ⟨_, rfl⟩
    have x1 : X < m := by rw [hX]; exact Nat.mod_lt _ (by omega)
    have K1 : Hid (∀ w : World, Calls Try.prog 39 #[Wd a, Wd m] w fun e w' => e = .returned (.tuple #[Wd X', Wd X]) ∧ Below w.heap.size w w') := fun w => by rw [hX, hX']; exact wdivmod_nz a m ha hm h0 w
    have K2 : Hid (∀ x y, x < m → y < m → ∀ w : World, Calls Try.prog 40 #[Wd x, Wd y, Wd m] w fun e w' => e = .returned (Wd ((x + y) % m)) ∧ Below w.heap.size w w') := fun x y hx hy w => addrest_any x y m hx hy hm w
    have HE : Hid (om X b m 0 = md (a * b) m) := by show _ = _; rw [hX]; exact om_end a b m h0
    have HS : Hid (om X b m 256 = 0) := om_start X b m hb
    have HX : Hid (X < m) := x1
    clear ha hb hm h0 hX hX' x1
    conv => arg 3; unfold Wd
    go_enter Try.func12, Try.ntmps12
    go_wp2_with fail
    generalize (((w.alloc (.cells #[.int .u64 (dg a 0), .int .u64 (dg a 1), .int .u64 (dg a 2), .int .u64 (dg a 3)] 24)).alloc (.cells #[.int .u64 (dg b 0), .int .u64 (dg b 1), .int .u64 (dg b 2), .int .u64 (dg b 3)] 24)).alloc (.cells #[.int .u64 (dg m 0), .int .u64 (dg m 1), .int .u64 (dg m 2), .int .u64 (dg m 3)] 24)).alloc (.cells #[.int .u64 0, .int .u64 0, .int .u64 0, .int .u64 0] 24) = W0 at m0 ⊢
    refine (K1.out _).mono ?_
    rintro e w1 ⟨rfl, hb1⟩
    have m1 := M4_below m0 hb1
    clear hb1 m0 K1
    have hgX : w.heap.size + 1 + 1 + 1 < w1.heap.size + 1 := by have := m1.v3.hi; omega
    have vX : Vb w.heap.size (w1.heap.size + 1) 4 (dg X) ((w1.alloc (.cells #[.int .u64 (dg X' 0), .int .u64 (dg X' 1), .int .u64 (dg X' 2), .int .u64 (dg X' 3)] 24)).alloc (.cells #[.int .u64 (dg X 0), .int .u64 (dg X 1), .int .u64 (dg X 2), .int .u64 (dg X 3)] 24)) := Vb_new4e (by simp) (by have := m1.v0.hi; omega)
    have m2 := M4_al (M4_al m1 (.cells #[.int .u64 (dg X' 0), .int .u64 (dg X' 1), .int .u64 (dg X' 2), .int .u64 (dg X' 3)] 24)) (.cells #[.int .u64 (dg X 0), .int .u64 (dg X 1), .int .u64 (dg X 2), .int .u64 (dg X 3)] 24)
    unfold Wd
    go_upto_region 4 with fail
    generalize (w1.alloc (.cells #[.int .u64 (dg X' 0), .int .u64 (dg X' 1), .int .u64 (dg X' 2), .int .u64 (dg X' 3)] 24)).alloc (.cells #[.int .u64 (dg X 0), .int .u64 (dg X 1), .int .u64 (dg X 2), .int .u64 (dg X 3)] 24) = W2 at vX m2 ⊢
    clear m1
    generalize w1.heap.size + 1 = gX at vX hgX ⊢
    have hgO : gX < W2.heap.size := vX.hi
    have vO : Vb w.heap.size W2.heap.size 4 (dg (om X b m 256)) (W2.alloc (.cells #[.int .u64 0, .int .u64 0, .int .u64 0, .int .u64 0] 24)) := by rw [HS.out]; exact Vb_new0 _ _ _ (Nat.le_of_lt m2.v0.hi)
    replace vX := Vb_al vX (.cells #[.int .u64 0, .int .u64 0, .int .u64 0, .int .u64 0] 24)
    replace m2 := M4_al m2 (.cells #[.int .u64 0, .int .u64 0, .int .u64 0, .int .u64 0] 24)
    go_upto_region 5 with fail
    generalize W2.alloc (.cells #[.int .u64 0, .int .u64 0, .int .u64 0, .int .u64 0] 24) = W3 at vX vO m2 ⊢
    generalize W2.heap.size = gO at vO hgO ⊢
    go_wp2_with fail
    go_loopw [10] (fun s wr => ∃ k : Nat, k ≤ 256 ∧ s = .int .i64 ((k : Int) - 1) ∧ M4 w a b m 0 wr ∧ Vb w.heap.size gX 4 (dg X) wr ∧ Vb w.heap.size gO 4 (dg (om X b m k)) wr) (fun s _ => (intOf s + 1).toNat)
    case atStart => exact ⟨256, by omega, rfl, m2, vX, vO⟩
    case round =>
      clear m2 vX vO HS
      obtain ⟨k, hk, hs, mm, vX, vO⟩ := hrel
      cases k with
      | zero =>
        subst hs
        have c1 : ∀ o, o < 4 → wr.cell? ⟨gO, o, none⟩ = some (.int .u64 (dg (om X b m 0) o)) := vO.c
        have c3 : ∀ o, o < 4 → wr.cell? ⟨w.heap.size + 1 + 1 + 1, o, none⟩ = some (.int .u64 (dg 0 o)) := mm.v3.c
        have f3 : ∀ o, wr.frozen? ⟨w.heap.size + 1 + 1 + 1, o, none⟩ = false := mm.v3.f
        have HM : Hid (M4 w a b m 0 wr) := mm
        clear mm vX vO
        go_wp2_with fail
        have m6 := M4_set3 (m := om X b m 0) HM.out
        exact bodyPost_ret (v := Wd (om X b m 0)) (result4 _ _ _ (w.heap.size + 1 + 1 + 1) _ 6 rfl rfl m6.v3.c) rfl ⟨by rw [HE.out], m6.bel⟩
      | succ p =>
        have e : ((p + 1 : Nat) : Int) - 1 = (p : Int) := by omega
        rw [e] at hs
        subst hs
        clear e
        have o1 := om_lt X b m (p + 1) (by have := HX.out; omega)
        have o2 : (om X b m (p + 1) + om X b m (p + 1)) % m < m := Nat.mod_lt _ (by have := HX.out; omega)
        have Y := Bool.eq_false_or_eq_true (wb b p)
        have N1 : Hid (wb b p = false → (om X b m (p + 1) + om X b m (p + 1)) % m = om X b m p) := om_no X b m p
        have N2 : Hid (wb b p = true → ((om X b m (p + 1) + om X b m (p + 1)) % m + X) % m = om X b m p) := om_yes X b m p HX.out
        have A1 : Hid (∀ w : World, Calls Try.prog 40 #[Wd (om X b m (p + 1)), Wd (om X b m (p + 1)), Wd m] w fun e w' => e = .returned (Wd ((om X b m (p + 1) + om X b m (p + 1)) % m)) ∧ Below w.heap.size w w') := K2.out _ _ o1 o1
        have A2 : Hid (∀ w : World, Calls Try.prog 40 #[Wd ((om X b m (p + 1) + om X b m (p + 1)) % m), Wd X, Wd m] w fun e w' => e = .returned (Wd (((om X b m (p + 1) + om X b m (p + 1)) % m + X) % m)) ∧ Below w.heap.size w w') := K2.out _ _ o2 HX.out
        clear o1 o2
        generalize om X b m (p + 1) = O at *
        generalize (O + O) % m = O2 at *
        generalize (O2 + X) % m = O3 at *
        have c1 : ∀ o, o < 4 → wr.cell? ⟨gO, o, none⟩ = some (.int .u64 (dg O o)) := vO.c
        have c2 : ∀ o, o < 4 → wr.cell? ⟨w.heap.size + 1 + 1, o, none⟩ = some (.int .u64 (dg m o)) := mm.v2.c
        go_wp2_with fail
        refine (A1.out _).mono ?_
        rintro e w4 ⟨rfl, hb4⟩
        replace mm := M4_below mm hb4
        replace vX := Vb_below vX hb4
        replace vO := Vb_below vO hb4
        clear c1 c2 hb4
        have c1 : ∀ o, o < 4 → w4.cell? ⟨gO, o, none⟩ = some (.int .u64 (dg O o)) := vO.c
        have f1 : ∀ o, w4.frozen? ⟨gO, o, none⟩ = false := vO.f
        have m5 := M4_o4 (m := O2) mm (show w.heap.size + 1 + 1 + 1 < gO by omega)
        have vX5 := Vb_o4 (m := O2) vX (show gO ≠ gX by omega)
        have vO5 := Vb_set4 (m := O2) vO
        clear mm vX vO
        unfold Wd
        go_upto_region 9 with fail
        clear c1 f1
        generalize (((w4.setCell ⟨gO, 0, none⟩ (.int .u64 (dg O2 0))).setCell ⟨gO, 1, none⟩ (.int .u64 (dg O2 1))).setCell ⟨gO, 2, none⟩ (.int .u64 (dg O2 2))).setCell ⟨gO, 3, none⟩ (.int .u64 (dg O2 3)) = W5 at m5 vX5 vO5 ⊢
        have c1 : ∀ o, o < 4 → W5.cell? ⟨w.heap.size + 1, o, none⟩ = some (.int .u64 (dg b o)) := m5.v1.c
        go_wp2_with fail
        refine (wbit_any b p _ (by omega)).mono ?_
        rintro e w6 ⟨rfl, hb6⟩
        replace m5 := M4_below m5 hb6
        replace vX5 := Vb_below vX5 hb6
        replace vO5 := Vb_below vO5 hb6
        clear c1 hb6
        rcases Y with hy | hy
        · rw [hy]
          have E3 := N2.out hy
          subst E3
          have c1 : ∀ o, o < 4 → w6.cell? ⟨gO, o, none⟩ = some (.int .u64 (dg O2 o)) := vO5.c
          have c2 : ∀ o, o < 4 → w6.cell? ⟨w.heap.size + 1 + 1, o, none⟩ = some (.int .u64 (dg m o)) := m5.v2.c
          have c3 : ∀ o, o < 4 → w6.cell? ⟨gX, o, none⟩ = some (.int .u64 (dg X o)) := vX5.c
          go_wp2_with fail
          refine (A2.out _).mono ?_
          rintro e w7 ⟨rfl, hb7⟩
          replace m5 := M4_below m5 hb7
          replace vX5 := Vb_below vX5 hb7
          replace vO5 := Vb_below vO5 hb7
          clear c1 c2 c3 hb7
          have c1 : ∀ o, o < 4 → w7.cell? ⟨gO, o, none⟩ = some (.int .u64 (dg O2 o)) := vO5.c
          have f1 : ∀ o, w7.frozen? ⟨gO, o, none⟩ = false := vO5.f
          unfold Wd
          go_wp2_with fail
          go_roundw
          case rel => exact ⟨p, by omega, by go_num, M4_o4 m5 (by omega), Vb_o4 vX5 (by omega), Vb_set4 vO5⟩
          case measure => simp [intOf]
        · rw [hy]
          have E3 := N1.out hy
          subst E3
          go_wp2_with fail
          go_roundw
          case rel => exact ⟨p, by omega, by go_num, m5, vX5, vO5⟩
          case measure => simp [intOf]
end Go.Proofs.Ytcoljaogemgnnaa
