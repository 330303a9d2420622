/- lampbearerref.WDivMod: quotient and rest, by twice the divisor first. -/
import Derived.Test.YtcoljaogemgnnabLawKit
import Derived.Test.YtcoljaogemgnnabDivMod
import Derived.Test.YtcoljaogemgnnabWLess
namespace Go.Proofs.Ytcoljaogemgnnab
open Go.RowKit Go.Shelf
attribute [local go_sem ↓] Go.wp_at_zero Go.wp_at_succ
theorem twice_div (a b : Nat) (h0 : b ≠ 0) : a / b = a / (b + b) + a / (b + b) + (if b ≤ a % (b + b) then 1 else 0) ∧ a % b = (if b ≤ a % (b + b) then a % (b + b) - b else a % (b + b)) := by
  have h1 := Nat.div_add_mod a (b + b)
  have h2 := Nat.mod_lt a (show 0 < b + b by omega)
  generalize a / (b + b) = q at *
  generalize a % (b + b) = r at *
  have h3 : (b + b) * q = b * (q + q) := by rw [Nat.add_mul, Nat.mul_add]
  rw [h3] at h1
  by_cases c : b ≤ r
  · rw [if_pos c, if_pos c]
    have h4 : a = (r - b) + b * (q + q + 1) := by rw [Nat.mul_add, Nat.mul_one]; omega
    constructor
    · rw [h4, Nat.add_mul_div_left _ _ (by omega), Nat.div_eq_of_lt (by omega)]; omega
    · rw [h4, Nat.add_mul_mod_self_left, Nat.mod_eq_of_lt (by omega)]
  · rw [if_neg c, if_neg c]
    have h4 : a = r + b * (q + q) := by omega
    constructor
    · rw [h4, Nat.add_mul_div_left _ _ (by omega), Nat.div_eq_of_lt (by omega)]; omega
    · rw [h4, Nat.add_mul_mod_self_left, Nat.mod_eq_of_lt (by omega)]
theorem resultW (tm : Array Value) (w W : World) (a b x y : Nat) (h4 : tm.getD 4 undef = .pointer (some ⟨w.heap.size + 1 + 1, 0, none⟩)) (h5 : tm.getD 5 undef = .pointer (some ⟨w.heap.size + 1 + 1 + 1, 0, none⟩)) (m : M4 w a b x y W) : (results Try.f44 tm).run Try.prog W = .ok (.tuple #[Wd x, Wd y]) W := by
  have c1 : ∀ o, o < 4 → W.cell? ⟨w.heap.size + 1 + 1, o, none⟩ = some (.int .u64 (dg x o)) := m.v2.c
  have c2 : ∀ o, o < 4 → W.cell? ⟨w.heap.size + 1 + 1 + 1, o, none⟩ = some (.int .u64 (dg y o)) := m.v3.c
  simp at h4 h5
  simp [Wd, results, Try.results44, go_sem, h4, h5, c1, c2]
set_option maxHeartbeats 4000000 in
set_option maxRecDepth 100000 in
theorem wdivmod_zero (a : Nat) (w : World) :
    Calls Try.prog 44 #[Wd a, Wd 0] w fun e w' => e = .returned (.tuple #[Wd 0, Wd 0]) ∧ Below w.heap.size w w' := by
  have q0 := eq_zero
  have q1 := eq_guard2
  rw [wd_zero]
  conv => arg 3; unfold Wd
  go_enter Try.func44, Try.ntmps44
  go_wp2_with fail
  refine bodyPost_ret (v := .tuple #[.agg #[.int .u64 0, .int .u64 0, .int .u64 0, .int .u64 0], .agg #[.int .u64 0, .int .u64 0, .int .u64 0, .int .u64 0]]) (by simp [results, Try.results44, go_sem]) rfl ⟨rfl, ?_⟩
  repeat (first | exact Below.refl _ _ | refine Below.alloc ?_ (by simp <;> omega) _)
set_option maxHeartbeats 4000000 in
set_option maxRecDepth 100000 in
theorem wdivmod_pos (a : Nat) (ha : a < 2 ^ 256) : ∀ (k b : Nat) (_ : b < 2 ^ 256) (_ : b ≠ 0) (_ : 2 ^ 256 ≤ b * 2 ^ k) (w : World),
    Calls Try.prog 44 #[Wd a, Wd b] w fun e w' => e = .returned (.tuple #[Wd (a / b), Wd (a % b)]) ∧ Below w.heap.size w w' := by
  intro k
  induction k with
  | zero => intro b h1 _ h2 w; exact absurd h2 (by omega)
  | succ k ih =>
    intro b hb h0 hk w
    have q0 := eq_no b hb h0
    have q1 := eq_guard2
    have HL : Hid (∀ x, x < 2 ^ 256 → ∀ w : World, Calls Try.prog 35 #[Wd x, Wd b] w fun e w' => e = .returned (.bool (decide (x < b))) ∧ Below w.heap.size w w') := fun x hx w => wless_any x b hx hb w
    have HA : Hid (a < 2 ^ 256) := ha
    have HB : Hid (b < 2 ^ 256 ∧ b ≠ 0 ∧ 2 ^ 256 ≤ b * 2 ^ (k + 1)) := ⟨hb, h0, hk⟩
    obtain ⟨Q, hQ⟩ : ∃ Q, Q = a / (b + b) := ⟨_, rfl⟩
    obtain ⟨R, hR⟩ : ∃ R, R = a % (b + b) := ⟨_, rfl⟩
    have tw := twice_div a b h0
    rw [← hQ, ← hR] at tw
    have HE1 : Hid (R < b → a / b = Q + Q ∧ a % b = R) := fun h => by rw [tw.1, tw.2, if_neg (by omega), if_neg (by omega)]; exact ⟨rfl, rfl⟩
    have HE2 : Hid (¬ R < b → a / b = Q + Q + 1 ∧ a % b = R - b) := fun h => by rw [tw.1, tw.2, if_pos (by omega), if_pos (by omega)]; exact ⟨rfl, rfl⟩
    have hRa : R ≤ a := by rw [hR]; exact Nat.mod_le _ _
    have HR : Hid (R < 2 ^ 256) := Nat.lt_of_le_of_lt hRa ha
    have HS : Hid (¬ R < b → ∀ w : World, Calls Try.prog 62 #[Wd R, Wd b] w fun e w' => e = .returned (Wd (R - b)) ∧ Below w.heap.size w w') := fun h w => by
      refine (wsub_any R b hb w).mono ?_
      rintro e w' ⟨rfl, k⟩
      exact ⟨congrArg _ (Wd_congr (by omega)), k⟩
    have HT : Hid (wb b 255 = true → ¬ a < b → Q = 0 ∧ R = a) := fun h1 h2 => by
      have hb2 : 2 ^ 255 ≤ b := by
        unfold wb at h1
        have h3 := of_decide_eq_true h1
        rcases Nat.lt_or_ge b (2 ^ 255) with h4 | h4
        · rw [Nat.div_eq_of_lt h4] at h3; omega
        · exact h4
      rw [hQ, hR, Nat.div_eq_of_lt (by omega), Nat.mod_eq_of_lt (by omega)]
      exact ⟨rfl, rfl⟩
    have HI : Hid (wb b 255 = false → ∀ w : World, Calls Try.prog 44 #[Wd a, Wd (b + b)] w fun e w' => e = .returned (.tuple #[Wd Q, Wd R]) ∧ Below w.heap.size w w') := fun h1 w => by
      have hb2 : b < 2 ^ 255 := by
        unfold wb at h1
        have h3 := of_decide_eq_false h1
        rcases Nat.lt_or_ge b (2 ^ 255) with h4 | h4
        · exact h4
        · exfalso
          apply h3
          have : b / 2 ^ 255 = 1 := by
            apply Nat.div_eq_of_lt_le
            · omega
            · omega
          rw [this]
      rw [hQ, hR]
      exact ih (b + b) (by omega) (by omega) (by have hk2 : b * 2 ^ (k + 1) = b * 2 ^ k + b * 2 ^ k := (by rw [Nat.pow_succ, ← Nat.mul_assoc, Nat.mul_two]); rw [hk2] at hk; rw [Nat.add_mul]; exact hk) w
    clear hb h0 hk tw hRa hQ hR ih
    have m := M4_start w a b 24
    conv => arg 3; unfold Wd
    go_enter Try.func44, Try.ntmps44
    go_wp2_with fail
    refine (HL.out a HA.out _).mono ?_
    rintro e1 w1 ⟨rfl, hb1⟩
    replace m := M4_below m hb1
    clear hb1 q0 q1
    by_cases hlt : a < b
    · rw [decide_eq_true hlt]
      have c0 := m.v0.c
      have c2 := m.v2.c
      have c3 := m.v3.c
      have f2 := m.v2.f
      have f3 := m.v3.f
      unfold CF at c0 c2 c3
      unfold Fz at f2 f3
      have z : a / b = 0 ∧ a % b = a := ⟨Nat.div_eq_of_lt hlt, Nat.mod_eq_of_lt hlt⟩
      have HZ : Hid (a / b = 0 ∧ a % b = a) := z
      clear z
      go_wp2_with fail
      go_region
      all_goals
        go_wp2_with fail
        first
          | exact bodyPost_ret (v := .tuple #[Wd 0, Wd a]) (resultW _ w _ a b _ _ rfl rfl (M4_drew (M4_set3 (m := a) (M4_set2 (m := 0) m)))) rfl ⟨by rw [HZ.out.1, HZ.out.2], (M4_drew (M4_set3 (m := a) (M4_set2 (m := 0) m))).bel⟩
          | exact bodyPost_ret (v := .tuple #[Wd 0, Wd a]) (resultW _ w _ a b _ _ rfl rfl (M4_set3 (m := a) (M4_set2 (m := 0) (M4_drew m)))) rfl ⟨by rw [HZ.out.1, HZ.out.2], (M4_set3 (m := a) (M4_set2 (m := 0) (M4_drew m))).bel⟩
    · rw [decide_eq_false hlt]
      have c1 : ∀ o, o < 4 → w1.cell? ⟨w.heap.size + 1, o, none⟩ = some (.int .u64 (dg b o)) := m.v1.c
      go_wp2_with fail
      refine (wbit_any b 255 _ (by decide)).mono ?_
      rintro e2 w2 ⟨rfl, hb2⟩
      replace m := M4_below m hb2
      clear hb2 c1
      by_cases hw : wb b 255 = true
      · rw [hw]
        obtain ⟨t1, t2⟩ := HT.out hw hlt
        have n : M4 w a b Q 0 w2 := by rw [t1]; exact m
        have c0 := n.v0.c
        have c2 := n.v2.c
        have c3 := n.v3.c
        have f3 := n.v3.f
        unfold CF at c0 c2 c3
        unfold Fz at f3
        have n2 := M4_set3 (m := R) n
        rw [t2] at n2
        have T2 : Hid (R = a) := t2
        clear m t1 t2
        go_wp2_with fail
        refine (wadd_any Q Q _).mono ?_
        rintro e4 w4 ⟨rfl, hb4⟩
        have m4 : M4 w a b Q R w4 := by
          have k := M4_below n2 hb4
          rw [T2.out]
          exact k
        clear hb4
        have c1 := m4.v1.c
        have c2 := m4.v2.c
        have c3 := m4.v3.c
        have f2 := m4.v2.f
        unfold CF at c1 c2 c3
        unfold Fz at f2
        simp only [Wd]
        go_wp2_with fail
        refine (HL.out R HR.out _).mono ?_
        rintro e5 w5 ⟨rfl, hb5⟩
        have m5 := M4_below (M4_set2 (m := Q + Q) m4) hb5
        clear hb5 m4 c1 c2 c3 f2
        by_cases hr : R < b
        · rw [decide_eq_true hr]
          have c2 := m5.v2.c
          have c3 := m5.v3.c
          have f2 := m5.v2.f
          have f3 := m5.v3.f
          unfold CF at c2 c3
          unfold Fz at f2 f3
          go_wp2_with fail
          go_region
          all_goals
            go_wp2_with fail
            first
              | exact bodyPost_ret (v := .tuple #[Wd (Q + Q), Wd (R)]) (resultW _ w _ a b _ _ rfl rfl (M4_drew (M4_set3 (m := R) (M4_set2 (m := Q + Q) m5)))) rfl ⟨by rw [(HE1.out hr).1, (HE1.out hr).2], (M4_drew (M4_set3 (m := R) (M4_set2 (m := Q + Q) m5))).bel⟩
              | exact bodyPost_ret (v := .tuple #[Wd (Q + Q), Wd (R)]) (resultW _ w _ a b _ _ rfl rfl (M4_set3 (m := R) (M4_set2 (m := Q + Q) (M4_drew m5)))) rfl ⟨by rw [(HE1.out hr).1, (HE1.out hr).2], (M4_set3 (m := R) (M4_set2 (m := Q + Q) (M4_drew m5))).bel⟩
        · rw [decide_eq_false hr]
          have c1 := m5.v1.c
          have c2 := m5.v2.c
          have c3 := m5.v3.c
          unfold CF at c1 c2 c3
          go_wp2_with fail
          go_cut [33] (fun _ wx => M4 w a b (Q + Q + 1) (R - b) wx)
          case first =>
            go_region_with (first | (go_at_call 36; refine (wint_any 1 (by decide) _).mono ?_; rintro e6 w6 ⟨rfl, hb6⟩; have m6 := M4_below (M4_drew m5) hb6; have d1 := m6.v1.c; have d2 := m6.v2.c; have d3 := m6.v3.c; unfold CF at d1 d2 d3; clear hb6) | (go_at_call 63; refine (wadd_any (Q + Q) 1 _).mono ?_; rintro e7 w7 ⟨rfl, hb7⟩; have m7 := M4_below m6 hb7; have x1 := m7.v1.c; have x3 := m7.v3.c; unfold CF at x1 x3; clear hb7) | (go_at_call 62; refine (HS.out hr _).mono ?_; rintro e8 w8 ⟨rfl, hb8⟩; have m8 := M4_below m7 hb8; have y2 := m8.v2.c; have y3 := m8.v3.c; have g2 := m8.v2.f; have g3 := m8.v3.f; unfold CF at y2 y3; unfold Fz at g2 g3; clear hb8; simp only [Wd]))
            all_goals
              go_wp2_with fail
              go_meet
              case rel => exact M4_set3 (m := R - b) (M4_set2 (m := Q + Q + 1) m8)
          case rest =>
            clear m5 c1 c2 c3
            have m9 := hcut
            clear hcut
            have c2 := m9.v2.c
            have c3 := m9.v3.c
            have f2 := m9.v2.f
            have f3 := m9.v3.f
            unfold CF at c2 c3
            unfold Fz at f2 f3
            go_wp2_with fail
            go_region
            all_goals
              go_wp2_with fail
              first
                | exact bodyPost_ret (v := .tuple #[Wd (Q + Q + 1), Wd (R - b)]) (resultW _ w _ a b _ _ rfl rfl (M4_drew (M4_set3 (m := R - b) (M4_set2 (m := Q + Q + 1) m9)))) rfl ⟨by rw [(HE2.out hr).1, (HE2.out hr).2], (M4_drew (M4_set3 (m := R - b) (M4_set2 (m := Q + Q + 1) m9))).bel⟩
                | exact bodyPost_ret (v := .tuple #[Wd (Q + Q + 1), Wd (R - b)]) (resultW _ w _ a b _ _ rfl rfl (M4_set3 (m := R - b) (M4_set2 (m := Q + Q + 1) (M4_drew m9)))) rfl ⟨by rw [(HE2.out hr).1, (HE2.out hr).2], (M4_set3 (m := R - b) (M4_set2 (m := Q + Q + 1) (M4_drew m9))).bel⟩
      · have hw' : wb b 255 = false := by simpa using hw
        rw [hw']
        have c0 := m.v0.c
        have c1 := m.v1.c
        unfold CF at c0 c1
        go_wp2_with fail
        go_cut [19] (fun _ wx => M4 w a b Q R wx)
        case first =>
          go_region_held3 (fun w' => (∀ o, o < 4 → w'.cell? ⟨w.heap.size, o, none⟩ = some (.int .u64 (dg a o))) ∧ (∀ o, o < 4 → w'.cell? ⟨w.heap.size + 1, o, none⟩ = some (.int .u64 (dg b o)))) (first | with_reducible exact ⟨c0, c1⟩ | with_reducible exact s3 | with_reducible exact s4 | (refine ⟨?_, ?_⟩ <;> (repeat (first | with_reducible exact s4.1 | with_reducible exact s4.2 | with_reducible exact c0 | with_reducible exact c1 | (with_reducible refine K_drew ?_) | (with_reducible refine K_o4 ?_ (by omega))))))
            (first | (go_at_call 63; refine (wadd_any b b _).mono ?_; rintro e3 w3 ⟨rfl, hb3⟩; have m3 := M4_below (M4_drew m) hb3; have s3 : (∀ o, o < 4 → w3.cell? ⟨w.heap.size, o, none⟩ = some (.int .u64 (dg a o))) ∧ (∀ o, o < 4 → w3.cell? ⟨w.heap.size + 1, o, none⟩ = some (.int .u64 (dg b o))) := ⟨m3.v0.c, m3.v1.c⟩; clear hb3) | (go_at_call 44; refine (HI.out hw' _).mono ?_; rintro e4 w4 ⟨rfl, hb4⟩; have m4 := M4_below m3 hb4; have s4 : (∀ o, o < 4 → w4.cell? ⟨w.heap.size, o, none⟩ = some (.int .u64 (dg a o))) ∧ (∀ o, o < 4 → w4.cell? ⟨w.heap.size + 1, o, none⟩ = some (.int .u64 (dg b o))) := ⟨m4.v0.c, m4.v1.c⟩; have d2 := m4.v2.c; have d3 := m4.v3.c; have f2 := m4.v2.f; have f3 := m4.v3.f; unfold CF at d2 d3; unfold Fz at f2 f3; clear hb4; simp only [Wd]))
          all_goals
            go_wp2_with fail
            go_meet
            case rel => exact M4_set3 (m := R) (M4_set2 (m := Q) m4)
        case rest =>
          clear m c0 c1
          have m := hcut
          clear hcut
          have c2 := m.v2.c
          unfold CF at c2
          go_wp2_with fail
          refine (wadd_any Q Q _).mono ?_
          rintro e4 w4 ⟨rfl, hb4⟩
          have m4 := M4_below (m) hb4
          clear hb4
          have c1 := m4.v1.c
          have c2 := m4.v2.c
          have c3 := m4.v3.c
          have f2 := m4.v2.f
          unfold CF at c1 c2 c3
          unfold Fz at f2
          simp only [Wd]
          go_wp2_with fail
          refine (HL.out R HR.out _).mono ?_
          rintro e5 w5 ⟨rfl, hb5⟩
          have m5 := M4_below (M4_set2 (m := Q + Q) m4) hb5
          clear hb5 m4 c1 c2 c3 f2
          by_cases hr : R < b
          · rw [decide_eq_true hr]
            have c2 := m5.v2.c
            have c3 := m5.v3.c
            have f2 := m5.v2.f
            have f3 := m5.v3.f
            unfold CF at c2 c3
            unfold Fz at f2 f3
            go_wp2_with fail
            go_region
            all_goals
              go_wp2_with fail
              first
                | exact bodyPost_ret (v := .tuple #[Wd (Q + Q), Wd (R)]) (resultW _ w _ a b _ _ rfl rfl (M4_drew (M4_set3 (m := R) (M4_set2 (m := Q + Q) m5)))) rfl ⟨by rw [(HE1.out hr).1, (HE1.out hr).2], (M4_drew (M4_set3 (m := R) (M4_set2 (m := Q + Q) m5))).bel⟩
                | exact bodyPost_ret (v := .tuple #[Wd (Q + Q), Wd (R)]) (resultW _ w _ a b _ _ rfl rfl (M4_set3 (m := R) (M4_set2 (m := Q + Q) (M4_drew m5)))) rfl ⟨by rw [(HE1.out hr).1, (HE1.out hr).2], (M4_set3 (m := R) (M4_set2 (m := Q + Q) (M4_drew m5))).bel⟩
          · rw [decide_eq_false hr]
            have c1 := m5.v1.c
            have c2 := m5.v2.c
            have c3 := m5.v3.c
            unfold CF at c1 c2 c3
            go_wp2_with fail
            go_cut [33] (fun _ wx => M4 w a b (Q + Q + 1) (R - b) wx)
            case first =>
              go_region_with (first | (go_at_call 36; refine (wint_any 1 (by decide) _).mono ?_; rintro e6 w6 ⟨rfl, hb6⟩; have m6 := M4_below (M4_drew m5) hb6; have d1 := m6.v1.c; have d2 := m6.v2.c; have d3 := m6.v3.c; unfold CF at d1 d2 d3; clear hb6) | (go_at_call 63; refine (wadd_any (Q + Q) 1 _).mono ?_; rintro e7 w7 ⟨rfl, hb7⟩; have m7 := M4_below m6 hb7; have x1 := m7.v1.c; have x3 := m7.v3.c; unfold CF at x1 x3; clear hb7) | (go_at_call 62; refine (HS.out hr _).mono ?_; rintro e8 w8 ⟨rfl, hb8⟩; have m8 := M4_below m7 hb8; have y2 := m8.v2.c; have y3 := m8.v3.c; have g2 := m8.v2.f; have g3 := m8.v3.f; unfold CF at y2 y3; unfold Fz at g2 g3; clear hb8; simp only [Wd]))
              all_goals
                go_wp2_with fail
                go_meet
                case rel => exact M4_set3 (m := R - b) (M4_set2 (m := Q + Q + 1) m8)
            case rest =>
              clear m5 c1 c2 c3
              have m9 := hcut
              clear hcut
              have c2 := m9.v2.c
              have c3 := m9.v3.c
              have f2 := m9.v2.f
              have f3 := m9.v3.f
              unfold CF at c2 c3
              unfold Fz at f2 f3
              go_wp2_with fail
              go_region
              all_goals
                go_wp2_with fail
                first
                  | exact bodyPost_ret (v := .tuple #[Wd (Q + Q + 1), Wd (R - b)]) (resultW _ w _ a b _ _ rfl rfl (M4_drew (M4_set3 (m := R - b) (M4_set2 (m := Q + Q + 1) m9)))) rfl ⟨by rw [(HE2.out hr).1, (HE2.out hr).2], (M4_drew (M4_set3 (m := R - b) (M4_set2 (m := Q + Q + 1) m9))).bel⟩
                  | exact bodyPost_ret (v := .tuple #[Wd (Q + Q + 1), Wd (R - b)]) (resultW _ w _ a b _ _ rfl rfl (M4_set3 (m := R - b) (M4_set2 (m := Q + Q + 1) (M4_drew m9)))) rfl ⟨by rw [(HE2.out hr).1, (HE2.out hr).2], (M4_set3 (m := R - b) (M4_set2 (m := Q + Q + 1) (M4_drew m9))).bel⟩
theorem wdivmod_any (a b : Nat) (ha : a < 2 ^ 256) (hb : b < 2 ^ 256) (w : World) :
    Calls Try.prog 44 #[Wd a, Wd b] w fun e w' => e = .returned (.tuple #[Wd (a / b), Wd (md a b)]) ∧ Below w.heap.size w w' := by
  by_cases h0 : b = 0
  · subst h0
    rw [Nat.div_zero]
    exact wdivmod_zero a w
  · unfold md
    rw [if_neg h0]
    exact wdivmod_pos a ha 256 b hb h0 (Nat.le_mul_of_pos_left _ (by omega)) w
end Go.Proofs.Ytcoljaogemgnnab
