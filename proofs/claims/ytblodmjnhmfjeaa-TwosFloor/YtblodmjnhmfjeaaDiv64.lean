/- math/bits.Div64, where the divisor's uppermost bit is set: the quotient and the rest of two parts by one. -/
import Derived.Test.YtblodmjnhmfjeaaInt
import Derived.Test.YtblodmjnhmfjeaaDArith
import Derived.Deep.CutBlock
import Derived.Deep.DeepCutAuto
namespace Go.Proofs.Ytblodmjnhmfjeaa
open Go.RowKit Go.Shelf
theorem bitLen_top (y : Nat) (h : 9223372036854775808 ≤ y) (h' : y < 18446744073709551616) : Lib.bitLen y = 64 := by
  obtain ⟨h1, h2, _⟩ := bitLen_spec y h'
  have : ¬ Lib.bitLen y ≤ 63 := fun hle => by
    have := Nat.pow_le_pow_right (show 0 < 2 by decide) hle
    omega
  omega
theorem or_zero (x : Int) (h0 : 0 ≤ x) (h1 : x < 18446744073709551616) : bits .or .u64 x 0 = x := by
  have := bits_join .u64 64 (by decide) (fun n h0 h1 => wrap64u n h0 (by simpa using h1)) 0 x 0 h0 (by simp) (by simpa using h1) (by decide) (by decide) (by decide)
  simpa using this
theorem and_mask (x : Int) (h0 : 0 ≤ x) (h1 : x < 18446744073709551616) : bits .and .u64 x 4294967295 = x % 4294967296 := by
  obtain ⟨x, rfl⟩ := Int.eq_ofNat_of_zero_le h0
  have h := bits_and_u64_nat x 4294967295 (by omega) (by decide)
  rw [show (4294967295 : Nat) = 2 ^ 32 - 1 by decide, Nat.and_two_pow_sub_one_eq_mod] at h
  simpa using h
theorem wrapu (n : Int) (h0 : 0 ≤ n) (h1 : n < 18446744073709551616) : IntKind.u64.wrap n = n := wrap64u n h0 h1
theorem mul_lt32 {q v : Int} (h0 : 0 ≤ q) (h1 : q < 4294967296) (h2 : 0 ≤ v) (h3 : v < 4294967296) : q * v ≤ 4294967295 * 4294967295 := Int.mul_le_mul (by omega) (by omega) h2 (by omega)
theorem QI_up {u d y q r : Int} (h : SI u d y) (hq : QI u d y q r) : q ≤ u + 1 ∧ u < 18446744073709551616 := by
  obtain ⟨r0, e, _⟩ := hq
  obtain ⟨h1, h2, h3, h4, h5, h6⟩ := h
  refine ⟨Int.not_lt.1 fun hlt => ?_, by omega⟩
  have := Int.mul_le_mul_of_nonneg_left (show (1 : Int) ≤ y / 4294967296 by omega) (show 0 ≤ q by omega)
  omega
/-- Names for what the walk reckons between the two steps. -/
theorem next_names (hi lo d1 d0 y T : Int) (h : SI hi d1 y) (hl : lo = d1 * 4294967296 + d0 ∧ 0 ≤ d0 ∧ d0 < 4294967296) (hT : (hi * 4294967296 + d1) / y = T) : ∃ u m0 m2 m3 : Int, IntKind.u64.wrap (hi * 4294967296) = m0 ∧ IntKind.u64.wrap (m0 + d1) = m2 ∧ IntKind.u64.wrap (T * y) = m3 ∧ IntKind.u64.wrap (m2 - m3) = u ∧ u = hi * 4294967296 + d1 - T * y ∧ SI u d0 y := by
  obtain ⟨h1, h2, h3, h4, h5, h6⟩ := h
  have e := Int.mul_ediv_add_emod (hi * 4294967296 + d1) y
  have r0 := Int.emod_nonneg (hi * 4294967296 + d1) (show y ≠ 0 by omega)
  have r1 := Int.emod_lt_of_pos (hi * 4294967296 + d1) (show 0 < y by omega)
  rw [hT, Int.mul_comm] at e
  refine ⟨hi * 4294967296 + d1 - T * y, _, _, _, rfl, rfl, rfl, ?_, rfl, h1, h2, by omega, by omega, hl.2⟩
  simp only [IntKind.wrap_u64]
  generalize T * y = z at *
  omega
/-- Names for what the walk reckons behind the two steps; what they come to. -/
theorem last_names (hi lo d1 d0 y T u T0 : Int) (h : SI hi d1 y) (hl : lo = d1 * 4294967296 + d0 ∧ 0 ≤ d0 ∧ d0 < 4294967296) (hT : (hi * 4294967296 + d1) / y = T) (hu : u = hi * 4294967296 + d1 - T * y) (h' : SI u d0 y) (hT0 : (u * 4294967296 + d0) / y = T0) :
    ∃ k1 k2 k3 k4 k5 : Int, IntKind.u64.wrap (T * 4294967296) = k1 ∧ IntKind.u64.wrap (u * 4294967296) = k2 ∧ IntKind.u64.wrap (k2 + d0) = k3 ∧ IntKind.u64.wrap (T0 * y) = k4 ∧ IntKind.u64.wrap (k3 - k4) = k5 ∧ (hi * 18446744073709551616 + lo) / y = IntKind.u64.wrap (k1 + T0) ∧ (hi * 18446744073709551616 + lo) % y = k5 := by
  have hq := quo_lt h
  have hq' := quo_lt h'
  rw [hT] at hq
  rw [hT0] at hq'
  obtain ⟨h1, h2, h3, h4, h5, h6⟩ := h
  have e := Int.mul_ediv_add_emod (u * 4294967296 + d0) y
  have r0 := Int.emod_nonneg (u * 4294967296 + d0) (show y ≠ 0 by omega)
  have r1 := Int.emod_lt_of_pos (u * 4294967296 + d0) (show 0 < y by omega)
  rw [hT0, Int.mul_comm] at e
  have hN : hi * 18446744073709551616 + lo = (T * 4294967296 + T0) * y + (u * 4294967296 + d0 - T0 * y) := by
    have := hl.1
    grind
  obtain ⟨g1, g2⟩ := quo_rest (y := y) (by omega) hN (by omega) (by omega)
  refine ⟨_, _, _, _, _, rfl, rfl, rfl, rfl, rfl, ?_, ?_⟩
  · rw [g1]
    simp only [IntKind.wrap_u64]
    omega
  · rw [g2]
    simp only [IntKind.wrap_u64]
    generalize T0 * y = z at *
    omega
/-- Names for what the walk reckons ahead of a step. -/
theorem step_names (u d y : Int) (h : SI u d y) : ∃ q m r : Int, IntKind.u64.wrap (u.tdiv (y / 4294967296)) = q ∧ IntKind.u64.wrap (q * (y / 4294967296)) = m ∧ IntKind.u64.wrap (u - m) = r ∧ QI u d y q r ∧ r < 4294967296 := by
  obtain ⟨hs, hr⟩ := QI_start h
  obtain ⟨h1, h2, h3, h4, h5, h6⟩ := h
  obtain ⟨r0, e, hT⟩ := hs
  have hv : 2147483648 ≤ y / 4294967296 := by omega
  have hle : u / (y / 4294967296) * (y / 4294967296) ≤ u := by omega
  have hq0 : 0 ≤ u / (y / 4294967296) := Int.ediv_nonneg h3 (by omega)
  have hq1 : u / (y / 4294967296) ≤ u := Int.ediv_le_self _ h3
  have e1 : IntKind.u64.wrap (u.tdiv (y / 4294967296)) = u / (y / 4294967296) := by
    rw [Int.tdiv_eq_ediv_of_nonneg h3]; exact wrapu _ hq0 (by omega)
  have e2 : IntKind.u64.wrap (u / (y / 4294967296) * (y / 4294967296)) = u / (y / 4294967296) * (y / 4294967296) := wrapu _ (Int.mul_nonneg hq0 (by omega)) (by omega)
  refine ⟨_, _, _, e1, e2, ?_, ⟨r0, e, hT⟩, hr⟩
  rw [show u - u / (y / 4294967296) * (y / 4294967296) = u % (y / 4294967296) by omega]
  exact wrapu _ r0 (by omega)
set_option maxHeartbeats 1000000 in
set_option maxRecDepth 100000 in
theorem div64_any (hi lo y : Int) (hD : DI hi lo y) (w : World) :
    Calls Try.prog 60 #[.int .u64 hi, .int .u64 lo, .int .u64 y] w fun e w' => ∃ n, e = .returned (.tuple #[.int .u64 ((hi * 18446744073709551616 + lo) / y), .int .u64 ((hi * 18446744073709551616 + lo) % y)]) ∧ w' = w.drewN n := by
  have HD : Hid (DI hi lo y) := hD
  obtain ⟨hy, hy', hlo0, hlo, hhi0, hhi⟩ := hD
  have t1 : (y == 0) = false := by simp; omega
  have t2 : decide (y ≤ hi) = false := by simp; omega
  by_cases h0 : hi = 0
  · subst h0
    have t3 : (1 : Int) ≤ y := by omega
    have Hq : Hid (0 * 18446744073709551616 + lo = lo) := by show _ = _; omega
    have Hw : Hid (IntKind.u64.wrap (lo.tdiv y) = lo / y) := by
      show _ = _
      rw [Int.tdiv_eq_ediv_of_nonneg hlo0]
      have := Int.ediv_le_self y hlo0
      exact wrapu _ (Int.ediv_nonneg hlo0 (by omega)) (by omega)
    clear hy hy' hlo
    go_enter Try.func60, Try.ntmps60
    go_wp2_with fail
    go_quiet (fail)
    go_wp2_with fail
    go_ret2
    exact ⟨nq, tup2 (int_of (by rw [Hq.out]; exact Hw.out)) (int_of (by rw [Hq.out])), rfl⟩
  · have t3 : (hi == 0) = false := by simp; omega
    have e1 := bitLen_top y.toNat (by omega) (by omega)
    have x1 : IntKind.u64.wrap y = y := wrap64u _ (by omega) (by omega)
    have x2 : IntKind.u64.wrap hi = hi := wrap64u _ (by omega) (by omega)
    have x3 : IntKind.u64.wrap lo = lo := wrap64u _ (by omega) (by omega)
    have x4 : lo / 18446744073709551616 = 0 := by omega
    have x5 := or_zero hi (by omega) (by omega)
    have HS : Hid (SI hi (lo / 4294967296) y) := ⟨hy, hy', hhi0, hhi, by omega, by omega⟩
    obtain ⟨q1, m1, r1, n1, n2, n3, HQ, HR⟩ := step_names hi (lo / 4294967296) y HS.out
    have x6 := and_mask y (by omega) hy'
    have x7 := and_mask lo hlo0 hlo
    have hv2 : Hid (y / 4294967296 = y / 4294967296 ∧ 2147483648 ≤ y / 4294967296 ∧ y / 4294967296 < 4294967296) := ⟨rfl, by omega, by omega⟩
    generalize hv1 : y / 4294967296 = v1 at *
    generalize hv0 : y % 4294967296 = v0 at *
    generalize hd1 : lo / 4294967296 = d1 at *
    generalize hd0 : lo % 4294967296 = d0 at *
    have hy0 : 0 ≤ y := by omega
    have hv1' : 1 ≤ v1 := by omega
    clear hy hy' hlo h0
    go_enter Try.func60, Try.ntmps60
    go_wp2_with fail
    refine (Try.bits_LeadingZeros64 y _ hy0 (by have := HD.out.2.1; omega)).mono ?_
    rintro e w1 ⟨rfl, rfl⟩
    rw [e1]
    have HV : Hid (y / 4294967296 = v1 ∧ v1 < 4294967296 ∧ y % 4294967296 = v0) := ⟨hv1, hv2.out.2.2, hv0⟩
    have HV0 : Hid (0 ≤ v0 ∧ v0 < 4294967296) := (by omega : 0 ≤ v0 ∧ v0 < 4294967296)
    have HL : Hid (lo = d1 * 4294967296 + d0 ∧ 0 ≤ d0 ∧ d0 < 4294967296) := (by omega : lo = d1 * 4294967296 + d0 ∧ 0 ≤ d0 ∧ d0 < 4294967296)
    obtain ⟨T, hT⟩ : ∃ T, (hi * 4294967296 + d1) / y = T := ⟨_, rfl⟩
    have HT : Hid ((hi * 4294967296 + d1) / y = T) := hT
    have HQ1 : Hid (QI hi d1 y q1 r1 ∧ r1 < 4294967296) := ⟨HQ, HR⟩
    clear hT HQ HR
    go_upto_block 0 with fail
    clear hv1 hv0 hd1 hd0 n1 n2 n3 x1 x2 x3 x4 x5 x6 x7 e1 hv2
    go_cut [15, 16] (fun q r wx => q = .int .u64 T ∧ (∃ rv, r = .int .u64 rv) ∧ wx = w1)
    case first =>
      go_wp2_with fail
      go_loop [15, 16] (fun q r => ∃ qv rv : Int, q = .int .u64 qv ∧ r = .int .u64 rv ∧ Hid (QI hi d1 y qv rv ∧ rv < 4294967296)) (fun q _ => (intOf q).toNat)
      case atStart => exact ⟨q1, r1, rfl, rfl, HQ1.out.1, HQ1.out.2⟩
      case round =>
        obtain ⟨qv, rv, rfl, rfl, hI⟩ := hrel
        have hr0 : 0 ≤ rv := hI.out.1.1
        have hq0 : 0 ≤ qv := Int.le_trans (quo_lt HS.out).2 hI.out.1.2.2
        have a2 : IntKind.u64.wrap (rv + v1) = rv + v1 := wrapu _ (by omega) (by have := hI.out.2; have := HV.out; omega)
        by_cases hA : 4294967296 ≤ qv
        · obtain ⟨hN, hq1⟩ := QI_big HS.out hI.out.1 (Or.inl hA)
          have a1 : IntKind.u64.wrap (qv - 1) = qv - 1 := wrapu _ (by omega) (by have := QI_up HS.out hI.out.1; omega)
          rw [HV.out.1] at hN
          have HN : Hid (QI hi d1 y (qv - 1) (rv + v1)) := hN
          clear hN
          by_cases hB : 4294967296 ≤ rv + v1
          · have hE := QI_break HS.out HN.out hB
            rw [HT.out] at hE
            have HE : Hid (qv - 1 = T) := hE
            clear hE
            go_wp2_with fail
            go_meet
            case rel => exact ⟨by rw [HE.out], ⟨_, rfl⟩, rfl⟩
          · go_wp2_with fail
            go_round
            case rel => exact ⟨qv - 1, rv + v1, rfl, rfl, HN.out, by omega⟩
            case measure => simp [intOf]; omega
        · have b1 : IntKind.u64.wrap (qv * v0) = qv * v0 := wrapu _ (Int.mul_nonneg hq0 HV0.out.1) (by have := mul_lt32 hq0 (by omega : qv < 4294967296) HV0.out.1 HV0.out.2; omega)
          have b2 : IntKind.u64.wrap (4294967296 * rv) = 4294967296 * rv := wrapu _ (by omega) (by have := hI.out.2; omega)
          have b3 : IntKind.u64.wrap (4294967296 * rv + d1) = 4294967296 * rv + d1 := wrapu _ (by have := HS.out.2.2.2.2; omega) (by have := hI.out.2; have := HS.out.2.2.2.2; omega)
          obtain ⟨pq, hpq⟩ : ∃ pq, pq = qv * v0 := ⟨_, rfl⟩
          replace b1 := b1.trans hpq.symm
          by_cases hC : 4294967296 * rv + d1 < pq
          · obtain ⟨hN, hq1⟩ := QI_big HS.out hI.out.1 (Or.inr (by rw [HV.out.2.2, ← hpq]; exact hC))
            have a1 : IntKind.u64.wrap (qv - 1) = qv - 1 := wrapu _ (by omega) (by omega)
            rw [HV.out.1] at hN
            have HN : Hid (QI hi d1 y (qv - 1) (rv + v1)) := hN
            clear hN hpq
            by_cases hB : 4294967296 ≤ rv + v1
            · have hE := QI_break HS.out HN.out hB
              rw [HT.out] at hE
              have HE : Hid (qv - 1 = T) := hE
              clear hE
              go_wp2_with fail
              go_meet
              case rel => exact ⟨by rw [HE.out], ⟨_, rfl⟩, rfl⟩
            · go_wp2_with fail
              go_round
              case rel => exact ⟨qv - 1, rv + v1, rfl, rfl, HN.out, by omega⟩
              case measure => simp [intOf]; omega
          · have hE := QI_done HS.out hI.out.1 (by rw [HV.out.2.2, ← hpq]; omega)
            rw [HT.out] at hE
            have HE : Hid (qv = T) := hE
            clear hE hpq
            go_wp2_with fail
            go_meet
            case rel => exact ⟨by rw [HE.out], ⟨_, rfl⟩, rfl⟩
    case rest =>
      obtain ⟨rfl, ⟨rv, rfl⟩, rfl⟩ := hcut
      obtain ⟨u, m0, m2, m3, c1, c2, c3, c4, hu, hSu⟩ := next_names hi lo d1 d0 y T HS.out HL.out HT.out
      obtain ⟨q0, m4, r0, n1, n2, n3, HQ, HR⟩ := step_names u d0 y hSu
      rw [HV.out.1] at n1 n2
      obtain ⟨T0, hT0⟩ : ∃ T0, (u * 4294967296 + d0) / y = T0 := ⟨_, rfl⟩
      have HT0 : Hid ((u * 4294967296 + d0) / y = T0) := hT0
      have HQ0 : Hid (QI u d0 y q0 r0 ∧ r0 < 4294967296) := ⟨HQ, HR⟩
      have HS0 : Hid (SI u d0 y) := hSu
      have Hu : Hid (u = hi * 4294967296 + d1 - T * y) := hu
      clear hT0 HQ HR hSu hu
      go_upto_block 2 with fail
      clear c1 c2 c3 c4 n1 n2 n3
      go_cut [18, 16] (fun q r wx => q = .int .u64 T0 ∧ (∃ rv, r = .int .u64 rv) ∧ wx = wc)
      case first =>
        go_wp2_with fail
        go_loop [18, 16] (fun q r => ∃ qv rv : Int, q = .int .u64 qv ∧ r = .int .u64 rv ∧ Hid (QI u d0 y qv rv ∧ rv < 4294967296)) (fun q _ => (intOf q).toNat)
        case atStart => exact ⟨q0, r0, rfl, rfl, HQ0.out.1, HQ0.out.2⟩
        case round =>
          obtain ⟨qv, rv, rfl, rfl, hI⟩ := hrel
          have hr0 : 0 ≤ rv := hI.out.1.1
          have hq0 : 0 ≤ qv := Int.le_trans (quo_lt HS0.out).2 hI.out.1.2.2
          have a2 : IntKind.u64.wrap (rv + v1) = rv + v1 := wrapu _ (by omega) (by have := hI.out.2; have := HV.out; omega)
          by_cases hA : 4294967296 ≤ qv
          · obtain ⟨hN, hq1⟩ := QI_big HS0.out hI.out.1 (Or.inl hA)
            have a1 : IntKind.u64.wrap (qv - 1) = qv - 1 := wrapu _ (by omega) (by have := QI_up HS0.out hI.out.1; omega)
            rw [HV.out.1] at hN
            have HN : Hid (QI u d0 y (qv - 1) (rv + v1)) := hN
            clear hN
            by_cases hB : 4294967296 ≤ rv + v1
            · have hE := QI_break HS0.out HN.out hB
              rw [HT0.out] at hE
              have HE : Hid (qv - 1 = T0) := hE
              clear hE
              go_wp2_with fail
              go_meet
              case rel => exact ⟨by rw [HE.out], ⟨_, rfl⟩, rfl⟩
            · go_wp2_with fail
              go_round
              case rel => exact ⟨qv - 1, rv + v1, rfl, rfl, HN.out, by omega⟩
              case measure => simp [intOf]; omega
          · have b1 : IntKind.u64.wrap (qv * v0) = qv * v0 := wrapu _ (Int.mul_nonneg hq0 HV0.out.1) (by have := mul_lt32 hq0 (by omega : qv < 4294967296) HV0.out.1 HV0.out.2; omega)
            have b2 : IntKind.u64.wrap (4294967296 * rv) = 4294967296 * rv := wrapu _ (by omega) (by have := hI.out.2; omega)
            have b3 : IntKind.u64.wrap (4294967296 * rv + d0) = 4294967296 * rv + d0 := wrapu _ (by have := HS0.out.2.2.2.2; omega) (by have := hI.out.2; have := HS0.out.2.2.2.2; omega)
            obtain ⟨pq, hpq⟩ : ∃ pq, pq = qv * v0 := ⟨_, rfl⟩
            replace b1 := b1.trans hpq.symm
            by_cases hC : 4294967296 * rv + d0 < pq
            · obtain ⟨hN, hq1⟩ := QI_big HS0.out hI.out.1 (Or.inr (by rw [HV.out.2.2, ← hpq]; exact hC))
              have a1 : IntKind.u64.wrap (qv - 1) = qv - 1 := wrapu _ (by omega) (by omega)
              rw [HV.out.1] at hN
              have HN : Hid (QI u d0 y (qv - 1) (rv + v1)) := hN
              clear hN hpq
              by_cases hB : 4294967296 ≤ rv + v1
              · have hE := QI_break HS0.out HN.out hB
                rw [HT0.out] at hE
                have HE : Hid (qv - 1 = T0) := hE
                clear hE
                go_wp2_with fail
                go_meet
                case rel => exact ⟨by rw [HE.out], ⟨_, rfl⟩, rfl⟩
              · go_wp2_with fail
                go_round
                case rel => exact ⟨qv - 1, rv + v1, rfl, rfl, HN.out, by omega⟩
                case measure => simp [intOf]; omega
            · have hE := QI_done HS0.out hI.out.1 (by rw [HV.out.2.2, ← hpq]; omega)
              rw [HT0.out] at hE
              have HE : Hid (qv = T0) := hE
              clear hE hpq
              go_wp2_with fail
              go_meet
              case rel => exact ⟨by rw [HE.out], ⟨_, rfl⟩, rfl⟩
      case rest =>
        obtain ⟨rfl, ⟨rv', rfl⟩, rfl⟩ := hcut
        obtain ⟨k1, k2, k3, k4, k5, f1, f2, f3, f4, f5, f6, f7⟩ := last_names hi lo d1 d0 y T u T0 HS.out HL.out HT.out Hu.out HS0.out HT0.out
        go_wp2_with fail
        go_ret2
        exact ⟨0, tup2 (int_of f6.symm) (int_of f7.symm), rfl⟩
end Go.Proofs.Ytblodmjnhmfjeaa
