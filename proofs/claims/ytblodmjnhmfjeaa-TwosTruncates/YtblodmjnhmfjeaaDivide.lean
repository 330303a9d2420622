/- word.divide: the long division of eight parts by a word. -/
import Derived.Test.YtblodmjnhmfjeaaDivideA
namespace Go.Proofs.Ytblodmjnhmfjeaa
open Go.RowKit Go.Shelf
attribute [local go_sem ↓] Go.wp_at_zero Go.wp_at_succ
theorem resultD (tm : Array Value) (W : World) (g h x y : Nat) (h4 : tm.getD 4 undef = .pointer (some ⟨g, 0, none⟩)) (h5 : tm.getD 5 undef = .pointer (some ⟨h, 0, none⟩)) (cg : CF g 8 (dg x) W) (ch : C4 h y W) : (results Try.f42 tm).run Try.prog W = .ok (.tuple #[Wi x, Wd y]) W := by
  have c1 : ∀ o, o < 8 → W.cell? ⟨g, o, none⟩ = some (.int .u64 (dg x o)) := cg
  have c2 : ∀ o, o < 4 → W.cell? ⟨h, o, none⟩ = some (.int .u64 (dg y o)) := ch
  simp at h4 h5
  simp [Wi, Wd, results, Try.results42, go_sem, h4, h5, c1, c2]
set_option maxHeartbeats 4000000 in
set_option maxRecDepth 100000 in
theorem divide_any (a b e : Nat) (he : e = 512) (ha : a < 2 ^ e) (hb : b < 2 ^ 256) (h0 : b ≠ 0) (w : World) :
    Calls Try.prog 42 #[Wi a, Wd b] w fun e w' => e = .returned (.tuple #[Wi (a / b), Wd (a % b)]) ∧ Below w.heap.size w w' := by
  have q0 := eq_no b hb h0
  have q1 := eq_guard2
  have HA : Hid (e = 512 ∧ a < 2 ^ e) := ⟨he, ha⟩
  have HB : Hid (b < 2 ^ 256 ∧ b ≠ 0) := ⟨hb, h0⟩
  clear he ha hb h0
  have hD := D0_start w a b 39 24
  conv => arg 3; unfold Wi Wd
  go_enter Try.func42, Try.ntmps42
  go_wp2_with fail
  refine (bitlen_any b HB.out.1 _).mono ?_
  rintro e1 w1 ⟨L, rfl, hL, hb1⟩
  replace hD := D0_below hD hb1
  clear hb1 q0 q1
  obtain ⟨n1, n2, n3, n4⟩ := top_part b L HB.out.2 hL
  obtain ⟨n, hn⟩ : ∃ n, n = (L + 63) / 64 := ⟨_, rfl⟩
  rw [← hn] at n1 n2 n3 n4
  have hL2 : (L : Int) ≤ 256 := by have := hL.1; omega
  have tn : ((L : Int) + 63) / 64 = (n : Int) := by omega
  obtain ⟨m1, m2, m3, m4⟩ := top_shift b n n1 n3 n4
  have hnn := dg_nn b (n - 1)
  have HU : Hid (dg b (n - 1) ≤ 18446744073709551615) := by have := dg_lt b (n - 1); show _ ≤ _; omega
  obtain ⟨s, hs⟩ : ∃ s, s = 64 - Lib.bitLen (dg b (n - 1)).toNat := ⟨_, rfl⟩
  rw [← hs] at m3 m4
  have ts : (64 : Int) - (Lib.bitLen (dg b (n - 1)).toNat : Int) = (s : Int) := by omega
  have hs64 : s < 64 := by omega
  obtain ⟨P, hP⟩ : ∃ P : Nat, P = 2 ^ s := ⟨_, rfl⟩
  have up := pow_U s hs64
  have wp : IntKind.u64.wrap (2 ^ s) = (P : Int) := by rw [wrapu _ up.1 up.2, hP]; simp
  rw [← hP] at m3 m4
  have HP : Hid (P = 2 ^ s) := hP
  have hPM : Hid (P < 18446744073709551616) := by
    have h2 : ((2 ^ s : Nat) : Int) = (2 : Int) ^ s := by simp
    have := up.2
    rw [← h2, ← hP] at this
    show _ < _
    omega
  have H3 : Hid (2 ^ (64 * (n - 1)) ≤ b) := n3
  have H4 : Hid (b * P < 2 ^ (64 * n)) := m3
  have H5 : Hid (9223372036854775808 ≤ dg (b * P) (n - 1)) := m4
  clear hP hn hs n3 n4 m1 m2 m3 m4 up hL
  have cB1 := hD.cB (n - 1) (by omega)
  have z0 := hD.sz
  have wn : IntKind.i64.wrap ((n : Int) - 1) = (n : Int) - 1 := by rw [IntKind.wrap_i64]; omega
  have tn1 : ((n : Int) - 1).toNat = n - 1 := by omega
  have k1 : (1 : Int) ≤ n := by omega
  have k2 : (n : Int) ≤ 4 := by omega
  have k3 : (n : Int) - 1 < 4 := by omega
  go_wp2_with fail
  refine (Try.bits_LeadingZeros64 (dg b (n - 1)) _ hnn HU.out).mono ?_
  rintro e1 w2 ⟨rfl, hw2⟩
  subst hw2
  rw [ts]
  have cB2 : ∀ o, o < 4 → w2.cell? ⟨w.heap.size + 1, o, none⟩ = some (.int .u64 (dg b o)) := hD.cB
  go_wp2_with fail
  clear ts tn wn tn1 cB1
  go_cut [25] (fun _ wx => D0 w a (b * P) (fun _ => 0) wx)
  case first =>
    go_region_with (first | (go_at_call 16; refine (int_any P hPM.out _).mono ?_; rintro e1 w3 ⟨rfl, hb3⟩; (first | (have hD3 := D0_below (D0_drew hD) hb3) | (have hD3 := D0_below hD hb3)); have c3 : ∀ o, o < 4 → w3.cell? ⟨w.heap.size + 1, o, none⟩ = some (.int .u64 (dg b o)) := hD3.cB) | (go_at_call 15; refine (mul_mod b P _).mono ?_; rintro e1 w4 ⟨rfl, hb4⟩; have hD4 := D0_below hD3 hb4; have c4 : ∀ o, o < 4 → w4.cell? ⟨w.heap.size + 1, o, none⟩ = some (.int .u64 (dg b o)) := hD4.cB; have f4 : ∀ o, w4.frozen? ⟨w.heap.size + 1, o, none⟩ = false := hD4.fB; simp only [Wd]))
    all_goals
      go_wp2_with fail
      go_meet
      case rel => exact D0_setB hD4
  case rest =>
    clear hD cB2 wp hPM
    have hD := hcut
    clear hcut
    have cA2 : ∀ o, o < 8 → wc.cell? ⟨w.heap.size, o, none⟩ = some (.int .u64 (dg a o)) := hD.cA
    go_wp2_with fail
    have hl8 : lowp a 8 = a := by
      obtain ⟨he, hae⟩ := HA.out
      unfold lowp
      rw [Nat.mod_eq_of_lt]
      rw [show 64 * 8 = e by omega]
      exact hae
    refine (movedup_any a s hs64 hl8 _).mono ?_
    rintro e1 w5 ⟨rfl, hb5⟩
    clear hl8 cA2
    replace hD := D0_below hD hb5
    clear hb5
    rw [← HP.out]
    simp only [Rs]
    go_wp2_with fail
    have z5 := hD.sz
    have cL := C9_alloc (a * P) w5 61
    have fL := Fz_alloc w5 #[.int .u64 (dg (a * P) 0), .int .u64 (dg (a * P) 1), .int .u64 (dg (a * P) 2), .int .u64 (dg (a * P) 3), .int .u64 (dg (a * P) 4), .int .u64 (dg (a * P) 5), .int .u64 (dg (a * P) 6), .int .u64 (dg (a * P) 7), .int .u64 (dg (a * P) 8)] 61
    replace hD := D0_al hD (.cells #[.int .u64 (dg (a * P) 0), .int .u64 (dg (a * P) 1), .int .u64 (dg (a * P) 2), .int .u64 (dg (a * P) 3), .int .u64 (dg (a * P) 4), .int .u64 (dg (a * P) 5), .int .u64 (dg (a * P) 6), .int .u64 (dg (a * P) 7), .int .u64 (dg (a * P) 8)] 61)
    have hg5 : w5.heap.size < (w5.alloc (.cells #[.int .u64 (dg (a * P) 0), .int .u64 (dg (a * P) 1), .int .u64 (dg (a * P) 2), .int .u64 (dg (a * P) 3), .int .u64 (dg (a * P) 4), .int .u64 (dg (a * P) 5), .int .u64 (dg (a * P) 6), .int .u64 (dg (a * P) 7), .int .u64 (dg (a * P) 8)] 61)).heap.size := by simp
    have hV := DV_start HA.out.1 n1 n2 HA.out.2 H3.out hs64
    rw [← HP.out] at hV
    have VB : Hid (vr (dg (b * P)) 0 n = ((b * P : Nat) : Int)) := by
      show _ = _
      rw [vr_low]; unfold lowp; rw [Nat.mod_eq_of_lt H4.out]
    have hbP : 0 < b * P := Nat.mul_pos (by have := HB.out.2; omega) (by rw [HP.out]; exact Nat.two_pow_pos s)
    have HBP : Hid (0 < ((b * P : Nat) : Int) ∧ ((b * P : Nat) : Int) < Mp n) := ⟨by omega, by unfold Mp; exact Int.ofNat_lt.2 H4.out⟩
    clear hbP
    go_loopw [9] (fun jv wr => ∃ (k : Nat) (F Q : Nat → Int), k + n ≤ 9 ∧ jv = .int .i64 ((k : Int) - 1) ∧ Hid (DV ((a * P : Nat) : Int) ((b * P : Nat) : Int) n k F Q) ∧ D0 w a (b * P) Q wr ∧ CF w5.heap.size 9 F wr ∧ Fz w5.heap.size wr ∧ w5.heap.size < wr.heap.size) (fun jv _ => (intOf jv + 1).toNat)
    case atStart => exact ⟨9 - n, dg (a * P), fun _ => 0, by omega, int_of (by omega), hV, hD, cL, fL, hg5⟩
    case round =>
      clear hV hD cL fL hg5
      obtain ⟨k, F, Q, hk, hi, hV, hD, cL, fL, hg5⟩ := hrel
      cases k with
      | zero =>
        subst hi
        obtain ⟨d1, d2⟩ := DV_end hV.out (by omega) (by have := HBP.out.1; omega)
        have hPp : 0 < P := by rw [HP.out]; exact Nat.two_pow_pos s
        rw [Nat.mul_mod_mul_right] at d1
        rw [Nat.mul_div_mul_right _ _ hPp] at d2
        have sQ : CF (w.heap.size + 1 + 1) 8 (dg (a / b)) wr := CF_ext hD.cQ d2
        have sL : CF w5.heap.size 9 (dg (a % b * P)) wr := CF_ext cL d1
        have hmd : a % b * P / 2 ^ s = a % b := by rw [HP.out, Nat.mul_div_cancel _ (Nat.two_pow_pos s)]
        have HMD : Hid (a % b * P / 2 ^ s = a % b) := hmd
        have zz := hD.sz
        clear d1 d2 hmd hV cL fL
        have c8 : ∀ o, o < 8 → wr.cell? ⟨w.heap.size + 1 + 1, o, none⟩ = some (.int .u64 (dg (a / b) o)) := sQ
        go_wp2_with fail
        go_region_with (first | (go_at_call 56; refine (moveddown_any w5.heap.size (a % b * P) s hs64 wr.drew hg5 (CF_drew sL)).mono ?_; rintro e2 w7 ⟨rfl, hb7⟩; have hD7 := D0_below (D0_drew hD) hb7; have s7 := CF_below (CF_drew sQ) hb7 (by simp; omega); have c9 : ∀ o, o < 8 → w7.cell? ⟨w.heap.size + 1 + 1, o, none⟩ = some (.int .u64 (dg (a / b) o)) := s7; have c7 : ∀ o, o < 4 → w7.cell? ⟨w.heap.size + 1 + 1 + 1, o, none⟩ = some (.int .u64 (dg 0 o)) := hD7.cR; have f7 : ∀ o, w7.frozen? ⟨w.heap.size + 1 + 1 + 1, o, none⟩ = false := hD7.fR; have f8 : ∀ o, w7.frozen? ⟨w.heap.size + 1 + 1, o, none⟩ = false := hD7.fQ; have z7 := hD7.sz; rw [HMD.out]; simp only [Wd]))
        all_goals
          go_wp2_with fail
          refine bodyPost_ret (v := .tuple #[Wi (a / b), Wd (a % b)]) (resultD _ _ (w.heap.size + 1 + 1) (w.heap.size + 1 + 1 + 1) _ _ rfl rfl (CF_other (CF_other (CF_other (CF_other (C8_set s7) (by dsimp only; omega)) (by dsimp only; omega)) (by dsimp only; omega)) (by dsimp only; omega)) (C4_set (C4_other (C4_other (C4_other (C4_other (C4_other (C4_other (C4_other (C4_other hD7.cR (by dsimp only; omega)) (by dsimp only; omega)) (by dsimp only; omega)) (by dsimp only; omega)) (by dsimp only; omega)) (by dsimp only; omega)) (by dsimp only; omega)) (by dsimp only; omega)))) rfl ⟨rfl, ?_⟩
          exact ((((((((((((hD7.bel.setCell (by dsimp only; omega) _).setCell (by dsimp only; omega) _).setCell (by dsimp only; omega) _).setCell (by dsimp only; omega) _).setCell (by dsimp only; omega) _).setCell (by dsimp only; omega) _).setCell (by dsimp only; omega) _).setCell (by dsimp only; omega) _).setCell (by dsimp only; omega) _).setCell (by dsimp only; omega) _).setCell (by dsimp only; omega) _).setCell (by dsimp only; omega) _)
      | succ j =>
        have e1 : ((j + 1 : Nat) : Int) - 1 = (j : Int) := by omega
        rw [e1] at hi
        subst hi
        clear e1
        have c4 : ∀ o, o < 4 → wr.cell? ⟨w.heap.size + 1, o, none⟩ = some (.int .u64 (dg (b * P) o)) := hD.cB
        go_wp2_with fail
        refine (takeoff_any w5.heap.size (b * P) n j F _ n1 n2 (by omega) hg5 hV.out.1 H5.out (by rw [VB.out]; exact HBP.out.1) (by rw [VB.out]; exact DV_lt hV.out) cL fL).mono ?_
        rintro e2 w6 ⟨G, rfl, g1, g2, g3, g4, g5, g6⟩
        have hV' := DV_step hV.out n1 (by omega) HBP.out.1 HBP.out.2 g1 g2 (by rw [g3, VB.out]) rfl
        rw [VB.out]
        have HV' : Hid (DV ((a * P : Nat) : Int) ((b * P : Nat) : Int) n j G (upd Q j (vr F j (n + 1) / ((b * P : Nat) : Int)))) := hV'
        clear hV' g3 c4
        generalize vr F j (n + 1) / ((b * P : Nat) : Int) = t at *
        replace hD := D0_gb hD g6 z5
        have hg6 : w5.heap.size < w6.heap.size := Nat.lt_of_lt_of_le hg5 g6.size
        clear g6 cL fL
        have cq := hD.cQ j (by omega)
        have fq := hD.fQ j
        have j8 : (j : Int) < 8 := by omega
        go_wp2_with fail
        go_roundw
        case rel => exact ⟨j, G, upd Q j t, by omega, by go_num, HV', D0_setQ hD (by omega), CF_other g4 (by dsimp only; omega), Fz_set g5, by simpa using hg6⟩
        case measure => simp [intOf]
end Go.Proofs.Ytblodmjnhmfjeaa
