/- (*word.rest).takeOff: a word is taken off a row of parts as often as it goes. -/
import Derived.Test.YtblodmjnhmfjeaaTakeA
import Derived.Deep.DeepCutAuto
namespace Go.Proofs.Ytblodmjnhmfjeaa
open Go.RowKit Go.Shelf
attribute [local go_sem ↓] Go.wp_at_zero Go.wp_at_succ
theorem Fz_gb {g h : Nat} {w w' : World} (c : Fz h w) (k : w.grownBy w' (some g)) (hne : h ≠ g) (hlt : h < w.heap.size) : Fz h w' := fun o => (World.frozen?_of_block (a := ⟨h, o, none⟩) (k.block h hlt (fun e => hne (by simpa using e)))).trans (c o)
set_option maxHeartbeats 4000000 in
set_option maxRecDepth 100000 in
theorem takeoff_any (g bn n j : Nat) (F : Nat → Int) (w : World) (hn1 : 1 ≤ n) (hn : n ≤ 4) (hj : j + n ≤ 8) (hg : g < w.heap.size) (hU : ∀ o, U (F o)) (htop : 9223372036854775808 ≤ dg bn (n - 1)) (hB : 0 < vr (dg bn) 0 n) (hA : vr F j (n + 1) < vr (dg bn) 0 n * 18446744073709551616) (hF : CF g 9 F w) (hz : Fz g w) :
    Calls Try.prog 55 #[.pointer (some ⟨g, 0, none⟩), Wd bn, .int .i64 n, .int .i64 j] w fun e w' => ∃ (G : Nat → Int), e = .returned (.int .u64 (vr F j (n + 1) / vr (dg bn) 0 n)) ∧ (∀ o, U (G o)) ∧ (∀ o, o < j ∨ j + n < o → G o = F o) ∧ vr G j (n + 1) = vr F j (n + 1) % vr (dg bn) 0 n ∧ CF g 9 G w' ∧ Fz g w' ∧ w.grownBy w' (some g) := by
  have HT : Hid (9223372036854775808 ≤ dg bn (n - 1)) := htop
  have HB : Hid (0 < vr (dg bn) 0 n) := hB
  have HA : Hid (vr F j (n + 1) < vr (dg bn) 0 n * 18446744073709551616) := hA
  clear htop hB hA
  conv => arg 3; unfold Wd
  have cB0 : C4 w.heap.size bn (w.alloc (.cells #[.int .u64 (dg bn 0), .int .u64 (dg bn 1), .int .u64 (dg bn 2), .int .u64 (dg bn 3)] 24)) := C4_alloc bn w _
  have cF0 : CF g 9 F (w.alloc (.cells #[.int .u64 (dg bn 0), .int .u64 (dg bn 1), .int .u64 (dg bn 2), .int .u64 (dg bn 3)] 24)) := CF_below hF ((Below.refl _ _).alloc (Nat.le_refl _) _) hg
  have fF0 : Fz g (w.alloc (.cells #[.int .u64 (dg bn 0), .int .u64 (dg bn 1), .int .u64 (dg bn 2), .int .u64 (dg bn 3)] 24)) := Fz_al hz hg _
  have gb0 : w.grownBy (w.alloc (.cells #[.int .u64 (dg bn 0), .int .u64 (dg bn 1), .int .u64 (dg bn 2), .int .u64 (dg bn 3)] 24)) (some g) := gb_alloc _ _ _
  have d1 := cF0 (j + n) (by omega)
  have d2 := cF0 (j + n - 1) (by omega)
  have d3 := cB0 (n - 1) (by omega)
  have wjn : IntKind.i64.wrap ((j : Int) + n) = (j : Int) + n := by rw [IntKind.wrap_i64]; omega
  have wjm : IntKind.i64.wrap ((j : Int) + n - 1) = (j : Int) + n - 1 := by rw [IntKind.wrap_i64]; omega
  have wnm : IntKind.i64.wrap ((n : Int) - 1) = (n : Int) - 1 := by rw [IntKind.wrap_i64]; omega
  have tjn : ((j : Int) + n).toNat = j + n := by omega
  have tjm : ((j : Int) + n - 1).toNat = j + n - 1 := by omega
  have tnm : ((n : Int) - 1).toNat = n - 1 := by omega
  have b1 : (0 : Int) ≤ (j : Int) + n := by omega
  have b2 : (j : Int) + n < 9 := by omega
  have b3 : (0 : Int) ≤ (j : Int) + n - 1 := by omega
  have b4 : (j : Int) + n - 1 < 9 := by omega
  have b5 : (0 : Int) ≤ (n : Int) - 1 := by omega
  have b6 : (n : Int) - 1 < 4 := by omega
  have b7 : (1 : Int) ≤ (j : Int) + n := by omega
  have b8 : (1 : Int) ≤ (n : Int) := by omega
  have b9 : (j : Int) + n < 9 + 1 := by omega
  have b10 : (n : Int) < 4 + 1 := by omega
  have b11 : 1 ≤ j + n := by omega
  have b12 : j + n - 1 < 9 := by omega
  have b13 : n - 1 < 4 := by omega
  go_enter Try.func55, Try.ntmps55
  go_wp2_with fail
  go_region_held3 (fun w' => w'.cell? ⟨g, j + n, none⟩ = some (.int .u64 (F (j + n))) ∧ w'.cell? ⟨g, j + n - 1, none⟩ = some (.int .u64 (F (j + n - 1))) ∧ w'.cell? ⟨w.heap.size, n - 1, none⟩ = some (.int .u64 (dg bn (n - 1)))) (first | exact ⟨d1, d2, d3⟩ | (simp [d1, d2, d3]; done))
    (first | (go_at_call 58; refine (guess_any (F (j + n)) (F (j + n - 1)) (dg bn (n - 1)) (hU _) (hU _) (U_dg _ _) HT.out _).mono ?_; rintro e w1 ⟨t0, nq, rfl, hG, hw1⟩; subst hw1))
  have hQ := quo_guess hn1 hU (fun o => U_dg bn o) HB.out HA.out hG
  have HQ : Hid (vr F j (n + 1) / vr (dg bn) 0 n ≤ t0) := hQ
  have ut := hG.1
  clear hQ hG d1 d2 d3 wjm wnm tjm tnm b3 b4 b5 b6 b7 b8 b9 b10 b11 b12 b13
  rename_i hHeld
  clear hHeld
  go_wp2_with fail
  go_loopw [10, 11, 35] (fun cv dv s wr => ∃ (i : Nat) (G : Nat → Int) (c d : Int), i ≤ n ∧ s = .int .i64 i ∧ cv = .int .u64 c ∧ dv = .int .u64 d ∧ TI F (dg bn) t0 j i G c d ∧ C4 w.heap.size bn wr ∧ CF g 9 G wr ∧ Fz g wr ∧ w.heap.size < wr.heap.size ∧ w.grownBy wr (some g)) (fun _ _ s _ => (n - intOf s).toNat)
  case atStart =>
    refine ⟨0, F, 0, 0, by omega, rfl, rfl, rfl, TI_start hU, cB0, cF0, fF0, by simp, ?_⟩
    exact gb_trans gb0 (gb_below (below_drewN (Below.refl _ _) _))
  case round =>
    clear cB0 cF0 fF0 gb0
    obtain ⟨i, G, c, d, hi, rfl, rfl, rfl, hA, cB, cF, fF, hs, hk⟩ := hrel
    by_cases hlt : i < n
    · have hcf := cF (j + i) (by omega)
      have hcb := cB i (by omega)
      have hff := fF (j + i)
      have wji : IntKind.i64.wrap ((j : Int) + i) = (j : Int) + i := by rw [IntKind.wrap_i64]; omega
      have tji : ((j : Int) + i).toNat = j + i := by omega
      have b3 : (0 : Int) ≤ (j : Int) + i := by omega
      have b4 : (j : Int) + i < 9 := by omega
      have i1 : (i : Int) < 4 := by omega
      have x0 : 0 ≤ G (j + i) := (hA.1 _).1
      have d0 : 0 ≤ d := by have := hA.2.2.1; omega
      have d1 : d ≤ 1 := by have := hA.2.2.1; omega
      go_wp2_with fail
      refine (muladd_ex t0 (dg bn i) c 0 _ ut (U_dg bn i) hA.2.1 U_zero).mono ?_
      rintro e w2 ⟨h, l, rfl, uh, ul, he, hw2⟩
      subst hw2
      have hA' := TI_step hA uh ul rfl he.out
      have l0 : 0 ≤ l := ul.1
      have L1 : Hid (l < 18446744073709551616) := ul.2
      clear he
      go_wp2_with fail
      go_region_with (simp only [sub64 (G (j + i)) l d x0 l0 L1.out d0 d1])
      all_goals
        have hs' : w.heap.size < (w2.setCell ⟨g, j + i, none⟩ (.int .u64 (df (G (j + i)) l d))).drew.heap.size := by simp; omega
        have hk' := gb_trans hk (gb_trans (gb_set w2 g (j + i) (.int .u64 (df (G (j + i)) l d))) (gb_drew _ _))
        go_wp2_with fail
        go_roundw
        case rel => first | exact ⟨i + 1, upd G (j + i) (df (G (j + i)) l d), h, bo (G (j + i)) l d, by omega, by go_num, rfl, rfl, hA', C4_drew (C4_other cB (by dsimp only; omega)), CF_drew (CF_set cF (by omega)), Fz_drew (Fz_set fF), hs', hk'⟩ | ((repeat apply Exists.intro); exact ⟨⟨i + 1, upd G (j + i) (df (G (j + i)) l d), h, bo (G (j + i)) l d, by omega, by go_num, rfl, rfl, hA', C4_drew (C4_other cB (by dsimp only; omega)), CF_drew (CF_set cF (by omega)), Fz_drew (Fz_set fF), hs', hk'⟩, rfl⟩)
        case measure => simp [intOf]; omega
    · have hin : i = n := by omega
      subst hin
      have hcf := cF (j + i) (by omega)
      have hff := fF (j + i)
      have x0 : 0 ≤ G (j + i) := (hA.1 _).1
      have y0 : 0 ≤ c := hA.2.1.1
      have Y1 : Hid (c < 18446744073709551616) := hA.2.1.2
      have d0 : 0 ≤ d := by have := hA.2.2.1; omega
      have d1 : d ≤ 1 := by have := hA.2.2.1; omega
      have hL := TI_last hA
      go_wp2_with fail
      go_cut [11] (fun dv wx => ∃ (G : Nat → Int) (d : Int), dv = .int .u64 d ∧ LI F (dg bn) j i t0 G d ∧ C4 w.heap.size bn wx ∧ CF g 9 G wx ∧ Fz g wx ∧ w.heap.size < wx.heap.size ∧ w.grownBy wx (some g))
      case first =>
        go_region_with (simp only [sub64 (G (j + i)) c d x0 y0 Y1.out d0 d1])
        all_goals
          have hs1 : w.heap.size < (wr.setCell ⟨g, j + i, none⟩ (.int .u64 (df (G (j + i)) c d))).drew.heap.size := by simp; omega
          have hk1 := gb_trans hk (gb_trans (gb_set wr g (j + i) (.int .u64 (df (G (j + i)) c d))) (gb_drew _ _))
          go_wp2_with fail
          go_meet
          case rel => exact ⟨_, _, rfl, hL, C4_drew (C4_other cB (by dsimp only; omega)), CF_drew (CF_set cF (by omega)), Fz_drew (Fz_set fF), hs1, hk1⟩
      case rest =>
        clear hA hcf hff x0 y0 Y1 d0 d1 cB cF fF hs hk hL
        obtain ⟨G1, d1, rfl, hL, cB, cF, fF, hs, hk⟩ := hcut
        go_wp2_with fail
        go_loopw [9, 11] (fun tv dv wr => ∃ (t : Int) (G : Nat → Int) (d : Int), tv = .int .u64 t ∧ dv = .int .u64 d ∧ LI F (dg bn) j i t G d ∧ Hid (vr F j (i + 1) / vr (dg bn) 0 i ≤ t) ∧ U t ∧ C4 w.heap.size bn wr ∧ CF g 9 G wr ∧ Fz g wr ∧ w.heap.size < wr.heap.size ∧ w.grownBy wr (some g)) (fun tv _ _ => (intOf tv).toNat)
        case atStart => exact ⟨t0, G1, d1, rfl, rfl, hL, HQ, ut, cB, cF, fF, hs, hk⟩
        case round =>
          clear hL cB cF fF hs hk ut HQ
          obtain ⟨t, G, d, rfl, rfl, hL, HQ, ut, cB, cF, fF, hs, hk⟩ := hrel
          rcases hL.2.1 with rfl | rfl
          · obtain ⟨l1, l2⟩ := LI_done HB.out HQ.out hL
            have L1 : Hid (t = vr F j (i + 1) / vr (dg bn) 0 i) := l1
            have L2 : Hid (vr G j (i + 1) = vr F j (i + 1) % vr (dg bn) 0 i) := l2
            clear l1 l2
            go_wp2_with fail
            go_ret
            exact ⟨G, congrArg _ (int_of L1.out), hL.1, hL.2.2.1, L2.out, cF, fF, hk⟩
          · have hm := LI_more HB.out hL
            have HM : Hid (vr F j (i + 1) / vr (dg bn) 0 i ≤ t - 1) := hm
            have hq0 : 0 ≤ vr F j (i + 1) / vr (dg bn) 0 i := Int.ediv_nonneg (vr_bound hU j (i + 1)).1 (Int.le_of_lt HB.out)
            have ht1 : 1 ≤ t := by omega
            have ut' : U (t - 1) := ⟨by omega, by have := ut.2; omega⟩
            have wt : IntKind.u64.wrap (t - 1) = t - 1 := wrapu _ ut'.1 ut'.2
            have c4 : ∀ o, o < 4 → wr.cell? ⟨w.heap.size, o, none⟩ = some (.int .u64 (dg bn o)) := cB
            clear hm hq0
            go_wp2_with fail
            refine (putback_any g bn i j G _ hn hj (Nat.lt_trans hg hs) hL.1 cF fF).mono ?_
            rintro e w3 ⟨G2, c2, rfl, k1, k2, k3, k4, k5, k6, k7⟩
            have hL' := LI_back hL k1 k2 k3 k4
            have wc2 : IntKind.u64.wrap (1 - c2) = 1 - c2 := wrapu _ (by omega) (by omega)
            have cB' := C4_gb cB k7 (by omega) hs
            have hs' : w.heap.size < w3.heap.size := Nat.lt_of_lt_of_le hs k7.size
            have hk' := gb_trans hk k7
            clear k4 c4 cB hk k7 hL k2
            go_wp2_with fail
            go_roundw
            case rel => exact ⟨t - 1, G2, 1 - c2, rfl, rfl, hL', HM, ut', cB', k5, k6, hs', hk'⟩
            case measure => simp [intOf]; omega
end Go.Proofs.Ytblodmjnhmfjeaa
