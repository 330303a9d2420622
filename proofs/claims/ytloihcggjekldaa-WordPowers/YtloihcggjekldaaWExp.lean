/- lampbearerref.WExp: powers, from the least bit on. -/
import Derived.Test.YtloihcggjekldaaWExpA
import Derived.Deep.DeepCutAuto
namespace Go.Proofs.Ytloihcggjekldaa
open Go.RowKit Go.Shelf
attribute [local go_sem ↓] Go.wp_at_zero Go.wp_at_succ
set_option maxHeartbeats 2000000 in
set_option maxRecDepth 100000 in
theorem wexp_any (a b : Nat) (hb0 : b < 2 ^ 256) (w : World) :
    Calls Try.prog 22 #[Wd a, Wd b] w fun e w' => e = .returned (Wd (a ^ b)) ∧ Below w.heap.size w w' := by
  have HB0 : Hid (b < 2 ^ 256) := hb0
  clear hb0
  conv => arg 3; unfold Wd
  have E_0 := E0_start w a b
  have E_1 := E0_alloc E_0 (by simp) 24
  have E_2 := E0_alloc E_1 (by simp) 24
  go_enter Try.func22, Try.ntmps22
  go_wp2_with fail
  go_cut [5, 6] (fun p q wx => ∃ g h : Nat, p = .pointer (some ⟨g, 0, none⟩) ∧ q = .pointer (some ⟨h, 0, none⟩) ∧ g ≠ h ∧ E0 w a b 0 wx ∧ Vr w g 1 wx ∧ Vr w h a wx)
  case first =>
    go_region_held3 (fun w' => w'.cell? ⟨w.heap.size, 0, none⟩ = some (.int .u64 (dg a 0)) ∧ w'.cell? ⟨w.heap.size, 1, none⟩ = some (.int .u64 (dg a 1)) ∧ w'.cell? ⟨w.heap.size, 2, none⟩ = some (.int .u64 (dg a 2)) ∧ w'.cell? ⟨w.heap.size, 3, none⟩ = some (.int .u64 (dg a 3))) (first | (simp [go_sem, World.cell?_alloc_past]; done) | (simp [hc1, go_sem, World.cell?_alloc_past]; done) | (simp [hc1, Nat.lt_of_succ_lt (Nat.lt_of_succ_lt z2), go_sem, World.cell?_alloc_past]; done))
      (first | (go_at_call 27; refine (wint_any 1 (by decide) _).mono ?_; rintro e w1 ⟨rfl, hb1⟩; (first | (have E1 := E0_call E_0 hb1) | (have E1 := E0_call E_1 hb1) | (have E1 := E0_call E_2 hb1)); obtain ⟨hc1, hf1⟩ := bcell hb1; have z1 := hb1.size; simp at z1; have z2 : w.heap.size + 1 + 1 < w1.heap.size := (by omega); (try (have z3 : w.heap.size + 1 + 1 + 1 < w1.heap.size := (by omega))); (try (have z4 : w.heap.size + 1 + 1 + 1 + 1 < w1.heap.size := (by omega))); simp only [Wd]))
    · go_wp2_with fail
      go_meet
      case rel => exact ⟨w1.heap.size, w1.heap.size + 1, rfl, rfl, by omega, E0_al (E0_al E1 _) _, Vr_al (Vr_new E1 _ rfl) _, Vr_new (E0_al E1 _) _ (by simp)⟩
    · go_wp2_with fail
      go_meet
      case rel => exact ⟨w1.heap.size + 1, w1.heap.size, rfl, rfl, by omega, E0_al (E0_al E1 _) _, Vr_new (E0_al E1 _) _ (by simp), Vr_al (Vr_new E1 _ rfl) _⟩
    · go_wp2_with fail
      go_meet
      case rel => exact ⟨w.heap.size + 1 + 1 + 1, w1.heap.size, rfl, rfl, by omega, E0_al (E0_set (E0_weak E1) (by omega)) _, Vr_al (Vr_set (Vr_zero E1 0 (by omega))) _, Vr_new (E0_set (E0_weak E1) (by omega)) _ (by simp)⟩
    · go_wp2_with fail
      go_meet
      case rel => exact ⟨w.heap.size + 1 + 1 + 1, w.heap.size + 1 + 1 + 1 + 1, rfl, rfl, by omega, E0_set (E0_set (E0_weak E1) (by omega)) (by omega), Vr_other (Vr_set (Vr_zero E1 0 (by omega))) (by omega), Vr_set (Vr_other (Vr_zero E1 1 (by omega)) (by omega))⟩
    · go_wp2_with fail
      go_meet
      case rel => exact ⟨w1.heap.size, w.heap.size + 1 + 1 + 1, rfl, rfl, by omega, E0_al (E0_set (E0_weak E1) (by omega)) _, Vr_new (E0_set (E0_weak E1) (by omega)) _ (by simp), Vr_al (Vr_set (Vr_zero E1 0 (by omega))) _⟩
    · go_wp2_with fail
      go_meet
      case rel => exact ⟨w.heap.size + 1 + 1 + 1 + 1, w.heap.size + 1 + 1 + 1, rfl, rfl, by omega, E0_set (E0_set (E0_weak E1) (by omega)) (by omega), Vr_other (Vr_set (Vr_zero E1 1 (by omega))) (by omega), Vr_set (Vr_other (Vr_zero E1 0 (by omega)) (by omega))⟩
  case rest =>
    obtain ⟨g, h, rfl, rfl, hne, hE, hg, hh⟩ := hcut
    clear E_0 E_1 E_2
    go_wp2_with fail
    go_loopw [10] (fun s wr => ∃ i : Nat, i ≤ 256 ∧ s = .int .i64 i ∧ E0 w a b 0 wr ∧ Vr w g (a ^ (b % 2 ^ i)) wr ∧ Vr w h (a ^ 2 ^ i) wr) (fun s _ => (256 - intOf s).toNat)
    case atStart => exact ⟨0, by omega, rfl, hE, by rw [Nat.pow_zero, Nat.mod_one, Nat.pow_zero]; exact hg, by rw [Nat.pow_zero, Nat.pow_one]; exact hh⟩
    case round =>
      clear hE hg hh
      obtain ⟨i, hi, rfl, hE, hg, hh⟩ := hrel
      by_cases hlt : i < 256
      · have c2 : ∀ o, o < 4 → wr.cell? ⟨w.heap.size + 1, o, none⟩ = some (.int .u64 (dg b o)) := hE.cB
        go_wp2_with fail
        refine (wbit_any b i _ hlt).mono ?_
        rintro e w2 ⟨rfl, hb2⟩
        clear c2
        replace hE := E0_below hE hb2
        replace hg := Vr_below hg hb2
        replace hh := Vr_below hh hb2
        clear hb2
        obtain ⟨Q, hQ⟩ : ∃ Q, Q = a ^ 2 ^ i := ⟨_, rfl⟩
        obtain ⟨N, hN⟩ : ∃ N, N = a ^ (b % 2 ^ i) := ⟨_, rfl⟩
        have e1 := pow_low a b i
        have e2 := pow_sq a i
        rw [← hQ] at hh e1 e2
        rw [← hN] at hg e1
        have E1 : Hid (a ^ (b % 2 ^ (i + 1)) = N * (if wb b i = true then Q else 1)) := e1
        have E2 : Hid (a ^ 2 ^ (i + 1) = Q * Q) := e2
        clear e1 e2 hQ hN
        by_cases hw : wb b i = true
        · have c1 : ∀ o, o < 4 → w2.cell? ⟨g, o, none⟩ = some (.int .u64 (dg N o)) := hg.c
          have c2 : ∀ o, o < 4 → w2.cell? ⟨h, o, none⟩ = some (.int .u64 (dg Q o)) := hh.c
          go_wp2_with fail
          refine (wmul_mod N Q _).mono ?_
          rintro e w3 ⟨rfl, hb3⟩
          clear c1 c2
          replace hE := E0_below hE hb3
          replace hg := Vr_below hg hb3
          replace hh := Vr_below hh hb3
          clear hb3
          have z1 := hg.lo
          have z2 := hh.lo
          have z3 := hg.hi
          have z4 := hh.hi
          have c1 : ∀ o, o < 4 → w3.cell? ⟨g, o, none⟩ = some (.int .u64 (dg N o)) := hg.c
          have c2 : ∀ o, o < 4 → w3.cell? ⟨h, o, none⟩ = some (.int .u64 (dg Q o)) := hh.c
          have f1 : ∀ o, w3.frozen? ⟨g, o, none⟩ = false := hg.f
          simp only [Wd]
          go_wp2_with fail
          refine (wmul_mod Q Q _).mono ?_
          rintro e w4 ⟨rfl, hb4⟩
          clear c1 c2 f1 z3 z4
          replace hE := E0_below (E0_set hE z1) hb4
          replace hg := Vr_below (Vr_set (m := N * Q) hg) hb4
          replace hh := Vr_below (Vr_other hh hne) hb4
          clear hb4
          have z3 := hg.hi
          have z4 := hh.hi
          have c2 : ∀ o, o < 4 → w4.cell? ⟨h, o, none⟩ = some (.int .u64 (dg Q o)) := hh.c
          have f1 : ∀ o, w4.frozen? ⟨h, o, none⟩ = false := hh.f
          simp only [Wd]
          go_wp2_with fail
          go_roundw
          case rel => exact ⟨i + 1, by omega, by go_num, E0_set hE z2, by rw [E1.out, if_pos hw]; exact Vr_other hg (Ne.symm hne), by rw [E2.out]; exact Vr_set hh⟩
          case measure => simp [intOf]; omega
        · have hw' : wb b i = false := by simpa using hw
          have z1 := hg.lo
          have z2 := hh.lo
          have c2 : ∀ o, o < 4 → w2.cell? ⟨h, o, none⟩ = some (.int .u64 (dg Q o)) := hh.c
          go_wp2_with fail
          refine (wmul_mod Q Q _).mono ?_
          rintro e w4 ⟨rfl, hb4⟩
          clear c2
          replace hE := E0_below hE hb4
          replace hg := Vr_below hg hb4
          replace hh := Vr_below hh hb4
          clear hb4
          have z3 := hg.hi
          have z4 := hh.hi
          have c2 : ∀ o, o < 4 → w4.cell? ⟨h, o, none⟩ = some (.int .u64 (dg Q o)) := hh.c
          have f1 : ∀ o, w4.frozen? ⟨h, o, none⟩ = false := hh.f
          simp only [Wd]
          go_wp2_with fail
          go_roundw
          case rel => exact ⟨i + 1, by omega, by go_num, E0_set hE z2, by rw [E1.out, if_neg hw, Nat.mul_one]; exact Vr_other hg (Ne.symm hne), by rw [E2.out]; exact Vr_set hh⟩
          case measure => simp [intOf]; omega
      · have hi6 : i = 256 := by omega
        subst hi6
        have z1 := hg.lo
        have z3 := hg.hi
        have c1 : ∀ o, o < 4 → wr.cell? ⟨g, o, none⟩ = some (.int .u64 (dg (a ^ (b % 2 ^ 256)) o)) := hg.c
        rw [Nat.mod_eq_of_lt HB0.out] at c1
        have c2 : ∀ o, o < 4 → wr.cell? ⟨w.heap.size + 1 + 1, o, none⟩ = some (.int .u64 (dg 0 o)) := hE.cR
        have f2 : ∀ o, wr.frozen? ⟨w.heap.size + 1 + 1, o, none⟩ = false := hE.fR
        have HB : Hid (Below w.heap.size w wr) := hE.bel
        clear hE hg hh
        go_wp2_with fail
        refine bodyPost_ret (v := Wd (a ^ b)) (by simp [Wd, results, Try.results22, go_sem, c2]) rfl ⟨rfl, ?_⟩
        exact (((HB.out.setCell (by dsimp only; omega) _).setCell (by dsimp only; omega) _).setCell (by dsimp only; omega) _).setCell (by dsimp only; omega) _
end Go.Proofs.Ytloihcggjekldaa
