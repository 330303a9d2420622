/- word.Exp: powers, rest 2^256. -/
import Derived.Test.YtblodmjnhmfjeaaInt
namespace Go.Proofs.Ytblodmjnhmfjeaa
open Go.RowKit Go.Shelf
theorem wb_dg (b p : Nat) : (bits .and .u64 (dg b (p / 64) / 2 ^ (p % 64)) 1 == 1) = wb b p := by
  have hn := dg_nn b (p / 64)
  have hl := dg_lt b (p / 64)
  have e : dg b (p / 64) / 2 ^ (p % 64) = ((b / 2 ^ (64 * (p / 64)) % 18446744073709551616 / 2 ^ (p % 64) : Nat) : Int) := by
    unfold dg; rw [Int.natCast_ediv]; congr 1
  have hle : b / 2 ^ (64 * (p / 64)) % 18446744073709551616 / 2 ^ (p % 64) ≤ b / 2 ^ (64 * (p / 64)) % 18446744073709551616 := Nat.div_le_self _ _
  have hlt : b / 2 ^ (64 * (p / 64)) % 18446744073709551616 < 18446744073709551616 := Nat.mod_lt _ (by decide)
  rw [e, and_one_u64 _ (Int.natCast_nonneg _) (by omega)]
  have h2 : b / 2 ^ p = b / 2 ^ (64 * (p / 64)) / 2 ^ (p % 64) := by rw [Nat.div_div_eq_div_mul, ← Nat.pow_add]; congr 2; omega
  have h3 : b / 2 ^ (64 * (p / 64)) % 18446744073709551616 / 2 ^ (p % 64) % 2 = b / 2 ^ p % 2 := by
    rw [h2]
    generalize b / 2 ^ (64 * (p / 64)) = n
    have e64 : (18446744073709551616 : Nat) = 2 ^ (p % 64) * (2 * 2 ^ (63 - p % 64)) := by
      rw [← Nat.pow_succ', ← Nat.pow_add, show p % 64 + (63 - p % 64 + 1) = 64 by omega]
    rw [e64, Nat.mod_mul_right_div_self, Nat.mod_mul_right_mod]
  unfold wb
  rw [← h3]
  generalize b / 2 ^ (64 * (p / 64)) % 18446744073709551616 / 2 ^ (p % 64) = z
  rw [Bool.eq_iff_iff, beq_iff_eq, decide_eq_true_iff]
  omega
theorem pow_step (a b p : Nat) : a ^ (b / 2 ^ p) = a ^ (b / 2 ^ (p + 1)) * a ^ (b / 2 ^ (p + 1)) * (if wb b p = true then a else 1) := by
  rw [wb_step b p, Nat.pow_add, Nat.two_mul, Nat.pow_add]
  split <;> simp
set_option maxHeartbeats 1000000 in
set_option maxRecDepth 100000 in
theorem exp_any (a b : Nat) (hb0 : b < 2 ^ 256) (w : World) :
    Calls Try.prog 18 #[Wd a, Wd b] w fun e w' => e = .returned (Wd (a ^ b)) ∧ Below w.heap.size w w' := by
  have HB0 : Hid (b < 2 ^ 256) := hb0
  clear hb0
  conv => arg 3; unfold Wd
  go_enter Try.func18, Try.ntmps18
  go_wp2_with fail
  refine (int_any 1 (by decide) _).mono ?_
  rintro e w1 ⟨rfl, hb1⟩
  have z1 := hb1.size
  simp at z1
  have cA : C4 w.heap.size a w1 := fun o ho => by
    rw [hb1.cell (p := ⟨_, o, none⟩) (by simp <;> omega)]
    have : o = 0 ∨ o = 1 ∨ o = 2 ∨ o = 3 := by omega
    rcases this with rfl | rfl | rfl | rfl <;> simp [go_sem]
  have cB : C4 (w.heap.size + 1) b w1 := fun o ho => by
    rw [hb1.cell (p := ⟨_, o, none⟩) (by simp)]
    have : o = 0 ∨ o = 1 ∨ o = 2 ∨ o = 3 := by omega
    rcases this with rfl | rfl | rfl | rfl <;> simp [go_sem]
  have cR : C4 (w.heap.size + 1 + 1) 0 w1 := fun o ho => by
    rw [hb1.cell (p := ⟨_, o, none⟩) (by simp)]
    have : o = 0 ∨ o = 1 ∨ o = 2 ∨ o = 3 := by omega
    rcases this with rfl | rfl | rfl | rfl <;> simp [go_sem, dg]
  have fR : Fz (w.heap.size + 1 + 1) w1 := fun o => by
    rw [hb1.frozen (p := ⟨_, o, none⟩) (by simp)]; simp [go_sem]
  have hb : Below w.heap.size w w1 := ((((Below.refl _ _).alloc (Nat.le_refl _) _).alloc (by simp) _).alloc (by simp <;> omega) _).trans (hb1.mono (by simp <;> omega))
  clear hb1
  have c2 : ∀ o, o < 4 → w1.cell? ⟨w.heap.size + 1, o, none⟩ = some (.int .u64 (dg b o)) := cB
  have hz : w.heap.size + 1 < w1.heap.size := by omega
  simp only [Wd]
  go_wp2_with fail
  refine (bitlen_any b HB0.out _).mono ?_
  rintro e w2 ⟨L, rfl, hL, hb2⟩
  have z2 := hb2.size
  simp at z2
  have bal : Below w1.heap.size w1 (w1.alloc (.cells #[.int .u64 (dg 1 0), .int .u64 (dg 1 1), .int .u64 (dg 1 2), .int .u64 (dg 1 3)] 24)) := (Below.refl _ _).alloc (Nat.le_refl _) _
  replace cA := C4_below (C4_below cA bal (by omega)) hb2 (by simp; omega)
  replace cB := C4_below (C4_below cB bal (by omega)) hb2 (by simp; omega)
  replace cR := C4_below (C4_below cR bal (by omega)) hb2 (by simp; omega)
  have cO := C4_below (C4_alloc 1 w1 24) hb2 (by simp)
  replace fR := Fz_below (Fz_below fR bal (by omega)) hb2 (by simp; omega)
  have fO := Fz_below (Fz_alloc w1 #[.int .u64 (dg 1 0), .int .u64 (dg 1 1), .int .u64 (dg 1 2), .int .u64 (dg 1 3)] 24) hb2 (by simp)
  replace hb := (hb.alloc (by omega) (.cells #[.int .u64 (dg 1 0), .int .u64 (dg 1 1), .int .u64 (dg 1 2), .int .u64 (dg 1 3)] 24)).trans (hb2.mono (by simp; omega))
  clear hb2 bal c2 hz
  generalize w1.heap.size = g at *
  replace z2 : g < w2.heap.size := by omega
  have hL1 := hL.1
  have HL : Hid (b < 2 ^ L) := hL.2.1
  clear hL
  go_wp2_with fail
  go_loopw [6] (fun i wr => ∃ k : Nat, k ≤ 256 ∧ i = .int .i64 ((k : Int) - 1) ∧ C4 w.heap.size a wr ∧ C4 (w.heap.size + 1) b wr ∧ C4 (w.heap.size + 1 + 1) 0 wr ∧ C4 g (a ^ (b / 2 ^ k)) wr ∧ Fz (w.heap.size + 1 + 1) wr ∧ Fz g wr ∧ g < wr.heap.size ∧ Below w.heap.size w wr) (fun i _ => (intOf i + 1).toNat)
  case atStart => exact ⟨L, hL1, rfl, cA, cB, cR, by rw [Nat.div_eq_of_lt HL.out, Nat.pow_zero]; exact cO, fR, fO, z2, hb⟩
  case round =>
    clear cA cB cR cO fR fO z2 hb
    obtain ⟨k, hk, hi, cA, cB, cR, cO, fR, fO, z2, hb⟩ := hrel
    cases k with
    | zero =>
      subst hi
      have c1 : ∀ o, o < 4 → wr.cell? ⟨g, o, none⟩ = some (.int .u64 (dg (a ^ (b / 2 ^ 0)) o)) := cO
      have c2 : ∀ o, o < 4 → wr.cell? ⟨w.heap.size + 1 + 1, o, none⟩ = some (.int .u64 (dg 0 o)) := cR
      have f2 : ∀ o, wr.frozen? ⟨w.heap.size + 1 + 1, o, none⟩ = false := fR
      rw [Nat.pow_zero, Nat.div_one] at c1
      have HB : Hid (Below w.heap.size w wr) := hb
      clear cA cB cR cO fR fO hb
      go_wp2_with fail
      refine bodyPost_ret (v := Wd (a ^ b)) (by simp [Wd, results, Try.results18, go_sem, c2]) rfl ⟨rfl, ?_⟩
      exact (((HB.out.setCell (by dsimp only; omega) _).setCell (by dsimp only; omega) _).setCell (by dsimp only; omega) _).setCell (by dsimp only; omega) _
    | succ p =>
      have e : ((p + 1 : Nat) : Int) - 1 = (p : Int) := by omega
      rw [e] at hi
      subst hi
      obtain ⟨N, hN⟩ : ∃ N, N = a ^ (b / 2 ^ (p + 1)) := ⟨_, rfl⟩
      rw [← hN] at cO
      have HN : Hid (N = a ^ (b / 2 ^ (p + 1))) := hN
      clear hN e
      have c1 : ∀ o, o < 4 → wr.cell? ⟨g, o, none⟩ = some (.int .u64 (dg N o)) := cO
      go_wp2_with fail
      refine (mul_mod N N _).mono ?_
      rintro e w3 ⟨rfl, hb3⟩
      clear c1
      have y3 := hb3.size
      replace cA := C4_below cA hb3 (by omega)
      replace cB := C4_below cB hb3 (by omega)
      replace cR := C4_below cR hb3 (by omega)
      replace cO := C4_below cO hb3 z2
      replace fR := Fz_below fR hb3 (by omega)
      replace fO := Fz_below fO hb3 z2
      replace hb := hb.trans (hb3.mono (by omega))
      clear hb3
      replace z2 : g < w3.heap.size := by omega
      clear y3
      have c1 : ∀ o, o < 4 → w3.cell? ⟨g, o, none⟩ = some (.int .u64 (dg N o)) := cO
      have f1 : ∀ o, w3.frozen? ⟨g, o, none⟩ = false := fO
      have c2 := cB (p / 64) (by omega)
      have hbit := wb_dg b p
      have hn := dg_nn b (p / 64)
      simp only [Wd]
      by_cases hw : wb b p = true
      · rw [hw] at hbit
        have c3 : ∀ o, o < 4 → w3.cell? ⟨w.heap.size, o, none⟩ = some (.int .u64 (dg a o)) := cA
        go_wp2_with fail
        refine (mul_mod (N * N) a _).mono ?_
        rintro e w4 ⟨rfl, hb4⟩
        clear c1 f1 c2 c3 hbit hn
        have y4 := hb4.size
        simp at y4
        replace cA := C4_below (C4_other (C4_other (C4_other (C4_other cA (by dsimp only; omega)) (by dsimp only; omega)) (by dsimp only; omega)) (by dsimp only; omega)) hb4 (by simp; omega)
        replace cB := C4_below (C4_other (C4_other (C4_other (C4_other cB (by dsimp only; omega)) (by dsimp only; omega)) (by dsimp only; omega)) (by dsimp only; omega)) hb4 (by simp; omega)
        replace cR := C4_below (C4_other (C4_other (C4_other (C4_other cR (by dsimp only; omega)) (by dsimp only; omega)) (by dsimp only; omega)) (by dsimp only; omega)) hb4 (by simp; omega)
        replace cO := C4_below (C4_set (m := N * N) cO) hb4 (by simp; omega)
        replace fR := Fz_below (Fz_set (Fz_set (Fz_set (Fz_set fR)))) hb4 (by simp; omega)
        replace fO := Fz_below (Fz_set (Fz_set (Fz_set (Fz_set fO)))) hb4 (by simp; omega)
        replace hb := ((((hb.setCell (by dsimp only; omega) _).setCell (by dsimp only; omega) _).setCell (by dsimp only; omega) _).setCell (by dsimp only; omega) _).trans (hb4.mono (by simp; omega))
        clear hb4
        replace z2 : g < w4.heap.size := by omega
        clear y4
        have c1 : ∀ o, o < 4 → w4.cell? ⟨g, o, none⟩ = some (.int .u64 (dg (N * N) o)) := cO
        have f1 : ∀ o, w4.frozen? ⟨g, o, none⟩ = false := fO
        simp only [Wd]
        go_wp2_with fail
        go_roundw
        case rel =>
          refine ⟨p, by omega, by go_num, C4_other (C4_other (C4_other (C4_other cA (by dsimp only; omega)) (by dsimp only; omega)) (by dsimp only; omega)) (by dsimp only; omega), C4_other (C4_other (C4_other (C4_other cB (by dsimp only; omega)) (by dsimp only; omega)) (by dsimp only; omega)) (by dsimp only; omega), C4_other (C4_other (C4_other (C4_other cR (by dsimp only; omega)) (by dsimp only; omega)) (by dsimp only; omega)) (by dsimp only; omega), ?_, Fz_set (Fz_set (Fz_set (Fz_set fR))), Fz_set (Fz_set (Fz_set (Fz_set fO))), by simp; omega, (((hb.setCell (by dsimp only; omega) _).setCell (by dsimp only; omega) _).setCell (by dsimp only; omega) _).setCell (by dsimp only; omega) _⟩
          rw [pow_step a b p, if_pos hw, ← HN.out]
          exact C4_set cO
        case measure => simp [intOf]
      · have hw' : wb b p = false := by simpa using hw
        rw [hw'] at hbit
        go_wp2_with fail
        go_roundw
        case rel =>
          refine ⟨p, by omega, by go_num, C4_other (C4_other (C4_other (C4_other cA (by dsimp only; omega)) (by dsimp only; omega)) (by dsimp only; omega)) (by dsimp only; omega), C4_other (C4_other (C4_other (C4_other cB (by dsimp only; omega)) (by dsimp only; omega)) (by dsimp only; omega)) (by dsimp only; omega), C4_other (C4_other (C4_other (C4_other cR (by dsimp only; omega)) (by dsimp only; omega)) (by dsimp only; omega)) (by dsimp only; omega), ?_, Fz_set (Fz_set (Fz_set (Fz_set fR))), Fz_set (Fz_set (Fz_set (Fz_set fO))), by simp; omega, (((hb.setCell (by dsimp only; omega) _).setCell (by dsimp only; omega) _).setCell (by dsimp only; omega) _).setCell (by dsimp only; omega) _⟩
          rw [pow_step a b p, if_neg hw, Nat.mul_one, ← HN.out]
          exact C4_set cO
        case measure => simp [intOf]
end Go.Proofs.Ytblodmjnhmfjeaa
