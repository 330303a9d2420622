/- (*word.rest).movedDown: nine parts through a power of two, the least four parts of it. -/
import Derived.Test.YtblodmjnhmfjeaaMovedUp
namespace Go.Proofs.Ytblodmjnhmfjeaa
open Go.RowKit Go.Shelf
attribute [local go_sem ↓] Go.wp_at_zero Go.wp_at_succ
theorem or_comm64 (x y : Int) : bits .or .u64 x y = bits .or .u64 y x := by simp only [bits, BitVec.or_comm]
/-- What is left of part i, with what comes down from part i + 1. -/
theorem down_part (N s i : Nat) (hs : s < 64) : bits .or .u64 (dg N i / 2 ^ s) (IntKind.u64.wrap (dg N (i + 1) * 2 ^ (64 - s))) = dg (N / 2 ^ s) i := by
  have e64 : (2 : Nat) ^ s * 2 ^ (64 - s) = 18446744073709551616 := by rw [← Nat.pow_add, show s + (64 - s) = 64 by omega]
  have hp : 0 < (2 : Nat) ^ s := Nat.two_pow_pos s
  have hq : 0 < (2 : Nat) ^ (64 - s) := Nat.two_pow_pos _
  have c1 : ((2 ^ s : Nat) : Int) = (2 : Int) ^ s := by simp
  have c2 : ((2 ^ (64 - s) : Nat) : Int) = (2 : Int) ^ (64 - s) := by simp
  unfold dg
  rw [← c1, ← c2, IntKind.wrap_u64, ← Int.natCast_ediv, ← Int.natCast_mul, show (18446744073709551616 : Int) = ((18446744073709551616 : Nat) : Int) by rfl, ← Int.natCast_emod]
  generalize hx : N / 2 ^ (64 * i) = X
  have hy : N / 2 ^ (64 * (i + 1)) = X / 18446744073709551616 := by rw [← hx, Nat.div_div_eq_div_mul, show (18446744073709551616 : Nat) = 2 ^ 64 by decide, ← Nat.pow_add, Nat.mul_add]
  have hz : N / 2 ^ s / 2 ^ (64 * i) = X / 2 ^ s := by rw [← hx, Nat.div_div_eq_div_mul, Nat.div_div_eq_div_mul, Nat.mul_comm]
  rw [hy, hz]
  generalize hA : (2 : Nat) ^ s = A at *
  generalize hB : (2 : Nat) ^ (64 - s) = B at *
  generalize hZ : X / 18446744073709551616 = Z at *
  have hdm := Nat.div_add_mod X 18446744073709551616
  rw [hZ] at hdm
  have hml := Nat.mod_lt X (show 0 < 18446744073709551616 by decide)
  have hx0 : X % 18446744073709551616 / A < B := (Nat.div_lt_iff_lt_mul hp).2 (by rw [Nat.mul_comm, e64]; exact hml)
  have hZB : Z % 18446744073709551616 * B % 18446744073709551616 = B * (Z % A) := by rw [Nat.mod_mul_mod, ← e64, Nat.mul_comm Z B, Nat.mul_comm A B, Nat.mul_mod_mul_left]
  have hZA := Nat.mod_lt Z hp
  have hBA : B * (Z % A) + B ≤ 18446744073709551616 := by
    rw [← e64, Nat.mul_comm A B, ← Nat.mul_succ]
    exact Nat.mul_le_mul_left B hZA
  have hX : X / A % 18446744073709551616 = X % 18446744073709551616 / A + B * (Z % A) := by
    have h1 : X / A = X % 18446744073709551616 / A + B * Z := by
      conv => lhs; rw [← hdm, ← e64, Nat.mul_assoc, Nat.add_comm, Nat.add_mul_div_left _ _ hp, e64]
    have h2 : B * Z = 18446744073709551616 * (Z / A) + B * (Z % A) := by
      conv => lhs; rw [← Nat.div_add_mod Z A, Nat.mul_add, ← Nat.mul_assoc, Nat.mul_comm B A, e64]
    rw [h1, h2, ← Nat.add_assoc, Nat.add_right_comm, Nat.add_mul_mod_self_left, Nat.mod_eq_of_lt (by omega)]
  rw [hZB, hX, or_comm64]
  have hb2 : ((B * (Z % A) : Nat) : Int) % 2 ^ (64 - s) = 0 := by
    rw [← c2, ← Int.natCast_emod, Nat.mul_mod_right]; rfl
  have := bits_join .u64 64 (by decide) (fun n h0 h1 => wrap64u n h0 (by simpa using h1)) (64 - s) ((B * (Z % A) : Nat) : Int) ((X % 18446744073709551616 / A : Nat) : Int) (Int.natCast_nonneg _) hb2 (by rw [show (2 : Int) ^ 64 = ((18446744073709551616 : Nat) : Int) by rfl]; exact Int.ofNat_lt.2 (by omega)) (Int.natCast_nonneg _) (by rw [← c2]; omega) (by rw [show (2 : Int) ^ 64 = ((18446744073709551616 : Nat) : Int) by rfl]; exact Int.ofNat_lt.2 (by omega))
  rw [this]
  omega
set_option maxHeartbeats 4000000 in
set_option maxRecDepth 100000 in
theorem moveddown_any (g N s : Nat) (hs : s < 64) (w : World) (hg : g < w.heap.size) (hF : CF g 9 (dg N) w) :
    Calls Try.prog 56 #[.pointer (some ⟨g, 0, none⟩), .int .i64 s] w fun e w' => e = .returned (Wd (N / 2 ^ s)) ∧ Below w.heap.size w w' := by
  go_enter Try.func56, Try.ntmps56
  go_wp2_with fail
  go_loopw [7] (fun sv wr => ∃ (i : Nat) (G : Nat → Int), i ≤ 4 ∧ sv = .int .i64 i ∧ (∀ o, o < i → G o = dg (N / 2 ^ s) o) ∧ CF g 9 (dg N) wr ∧ C4 w.heap.size 0 wr ∧ CF (w.heap.size + 1) 4 G wr ∧ Fz w.heap.size wr ∧ Fz (w.heap.size + 1) wr ∧ w.heap.size + 1 < wr.heap.size ∧ Below w.heap.size w wr) (fun sv _ => (4 - intOf sv).toNat)
  case atStart =>
    refine ⟨0, fun _ => 0, by omega, rfl, fun o ho => by omega, ?_, ?_, ?_, ?_, ?_, by simp, ?_⟩
    · exact CF_below hF (((Below.refl _ _).alloc (Nat.le_refl _) _).alloc (by simp) _) hg
    · exact C4_al (C4_zero w _) (by simp) _
    · intro o ho
      have : o = 0 ∨ o = 1 ∨ o = 2 ∨ o = 3 := by omega
      rcases this with rfl | rfl | rfl | rfl <;> simp [go_sem]
    · intro o; simp [go_sem]
    · intro o; simp [go_sem]
    · exact ((Below.refl _ _).alloc (Nat.le_refl _) _).alloc (by simp) _
  case round =>
    obtain ⟨i, G, hi, rfl, hG, cF, cR, cG, fR, fG, hz, hb⟩ := hrel
    by_cases hlt : i < 4
    · have hc1 := cF i (by omega)
      have hc2 := cF (i + 1) (by omega)
      have hc3 := cG i (by omega)
      have hf3 := fG i
      have hd := down_part N s i hs
      have n1 := dg_nn N i
      have n2 := dg_nn N (i + 1)
      have i0 : (0 : Int) ≤ i := by omega
      have i1 : (i : Int) < 4 := by omega
      have i2 : (i : Int) + 1 < 9 := by omega
      have i3 : (0 : Int) ≤ (i : Int) + 1 := by omega
      have wi : IntKind.i64.wrap ((i : Int) + 1) = (i : Int) + 1 := by rw [IntKind.wrap_i64]; omega
      have ws : IntKind.i64.wrap (64 - (s : Int)) = 64 - (s : Int) := by rw [IntKind.wrap_i64]; omega
      have ti : ((i : Int) + 1).toNat = i + 1 := by omega
      have ts : (64 - (s : Int)).toNat = 64 - s := by omega
      have s0 : (0 : Int) ≤ 64 - (s : Int) := by omega
      go_wp2_with fail
      go_region
      all_goals
        have hG' : ∀ o, o < i + 1 → upd G i (dg (N / 2 ^ s) i) o = dg (N / 2 ^ s) o := fun o ho => by
          unfold upd
          by_cases e : o = i
          · rw [if_pos e, e]
          · rw [if_neg e]; exact hG o (by omega)
        have hz' : w.heap.size + 1 < (wr.setCell ⟨w.heap.size + 1, i, none⟩ (.int .u64 (dg (N / 2 ^ s) i))).drew.heap.size := by simp; omega
        have HG' : Hid (∀ o, o < i + 1 → upd G i (dg (N / 2 ^ s) i) o = dg (N / 2 ^ s) o) := hG'
        clear hG' hd
        go_wp2_with fail
        have hG' := HG'.out
        go_roundw
        case rel => first | exact ⟨i + 1, upd G i (dg (N / 2 ^ s) i), by omega, by go_num, hG', CF_drew (CF_other cF (by dsimp only; omega)), C4_drew (C4_other cR (by dsimp only; omega)), CF_drew (CF_set cG (by omega)), Fz_drew (Fz_set fR), Fz_drew (Fz_set fG), hz', (hb.setCell (by dsimp only; omega) _).drew⟩ | ((repeat apply Exists.intro); exact ⟨⟨i + 1, upd G i (dg (N / 2 ^ s) i), by omega, by go_num, hG', CF_drew (CF_other cF (by dsimp only; omega)), C4_drew (C4_other cR (by dsimp only; omega)), CF_drew (CF_set cG (by omega)), Fz_drew (Fz_set fR), Fz_drew (Fz_set fG), hz', (hb.setCell (by dsimp only; omega) _).drew⟩, rfl⟩)
        case measure => simp [intOf]; omega
    · have hi4 : i = 4 := by omega
      subst hi4
      have c1 : ∀ o, o < 4 → wr.cell? ⟨w.heap.size + 1, o, none⟩ = some (.int .u64 (dg (N / 2 ^ s) o)) := CF_ext cG hG
      have c2 : ∀ o, o < 4 → wr.cell? ⟨w.heap.size, o, none⟩ = some (.int .u64 (dg 0 o)) := cR
      have f2 : ∀ o, wr.frozen? ⟨w.heap.size, o, none⟩ = false := fR
      have HB : Hid (Below w.heap.size w wr) := hb
      clear cF cR cG fR fG hb hG
      go_wp2_with fail
      refine bodyPost_ret (v := Wd (N / 2 ^ s)) (by simp [Wd, results, Try.results56, go_sem, c2]) rfl ⟨rfl, ?_⟩
      exact (((HB.out.setCell (by dsimp only; omega) _).setCell (by dsimp only; omega) _).setCell (by dsimp only; omega) _).setCell (by dsimp only; omega) _
set_option maxHeartbeats 1000000 in
set_option maxRecDepth 100000 in
/-- word.widen: a word, with one part above it. -/
theorem widen_any (a c : Nat) (ha : a < 2 ^ 256) (hc : c < 18446744073709551616) (w : World) :
    Calls Try.prog 43 #[Wd a, .int .u64 c] w fun e w' => e = .returned (Wi (a + c * 2 ^ 256)) ∧ Below w.heap.size w w' := by
  have e0 : dg (a + c * 2 ^ 256) 0 = dg a 0 := by rw [dg0, dg0]; omega
  have e1 : dg (a + c * 2 ^ 256) 1 = dg a 1 := by rw [dg1, dg1]; omega
  have e2 : dg (a + c * 2 ^ 256) 2 = dg a 2 := by rw [dg2, dg2]; omega
  have e3 : dg (a + c * 2 ^ 256) 3 = dg a 3 := by rw [dg3, dg3]; omega
  have e4 : dg (a + c * 2 ^ 256) 4 = (c : Int) := by rw [dg4]; omega
  have e5 : dg (a + c * 2 ^ 256) 5 = 0 := by rw [dg5]; omega
  have e6 : dg (a + c * 2 ^ 256) 6 = 0 := by rw [dg6]; omega
  have e7 : dg (a + c * 2 ^ 256) 7 = 0 := by rw [dg7]; omega
  have hW : Wi (a + c * 2 ^ 256) = .agg #[.int .u64 (dg a 0), .int .u64 (dg a 1), .int .u64 (dg a 2), .int .u64 (dg a 3), .int .u64 (c : Int), .int .u64 0, .int .u64 0, .int .u64 0] := by unfold Wi; rw [e0, e1, e2, e3, e4, e5, e6, e7]
  rw [hW]
  clear hW e0 e1 e2 e3 e4 e5 e6 e7 ha hc
  conv => arg 3; unfold Wd
  go_enter Try.func43, Try.ntmps43
  go_wp2
  refine bodyPost_ret (v := .agg #[.int .u64 (dg a 0), .int .u64 (dg a 1), .int .u64 (dg a 2), .int .u64 (dg a 3), .int .u64 (c : Int), .int .u64 0, .int .u64 0, .int .u64 0]) (by simp [results, Try.results43, go_sem]) rfl ⟨rfl, ?_⟩
  exact ((Below.refl _ _).alloc (Nat.le_refl _) _).alloc (by simp) _
end Go.Proofs.Ytblodmjnhmfjeaa
