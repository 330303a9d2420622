/- word.movedUp: eight parts times a power of two, in nine parts. -/
import Derived.Test.YtblodmjnhmfjeaaUArith
import Derived.Test.YtblodmjnhmfjeaaTake
namespace Go.Proofs.Ytblodmjnhmfjeaa
open Go.RowKit Go.Shelf
attribute [local go_sem ↓] Go.wp_at_zero Go.wp_at_succ
/-- n as nine parts. -/
def Rs (n : Nat) : Value := .agg #[.int .u64 (dg n 0), .int .u64 (dg n 1), .int .u64 (dg n 2), .int .u64 (dg n 3), .int .u64 (dg n 4), .int .u64 (dg n 5), .int .u64 (dg n 6), .int .u64 (dg n 7), .int .u64 (dg n 8)]
theorem C9_set {g n : Nat} {F : Nat → Int} {w : World} (h : CF g 9 F w) : CF g 9 (dg n) (((((((((w.setCell ⟨g, 0, none⟩ (.int .u64 (dg n 0))).setCell ⟨g, 1, none⟩ (.int .u64 (dg n 1))).setCell ⟨g, 2, none⟩ (.int .u64 (dg n 2))).setCell ⟨g, 3, none⟩ (.int .u64 (dg n 3))).setCell ⟨g, 4, none⟩ (.int .u64 (dg n 4))).setCell ⟨g, 5, none⟩ (.int .u64 (dg n 5))).setCell ⟨g, 6, none⟩ (.int .u64 (dg n 6))).setCell ⟨g, 7, none⟩ (.int .u64 (dg n 7))).setCell ⟨g, 8, none⟩ (.int .u64 (dg n 8))) := by
  refine CF_ext (CF_set (CF_set (CF_set (CF_set (CF_set (CF_set (CF_set (CF_set (CF_set h (k := 0) (by decide)) (k := 1) (by decide)) (k := 2) (by decide)) (k := 3) (by decide)) (k := 4) (by decide)) (k := 5) (by decide)) (k := 6) (by decide)) (k := 7) (by decide)) (k := 8) (by decide)) (fun o ho => ?_)
  have : o = 0 ∨ o = 1 ∨ o = 2 ∨ o = 3 ∨ o = 4 ∨ o = 5 ∨ o = 6 ∨ o = 7 ∨ o = 8 := by omega
  rcases this with rfl | rfl | rfl | rfl | rfl | rfl | rfl | rfl | rfl <;> simp [upd]
theorem result9 (tm : Array Value) (W : World) (g n : Nat) (htm : tm.getD 4 undef = .pointer (some ⟨g, 0, none⟩)) (h : CF g 9 (dg n) W) : (results Try.f54 tm).run Try.prog W = .ok (Rs n) W := by
  have h' : ∀ o, o < 9 → W.cell? ⟨g, o, none⟩ = some (.int .u64 (dg n o)) := h
  simp at htm
  simp [Rs, results, Try.results54, go_sem, htm, h']
set_option maxHeartbeats 4000000 in
set_option maxRecDepth 100000 in
theorem movedup_any (n s : Nat) (hs : s < 64) (hn : lowp n 8 = n) (w : World) :
    Calls Try.prog 54 #[Wi n, .int .i64 s] w fun e w' => e = .returned (Rs (n * 2 ^ s)) ∧ Below w.heap.size w w' := by
  have up := pow_U s hs
  have HN : Hid (lowp n 8 = n) := hn
  clear hn
  conv => arg 3; unfold Wi
  go_enter Try.func54, Try.ntmps54
  go_wp2_with fail
  go_loopw [6, 8] (fun cv sv wr => ∃ (i : Nat) (G : Nat → Int) (c : Int), i ≤ 8 ∧ sv = .int .i64 i ∧ cv = .int .u64 c ∧ UI (dg n) (2 ^ s) i G c ∧ CF w.heap.size 8 (dg n) wr ∧ CF (w.heap.size + 1) 9 (fun _ => 0) wr ∧ CF (w.heap.size + 1 + 1) 9 G wr ∧ Fz (w.heap.size + 1) wr ∧ Fz (w.heap.size + 1 + 1) wr ∧ w.heap.size + 1 + 1 < wr.heap.size ∧ Below w.heap.size w wr) (fun _ sv _ => (8 - intOf sv).toNat)
  case atStart =>
    refine ⟨0, fun _ => 0, 0, by omega, rfl, rfl, UI_start _ _, ?_, ?_, ?_, ?_, ?_, by simp, ?_⟩
    · intro o ho
      have : o = 0 ∨ o = 1 ∨ o = 2 ∨ o = 3 ∨ o = 4 ∨ o = 5 ∨ o = 6 ∨ o = 7 := by omega
      rcases this with rfl | rfl | rfl | rfl | rfl | rfl | rfl | rfl <;> simp [go_sem]
    · intro o ho
      have : o = 0 ∨ o = 1 ∨ o = 2 ∨ o = 3 ∨ o = 4 ∨ o = 5 ∨ o = 6 ∨ o = 7 ∨ o = 8 := by omega
      rcases this with rfl | rfl | rfl | rfl | rfl | rfl | rfl | rfl | rfl <;> simp [go_sem]
    · intro o ho
      have : o = 0 ∨ o = 1 ∨ o = 2 ∨ o = 3 ∨ o = 4 ∨ o = 5 ∨ o = 6 ∨ o = 7 ∨ o = 8 := by omega
      rcases this with rfl | rfl | rfl | rfl | rfl | rfl | rfl | rfl | rfl <;> simp [go_sem]
    · intro o; simp [go_sem]
    · intro o; simp [go_sem]
    · repeat (first | exact Below.refl _ _ | refine Below.alloc ?_ (by simp <;> omega) _)
  case round =>
    obtain ⟨i, G, c, hi, rfl, rfl, hU, cA, cR, cG, fR, fG, hz, hb⟩ := hrel
    by_cases hlt : i < 8
    · have hca := cA i hlt
      have hcg := cG i (by omega)
      have hfg := fG i
      have i1 : (i : Int) < 8 := by omega
      have i2 : (i : Int) < 9 := by omega
      have i0 : (0 : Int) ≤ i := by omega
      have uc := hU.2.1
      have wp : IntKind.u64.wrap (2 ^ s) = 2 ^ s := wrapu _ up.1 up.2
      go_wp2_with fail
      go_region_with (go_at_call 50; refine (muladd_ex (dg n i) (2 ^ s) c 0 _ (U_dg n i) up uc U_zero).mono ?_; rintro e w1 ⟨h, l, rfl, uh, ul, he, hw1⟩; subst hw1)
      all_goals
        have hU' := UI_step hU uh ul he.out
        have hz' : w.heap.size + 1 + 1 < (wr.setCell ⟨w.heap.size + 1 + 1, i, none⟩ (.int .u64 l)).drew.heap.size := by simp; omega
        clear he
        go_wp2_with fail
        go_roundw
        case rel => first | exact ⟨i + 1, upd G i l, h, by omega, by go_num, rfl, hU', CF_drew (CF_other cA (by dsimp only; omega)), CF_drew (CF_other cR (by dsimp only; omega)), CF_drew (CF_set cG (by omega)), Fz_drew (Fz_set fR), Fz_drew (Fz_set fG), hz', (hb.setCell (by dsimp only; omega) _).drew⟩ | ((repeat apply Exists.intro); exact ⟨⟨i + 1, upd G i l, h, by omega, by go_num, rfl, hU', CF_drew (CF_other cA (by dsimp only; omega)), CF_drew (CF_other cR (by dsimp only; omega)), CF_drew (CF_set cG (by omega)), Fz_drew (Fz_set fR), Fz_drew (Fz_set fG), hz', (hb.setCell (by dsimp only; omega) _).drew⟩, rfl⟩)
        case measure => simp [intOf]; omega
    · have hi8 : i = 8 := by omega
      subst hi8
      obtain ⟨hu, hv⟩ := UI_last hU
      have hcg := cG 8 (by omega)
      have hfg := fG 8
      have hv2 : vr (upd G 8 c) 0 9 = ((n * 2 ^ s : Nat) : Int) := by
        rw [hv, vr_low, HN.out, Int.natCast_mul]
        simp
      have hE := vr_dg hu hv2
      have cG1 : CF (w.heap.size + 1 + 1) 9 (dg (n * 2 ^ s)) (wr.setCell ⟨w.heap.size + 1 + 1, 8, none⟩ (.int .u64 c)) := CF_ext (CF_set cG (by omega)) hE
      have cR1 : CF (w.heap.size + 1) 9 (fun _ => 0) (wr.setCell ⟨w.heap.size + 1 + 1, 8, none⟩ (.int .u64 c)) := CF_other cR (by dsimp only; omega)
      have c1 : ∀ o, o < 9 → (wr.setCell ⟨w.heap.size + 1 + 1, 8, none⟩ (.int .u64 c)).cell? ⟨w.heap.size + 1 + 1, o, none⟩ = some (.int .u64 (dg (n * 2 ^ s) o)) := cG1
      have c2 : ∀ o, o < 9 → (wr.setCell ⟨w.heap.size + 1 + 1, 8, none⟩ (.int .u64 c)).cell? ⟨w.heap.size + 1, o, none⟩ = some (.int .u64 0) := cR1
      have f2 : ∀ o, wr.frozen? ⟨w.heap.size + 1, o, none⟩ = false := fR
      have HB : Hid (Below w.heap.size w wr) := hb
      clear cA cR cG fR fG hb hU hu hv hv2 hE
      go_wp2_with fail
      refine bodyPost_ret (v := Rs (n * 2 ^ s)) (result9 _ _ (w.heap.size + 1) _ rfl (C9_set cR1)) rfl ⟨rfl, ?_⟩
      exact ((((((((((HB.out.setCell (by dsimp only; omega) _).setCell (by dsimp only; omega) _).setCell (by dsimp only; omega) _).setCell (by dsimp only; omega) _).setCell (by dsimp only; omega) _).setCell (by dsimp only; omega) _).setCell (by dsimp only; omega) _).setCell (by dsimp only; omega) _).setCell (by dsimp only; omega) _).setCell (by dsimp only; omega) _)
end Go.Proofs.Ytblodmjnhmfjeaa
