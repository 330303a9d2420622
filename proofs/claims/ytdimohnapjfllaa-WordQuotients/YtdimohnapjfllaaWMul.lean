/- lampbearerref.WMul: the product of two words, by doubling. -/
import Derived.Test.YtdimohnapjfllaaWBit
namespace Go.Proofs.Ytdimohnapjfllaa
open Go.RowKit Go.Shelf
/-- The four cells of block g are n's parts; none is frozen. -/
def C4 (g n : Nat) (w : World) : Prop := ∀ o, o < 4 → w.cell? ⟨g, o, none⟩ = some (.int .u64 (dg n o))
theorem C4_below {B g n : Nat} {w w' : World} (h : C4 g n w) (hb : Below B w w') (hg : g < B) : C4 g n w' := fun j hj => (hb.cell (p := ⟨g, j, none⟩) hg).trans (h j hj)
theorem C4_alloc (n : Nat) (w : World) (T : TypeId) : C4 w.heap.size n (w.alloc (.cells #[.int .u64 (dg n 0), .int .u64 (dg n 1), .int .u64 (dg n 2), .int .u64 (dg n 3)] T)) := fun o ho => by
  have : o = 0 ∨ o = 1 ∨ o = 2 ∨ o = 3 := by omega
  rcases this with rfl | rfl | rfl | rfl <;> simp
theorem Fz_alloc (w : World) (c : Array Value) (T : TypeId) : Fz w.heap.size (w.alloc (.cells c T)) := fun o => by simp [go_sem]
theorem C4_set {g n m : Nat} {w : World} (h : C4 g n w) : C4 g m ((((w.setCell ⟨g, 0, none⟩ (.int .u64 (dg m 0))).setCell ⟨g, 1, none⟩ (.int .u64 (dg m 1))).setCell ⟨g, 2, none⟩ (.int .u64 (dg m 2))).setCell ⟨g, 3, none⟩ (.int .u64 (dg m 3))) := fun o ho => by
  have h0 := h 0 (by decide)
  have h1 := h 1 (by decide)
  have h2 := h 2 (by decide)
  have h3 := h 3 (by decide)
  have : o = 0 ∨ o = 1 ∨ o = 2 ∨ o = 3 := by omega
  rcases this with rfl | rfl | rfl | rfl <;> simp [go_sem, h0, h1, h2, h3]
theorem C4_other {g n : Nat} {w : World} {a : Addr} {v : Value} (h : C4 g n w) (hne : a.block ≠ g) : C4 g n (w.setCell a v) := fun j hj => by
  rw [World.cell?_setCell_other w a _ v (fun e => hne (by rw [e]))]; exact h j hj
set_option maxHeartbeats 1000000 in
set_option maxRecDepth 100000 in
theorem wmul_any (a b : Nat) (w : World) (hb0 : b < 2 ^ 256) :
    Calls Try.prog 14 #[Wd a, Wd b] w fun e w' => e = .returned (Wd (a * b)) ∧ Below w.heap.size w w' := by
  have HB0 : Hid (b < 2 ^ 256) := hb0
  clear hb0
  conv => arg 3; unfold Wd
  go_enter Try.func14, Try.ntmps14
  go_wp2
  go_loopw [6] (fun i wr => ∃ k : Nat, k ≤ 256 ∧ i = .int .i64 ((k : Int) - 1) ∧ C4 w.heap.size a wr ∧ C4 (w.heap.size + 1) b wr ∧ C4 (w.heap.size + 1 + 1) 0 wr ∧ C4 (w.heap.size + 1 + 1 + 1) (a * (b / 2 ^ k)) wr ∧ Fz (w.heap.size + 1 + 1) wr ∧ Fz (w.heap.size + 1 + 1 + 1) wr ∧ w.heap.size + 1 + 1 + 1 < wr.heap.size ∧ Below w.heap.size w wr) (fun i _ => (intOf i + 1).toNat)
  case atStart =>
    refine ⟨256, by omega, rfl, ?_, ?_, ?_, ?_, ?_, ?_, by simp, ?_⟩
    · intro o ho
      have : o = 0 ∨ o = 1 ∨ o = 2 ∨ o = 3 := by omega
      rcases this with rfl | rfl | rfl | rfl <;> simp [go_sem]
    · intro o ho
      have : o = 0 ∨ o = 1 ∨ o = 2 ∨ o = 3 := by omega
      rcases this with rfl | rfl | rfl | rfl <;> simp [go_sem]
    · intro o ho
      have : o = 0 ∨ o = 1 ∨ o = 2 ∨ o = 3 := by omega
      rcases this with rfl | rfl | rfl | rfl <;> simp [go_sem, dg]
    · rw [Nat.div_eq_of_lt HB0.out]
      intro o ho
      have : o = 0 ∨ o = 1 ∨ o = 2 ∨ o = 3 := by omega
      rcases this with rfl | rfl | rfl | rfl <;> simp [go_sem, dg]
    · intro o; simp [go_sem]
    · intro o; simp [go_sem]
    · repeat (first | exact Below.refl _ _ | refine Below.alloc ?_ (by simp <;> omega) _)
  case round =>
    obtain ⟨k, hk, hi, cA, cB, cR, cO, fR, fO, hz, hb⟩ := hrel
    cases k with
    | zero =>
      subst hi
      have c1 : ∀ o, o < 4 → wr.cell? ⟨w.heap.size + 1 + 1 + 1, o, none⟩ = some (.int .u64 (dg (a * (b / 2 ^ 0)) o)) := cO
      have c2 : ∀ o, o < 4 → wr.cell? ⟨w.heap.size + 1 + 1, o, none⟩ = some (.int .u64 (dg 0 o)) := cR
      have f2 : ∀ o, wr.frozen? ⟨w.heap.size + 1 + 1, o, none⟩ = false := fR
      rw [Nat.pow_zero, Nat.div_one] at c1
      have HB : Hid (Below w.heap.size w wr) := hb
      clear cA cB cR cO fR fO hb
      go_wp2_with fail
      refine bodyPost_ret (v := Wd (a * b)) (by simp [Wd, results, Try.results14, go_sem, c2]) rfl ⟨rfl, ?_⟩
      repeat (first | exact HB.out | refine Below.drew ?_ | refine Below.setCell ?_ (by dsimp only; omega) _)
    | succ p =>
      have e : ((p + 1 : Nat) : Int) - 1 = (p : Int) := by omega
      rw [e] at hi
      subst hi
      obtain ⟨N, hN⟩ : ∃ N, N = a * (b / 2 ^ (p + 1)) := ⟨_, rfl⟩
      rw [← hN] at cO
      have HN : Hid (N = a * (b / 2 ^ (p + 1))) := hN
      clear hN e
      have c1 : ∀ o, o < 4 → wr.cell? ⟨w.heap.size + 1 + 1 + 1, o, none⟩ = some (.int .u64 (dg N o)) := cO
      go_wp2_with fail
      refine (wadd_any N N _).mono ?_
      rintro e w1 ⟨rfl, hb1⟩
      clear c1
      have z1 := hb1.size
      replace cA := C4_below cA hb1 (by omega)
      replace cB := C4_below cB hb1 (by omega)
      replace cR := C4_below cR hb1 (by omega)
      replace cO := C4_below cO hb1 hz
      replace fR := Fz_below fR hb1 (by omega)
      replace fO := Fz_below fO hb1 hz
      replace hb := hb.trans (hb1.mono (by omega))
      clear hb1
      replace hz : w.heap.size + 1 + 1 + 1 < w1.heap.size := by omega
      clear z1
      have c1 : ∀ o, o < 4 → w1.cell? ⟨w.heap.size + 1 + 1 + 1, o, none⟩ = some (.int .u64 (dg N o)) := cO
      have f1 : ∀ o, w1.frozen? ⟨w.heap.size + 1 + 1 + 1, o, none⟩ = false := fO
      have c2 : ∀ o, o < 4 → w1.cell? ⟨w.heap.size + 1, o, none⟩ = some (.int .u64 (dg b o)) := cB
      simp only [Wd]
      go_wp2_with fail
      refine (wbit_any b p _ (by omega)).mono ?_
      rintro e w2 ⟨rfl, hb2⟩
      clear c1 f1 c2
      have z1 := hb2.size
      simp at z1
      replace cA := C4_below (C4_other (C4_other (C4_other (C4_other cA (by dsimp only; omega)) (by dsimp only; omega)) (by dsimp only; omega)) (by dsimp only; omega)) hb2 (by simp; omega)
      replace cB := C4_below (C4_other (C4_other (C4_other (C4_other cB (by dsimp only; omega)) (by dsimp only; omega)) (by dsimp only; omega)) (by dsimp only; omega)) hb2 (by simp; omega)
      replace cR := C4_below (C4_other (C4_other (C4_other (C4_other cR (by dsimp only; omega)) (by dsimp only; omega)) (by dsimp only; omega)) (by dsimp only; omega)) hb2 (by simp; omega)
      replace cO := C4_below (C4_set (m := N + N) cO) hb2 (by simp; omega)
      replace fR := Fz_below (Fz_set (Fz_set (Fz_set (Fz_set fR)))) hb2 (by simp; omega)
      replace fO := Fz_below (Fz_set (Fz_set (Fz_set (Fz_set fO)))) hb2 (by simp; omega)
      replace hb := ((((hb.setCell (by dsimp only; omega) _).setCell (by dsimp only; omega) _).setCell (by dsimp only; omega) _).setCell (by dsimp only; omega) _).trans (hb2.mono (by simp; omega))
      clear hb2
      replace hz : w.heap.size + 1 + 1 + 1 < w2.heap.size := by omega
      clear z1
      by_cases hw : wb b p = true
      · have c1 : ∀ o, o < 4 → w2.cell? ⟨w.heap.size + 1 + 1 + 1, o, none⟩ = some (.int .u64 (dg (N + N) o)) := cO
        have c2 : ∀ o, o < 4 → w2.cell? ⟨w.heap.size, o, none⟩ = some (.int .u64 (dg a o)) := cA
        go_wp2_with fail
        refine (wadd_any (N + N) a _).mono ?_
        rintro e w3 ⟨rfl, hb3⟩
        clear c1 c2
        have z1 := hb3.size
        replace cA := C4_below cA hb3 (by omega)
        replace cB := C4_below cB hb3 (by omega)
        replace cR := C4_below cR hb3 (by omega)
        replace cO := C4_below cO hb3 hz
        replace fR := Fz_below fR hb3 (by omega)
        replace fO := Fz_below fO hb3 hz
        replace hb := hb.trans (hb3.mono (by omega))
        clear hb3
        replace hz : w.heap.size + 1 + 1 + 1 < w3.heap.size := by omega
        clear z1
        have c1 : ∀ o, o < 4 → w3.cell? ⟨w.heap.size + 1 + 1 + 1, o, none⟩ = some (.int .u64 (dg (N + N) o)) := cO
        have f1 : ∀ o, w3.frozen? ⟨w.heap.size + 1 + 1 + 1, o, none⟩ = false := fO
        simp only [Wd]
        go_wp2_with fail
        go_roundw
        case rel =>
          refine ⟨p, by omega, by go_num, C4_other (C4_other (C4_other (C4_other cA (by dsimp only; omega)) (by dsimp only; omega)) (by dsimp only; omega)) (by dsimp only; omega), C4_other (C4_other (C4_other (C4_other cB (by dsimp only; omega)) (by dsimp only; omega)) (by dsimp only; omega)) (by dsimp only; omega), C4_other (C4_other (C4_other (C4_other cR (by dsimp only; omega)) (by dsimp only; omega)) (by dsimp only; omega)) (by dsimp only; omega), ?_, Fz_set (Fz_set (Fz_set (Fz_set fR))), Fz_set (Fz_set (Fz_set (Fz_set fO))), by simp; omega, (((hb.setCell (by dsimp only; omega) _).setCell (by dsimp only; omega) _).setCell (by dsimp only; omega) _).setCell (by dsimp only; omega) _⟩
          have en : a * (b / 2 ^ p) = N + N + a := by rw [wb_step b p, if_pos hw, HN.out, Nat.mul_add, Nat.mul_left_comm]; omega
          rw [en]
          exact C4_set cO
        case measure => simp [intOf]
      · have hw' : wb b p = false := by simpa using hw
        go_wp2_with fail
        go_roundw
        case rel =>
          refine ⟨p, by omega, by go_num, cA, cB, cR, ?_, fR, fO, hz, hb⟩
          have en : a * (b / 2 ^ p) = N + N := by rw [wb_step b p, if_neg hw, HN.out, Nat.mul_add, Nat.mul_left_comm]; omega
          rw [en]
          exact cO
        case measure => simp [intOf]
end Go.Proofs.Ytdimohnapjfllaa
