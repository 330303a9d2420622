/- lampbearerref.WExp: powers, from the least bit on. -/
import Derived.Test.YtblodmjnhmfjeaaExp
import Derived.Deep.RegionWith
import Derived.BigRegion
import Derived.Deep.DeepCutAuto
namespace Go.Proofs.Ytblodmjnhmfjeaa
open Go.RowKit Go.Shelf
attribute [local go_sem ↓] Go.wp_at_zero Go.wp_at_succ
theorem pow_low (a b i : Nat) : a ^ (b % 2 ^ (i + 1)) = a ^ (b % 2 ^ i) * (if wb b i = true then a ^ 2 ^ i else 1) := by
  rw [Nat.pow_succ, Nat.mod_mul, Nat.pow_add]
  unfold wb
  have : b / 2 ^ i % 2 = 0 ∨ b / 2 ^ i % 2 = 1 := by omega
  rcases this with h | h <;> simp [h]
theorem pow_sq (a i : Nat) : a ^ 2 ^ (i + 1) = a ^ 2 ^ i * a ^ 2 ^ i := by
  rw [Nat.pow_succ, Nat.mul_two, Nat.pow_add]
theorem C4_al {g n : Nat} {w : World} (h : C4 g n w) (hg : g < w.heap.size) (o : Obj) : C4 g n (w.alloc o) := C4_below h ((Below.refl _ _).alloc (Nat.le_refl _) o) hg
theorem Fz_al {g : Nat} {w : World} (h : Fz g w) (hg : g < w.heap.size) (o : Obj) : Fz g (w.alloc o) := Fz_below h ((Below.refl _ _).alloc (Nat.le_refl _) o) hg
theorem C4_zero (w : World) (T : TypeId) : C4 w.heap.size 0 (w.alloc (.cells #[.int .u64 0, .int .u64 0, .int .u64 0, .int .u64 0] T)) := C4_alloc 0 w T
/-- What stands in a world with the three variables, behind a call: the first four cells of each; all else old. -/
structure E0 (w : World) (a b k : Nat) (w1 : World) : Prop where
  sz : w.heap.size + 1 + 1 + 1 + k ≤ w1.heap.size
  cA : C4 w.heap.size a w1
  cB : C4 (w.heap.size + 1) b w1
  cR : C4 (w.heap.size + 1 + 1) 0 w1
  fR : Fz (w.heap.size + 1 + 1) w1
  cZ : ∀ j, j < k → C4 (w.heap.size + 1 + 1 + 1 + j) 0 w1 ∧ Fz (w.heap.size + 1 + 1 + 1 + j) w1
  bel : Below w.heap.size w w1
theorem E0_start (w : World) (a b : Nat) : E0 w a b 0 (((w.alloc (.cells #[.int .u64 (dg a 0), .int .u64 (dg a 1), .int .u64 (dg a 2), .int .u64 (dg a 3)] 24)).alloc (.cells #[.int .u64 (dg b 0), .int .u64 (dg b 1), .int .u64 (dg b 2), .int .u64 (dg b 3)] 24)).alloc (.cells #[.int .u64 0, .int .u64 0, .int .u64 0, .int .u64 0] 24)) := by
  refine ⟨by simp, fun o ho => ?_, fun o ho => ?_, fun o ho => ?_, fun o => by simp [go_sem], fun j hj => by omega, ?_⟩
  · have : o = 0 ∨ o = 1 ∨ o = 2 ∨ o = 3 := by omega
    rcases this with rfl | rfl | rfl | rfl <;> simp [go_sem]
  · have : o = 0 ∨ o = 1 ∨ o = 2 ∨ o = 3 := by omega
    rcases this with rfl | rfl | rfl | rfl <;> simp [go_sem]
  · have : o = 0 ∨ o = 1 ∨ o = 2 ∨ o = 3 := by omega
    rcases this with rfl | rfl | rfl | rfl <;> simp [go_sem, dg]
  · exact (((Below.refl _ _).alloc (Nat.le_refl _) _).alloc (by simp) _).alloc (by simp <;> omega) _
theorem E0_alloc {w : World} {a b k : Nat} {w1 : World} (h : E0 w a b k w1) (hs : w1.heap.size = w.heap.size + 1 + 1 + 1 + k) (T : TypeId) : E0 w a b (k + 1) (w1.alloc (.cells #[.int .u64 0, .int .u64 0, .int .u64 0, .int .u64 0] T)) := by
  have sz := h.sz
  refine ⟨by simp; omega, C4_al h.cA (by omega) _, C4_al h.cB (by omega) _, C4_al h.cR (by omega) _, Fz_al h.fR (by omega) _, fun j hj => ?_, h.bel.alloc (by omega) _⟩
  by_cases e : j = k
  · subst e; rw [← hs]; exact ⟨C4_zero w1 T, Fz_alloc w1 _ T⟩
  · obtain ⟨h1, h2⟩ := h.cZ j (by omega)
    exact ⟨C4_al h1 (by omega) _, Fz_al h2 (by omega) _⟩
theorem E0_call {w : World} {a b k : Nat} {w1 w2 : World} (h : E0 w a b k w1) (hb : Below w1.drew.heap.size w1.drew w2) : E0 w a b k w2 := by
  have sz := h.sz
  have hs : w1.heap.size ≤ w2.heap.size := hb.size
  have hb' : Below w1.heap.size w1 w2 := ⟨hb.os, hb.tape, hb.output, hb.size, hb.block⟩
  refine ⟨by omega, C4_below h.cA hb' (by omega), C4_below h.cB hb' (by omega), C4_below h.cR hb' (by omega), Fz_below h.fR hb' (by omega), fun j hj => ?_, h.bel.trans (hb'.mono (by omega))⟩
  obtain ⟨h1, h2⟩ := h.cZ j hj
  exact ⟨C4_below h1 hb' (by omega), Fz_below h2 hb' (by omega)⟩
theorem C4_set_other {g n h m : Nat} {w : World} (c : C4 g n w) (hne : h ≠ g) : C4 g n ((((w.setCell ⟨h, 0, none⟩ (.int .u64 (dg m 0))).setCell ⟨h, 1, none⟩ (.int .u64 (dg m 1))).setCell ⟨h, 2, none⟩ (.int .u64 (dg m 2))).setCell ⟨h, 3, none⟩ (.int .u64 (dg m 3))) := C4_other (C4_other (C4_other (C4_other c hne) hne) hne) hne
theorem Fz_set4 {g h m : Nat} {w : World} (c : Fz g w) : Fz g ((((w.setCell ⟨h, 0, none⟩ (.int .u64 (dg m 0))).setCell ⟨h, 1, none⟩ (.int .u64 (dg m 1))).setCell ⟨h, 2, none⟩ (.int .u64 (dg m 2))).setCell ⟨h, 3, none⟩ (.int .u64 (dg m 3))) := Fz_set (Fz_set (Fz_set (Fz_set c)))
theorem Bel_set4 {h m B : Nat} {w w1 : World} (c : Below B w w1) (hB : B ≤ h) : Below B w ((((w1.setCell ⟨h, 0, none⟩ (.int .u64 (dg m 0))).setCell ⟨h, 1, none⟩ (.int .u64 (dg m 1))).setCell ⟨h, 2, none⟩ (.int .u64 (dg m 2))).setCell ⟨h, 3, none⟩ (.int .u64 (dg m 3))) := (((c.setCell hB _).setCell hB _).setCell hB _).setCell hB _
/-- Block g is a variable of the call's own, and holds n. -/
structure Vr (w : World) (g n : Nat) (wx : World) : Prop where
  lo : w.heap.size + 1 + 1 < g
  hi : g < wx.heap.size
  c : C4 g n wx
  f : Fz g wx
theorem E0_weak {w : World} {a b k : Nat} {w1 : World} (h : E0 w a b k w1) : E0 w a b 0 w1 := ⟨by have := h.sz; omega, h.cA, h.cB, h.cR, h.fR, fun j hj => by omega, h.bel⟩
theorem Vr_zero {w : World} {a b k : Nat} {w1 : World} (h : E0 w a b k w1) (j : Nat) (hj : j < k) : Vr w (w.heap.size + 1 + 1 + 1 + j) 0 w1 := by
  obtain ⟨h1, h2⟩ := h.cZ j hj
  exact ⟨by omega, by have := h.sz; omega, h1, h2⟩
theorem E0_al {w : World} {a b : Nat} {w1 : World} (h : E0 w a b 0 w1) (o : Obj) : E0 w a b 0 (w1.alloc o) := by
  have sz := h.sz
  exact ⟨by simp; omega, C4_al h.cA (by omega) _, C4_al h.cB (by omega) _, C4_al h.cR (by omega) _, Fz_al h.fR (by omega) _, fun j hj => by omega, h.bel.alloc (by omega) _⟩
theorem E0_set {w : World} {a b g m : Nat} {w1 : World} (h : E0 w a b 0 w1) (hg : w.heap.size + 1 + 1 < g) : E0 w a b 0 ((((w1.setCell ⟨g, 0, none⟩ (.int .u64 (dg m 0))).setCell ⟨g, 1, none⟩ (.int .u64 (dg m 1))).setCell ⟨g, 2, none⟩ (.int .u64 (dg m 2))).setCell ⟨g, 3, none⟩ (.int .u64 (dg m 3))) := by
  have sz := h.sz
  exact ⟨by simp; omega, C4_set_other h.cA (by omega), C4_set_other h.cB (by omega), C4_set_other h.cR (by omega), Fz_set4 h.fR, fun j hj => by omega, Bel_set4 h.bel (by omega)⟩
theorem Vr_new {w : World} {a b n g : Nat} {w1 : World} (h : E0 w a b 0 w1) (T : TypeId) (hg : g = w1.heap.size) : Vr w g n (w1.alloc (.cells #[.int .u64 (dg n 0), .int .u64 (dg n 1), .int .u64 (dg n 2), .int .u64 (dg n 3)] T)) := by
  subst hg
  have sz := h.sz
  exact ⟨by omega, by simp, C4_alloc n w1 T, Fz_alloc w1 _ T⟩
theorem Vr_al {w : World} {n g : Nat} {w1 : World} (h : Vr w g n w1) (o : Obj) : Vr w g n (w1.alloc o) := ⟨h.lo, by have := h.hi; simp; omega, C4_al h.c h.hi o, Fz_al h.f h.hi o⟩
theorem Vr_set {w : World} {n m g : Nat} {w1 : World} (h : Vr w g n w1) : Vr w g m ((((w1.setCell ⟨g, 0, none⟩ (.int .u64 (dg m 0))).setCell ⟨g, 1, none⟩ (.int .u64 (dg m 1))).setCell ⟨g, 2, none⟩ (.int .u64 (dg m 2))).setCell ⟨g, 3, none⟩ (.int .u64 (dg m 3))) := ⟨h.lo, by simpa using h.hi, C4_set h.c, Fz_set4 h.f⟩
theorem Vr_other {w : World} {n m g k : Nat} {w1 : World} (h : Vr w g n w1) (hne : k ≠ g) : Vr w g n ((((w1.setCell ⟨k, 0, none⟩ (.int .u64 (dg m 0))).setCell ⟨k, 1, none⟩ (.int .u64 (dg m 1))).setCell ⟨k, 2, none⟩ (.int .u64 (dg m 2))).setCell ⟨k, 3, none⟩ (.int .u64 (dg m 3))) := ⟨h.lo, by simpa using h.hi, C4_set_other h.c hne, Fz_set4 h.f⟩
theorem Vr_below {w : World} {n g : Nat} {w1 w2 : World} (h : Vr w g n w1) (hb : Below w1.heap.size w1 w2) : Vr w g n w2 := ⟨h.lo, by have := h.hi; have := hb.size; omega, C4_below h.c hb h.hi, Fz_below h.f hb h.hi⟩
theorem E0_below {w : World} {a b : Nat} {w1 w2 : World} (h : E0 w a b 0 w1) (hb : Below w1.heap.size w1 w2) : E0 w a b 0 w2 := by
  have sz := h.sz
  exact ⟨by have := hb.size; omega, C4_below h.cA hb (by omega), C4_below h.cB hb (by omega), C4_below h.cR hb (by omega), Fz_below h.fR hb (by omega), fun j hj => by omega, h.bel.trans (hb.mono (by omega))⟩
end Go.Proofs.Ytblodmjnhmfjeaa
