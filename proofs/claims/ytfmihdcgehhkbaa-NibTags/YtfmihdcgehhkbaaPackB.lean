/- Variables of a call's own in memory: what they hold, and what leaves them alone. -/
import Derived.Test.YtfmihdcgehhkbaaPackA
import Derived.Lib.BufferOwn
import Derived.Lib.BufferWrite
import Derived.ChangeKeysEq
import Derived.ProofKit
import Derived.OpenShut
import Derived.ShutString
import Derived.ChangeOld
import Derived.Lib.SmallJoins
import Derived.SizedLaws
import Derived.Deep.Cut
namespace Go.Proofs.Ytfmihdcgehhkbaa
open Go.RowKit Go.Shelf
theorem CF_al {g n : Nat} {F : Nat → Int} {w : World} (h : CF g n F w) (hg : g < w.heap.size) (o : Obj) : CF g n F (w.alloc o) := CF_below h ((Below.refl _ _).alloc (Nat.le_refl _) o) hg
/-- Block g is the call's own, is not frozen, and its first n cells are F's. -/
structure Vb (B g n : Nat) (F : Nat → Int) (wx : World) : Prop where
  lo : B ≤ g
  hi : g < wx.heap.size
  c : CF g n F wx
  f : Fz g wx
theorem Vb_below {B g n : Nat} {F : Nat → Int} {w1 w2 : World} (h : Vb B g n F w1) (hb : Below w1.heap.size w1 w2) : Vb B g n F w2 := ⟨h.lo, Nat.lt_of_lt_of_le h.hi hb.size, CF_below h.c hb h.hi, Fz_below h.f hb h.hi⟩
theorem Vb_al {B g n : Nat} {F : Nat → Int} {w1 : World} (h : Vb B g n F w1) (o : Obj) : Vb B g n F (w1.alloc o) := Vb_below h ((Below.refl _ _).alloc (Nat.le_refl _) o)
theorem Vb_drew {B g n : Nat} {F : Nat → Int} {w1 : World} (h : Vb B g n F w1) : Vb B g n F w1.drew := Vb_below h (Below.refl _ _).drew
theorem Vb_gb {B g n k : Nat} {F : Nat → Int} {w1 w2 : World} (h : Vb B g n F w1) (hb : w1.grownBy w2 (some k)) (hne : g ≠ k) : Vb B g n F w2 := ⟨h.lo, Nat.lt_of_lt_of_le h.hi hb.size, CF_gb h.c hb hne h.hi, Fz_gb h.f hb hne h.hi⟩
theorem Vb_other {B g n : Nat} {F : Nat → Int} {w1 : World} {a : Addr} {v : Value} (h : Vb B g n F w1) (hne : a.block ≠ g) : Vb B g n F (w1.setCell a v) := ⟨h.lo, by simpa using h.hi, CF_other h.c hne, Fz_set h.f⟩
theorem Vb_set {B g n k : Nat} {F : Nat → Int} {w1 : World} {v : Int} (h : Vb B g n F w1) (hk : k < n) : Vb B g n (upd F k v) (w1.setCell ⟨g, k, none⟩ (.int .u64 v)) := ⟨h.lo, by simpa using h.hi, CF_set h.c hk, Fz_set h.f⟩
theorem Vb_set4 {B g m : Nat} {F : Nat → Int} {w1 : World} (h : Vb B g 4 F w1) : Vb B g 4 (dg m) ((((w1.setCell ⟨g, 0, none⟩ (.int .u64 (dg m 0))).setCell ⟨g, 1, none⟩ (.int .u64 (dg m 1))).setCell ⟨g, 2, none⟩ (.int .u64 (dg m 2))).setCell ⟨g, 3, none⟩ (.int .u64 (dg m 3))) := by
  have k := Vb_set (v := dg m 3) (Vb_set (v := dg m 2) (Vb_set (v := dg m 1) (Vb_set (v := dg m 0) h (show 0 < 4 by omega)) (show 1 < 4 by omega)) (show 2 < 4 by omega)) (show 3 < 4 by omega)
  refine ⟨k.lo, k.hi, CF_ext k.c fun o ho => ?_, k.f⟩
  have : o = 0 ∨ o = 1 ∨ o = 2 ∨ o = 3 := by omega
  rcases this with rfl | rfl | rfl | rfl <;> simp [upd]
theorem Vb_set8 {B g m : Nat} {F : Nat → Int} {w1 : World} (h : Vb B g 8 F w1) : Vb B g 8 (dg m) ((((((((w1.setCell ⟨g, 0, none⟩ (.int .u64 (dg m 0))).setCell ⟨g, 1, none⟩ (.int .u64 (dg m 1))).setCell ⟨g, 2, none⟩ (.int .u64 (dg m 2))).setCell ⟨g, 3, none⟩ (.int .u64 (dg m 3))).setCell ⟨g, 4, none⟩ (.int .u64 (dg m 4))).setCell ⟨g, 5, none⟩ (.int .u64 (dg m 5))).setCell ⟨g, 6, none⟩ (.int .u64 (dg m 6))).setCell ⟨g, 7, none⟩ (.int .u64 (dg m 7))) := ⟨h.lo, by simpa using h.hi, C8_set h.c, Fz_set (Fz_set (Fz_set (Fz_set (Fz_set (Fz_set (Fz_set (Fz_set h.f)))))))⟩
theorem Vb_o4 {B g n k m : Nat} {F : Nat → Int} {w1 : World} (h : Vb B g n F w1) (hne : k ≠ g) : Vb B g n F ((((w1.setCell ⟨k, 0, none⟩ (.int .u64 (dg m 0))).setCell ⟨k, 1, none⟩ (.int .u64 (dg m 1))).setCell ⟨k, 2, none⟩ (.int .u64 (dg m 2))).setCell ⟨k, 3, none⟩ (.int .u64 (dg m 3))) := Vb_other (Vb_other (Vb_other (Vb_other h hne) hne) hne) hne
theorem Vb_o8 {B g n k m : Nat} {F : Nat → Int} {w1 : World} (h : Vb B g n F w1) (hne : k ≠ g) : Vb B g n F ((((((((w1.setCell ⟨k, 0, none⟩ (.int .u64 (dg m 0))).setCell ⟨k, 1, none⟩ (.int .u64 (dg m 1))).setCell ⟨k, 2, none⟩ (.int .u64 (dg m 2))).setCell ⟨k, 3, none⟩ (.int .u64 (dg m 3))).setCell ⟨k, 4, none⟩ (.int .u64 (dg m 4))).setCell ⟨k, 5, none⟩ (.int .u64 (dg m 5))).setCell ⟨k, 6, none⟩ (.int .u64 (dg m 6))).setCell ⟨k, 7, none⟩ (.int .u64 (dg m 7))) := Vb_other (Vb_other (Vb_other (Vb_other (Vb_other (Vb_other (Vb_other (Vb_other h hne) hne) hne) hne) hne) hne) hne) hne
theorem Vb_new4 (B n : Nat) (w1 : World) (T : TypeId) (hB : B ≤ w1.heap.size) : Vb B w1.heap.size 4 (dg n) (w1.alloc (.cells #[.int .u64 (dg n 0), .int .u64 (dg n 1), .int .u64 (dg n 2), .int .u64 (dg n 3)] T)) := ⟨hB, by simp, C4_alloc n w1 T, Fz_alloc w1 _ T⟩
theorem Vb_new0 (B : Nat) (w1 : World) (T : TypeId) (hB : B ≤ w1.heap.size) : Vb B w1.heap.size 4 (dg 0) (w1.alloc (.cells #[.int .u64 0, .int .u64 0, .int .u64 0, .int .u64 0] T)) := Vb_new4 B 0 w1 T hB
theorem Vb_new8 (B n : Nat) (w1 : World) (T : TypeId) (hB : B ≤ w1.heap.size) : Vb B w1.heap.size 8 (dg n) (w1.alloc (.cells #[.int .u64 (dg n 0), .int .u64 (dg n 1), .int .u64 (dg n 2), .int .u64 (dg n 3), .int .u64 (dg n 4), .int .u64 (dg n 5), .int .u64 (dg n 6), .int .u64 (dg n 7)] T)) := ⟨hB, by simp, fun o ho => by
  have : o = 0 ∨ o = 1 ∨ o = 2 ∨ o = 3 ∨ o = 4 ∨ o = 5 ∨ o = 6 ∨ o = 7 := by omega
  rcases this with rfl | rfl | rfl | rfl | rfl | rfl | rfl | rfl <;> simp, Fz_alloc w1 _ T⟩
theorem Vb_new8e {B n g : Nat} {w1 : World} {T : TypeId} (hg : g = w1.heap.size) (hB : B ≤ g) : Vb B g 8 (dg n) (w1.alloc (.cells #[.int .u64 (dg n 0), .int .u64 (dg n 1), .int .u64 (dg n 2), .int .u64 (dg n 3), .int .u64 (dg n 4), .int .u64 (dg n 5), .int .u64 (dg n 6), .int .u64 (dg n 7)] T)) := by subst hg; exact Vb_new8 B n w1 T hB
theorem Vb_new4e {B n g : Nat} {w1 : World} {T : TypeId} (hg : g = w1.heap.size) (hB : B ≤ g) : Vb B g 4 (dg n) (w1.alloc (.cells #[.int .u64 (dg n 0), .int .u64 (dg n 1), .int .u64 (dg n 2), .int .u64 (dg n 3)] T)) := by subst hg; exact Vb_new4 B n w1 T hB
theorem Vb_new80 (B : Nat) (w1 : World) (T : TypeId) (hB : B ≤ w1.heap.size) : Vb B w1.heap.size 8 (dg 0) (w1.alloc (.cells #[.int .u64 0, .int .u64 0, .int .u64 0, .int .u64 0, .int .u64 0, .int .u64 0, .int .u64 0, .int .u64 0] T)) := by
  have k := Vb_new8 B 0 w1 T hB
  simp only [dg_zero] at k
  exact k
theorem Vb_new80e {B g : Nat} {w1 : World} {T : TypeId} (hg : g = w1.heap.size) (hB : B ≤ g) : Vb B g 8 (dg 0) (w1.alloc (.cells #[.int .u64 0, .int .u64 0, .int .u64 0, .int .u64 0, .int .u64 0, .int .u64 0, .int .u64 0, .int .u64 0] T)) := by subst hg; exact Vb_new80 B w1 T hB
theorem Vb_new0e {B g : Nat} {w1 : World} {T : TypeId} (hg : g = w1.heap.size) (hB : B ≤ g) : Vb B g 4 (dg 0) (w1.alloc (.cells #[.int .u64 0, .int .u64 0, .int .u64 0, .int .u64 0] T)) := by subst hg; exact Vb_new0 B w1 T hB
theorem Bel_set8 {h m B : Nat} {w w1 : World} (c : Below B w w1) (hB : B ≤ h) : Below B w ((((((((w1.setCell ⟨h, 0, none⟩ (.int .u64 (dg m 0))).setCell ⟨h, 1, none⟩ (.int .u64 (dg m 1))).setCell ⟨h, 2, none⟩ (.int .u64 (dg m 2))).setCell ⟨h, 3, none⟩ (.int .u64 (dg m 3))).setCell ⟨h, 4, none⟩ (.int .u64 (dg m 4))).setCell ⟨h, 5, none⟩ (.int .u64 (dg m 5))).setCell ⟨h, 6, none⟩ (.int .u64 (dg m 6))).setCell ⟨h, 7, none⟩ (.int .u64 (dg m 7))) := (((((((c.setCell hB _).setCell hB _).setCell hB _).setCell hB _).setCell hB _).setCell hB _).setCell hB _).setCell hB _
theorem K_other {g n : Nat} {F : Nat → Int} {w : World} {a : Addr} {v : Value} (h : ∀ o, o < n → w.cell? ⟨g, o, none⟩ = some (.int .u64 (F o))) (hne : a.block ≠ g) : ∀ o, o < n → (w.setCell a v).cell? ⟨g, o, none⟩ = some (.int .u64 (F o)) := CF_other h hne
theorem K_drew {g n : Nat} {F : Nat → Int} {w : World} (h : ∀ o, o < n → w.cell? ⟨g, o, none⟩ = some (.int .u64 (F o))) : ∀ o, o < n → w.drew.cell? ⟨g, o, none⟩ = some (.int .u64 (F o)) := h
theorem K_al {g n : Nat} {F : Nat → Int} {w : World} (h : ∀ o, o < n → w.cell? ⟨g, o, none⟩ = some (.int .u64 (F o))) (hg : g < w.heap.size) (x : Obj) : ∀ o, o < n → (w.alloc x).cell? ⟨g, o, none⟩ = some (.int .u64 (F o)) := CF_al h hg x
theorem K_o4 {g n k m : Nat} {F : Nat → Int} {w : World} (h : ∀ o, o < n → w.cell? ⟨g, o, none⟩ = some (.int .u64 (F o))) (hne : k ≠ g) : ∀ o, o < n → ((((w.setCell ⟨k, 0, none⟩ (.int .u64 (dg m 0))).setCell ⟨k, 1, none⟩ (.int .u64 (dg m 1))).setCell ⟨k, 2, none⟩ (.int .u64 (dg m 2))).setCell ⟨k, 3, none⟩ (.int .u64 (dg m 3))).cell? ⟨g, o, none⟩ = some (.int .u64 (F o)) := CF_other (CF_other (CF_other (CF_other h hne) hne) hne) hne
theorem K_o8 {g n k m : Nat} {F : Nat → Int} {w : World} (h : ∀ o, o < n → w.cell? ⟨g, o, none⟩ = some (.int .u64 (F o))) (hne : k ≠ g) : ∀ o, o < n → ((((((((w.setCell ⟨k, 0, none⟩ (.int .u64 (dg m 0))).setCell ⟨k, 1, none⟩ (.int .u64 (dg m 1))).setCell ⟨k, 2, none⟩ (.int .u64 (dg m 2))).setCell ⟨k, 3, none⟩ (.int .u64 (dg m 3))).setCell ⟨k, 4, none⟩ (.int .u64 (dg m 4))).setCell ⟨k, 5, none⟩ (.int .u64 (dg m 5))).setCell ⟨k, 6, none⟩ (.int .u64 (dg m 6))).setCell ⟨k, 7, none⟩ (.int .u64 (dg m 7))).cell? ⟨g, o, none⟩ = some (.int .u64 (F o)) := CF_other (CF_other (CF_other (CF_other (CF_other (CF_other (CF_other (CF_other h hne) hne) hne) hne) hne) hne) hne) hne
/-- Four words in a row, from block B on: two handed in, two still 0. -/
structure M4 (w : World) (x0 x1 x2 x3 : Nat) (wx : World) : Prop where
  v0 : Vb w.heap.size w.heap.size 4 (dg x0) wx
  v1 : Vb w.heap.size (w.heap.size + 1) 4 (dg x1) wx
  v2 : Vb w.heap.size (w.heap.size + 1 + 1) 4 (dg x2) wx
  v3 : Vb w.heap.size (w.heap.size + 1 + 1 + 1) 4 (dg x3) wx
  bel : Below w.heap.size w wx
theorem M4_below {w : World} {x0 x1 x2 x3 : Nat} {w1 w2 : World} (h : M4 w x0 x1 x2 x3 w1) (k : Below w1.heap.size w1 w2) : M4 w x0 x1 x2 x3 w2 := ⟨Vb_below h.v0 k, Vb_below h.v1 k, Vb_below h.v2 k, Vb_below h.v3 k, h.bel.trans (k.mono (Nat.le_of_lt h.v0.hi))⟩
theorem M4_al {w : World} {x0 x1 x2 x3 : Nat} {w1 : World} (h : M4 w x0 x1 x2 x3 w1) (o : Obj) : M4 w x0 x1 x2 x3 (w1.alloc o) := M4_below h ((Below.refl _ _).alloc (Nat.le_refl _) o)
theorem M4_drew {w : World} {x0 x1 x2 x3 : Nat} {w1 : World} (h : M4 w x0 x1 x2 x3 w1) : M4 w x0 x1 x2 x3 w1.drew := M4_below h (Below.refl _ _).drew
theorem M4_start (w : World) (a b : Nat) (T : TypeId) : M4 w a b 0 0 ((((w.alloc (.cells #[.int .u64 (dg a 0), .int .u64 (dg a 1), .int .u64 (dg a 2), .int .u64 (dg a 3)] T)).alloc (.cells #[.int .u64 (dg b 0), .int .u64 (dg b 1), .int .u64 (dg b 2), .int .u64 (dg b 3)] T)).alloc (.cells #[.int .u64 0, .int .u64 0, .int .u64 0, .int .u64 0] T)).alloc (.cells #[.int .u64 0, .int .u64 0, .int .u64 0, .int .u64 0] T)) := by
  have e1 : ∀ o, (w.alloc o).heap.size = w.heap.size + 1 := fun o => by simp
  have e2 : ∀ o p, ((w.alloc o).alloc p).heap.size = w.heap.size + 1 + 1 := fun o p => by simp
  have e3 : ∀ o p q, (((w.alloc o).alloc p).alloc q).heap.size = w.heap.size + 1 + 1 + 1 := fun o p q => by simp
  refine ⟨Vb_al (Vb_al (Vb_al (Vb_new4 _ a w T (Nat.le_refl _)) _) _) _, ?_, ?_, ?_, ?_⟩
  · have k := Vb_al (Vb_al (Vb_new4 w.heap.size b (w.alloc (.cells #[.int .u64 (dg a 0), .int .u64 (dg a 1), .int .u64 (dg a 2), .int .u64 (dg a 3)] T)) T (by simp)) (.cells #[.int .u64 0, .int .u64 0, .int .u64 0, .int .u64 0] T)) (.cells #[.int .u64 0, .int .u64 0, .int .u64 0, .int .u64 0] T)
    rw [e1] at k; exact k
  · have k := Vb_al (Vb_new0 w.heap.size ((w.alloc (.cells #[.int .u64 (dg a 0), .int .u64 (dg a 1), .int .u64 (dg a 2), .int .u64 (dg a 3)] T)).alloc (.cells #[.int .u64 (dg b 0), .int .u64 (dg b 1), .int .u64 (dg b 2), .int .u64 (dg b 3)] T)) T (by simp <;> omega)) (.cells #[.int .u64 0, .int .u64 0, .int .u64 0, .int .u64 0] T)
    rw [e2] at k; exact k
  · have k := Vb_new0 w.heap.size (((w.alloc (.cells #[.int .u64 (dg a 0), .int .u64 (dg a 1), .int .u64 (dg a 2), .int .u64 (dg a 3)] T)).alloc (.cells #[.int .u64 (dg b 0), .int .u64 (dg b 1), .int .u64 (dg b 2), .int .u64 (dg b 3)] T)).alloc (.cells #[.int .u64 0, .int .u64 0, .int .u64 0, .int .u64 0] T)) T (by simp <;> omega)
    rw [e3] at k; exact k
  · repeat (first | exact Below.refl _ _ | refine Below.alloc ?_ (by simp <;> omega) _)
theorem M4_o8 {w : World} {x0 x1 x2 x3 k m : Nat} {w1 : World} (h : M4 w x0 x1 x2 x3 w1) (hk : w.heap.size + 1 + 1 + 1 < k) : M4 w x0 x1 x2 x3 ((((((((w1.setCell ⟨k, 0, none⟩ (.int .u64 (dg m 0))).setCell ⟨k, 1, none⟩ (.int .u64 (dg m 1))).setCell ⟨k, 2, none⟩ (.int .u64 (dg m 2))).setCell ⟨k, 3, none⟩ (.int .u64 (dg m 3))).setCell ⟨k, 4, none⟩ (.int .u64 (dg m 4))).setCell ⟨k, 5, none⟩ (.int .u64 (dg m 5))).setCell ⟨k, 6, none⟩ (.int .u64 (dg m 6))).setCell ⟨k, 7, none⟩ (.int .u64 (dg m 7))) := ⟨Vb_o8 h.v0 (by omega), Vb_o8 h.v1 (by omega), Vb_o8 h.v2 (by omega), Vb_o8 h.v3 (by omega), Bel_set8 h.bel (by omega)⟩
theorem M4_o4 {w : World} {x0 x1 x2 x3 k m : Nat} {w1 : World} (h : M4 w x0 x1 x2 x3 w1) (hk : w.heap.size + 1 + 1 + 1 < k) : M4 w x0 x1 x2 x3 ((((w1.setCell ⟨k, 0, none⟩ (.int .u64 (dg m 0))).setCell ⟨k, 1, none⟩ (.int .u64 (dg m 1))).setCell ⟨k, 2, none⟩ (.int .u64 (dg m 2))).setCell ⟨k, 3, none⟩ (.int .u64 (dg m 3))) := ⟨Vb_o4 h.v0 (by omega), Vb_o4 h.v1 (by omega), Vb_o4 h.v2 (by omega), Vb_o4 h.v3 (by omega), Bel_set4 h.bel (by omega)⟩
theorem M4_set3 {w : World} {x0 x1 x2 x3 m : Nat} {w1 : World} (h : M4 w x0 x1 x2 x3 w1) : M4 w x0 x1 x2 m ((((w1.setCell ⟨w.heap.size + 1 + 1 + 1, 0, none⟩ (.int .u64 (dg m 0))).setCell ⟨w.heap.size + 1 + 1 + 1, 1, none⟩ (.int .u64 (dg m 1))).setCell ⟨w.heap.size + 1 + 1 + 1, 2, none⟩ (.int .u64 (dg m 2))).setCell ⟨w.heap.size + 1 + 1 + 1, 3, none⟩ (.int .u64 (dg m 3))) := ⟨Vb_o4 h.v0 (by omega), Vb_o4 h.v1 (by omega), Vb_o4 h.v2 (by omega), Vb_set4 h.v3, Bel_set4 h.bel (by omega)⟩
theorem M4_set2 {w : World} {x0 x1 x2 x3 m : Nat} {w1 : World} (h : M4 w x0 x1 x2 x3 w1) : M4 w x0 x1 m x3 ((((w1.setCell ⟨w.heap.size + 1 + 1, 0, none⟩ (.int .u64 (dg m 0))).setCell ⟨w.heap.size + 1 + 1, 1, none⟩ (.int .u64 (dg m 1))).setCell ⟨w.heap.size + 1 + 1, 2, none⟩ (.int .u64 (dg m 2))).setCell ⟨w.heap.size + 1 + 1, 3, none⟩ (.int .u64 (dg m 3))) := ⟨Vb_o4 h.v0 (by omega), Vb_o4 h.v1 (by omega), Vb_set4 h.v2, Vb_o4 h.v3 (by omega), Bel_set4 h.bel (by omega)⟩
end Go.Proofs.Ytfmihdcgehhkbaa
/- What a call holds in memory: a list of blocks of its own, each with its cells; all below the call's start is as it was. -/
namespace Go.Proofs.Ytfmihdcgehhkbaa
namespace Hm
open Go.RowKit
structure Bk where
  g : Nat
  n : Nat
  F : Nat → Value
structure Ok (B : Nat) (k : Bk) (wx : World) : Prop where
  lo : B ≤ k.g
  hi : k.g < wx.heap.size
  c : ∀ o, o < k.n → wx.cell? ⟨k.g, o, none⟩ = some (k.F o)
  f : ∀ o, wx.frozen? ⟨k.g, o, none⟩ = false
structure Hd (w : World) (L : List Bk) (wx : World) : Prop where
  bel : Below w.heap.size w wx
  ok : ∀ k, k ∈ L → Ok w.heap.size k wx
/-- A word's block. -/
def W4 (g x : Nat) : Bk := ⟨g, 4, fun o => .int .u64 (dg x o)⟩
def updv (F : Nat → Value) (k : Nat) (v : Value) : Nat → Value := fun o => if o = k then v else F o
theorem Ok_below {B : Nat} {k : Bk} {w1 w2 : World} (h : Ok B k w1) (hb : Below w1.heap.size w1 w2) : Ok B k w2 :=
  ⟨h.lo, Nat.lt_of_lt_of_le h.hi hb.size, fun o ho => (hb.cell (p := ⟨k.g, o, none⟩) h.hi).trans (h.c o ho), fun o => (hb.frozen (p := ⟨k.g, o, none⟩) h.hi).trans (h.f o)⟩
theorem Ok_other {B : Nat} {k : Bk} {w1 : World} {a : Addr} {v : Value} (h : Ok B k w1) (hne : a.block ≠ k.g) : Ok B k (w1.setCell a v) :=
  ⟨h.lo, by simpa using h.hi, fun o ho => by rw [World.cell?_setCell_other w1 a _ v (fun e => hne (by rw [e]))]; exact h.c o ho, fun o => by rw [World.frozen?_setCell]; exact h.f o⟩
theorem Ok_set {B i : Nat} {k : Bk} {w1 : World} {v : Value} (h : Ok B k w1) (hi : i < k.n) : Ok B ⟨k.g, k.n, updv k.F i v⟩ (w1.setCell ⟨k.g, i, none⟩ v) :=
  ⟨h.lo, by simpa using h.hi, fun o ho => by
    unfold updv
    by_cases e : o = i
    · subst e
      have := World.cell?_setCell_same w1 ⟨k.g, o, none⟩ v (h.c o hi)
      simpa using this
    · have := World.cell?_setCell_other w1 ⟨k.g, i, none⟩ ⟨k.g, o, none⟩ v (fun e' => e (by simpa using e'.symm))
      simp only [if_neg e]
      exact this.trans (h.c o ho), fun o => by rw [World.frozen?_setCell]; exact h.f o⟩
theorem Ok_ext {B : Nat} {k : Bk} {G : Nat → Value} {w1 : World} (h : Ok B k w1) (e : ∀ o, o < k.n → k.F o = G o) : Ok B ⟨k.g, k.n, G⟩ w1 :=
  ⟨h.lo, h.hi, fun o ho => (h.c o ho).trans (congrArg some (e o ho)), h.f⟩
theorem below {w : World} {L : List Bk} {w1 w2 : World} (h : Hd w L w1) (hb : Below w1.heap.size w1 w2) : Hd w L w2 :=
  ⟨h.bel.trans (hb.mono h.bel.size), fun k hk => Ok_below (h.ok k hk) hb⟩
theorem drew {w : World} {L : List Bk} {w1 : World} (h : Hd w L w1) : Hd w L w1.drew := below h (Below.refl _ _).drew
theorem al {w : World} {L : List Bk} {w1 : World} (h : Hd w L w1) (o : Obj) : Hd w L (w1.alloc o) := below h ((Below.refl _ _).alloc (Nat.le_refl _) o)
theorem start (w : World) : Hd w [] w := ⟨Below.refl _ _, fun _ h => by cases h⟩
theorem sub {w : World} {L M : List Bk} {w1 : World} (h : Hd w L w1) (hs : ∀ k, k ∈ M → k ∈ L) : Hd w M w1 := ⟨h.bel, fun k hk => h.ok k (hs k hk)⟩
theorem new4 {w : World} {L : List Bk} {w1 : World} {g n : Nat} {T : TypeId} (h : Hd w L w1) (hg : g = w1.heap.size) : Hd w (W4 g n :: L) (w1.alloc (.cells #[.int .u64 (dg n 0), .int .u64 (dg n 1), .int .u64 (dg n 2), .int .u64 (dg n 3)] T)) := by
  subst hg
  refine ⟨(al h _).bel, fun k hk => ?_⟩
  rcases List.mem_cons.1 hk with rfl | hk
  · have v := Vb_new4 w.heap.size n w1 T h.bel.size
    exact ⟨v.lo, v.hi, v.c, v.f⟩
  · exact (al h _).ok k hk
theorem new0 {w : World} {L : List Bk} {w1 : World} {g : Nat} {T : TypeId} (h : Hd w L w1) (hg : g = w1.heap.size) : Hd w (W4 g 0 :: L) (w1.alloc (.cells #[.int .u64 0, .int .u64 0, .int .u64 0, .int .u64 0] T)) := new4 (n := 0) h hg
/-- A cell of the first block is set. -/
theorem set {w : World} {g n : Nat} {F : Nat → Value} {L : List Bk} {w1 : World} {i : Nat} {v : Value} (h : Hd w (⟨g, n, F⟩ :: L) w1) (hi : i < n) (hne : ∀ b, b ∈ L → g ≠ b.g) : Hd w (⟨g, n, updv F i v⟩ :: L) (w1.setCell ⟨g, i, none⟩ v) := by
  have h0 := h.ok _ (List.mem_cons_self ..)
  refine ⟨h.bel.setCell h0.lo _, fun b hb => ?_⟩
  rcases List.mem_cons.1 hb with rfl | hb
  · exact Ok_set h0 hi
  · exact Ok_other (h.ok b (List.mem_cons_of_mem _ hb)) (hne b hb)
theorem ext {w : World} {k : Bk} {G : Nat → Value} {L : List Bk} {w1 : World} (h : Hd w (k :: L) w1) (e : ∀ o, o < k.n → k.F o = G o) : Hd w (⟨k.g, k.n, G⟩ :: L) w1 := by
  refine ⟨h.bel, fun b hb => ?_⟩
  rcases List.mem_cons.1 hb with rfl | hb
  · exact Ok_ext (h.ok k (List.mem_cons_self ..)) e
  · exact h.ok b (List.mem_cons_of_mem _ hb)
/-- A word is laid into the first block. -/
theorem set4 {w : World} {g m : Nat} {F : Nat → Value} {L : List Bk} {w1 : World} (h : Hd w (⟨g, 4, F⟩ :: L) w1) (hne : ∀ b, b ∈ L → g ≠ b.g) : Hd w (W4 g m :: L) ((((w1.setCell ⟨g, 0, none⟩ (.int .u64 (dg m 0))).setCell ⟨g, 1, none⟩ (.int .u64 (dg m 1))).setCell ⟨g, 2, none⟩ (.int .u64 (dg m 2))).setCell ⟨g, 3, none⟩ (.int .u64 (dg m 3))) := by
  have h1 := set (i := 0) (v := .int .u64 (dg m 0)) h (by decide) hne
  have h2 := set (i := 1) (v := .int .u64 (dg m 1)) h1 (by decide) hne
  have h3 := set (i := 2) (v := .int .u64 (dg m 2)) h2 (by decide) hne
  have h4 := set (i := 3) (v := .int .u64 (dg m 3)) h3 (by decide) hne
  refine ext h4 (fun o ho => ?_)
  have : o = 0 ∨ o = 1 ∨ o = 2 ∨ o = 3 := by have : o < 4 := ho; omega
  rcases this with rfl | rfl | rfl | rfl <;> rfl
end Hm
namespace RS
open RI
variable {P : Program} {ops : Array Oper} {Q : Exit → Act → World → Prop}
/-- S till operation k is done, T from then on; k comes last. -/
def Two (S T : World → Prop) (k : Nat) (d : Nat → Bool) (w : World) : Prop := (d k = false → S w) ∧ (d k = true → T w ∧ ∀ j, j < k → d j = true)
theorem two0 {S T : World → Prop} {k : Nat} {w : World} (h : S w) : Two S T k (fun _ => false) w := ⟨fun _ => h, fun h => by cases h⟩
theorem two_step {S T : World → Prop} {k i : Nat} {o : Oper} {a : Act} {v : Value} (hik : i < k)
    (h : ∀ (K : Value → World → Prop) w, S w → (∀ w', S w' → K v w') → upv P K ((execOp a.eval o).run P w)) : ∀ (K : Value → World → Prop) d w, Two S T k d w → may ops d i → (∀ w', Two S T k (don d i) w' → K v w') → upv P K ((execOp a.eval o).run P w) := by
  intro K d w hI hmay hK
  have hdk : d k = false := by
    cases hd : d k with
    | false => rfl
    | true => have := (hI.2 hd).2 i hik; rw [hmay.1] at this; cases this
  exact h K w (hI.1 hdk) (fun w' hS' => hK w' ⟨fun _ => hS', fun h => by rw [don_other _ _ _ (by omega), hdk] at h; cases h⟩)
theorem go2 {S T : World → Prop} {k : Nat} {E : Act → Prop} {i : Nat} {o : Oper} {r : List Oper} {a a' : Act} {v : Value} (hik : i < k) (hg : o.guard = none)
    (h : ∀ (K : Value → World → Prop) w, S w → (∀ w', S w' → K v w') → upv P K ((execOp a.eval o).run P w)) (he : a.put o.dst v = a')
    (hr : Seq P ops (Two S T k) E (i + 1) r a') : Seq P ops (Two S T k) E i (o :: r) a :=
  ⟨v, .inl ⟨by simp [Region.wanted, hg], two_step hik h⟩, he ▸ hr⟩
theorem go2g {S T : World → Prop} {k : Nat} {E : Act → Prop} {i : Nat} {o : Oper} {r : List Oper} {a a' : Act} {v : Value} (hik : i < k) (hg : Region.wanted o (yielded ops a.tmps) = true)
    (h : ∀ (K : Value → World → Prop) w, S w → (∀ w', S w' → K v w') → upv P K ((execOp a.eval o).run P w)) (he : a.put o.dst v = a')
    (hr : Seq P ops (Two S T k) E (i + 1) r a') : Seq P ops (Two S T k) E i (o :: r) a :=
  ⟨v, .inl ⟨hg, two_step hik h⟩, he ▸ hr⟩
theorem go2z {S T : World → Prop} {k : Nat} {E : Act → Prop} {i : Nat} {o : Oper} {r : List Oper} {a a' : Act} (hik : i < k) (hg : Region.wanted o (yielded ops a.tmps) = false) (he : a.put o.dst undef = a')
    (hr : Seq P ops (Two S T k) E (i + 1) r a') : Seq P ops (Two S T k) E i (o :: r) a := by
  refine ⟨undef, .inr ⟨hg, rfl, fun d w hI hmay => ?_⟩, he ▸ hr⟩
  have hdk : d k = false := by
    cases hd : d k with
    | false => rfl
    | true => have := (hI.2 hd).2 i hik; rw [hmay.1] at this; cases this
  exact And.intro (fun _ => hI.1 hdk) (fun h => by rw [don_other _ _ _ (by omega), hdk] at h; cases h)
/-- The last one leads from S to T. -/
theorem go2_last {S T : World → Prop} {k : Nat} {E : Act → Prop} {o : Oper} {a a' : Act} {v : Value} (hg : o.guard = none) (hb : ((List.range k).all fun j => bindsOn o j) = true) (hk : ops[k]? = some o)
    (h : ∀ (K : Value → World → Prop) w, S w → (∀ w', T w' → K v w') → upv P K ((execOp a.eval o).run P w)) (he : a.put o.dst v = a')
    (hr : E a') : Seq P ops (Two S T k) E k [o] a := by
  refine ⟨v, .inl ⟨by simp [Region.wanted, hg], fun K d w hI hmay hK => h K w (hI.1 hmay.1) (fun w' hT => hK w' (And.intro (fun h => by rw [don_same] at h; exact absurd h (by decide)) (fun _ => And.intro hT (fun j hj => ?_))))⟩, he ▸ hr⟩
  rw [don_other _ _ _ (by omega)]
  have h1 := List.all_eq_true.1 hb j (List.mem_range.2 hj)
  unfold bindsOn at h1
  rw [Array.any_eq_true'] at h1
  obtain ⟨e, e1, e2⟩ := h1
  rw [Bool.and_eq_true, beq_iff_eq] at e2
  have h2 := hmay.2 o hk
  rw [Array.all_eq_true_iff_forall_mem] at h2
  have h3 := h2 e e1
  rw [e2.1, e2.2] at h3
  simpa using h3
theorem wp_region_two {id : Nat} {a : Act} {w : World} (S T : World → Prop) (k : Nat) (hm : P.follows .mixedOrders = true) (hok : okOps ops = true) (hk : k < ops.size) (h0 : S w.drew)
    (hs : Seq P ops (Two S T k) (fun a' => ∀ w', T w' → Q .normal a' w') 0 ops.toList a) : (Code.region id ops true).wp P Q a w := by
  refine wp_region_seq (Two S T k) hm hok (two0 h0) ?_
  have : ∀ l i a, Seq P ops (Two S T k) (fun a' => ∀ w', T w' → Q .normal a' w') i l a → Seq P ops (Two S T k) (fun a' => ∀ d w', Two S T k d w' → (∀ i, i < ops.size → d i = true) → Q .normal a' w') i l a := by
    intro l
    induction l with
    | nil => intro i a h d w' hI hall; exact h w' (hI.2 (hall k hk)).1
    | cons o r ih => intro i a h; obtain ⟨v, h1, h2⟩ := h; exact ⟨v, h1, ih _ _ h2⟩
  exact this _ _ _ hs
theorem wp_region_one {id : Nat} {a : Act} {w : World} (S : World → Prop) (hm : P.follows .mixedOrders = true) (hok : okOps ops = true) (h0 : S w.drew)
    (hs : Seq P ops (fun _ => S) (fun a' => ∀ w', S w' → Q .normal a' w') 0 ops.toList a) : (Code.region id ops true).wp P Q a w := by
  refine wp_region_seq (fun _ => S) hm hok h0 ?_
  have : ∀ l i a, Seq P ops (fun _ => S) (fun a' => ∀ w', S w' → Q .normal a' w') i l a → Seq P ops (fun _ => S) (fun a' => ∀ (d : Nat → Bool) w', S w' → (∀ i, i < ops.size → d i = true) → Q .normal a' w') i l a := by
    intro l
    induction l with
    | nil => intro i a h d w' hI _; exact h w' hI
    | cons o r ih => intro i a h; obtain ⟨v, h1, h2⟩ := h; exact ⟨v, h1, ih _ _ h2⟩
  exact this _ _ _ hs
end RS
end Go.Proofs.Ytfmihdcgehhkbaa
/- Plain arithmetic of sums: blocks soaked up, and the bytes that come out. -/
namespace Go.Proofs.Ytfmihdcgehhkbaa
namespace Sp
open Go.RowKit
/-- A byte, at its place in a part. -/
def sb (c : Int) (i : Nat) : Int := (c * 2 ^ (8 * (i % 8))) % 18446744073709551616
/-- The first i bytes of a block stirred in. -/
def skb (F f : Nat → Int) : Nat → Nat → Int
  | 0 => F
  | i + 1 => upd (skb F f i) (i / 8) (bits .xor .u64 (skb F f i (i / 8)) (sb (f i) i))
theorem UF_skb {F f : Nat → Int} (h : UF F) : ∀ i, UF (skb F f i)
  | 0 => h
  | i + 1 => UF_upd (UF_skb h i) _ (U_xor _ _ (UF_skb h i _) (U_mod _))
/-- A block soaked up. -/
def sk (F f : Nat → Int) : Nat → Int := mix (skb F f 32)
theorem UF_sk {F f : Nat → Int} (h : UF F) : UF (sk F f) := UF_mix (UF_skb h 32)
/-- The first k blocks of f soaked up. -/
def ab (F f : Nat → Int) : Nat → Nat → Int
  | 0 => F
  | k + 1 => sk (ab F f k) (fun i => f (32 * k + i))
theorem UF_ab {F f : Nat → Int} (h : UF F) : ∀ k, UF (ab F f k)
  | 0 => h
  | k + 1 => UF_sk (UF_ab h k)
/-- Byte k of what comes out. -/
def hb (F : Nat → Int) (k : Nat) : Int := F (k / 8) / 2 ^ (8 * (k % 8)) % 256
/-- Bytes as cells, and as a sum's value. -/
def h32 (G : Nat → Int) : List Value := (List.range 32).map fun i => .int .u8 (G i)
def Hv (G : Nat → Int) : Value := .agg (h32 G).toArray
theorem h32_length (G : Nat → Int) : (h32 G).length = 32 := by simp [h32]
theorem h32_get (G : Nat → Int) (j : Nat) (h : j < 32) : (h32 G)[j]? = some (.int .u8 (G j)) := by
  simp [h32, List.getElem?_map, List.getElem?_range h]
theorem h32_one (G : Nat → Int) : ∀ v ∈ h32 G, v.oneCell' = true := by
  intro v hv
  simp only [h32, List.mem_map] at hv
  obtain ⟨b, _, rfl⟩ := hv
  rfl
/-- What l comes to. -/
def sumf (l : List UInt8) : Nat → Int := hb (ab (fun _ => 0) (bz (pad l)) ((pad l).length / 32))
theorem UF_zero : UF (fun _ => 0) := fun _ => ⟨Int.le_refl 0, by show (0 : Int) < _; decide⟩
theorem skb_congr {F f f' : Nat → Int} : ∀ i, (∀ j, j < i → f j = f' j) → skb F f i = skb F f' i
  | 0, _ => rfl
  | i + 1, h => by rw [skb, skb, skb_congr i (fun j hj => h j (by omega)), h i (by omega)]
theorem ab_congr {F f f' : Nat → Int} : ∀ k, (∀ j, j < 32 * k → f j = f' j) → ab F f k = ab F f' k
  | 0, _ => rfl
  | k + 1, h => by
    rw [ab, ab, ab_congr k (fun j hj => h j (by omega)), sk, sk, skb_congr 32 (fun j hj => h (32 * k + j) (by omega))]
/-- A soaker in block g: a state, and a rest behind it. -/
structure Sk (g : Nat) (F : Nat → Int) (R : Value) (w : World) : Prop where
  hi : g < w.heap.size
  c : CK .u64 g 8 F w
  r : w.cell? ⟨g, 8, none⟩ = some R
  f : Fz g w
theorem CK_gb {k : IntKind} {g h n : Nat} {F : Nat → Int} {w w' : World} (c : CK k h n F w) (b : w.grownBy w' (some g)) (hne : h ≠ g) (hlt : h < w.heap.size) : CK k h n F w' := fun o ho => (World.cell?_of_block (a := ⟨h, o, none⟩) (b.block h hlt (fun e => hne (by simpa using e)))).trans (c o ho)
theorem Fz_gb {g h : Nat} {w w' : World} (c : Fz h w) (b : w.grownBy w' (some g)) (hne : h ≠ g) (hlt : h < w.heap.size) : Fz h w' := fun o => (World.frozen?_of_block (a := ⟨h, o, none⟩) (b.block h hlt (fun e => hne (by simpa using e)))).trans (c o)
theorem cell_gb {g h o : Nat} {v : Value} {w w' : World} (c : w.cell? ⟨h, o, none⟩ = some v) (b : w.grownBy w' (some g)) (hne : h ≠ g) (hlt : h < w.heap.size) : w'.cell? ⟨h, o, none⟩ = some v := (World.cell?_of_block (a := ⟨h, o, none⟩) (b.block h hlt (fun e => hne (by simpa using e)))).trans c
theorem Vb_gb {k : IntKind} {B g h n : Nat} {F : Nat → Int} {w w' : World} (c : Vb k B h n F w) (b : w.grownBy w' (some g)) (hne : h ≠ g) : Vb k B h n F w' := ⟨c.lo, Nat.lt_of_lt_of_le c.hi b.size, CK_gb c.c b hne c.hi, Fz_gb c.f b hne c.hi⟩
theorem gb_refl (w : World) (r : Option Nat) : w.grownBy w r := ⟨rfl, rfl, rfl, Nat.le_refl _, fun _ _ _ => rfl⟩
theorem gb_trans {a b c : World} {r : Option Nat} (h : a.grownBy b r) (k : b.grownBy c r) : a.grownBy c r := Lib.grownBy_trans h k
theorem gb_below {a b : World} {r : Option Nat} (h : Below a.heap.size a b) : a.grownBy b r := ⟨h.os, h.tape, h.output, h.size, fun k hk _ => h.block k hk⟩
theorem gb_drew (a : World) (r : Option Nat) : a.grownBy a.drew r := gb_below (Below.refl _ _).drew
theorem gb_set (a : World) (g o : Nat) (v : Value) : a.grownBy (a.setCell ⟨g, o, none⟩ v) (some g) := ⟨rfl, rfl, rfl, by simp [World.setCell], fun k _ hne => Below.heap_setCell _ _ _ _ (fun e => hne (by rw [e]))⟩
/-- A change of a block that is the call's own is no change below. -/
theorem below_gb {B g : Nat} {w w1 w2 : World} (h : Below B w w1) (b : w1.grownBy w2 (some g)) (hg : B ≤ g) (hB : B ≤ w1.heap.size) : Below B w w2 := h.trans ⟨b.os, b.tape, b.output, b.size, fun k hk => b.block k (by omega) (fun e => by simp at e; omega)⟩
theorem Sk_below {g : Nat} {F : Nat → Int} {R : Value} {w w' : World} (h : Sk g F R w) (b : Below w.heap.size w w') : Sk g F R w' := ⟨Nat.lt_of_lt_of_le h.hi b.size, CK_below h.c b h.hi, (b.cell (p := ⟨g, 8, none⟩) h.hi).trans h.r, Fz_below h.f b h.hi⟩
theorem Sk_drew {g : Nat} {F : Nat → Int} {R : Value} {w : World} (h : Sk g F R w) : Sk g F R w.drew := Sk_below h (Below.refl _ _).drew
theorem Sk_set {g i : Nat} {F : Nat → Int} {R : Value} {w : World} {v : Int} (h : Sk g F R w) (hi : i < 8) : Sk g (upd F i v) R (w.setCell ⟨g, i, none⟩ (.int .u64 v)) := ⟨by simpa using h.hi, CK_set h.c hi, by
  rw [World.cell?_setCell_other w ⟨g, i, none⟩ ⟨g, 8, none⟩ _ (fun e => by simp at e <;> omega)]; exact h.r, Fz_set h.f⟩
end Sp
end Go.Proofs.Ytfmihdcgehhkbaa
/- Two arrays of numbers are equal where their numbers are. -/
namespace Go.Proofs.Ytfmihdcgehhkbaa
namespace Sp
open Go.RowKit
/-- The first n numbers are the same. -/
def same (n : Nat) (F G : Nat → Int) : Bool := (List.range n).all fun i => F i == G i
theorem same_iff (n : Nat) (F G : Nat → Int) : same n F G = true ↔ ∀ i, i < n → F i = G i := by simp [same]
theorem same_self (n : Nat) (F : Nat → Int) : same n F F = true := (same_iff n F F).2 fun _ _ => rfl
theorem eqItems_ints (d : Nat) (e : TypeId) (k : IntKind) (he : Try.prog.underlying e = some (.int k)) (hk : Try.prog.plainKey e = true) (xs ys : Array Value) (F G : Nat → Int) (w : World) :
    ∀ is : List Nat, (∀ i ∈ is, xs[i]? = some (.int k (F i)) ∧ ys[i]? = some (.int k (G i))) → (Op.eqItems (d + 1) e 1 xs ys is).run Try.prog w = .ok (is.all fun i => F i == G i) w
  | [], _ => by simp [Op.eqItems]
  | i :: is, h => by
    obtain ⟨h1, h2⟩ := h i (by simp)
    have p1 := run_part_plain (P := Try.prog) w hk (off := i * 1) (xs := xs) (by rw [Nat.mul_one]; exact h1)
    have p2 := run_part_plain (P := Try.prog) w hk (off := i * 1) (xs := ys) (by rw [Nat.mul_one]; exact h2)
    have p3 : (Op.equalIn (d + 1) e (.int k (F i)) (.int k (G i))).run Try.prog w = .ok (F i == G i) w := by simp [Op.equalIn, run_underlying he]
    have ih := eqItems_ints d e k he hk xs ys F G w is (fun j hj => h j (by simp [hj]))
    simp only [Op.eqItems, Sem.run_bind, p1, p2, p3, Result.andThen_ok]
    by_cases c : F i = G i
    · simp [c, ih]
    · simp [c]
theorem eql_array (T e : TypeId) (n : Nat) (k : IntKind) (hT : Try.prog.underlying T = some (.array n e)) (he : Try.prog.underlying e = some (.int k)) (hk : Try.prog.plainKey e = true) (hc : Try.prog.cellsOf e = 1) (hi : (Try.prog.info? e).isSome = true)
    (xs ys : Array Value) (F G : Nat → Int) (w : World) (hx : ∀ i, i < n → xs[i]? = some (.int k (F i)) ∧ ys[i]? = some (.int k (G i))) :
    (binOp .eql T (.agg xs) (.agg ys)).run Try.prog w = .ok (.bool (same n F G)) w := by
  obtain ⟨i, hi⟩ := Option.isSome_iff_exists.1 hi
  rw [run_eql_struct, run_equalIn_array w 9999 _ _ hT hi, hc, eqItems_ints 9998 e k he hk xs ys F G w (List.range n) (fun j hj => hx j (List.mem_range.1 hj))]
  rfl
theorem neq_array (T e : TypeId) (n : Nat) (k : IntKind) (hT : Try.prog.underlying T = some (.array n e)) (he : Try.prog.underlying e = some (.int k)) (hk : Try.prog.plainKey e = true) (hc : Try.prog.cellsOf e = 1) (hi : (Try.prog.info? e).isSome = true)
    (xs ys : Array Value) (F G : Nat → Int) (w : World) (hx : ∀ i, i < n → xs[i]? = some (.int k (F i)) ∧ ys[i]? = some (.int k (G i))) :
    (binOp .neq T (.agg xs) (.agg ys)).run Try.prog w = .ok (.bool (!same n F G)) w := by
  obtain ⟨i, hi⟩ := Option.isSome_iff_exists.1 hi
  rw [run_neq_struct, run_equalIn_array w 9999 _ _ hT hi, hc, eqItems_ints 9998 e k he hk xs ys F G w (List.range n) (fun j hj => hx j (List.mem_range.1 hj))]
  rfl
theorem Sv_get (F : Nat → Int) (i : Nat) (hi : i < 8) : (#[Value.int .u64 (F 0), .int .u64 (F 1), .int .u64 (F 2), .int .u64 (F 3), .int .u64 (F 4), .int .u64 (F 5), .int .u64 (F 6), .int .u64 (F 7)] : Array Value)[i]? = some (.int .u64 (F i)) := by
  have : i = 0 ∨ i = 1 ∨ i = 2 ∨ i = 3 ∨ i = 4 ∨ i = 5 ∨ i = 6 ∨ i = 7 := by omega
  rcases this with rfl | rfl | rfl | rfl | rfl | rfl | rfl | rfl <;> rfl
end Sp
end Go.Proofs.Ytfmihdcgehhkbaa
/- Words within a region: loaded, laid, held against each other. -/
namespace Go.Proofs.Ytfmihdcgehhkbaa
namespace RW
open Go.RowKit Go.Shelf
theorem wd_arr (x : Nat) (i : Nat) (hi : i < 4) : (#[.int .u64 (dg x 0), .int .u64 (dg x 1), .int .u64 (dg x 2), .int .u64 (dg x 3)] : Array Value)[i]? = some (.int .u64 (dg x i)) := by
  have : i = 0 ∨ i = 1 ∨ i = 2 ∨ i = 3 := by omega
  rcases this with rfl | rfl | rfl | rfl <;> rfl
theorem dg_inj (x y : Nat) : (∀ i, i < 4 → dg x i = dg y i) ↔ x % 2 ^ 256 = y % 2 ^ 256 := by
  constructor
  · intro h
    have h0 := h 0 (by decide)
    have h1 := h 1 (by decide)
    have h2 := h 2 (by decide)
    have h3 := h 3 (by decide)
    unfold dg at h0 h1 h2 h3
    omega
  · intro h i hi
    have : i = 0 ∨ i = 1 ∨ i = 2 ∨ i = 3 := by omega
    unfold dg
    rcases this with rfl | rfl | rfl | rfl <;> omega
end RW
end Go.Proofs.Ytfmihdcgehhkbaa
/- nib.Join, lampbearerref.NJoin. -/
namespace Go.Proofs.Ytfmihdcgehhkbaa
namespace Nb
open Go.RowKit
theorem or16' : ∀ a b : Fin 16, bits .or .u8 ((a.val : Nat) * 16 : Int) ((b.val : Nat) : Int) = ((a.val : Nat) : Int) * 16 + ((b.val : Nat) : Int) := by decide +kernel
theorem or16 (R D : Int) (hR : 0 ≤ R ∧ R < 16) (hD : 0 ≤ D ∧ D < 16) : bits .or .u8 (R * 16) D = R * 16 + D := by
  have h := or16' ⟨R.toNat, by omega⟩ ⟨D.toNat, by omega⟩
  dsimp only at h
  rwa [Int.toNat_of_nonneg hR.1, Int.toNat_of_nonneg hD.1] at h
set_option maxHeartbeats 1000000 in
set_option maxRecDepth 100000 in
theorem join_yes (p : List UInt8) (ao : Option Addr) (cap : Nat) (w : World) (hn : Hid (p.length ≤ 4194304)) (vw : Sp.Vw p ao w) (hj : JF p) :
    Calls Try.prog 9 #[.slice ao p.length cap] w fun e w' => ∃ v, e = .returned (.tuple #[v, .int .i64 0]) ∧ w'.ownsRow w.heap.size 5 1 v (jn p).length (Pk.bcs (jn p)) ∧ Below w.heap.size w w' := by
  obtain ⟨m, hm⟩ : ∃ m, m = p.length / 2 := ⟨_, rfl⟩
  have HM : Hid (m = p.length / 2) := hm
  obtain ⟨w1, hr, hs1, o1, b1⟩ := made m (by have := hn.out; show _ ≤ _; omega) w
  have hw2 : Hid (wrap64 ((p.length : Int) / 2) = (m : Int)) := by
    have hn' := hn.out
    show _ = _
    unfold wrap64; omega
  have H2 : Hid (∀ i, i < m → Sp.bz (jn p) i = (Sp.bz p (2 * i) * 16 + Sp.bz p (2 * i + 1)) % 256) := by rw [hm]; exact jn_get p
  have HV : Hid (Sp.Vw p ao w) := vw
  have HF : Hid (fil (Sp.bz (jn p)) m m = Pk.bcs (jn p)) := by
    show _ = _
    rw [hm, ← jn_length, fil_full]
  have HL : Hid ((jn p).length = m) := by show _ = _; rw [jn_length, hm]
  have KP : Hid (∀ w : World, Sp.Vw p ao w → Calls Try.prog 20 #[.slice ao p.length cap] w fun e w' => e = .returned (.bool true) ∧ w' = w) := fun w v => by
    have k := ispath_any p ao cap w (by have := hn.out; show _ ≤ _; omega) v
    rwa [(pb_iff p).2 hj.2] at k
  have HJ : Hid (∀ j, j < p.length → Sp.bz p j < 16) := (pb_at p).1 ((pb_iff p).2 hj.2)
  have hev : ((p.length : Int) % 2 != 0) = false := by
    have := hj.1
    simp
    omega
  rw [HL.out]
  clear vw hm hj
  generalize Pk.bcs (jn p) = L at *
  generalize Sp.bz (jn p) = G at *
  go_enter Try.func9, Try.ntmps9
  have hw := hw2.out
  go_wp2_with fail
  refine (KP.out _ HV.out).mono (fun e w2 he => ?_)
  obtain ⟨rfl, hw3⟩ := he
  have hw3 := hw3.symm
  subst hw3
  go_wp2_with fail
  clear hw hw2 hr KP hev
  go_loopw [21] (fun i wr => ∃ k : Nat, k ≤ m ∧ i = .int .i64 (k : Int) ∧ wr.ownsRow w.heap.size 5 1 (.slice (some ⟨w.heap.size, 0, none⟩) m m) m (fil G k m) ∧ Below w.heap.size w wr) (fun i _ => ((m : Int) - intOf i).toNat)
  case atStart => exact ⟨0, Nat.zero_le _, rfl, by rw [fil_0]; exact o1, b1⟩
  case round =>
    clear o1 b1 hs1
    obtain ⟨k, hk, rfl, o2, b2⟩ := hrel
    by_cases h1 : k < m
    · have d1 : decide ((k : Int) < (m : Int)) = true := decide_eq_true (by omega)
      obtain ⟨t, ht⟩ : ∃ t, t = 2 * k := ⟨_, rfl⟩
      obtain ⟨r, hr⟩ : ∃ r, r = t + 1 := ⟨_, rfl⟩
      have ht1 : t < p.length := by have := HM.out; omega
      have hr1 : r < p.length := by have := HM.out; omega
      obtain ⟨g, off, rfl, hg, hc⟩ := HV.out (by omega)
      have c0 : wr.drew.cell? ⟨g, off + t, none⟩ = some (.int .u8 (Sp.bz p t)) := (b2.drew.cell (p := ⟨g, off + t, none⟩) hg).trans (hc t ht1)
      have c1 : wr.drew.cell? ⟨g, off + r, none⟩ = some (.int .u8 (Sp.bz p r)) := (b2.drew.cell (p := ⟨g, off + r, none⟩) hg).trans (hc r hr1)
      have hw := stp k (by have := hn.out; have := HM.out; show _ ≤ _; omega)
      have hwt : IntKind.i64.wrap (2 * (k : Int)) = (t : Int) := by
        have := hn.out; have := HM.out
        rw [IntKind.wrap_i64]; omega
      have hwr : IntKind.i64.wrap ((t : Int) + 1) = (r : Int) := by
        have := hn.out; have := HM.out
        rw [IntKind.wrap_i64]; omega
      have o3 := o2.drew
      have b3 := b2.drew
      have ce := World.ownsRow.cellAt o3 k (by omega)
      rw [fil_at G k m k h1] at ce
      have hfro : wr.drew.frozen? ⟨w.heap.size, k, none⟩ = false := World.ownsRow.frozenAt o3 k
      have HX : 0 ≤ Sp.bz p t ∧ Sp.bz p t < 256 := ⟨Sp.bz_nn p t, Sp.bz_lt p t⟩
      have HY : 0 ≤ Sp.bz p r ∧ Sp.bz p r < 256 := ⟨Sp.bz_nn p r, Sp.bz_lt p r⟩
      have HG := H2.out k h1
      rw [← ht, ← hr] at HG
      obtain ⟨V, hV⟩ : ∃ V, V = G k := ⟨_, rfl⟩
      have HS : Hid (fil G (k + 1) m = (fil G k m).set k (.int .u8 V)) := by
        show _ = _
        rw [fil_step G k m h1, hV]
      have HX6 : 0 ≤ Sp.bz p t ∧ Sp.bz p t < 16 := ⟨HX.1, HJ.out t ht1⟩
      have HY6 : 0 ≤ Sp.bz p r ∧ Sp.bz p r < 16 := ⟨HY.1, HJ.out r hr1⟩
      have hwx : IntKind.u8.wrap (Sp.bz p t * 16) = Sp.bz p t * 16 := by
        rw [IntKind.wrap_u8]; omega
      have hor : bits .or .u8 (Sp.bz p t * 16) (Sp.bz p r) = V := by
        rw [or16 _ _ HX6 HY6, hV, HG]
        omega
      have HT : Hid (t = 2 * k ∧ r = t + 1) := ⟨ht, hr⟩
      clear hV HG hc ht hr
      generalize Sp.bz p t = X at *
      generalize Sp.bz p r = Y at *
      go_upto_region 7 with fail
      refine RS.wp_region_two (fun wx => Hid (wx = wr.drew)) (fun wx => Hid (wx = (wr.setCell ⟨w.heap.size, k, none⟩ (.int .u8 V)).drew)) 16 (by kernel_rfl) (by kernel_rfl) (by decide) (rfl) ?_
      dsimp only [List.toList_toArray]
      refine RS.go2 (v := ?_) (a' := ?_) (by decide) rfl ?_ ?_ ?_
      rotate_left 2
      · intro K wx hS hK
        go_simp
        exact hK _ hS
      · simp only [Act.put, List.setIfInBounds_toArray, List.set_cons_succ, List.set_cons_zero]
        rfl
      refine RS.go2 (v := ?_) (a' := ?_) (by decide) rfl ?_ ?_ ?_
      rotate_left 2
      · intro K wx hS hK
        go_simp
        exact hK _ hS
      · simp only [Act.put, List.setIfInBounds_toArray, List.set_cons_succ, List.set_cons_zero]
        rfl
      refine RS.go2 (v := ?_) (a' := ?_) (by decide) rfl ?_ ?_ ?_
      rotate_left 2
      · intro K wx hS hK
        go_simp
        exact hK _ hS
      · simp only [Act.put, List.setIfInBounds_toArray, List.set_cons_succ, List.set_cons_zero]
        rfl
      refine RS.go2 (v := ?_) (a' := ?_) (by decide) rfl ?_ ?_ ?_
      rotate_left 2
      · intro K wx hS hK
        go_simp
        exact hK _ hS
      · simp only [Act.put, List.setIfInBounds_toArray, List.set_cons_succ, List.set_cons_zero]
        rfl
      refine RS.go2 (v := ?_) (a' := ?_) (by decide) rfl ?_ ?_ ?_
      rotate_left 2
      · intro K wx hS hK
        go_simp
        exact hK _ hS
      · simp only [Act.put, List.setIfInBounds_toArray, List.set_cons_succ, List.set_cons_zero]
        rfl
      refine RS.go2 (v := ?_) (a' := ?_) (by decide) rfl ?_ ?_ ?_
      rotate_left 2
      · intro K wx hS hK
        go_simp
        exact hK _ hS
      · simp only [Act.put, List.setIfInBounds_toArray, List.set_cons_succ, List.set_cons_zero]
        rfl
      refine RS.go2 (v := ?_) (a' := ?_) (by decide) rfl ?_ ?_ ?_
      rotate_left 2
      · intro K wx hS hK
        obtain rfl := hS.out
        go_simp
        exact hK _ rfl
      · simp only [Act.put, List.setIfInBounds_toArray, List.set_cons_succ, List.set_cons_zero]
        rfl
      refine RS.go2 (v := ?_) (a' := ?_) (by decide) rfl ?_ ?_ ?_
      rotate_left 2
      · intro K wx hS hK
        go_simp
        exact hK _ hS
      · simp only [Act.put, List.setIfInBounds_toArray, List.set_cons_succ, List.set_cons_zero]
        rfl
      refine RS.go2 (v := ?_) (a' := ?_) (by decide) rfl ?_ ?_ ?_
      rotate_left 2
      · intro K wx hS hK
        go_simp
        exact hK _ hS
      · simp only [Act.put, List.setIfInBounds_toArray, List.set_cons_succ, List.set_cons_zero]
        rfl
      refine RS.go2 (v := ?_) (a' := ?_) (by decide) rfl ?_ ?_ ?_
      rotate_left 2
      · intro K wx hS hK
        go_simp
        exact hK _ hS
      · simp only [Act.put, List.setIfInBounds_toArray, List.set_cons_succ, List.set_cons_zero]
        rfl
      refine RS.go2 (v := ?_) (a' := ?_) (by decide) rfl ?_ ?_ ?_
      rotate_left 2
      · intro K wx hS hK
        go_simp
        exact hK _ hS
      · simp only [Act.put, List.setIfInBounds_toArray, List.set_cons_succ, List.set_cons_zero]
        rfl
      refine RS.go2 (v := ?_) (a' := ?_) (by decide) rfl ?_ ?_ ?_
      rotate_left 2
      · intro K wx hS hK
        go_simp
        exact hK _ hS
      · simp only [Act.put, List.setIfInBounds_toArray, List.set_cons_succ, List.set_cons_zero]
        rfl
      refine RS.go2 (v := ?_) (a' := ?_) (by decide) rfl ?_ ?_ ?_
      rotate_left 2
      · intro K wx hS hK
        go_simp
        exact hK _ hS
      · simp only [Act.put, List.setIfInBounds_toArray, List.set_cons_succ, List.set_cons_zero]
        rfl
      refine RS.go2 (v := ?_) (a' := ?_) (by decide) rfl ?_ ?_ ?_
      rotate_left 2
      · intro K wx hS hK
        obtain rfl := hS.out
        go_simp
        exact hK _ rfl
      · simp only [Act.put, List.setIfInBounds_toArray, List.set_cons_succ, List.set_cons_zero]
        rfl
      refine RS.go2 (v := ?_) (a' := ?_) (by decide) rfl ?_ ?_ ?_
      rotate_left 2
      · intro K wx hS hK
        go_simp
        exact hK _ hS
      · simp only [Act.put, List.setIfInBounds_toArray, List.set_cons_succ, List.set_cons_zero]
        rfl
      refine RS.go2 (v := ?_) (a' := ?_) (by decide) rfl ?_ ?_ ?_
      rotate_left 2
      · intro K wx hS hK
        go_simp
        exact hK _ hS
      · simp only [Act.put, List.setIfInBounds_toArray, List.set_cons_succ, List.set_cons_zero]
        rfl
      refine RS.go2_last (v := ?_) (a' := ?_) rfl (by kernel_rfl) rfl ?_ ?_ ?_
      rotate_left 2
      · intro K wx hS hK
        obtain rfl := hS.out
        go_simp
        exact hK _ rfl
      · exact rfl
      intro w9 hw9
      have o9 : w9.ownsRow w.heap.size 5 1 (.slice (some ⟨w.heap.size, 0, none⟩) m m) m (fil G (k + 1) m) := by
        rw [hw9.out, HS.out]
        exact (o2.stored k _).1.drew
      have b9 : Below w.heap.size w w9 := by
        rw [hw9.out]
        exact (b2.setCell (Nat.le_refl _) _).drew
      clear o2 o3 b2 b3 ce hfro hw9 c0 c1 hwt hwr
      go_wp2_with fail
      have hw := hw.out
      go_roundw
      case rel => exact ⟨k + 1, h1, step_v k _ hw, o9, b9⟩
      case measure => exact msr k m h1 _ hw
    · have hkl : k = m := by omega
      subst hkl
      rw [HF.out] at o2
      go_wp2_with fail
      go_ret2
      exact ⟨_, rfl, o2, b2⟩
set_option maxHeartbeats 1000000 in
set_option maxRecDepth 100000 in
theorem join_no (p : List UInt8) (ao : Option Addr) (cap : Nat) (w : World) (hn : Hid (p.length ≤ 4194304)) (vw : Sp.Vw p ao w) (hj : ¬ JF p) :
    Calls Try.prog 9 #[.slice ao p.length cap] w fun e w' => e = .returned (.tuple #[.slice none 0 0, .int .i64 1]) ∧ w' = w := by
  by_cases e : p.length % 2 = 0
  · have hev : ((p.length : Int) % 2 != 0) = false := by
      simp
      omega
    have KP : Hid (∀ w : World, Sp.Vw p ao w → Calls Try.prog 20 #[.slice ao p.length cap] w fun e w' => e = .returned (.bool false) ∧ w' = w) := fun w v => by
      have k := ispath_any p ao cap w (by have := hn.out; show _ ≤ _; omega) v
      have h : pb p = false := by
        cases hB : pb p
        · rfl
        · exact absurd ⟨e, (pb_iff p).1 hB⟩ hj
      rwa [h] at k
    have HV : Hid (Sp.Vw p ao w) := vw
    clear vw hj hn e
    go_enter Try.func9, Try.ntmps9
    go_wp2_with fail
    refine (KP.out _ HV.out).mono (fun e w2 he => ?_)
    obtain ⟨rfl, rfl⟩ := he
    go_wp2_with fail
    go_ret2
    exact ⟨rfl, rfl⟩
  · have hev : ((p.length : Int) % 2 != 0) = true := by
      simp
      omega
    clear vw hj hn e
    go_enter Try.func9, Try.ntmps9
    go_wp2_with fail
    go_ret2
    exact ⟨rfl, rfl⟩
def NJ (c0 c1 c2 c3 c4 c5 c6 c7 c8 c9 c10 c11 c12 c13 c14 c15 c16 c17 c18 c19 c20 c21 c22 c23 c24 c25 c26 c27 c28 c29 c30 c31 : Value) (w : World) (m : Nat) (L : List Value) (X : List UInt8) (A B : ByteArray) (z : Bool) (d : Nat → Bool) (x : Act) (wx : World) : Prop :=
  ∃ (u32 u33 u34 u35 u36 u37 : Value), x = { tmps := #[c0, c1, c2, c3, c4, c5, c6, c7, c8, c9, c10, c11, c12, c13, c14, c15, c16, c17, c18, c19, c20, c21, c22, c23, c24, c25, c26, c27, c28, c29, c30, c31, u32, u33, u34, u35, u36, u37, undef], defers := [] } ∧ (wx.ownsRow w.heap.size 5 1 c4 m L ∧ Below w.heap.size w wx) ∧ (d 0 = true → u32 = c4) ∧ (d 2 = true → u34 = .string A) ∧ (d 3 = true → u35 = c0) ∧ (d 4 = true → u36 = .string B) ∧ (d 5 = true → u37 = .bool z) ∧ (d 1 = true → Pk.Sl X u33 wx)
set_option maxHeartbeats 1000000 in
set_option maxRecDepth 100000 in
theorem njoin_any (p : List UInt8) (ao : Option Addr) (cap : Nat) (w : World) (hn : Hid (p.length ≤ 4194304)) (hcap : p.length ≤ cap) (vw : Sp.Vw p ao w) :
    Calls Try.prog 10 #[.slice ao p.length cap] w fun e w' => ((JF p ∧ ∃ v, e = .returned (.tuple #[v, .int .i64 0]) ∧ w'.ownsRow w.heap.size 5 1 v (jn p).length (Pk.bcs (jn p))) ∨ (¬ JF p ∧ e = .returned (.tuple #[.slice none 0 0, .int .i64 1]))) ∧ Below w.heap.size w w' := by
  obtain ⟨m, hm⟩ : ∃ m, m = p.length / 2 := ⟨_, rfl⟩
  have HM : Hid (m = p.length / 2) := hm
  obtain ⟨w1, hr, hs1, o1, b1⟩ := made m (by have := hn.out; show _ ≤ _; omega) w
  have hw2 : Hid (wrap64 ((p.length : Int) / 2) = (m : Int)) := by
    have hn' := hn.out
    show _ = _
    unfold wrap64; omega
  have H2 : Hid (∀ i, i < m → Sp.bz (jn p) i = (Sp.bz p (2 * i) * 16 + Sp.bz p (2 * i + 1)) % 256) := by rw [hm]; exact jn_get p
  have HV : Hid (Sp.Vw p ao w) := vw
  have HF : Hid (fil (Sp.bz (jn p)) m m = Pk.bcs (jn p)) := by
    show _ = _
    rw [hm, ← jn_length, fil_full]
  have HL : Hid ((jn p).length = m) := by show _ = _; rw [jn_length, hm]
  have KN : Hid (∀ wx : World, wx.ownsRow w.heap.size 5 1 (.slice (some ⟨w.heap.size, 0, none⟩) m m) m (Pk.bcs (jn p)) → Calls Try.prog 12 #[.slice (some ⟨w.heap.size, 0, none⟩) m m] wx fun e w' => ∃ v, e = .returned v ∧ Pk.Sl (hv (jn p)) v w' ∧ Below wx.heap.size wx w') := fun wx ho => by
    have hs : Pk.Sl (jn p) (.slice (some ⟨w.heap.size, 0, none⟩) m m) wx := Pk.own_sl (base := w.heap.size) (by rw [HL.out]; exact ho)
    obtain ⟨a2, c2, e2, _, v2⟩ := hs
    cases e2
    exact (nhalves_any (jn p) _ _ wx (by have := hn.out; rw [show Hid ((jn p).length ≤ 2097152) = ((jn p).length ≤ 2097152) from rfl, jn_length]; omega) v2).mono fun e w' he => by
      obtain ⟨v, h1, h2, h3⟩ := he
      exact ⟨v, h1, Pk.own_sl h2, h3⟩
  have HC : Hid (∀ wx : World, Below w.heap.size w wx → (convert 22 9 (.slice ao p.length cap)).run Try.prog wx = .ok (.string ⟨p.toArray⟩) wx) := fun wx hb => Pk.Sl_conv ⟨ao, cap, rfl, hcap, Sp.Vw_below vw hb⟩
  rw [HL.out]
  clear vw hm hcap
  generalize Pk.bcs (jn p) = L at *
  generalize Sp.bz (jn p) = G at *
  go_enter Try.func10, Try.ntmps10
  have hw := hw2.out
  go_wp2_with fail
  clear hw hw2 hr
  go_loopw [12] (fun i wr => ∃ k : Nat, k ≤ m ∧ i = .int .i64 (k : Int) ∧ wr.ownsRow w.heap.size 5 1 (.slice (some ⟨w.heap.size, 0, none⟩) m m) m (fil G k m) ∧ Below w.heap.size w wr) (fun i _ => ((m : Int) - intOf i).toNat)
  case atStart => exact ⟨0, Nat.zero_le _, rfl, by rw [fil_0]; exact o1, b1⟩
  case round =>
    clear o1 b1 hs1
    obtain ⟨k, hk, rfl, o2, b2⟩ := hrel
    by_cases h1 : k < m
    · have d1 : decide ((k : Int) < (m : Int)) = true := decide_eq_true (by omega)
      obtain ⟨t, ht⟩ : ∃ t, t = 2 * k := ⟨_, rfl⟩
      obtain ⟨r, hr⟩ : ∃ r, r = t + 1 := ⟨_, rfl⟩
      have ht1 : t < p.length := by have := HM.out; omega
      have hr1 : r < p.length := by have := HM.out; omega
      obtain ⟨g, off, rfl, hg, hc⟩ := HV.out (by omega)
      have c0 : wr.drew.cell? ⟨g, off + t, none⟩ = some (.int .u8 (Sp.bz p t)) := (b2.drew.cell (p := ⟨g, off + t, none⟩) hg).trans (hc t ht1)
      have c1 : wr.drew.cell? ⟨g, off + r, none⟩ = some (.int .u8 (Sp.bz p r)) := (b2.drew.cell (p := ⟨g, off + r, none⟩) hg).trans (hc r hr1)
      have hw := stp k (by have := hn.out; have := HM.out; show _ ≤ _; omega)
      have hwt : IntKind.i64.wrap (2 * (k : Int)) = (t : Int) := by
        have := hn.out; have := HM.out
        rw [IntKind.wrap_i64]; omega
      have hwr : IntKind.i64.wrap ((t : Int) + 1) = (r : Int) := by
        have := hn.out; have := HM.out
        rw [IntKind.wrap_i64]; omega
      have o3 := o2.drew
      have b3 := b2.drew
      have ce := World.ownsRow.cellAt o3 k (by omega)
      rw [fil_at G k m k h1] at ce
      have hfro : wr.drew.frozen? ⟨w.heap.size, k, none⟩ = false := World.ownsRow.frozenAt o3 k
      have HX : 0 ≤ Sp.bz p t ∧ Sp.bz p t < 256 := ⟨Sp.bz_nn p t, Sp.bz_lt p t⟩
      have HY : 0 ≤ Sp.bz p r ∧ Sp.bz p r < 256 := ⟨Sp.bz_nn p r, Sp.bz_lt p r⟩
      have HG := H2.out k h1
      rw [← ht, ← hr] at HG
      obtain ⟨V, hV⟩ : ∃ V, V = G k := ⟨_, rfl⟩
      have HS : Hid (fil G (k + 1) m = (fil G k m).set k (.int .u8 V)) := by
        show _ = _
        rw [fil_step G k m h1, hV]
      have hwx : IntKind.u8.wrap (Sp.bz p t * 16) = Sp.bz p t * 16 % 256 := by
        rw [IntKind.wrap_u8]
      have hor : IntKind.u8.wrap (Sp.bz p t * 16 % 256 + Sp.bz p r) = V := by
        rw [IntKind.wrap_u8, hV, HG]
        omega
      have HT : Hid (t = 2 * k ∧ r = t + 1) := ⟨ht, hr⟩
      clear hV HG hc ht hr
      generalize Sp.bz p t = X at *
      generalize Sp.bz p r = Y at *
      go_upto_region 5 with fail
      refine RS.wp_region_two (fun wx => Hid (wx = wr.drew)) (fun wx => Hid (wx = (wr.setCell ⟨w.heap.size, k, none⟩ (.int .u8 V)).drew)) 16 (by kernel_rfl) (by kernel_rfl) (by decide) (rfl) ?_
      dsimp only [List.toList_toArray]
      refine RS.go2 (v := ?_) (a' := ?_) (by decide) rfl ?_ ?_ ?_
      rotate_left 2
      · intro K wx hS hK
        go_simp
        exact hK _ hS
      · simp only [Act.put, List.setIfInBounds_toArray, List.set_cons_succ, List.set_cons_zero]
        rfl
      refine RS.go2 (v := ?_) (a' := ?_) (by decide) rfl ?_ ?_ ?_
      rotate_left 2
      · intro K wx hS hK
        go_simp
        exact hK _ hS
      · simp only [Act.put, List.setIfInBounds_toArray, List.set_cons_succ, List.set_cons_zero]
        rfl
      refine RS.go2 (v := ?_) (a' := ?_) (by decide) rfl ?_ ?_ ?_
      rotate_left 2
      · intro K wx hS hK
        go_simp
        exact hK _ hS
      · simp only [Act.put, List.setIfInBounds_toArray, List.set_cons_succ, List.set_cons_zero]
        rfl
      refine RS.go2 (v := ?_) (a' := ?_) (by decide) rfl ?_ ?_ ?_
      rotate_left 2
      · intro K wx hS hK
        go_simp
        exact hK _ hS
      · simp only [Act.put, List.setIfInBounds_toArray, List.set_cons_succ, List.set_cons_zero]
        rfl
      refine RS.go2 (v := ?_) (a' := ?_) (by decide) rfl ?_ ?_ ?_
      rotate_left 2
      · intro K wx hS hK
        go_simp
        exact hK _ hS
      · simp only [Act.put, List.setIfInBounds_toArray, List.set_cons_succ, List.set_cons_zero]
        rfl
      refine RS.go2 (v := ?_) (a' := ?_) (by decide) rfl ?_ ?_ ?_
      rotate_left 2
      · intro K wx hS hK
        go_simp
        exact hK _ hS
      · simp only [Act.put, List.setIfInBounds_toArray, List.set_cons_succ, List.set_cons_zero]
        rfl
      refine RS.go2 (v := ?_) (a' := ?_) (by decide) rfl ?_ ?_ ?_
      rotate_left 2
      · intro K wx hS hK
        obtain rfl := hS.out
        go_simp
        exact hK _ rfl
      · simp only [Act.put, List.setIfInBounds_toArray, List.set_cons_succ, List.set_cons_zero]
        rfl
      refine RS.go2 (v := ?_) (a' := ?_) (by decide) rfl ?_ ?_ ?_
      rotate_left 2
      · intro K wx hS hK
        go_simp
        exact hK _ hS
      · simp only [Act.put, List.setIfInBounds_toArray, List.set_cons_succ, List.set_cons_zero]
        rfl
      refine RS.go2 (v := ?_) (a' := ?_) (by decide) rfl ?_ ?_ ?_
      rotate_left 2
      · intro K wx hS hK
        go_simp
        exact hK _ hS
      · simp only [Act.put, List.setIfInBounds_toArray, List.set_cons_succ, List.set_cons_zero]
        rfl
      refine RS.go2 (v := ?_) (a' := ?_) (by decide) rfl ?_ ?_ ?_
      rotate_left 2
      · intro K wx hS hK
        go_simp
        exact hK _ hS
      · simp only [Act.put, List.setIfInBounds_toArray, List.set_cons_succ, List.set_cons_zero]
        rfl
      refine RS.go2 (v := ?_) (a' := ?_) (by decide) rfl ?_ ?_ ?_
      rotate_left 2
      · intro K wx hS hK
        go_simp
        exact hK _ hS
      · simp only [Act.put, List.setIfInBounds_toArray, List.set_cons_succ, List.set_cons_zero]
        rfl
      refine RS.go2 (v := ?_) (a' := ?_) (by decide) rfl ?_ ?_ ?_
      rotate_left 2
      · intro K wx hS hK
        go_simp
        exact hK _ hS
      · simp only [Act.put, List.setIfInBounds_toArray, List.set_cons_succ, List.set_cons_zero]
        rfl
      refine RS.go2 (v := ?_) (a' := ?_) (by decide) rfl ?_ ?_ ?_
      rotate_left 2
      · intro K wx hS hK
        go_simp
        exact hK _ hS
      · simp only [Act.put, List.setIfInBounds_toArray, List.set_cons_succ, List.set_cons_zero]
        rfl
      refine RS.go2 (v := ?_) (a' := ?_) (by decide) rfl ?_ ?_ ?_
      rotate_left 2
      · intro K wx hS hK
        obtain rfl := hS.out
        go_simp
        exact hK _ rfl
      · simp only [Act.put, List.setIfInBounds_toArray, List.set_cons_succ, List.set_cons_zero]
        rfl
      refine RS.go2 (v := ?_) (a' := ?_) (by decide) rfl ?_ ?_ ?_
      rotate_left 2
      · intro K wx hS hK
        go_simp
        exact hK _ hS
      · simp only [Act.put, List.setIfInBounds_toArray, List.set_cons_succ, List.set_cons_zero]
        rfl
      refine RS.go2 (v := ?_) (a' := ?_) (by decide) rfl ?_ ?_ ?_
      rotate_left 2
      · intro K wx hS hK
        go_simp
        exact hK _ hS
      · simp only [Act.put, List.setIfInBounds_toArray, List.set_cons_succ, List.set_cons_zero]
        rfl
      refine RS.go2_last (v := ?_) (a' := ?_) rfl (by kernel_rfl) rfl ?_ ?_ ?_
      rotate_left 2
      · intro K wx hS hK
        obtain rfl := hS.out
        go_simp
        exact hK _ rfl
      · exact rfl
      intro w9 hw9
      have o9 : w9.ownsRow w.heap.size 5 1 (.slice (some ⟨w.heap.size, 0, none⟩) m m) m (fil G (k + 1) m) := by
        rw [hw9.out, HS.out]
        exact (o2.stored k _).1.drew
      have b9 : Below w.heap.size w w9 := by
        rw [hw9.out]
        exact (b2.setCell (Nat.le_refl _) _).drew
      clear o2 o3 b2 b3 ce hfro hw9 c0 c1 hwt hwr
      go_wp2_with fail
      have hw := hw.out
      go_roundw
      case rel => exact ⟨k + 1, h1, step_v k _ hw, o9, b9⟩
      case measure => exact msr k m h1 _ hw
    · have hkl : k = m := by omega
      subst hkl
      rw [HF.out] at o2
      have HI : Hid (JF p ↔ hv (jn p) = p) := jf_iff p
      obtain ⟨zz, HZ⟩ : ∃ zz, Hid ((hv (jn p) == p) = !zz) := ⟨!(hv (jn p) == p), by show _ = _; simp⟩
      go_upto_region 7 with fail
      refine RI.wp_region_inv (NJ (.slice ao p.length cap) undef (.slice none 0 0) (.int .i64 0) (.slice (some ⟨w.heap.size, 0, none⟩) k k) u5 (.slice ao p.length cap) (.int .i64 (p.length : Int)) (.int .i64 (wrap64 ((p.length : Int) / 2))) (.slice (some ⟨w.heap.size, 0, none⟩) k k) (.slice (some ⟨w.heap.size, 0, none⟩) k k) (.int .i64 (k : Int)) (.int .i64 (k : Int)) (.bool false) u14 u15 u16 u17 u18 u19 u20 u21 u22 u23 u24 u25 u26 u27 u28 u29 u30 u31 w k L (hv (jn p)) ⟨(hv (jn p)).toArray⟩ ⟨p.toArray⟩ zz) (by kernel_rfl) (by kernel_rfl) ?_ ?_ ?_
      · exact ⟨undef, undef, undef, undef, undef, undef, rfl, ⟨o2.drew, b2.drew⟩, nofun, nofun, nofun, nofun, nofun, nofun⟩
      · skip
        intro d x wx i hI hi hm
        obtain ⟨u32, u33, u34, u35, u36, u37, rfl, hw, p0, p2, p3, p4, p5, q1⟩ := hI
        have hi' : i = 0 ∨ i = 1 ∨ i = 2 ∨ i = 3 ∨ i = 4 ∨ i = 5 := by simp at hi; omega
        have hd := hm.2
        clear hm hi
        rcases hi' with rfl | rfl | rfl | rfl | rfl | rfl
        · refine RI.wpOp_plain rfl rfl ?_
          go_simp
          exact ⟨_, u33, u34, u35, u36, u37, rfl, hw, fun _ => rfl, RI.keep (by decide) p2, RI.keep (by decide) p3, RI.keep (by decide) p4, RI.keep (by decide) p5, RI.keep (by decide) q1⟩
        · have hd := hd _ rfl
          simp [Region.binds] at hd
          obtain rfl := p0 (by simp [hd])
          refine RI.wpOp_plain rfl rfl ?_
          go_simp
          refine (KN.out _ hw.1).mono ?_
          rintro e w1 ⟨v1, rfl, hs1, hb1⟩
          exact ⟨_, _, u34, u35, u36, u37, rfl, ⟨Pk.ownb hw.1 hb1, hw.2.trans (hb1.mono hw.2.size)⟩, RI.keep (by decide) p0, RI.keep (by decide) p2, RI.keep (by decide) p3, RI.keep (by decide) p4, RI.keep (by decide) p5, fun _ => hs1⟩
        · have hd := hd _ rfl
          simp [Region.binds] at hd
          refine RI.wpOp_plain rfl rfl ?_
          have hcv := Pk.Sl_conv (q1 (by simp [hd]))
          go_simp
          exact ⟨u32, u33, _, u35, u36, u37, rfl, hw, RI.keep (by decide) p0, fun _ => rfl, RI.keep (by decide) p3, RI.keep (by decide) p4, RI.keep (by decide) p5, RI.keep (by decide) q1⟩
        · refine RI.wpOp_plain rfl rfl ?_
          go_simp
          exact ⟨u32, u33, u34, _, u36, u37, rfl, hw, RI.keep (by decide) p0, RI.keep (by decide) p2, fun _ => rfl, RI.keep (by decide) p4, RI.keep (by decide) p5, RI.keep (by decide) q1⟩
        · have hd := hd _ rfl
          simp [Region.binds] at hd
          obtain rfl := p3 (by simp [hd])
          refine RI.wpOp_plain rfl rfl ?_
          have hcv := HC.out _ hw.2
          go_simp
          exact ⟨u32, u33, u34, _, _, u37, rfl, hw, RI.keep (by decide) p0, RI.keep (by decide) p2, RI.keep (by decide) p3, fun _ => rfl, RI.keep (by decide) p5, RI.keep (by decide) q1⟩
        · have hd := hd _ rfl
          simp [Region.binds] at hd
          obtain rfl := p2 (by simp [hd])
          obtain rfl := p4 (by simp [hd])
          refine RI.wpOp_plain rfl rfl ?_
          have hz := HZ.out
          go_simp
          exact ⟨u32, u33, _, u35, _, _, rfl, hw, RI.keep (by decide) p0, RI.keep (by decide) p2, RI.keep (by decide) p3, RI.keep (by decide) p4, fun _ => rfl, RI.keep (by decide) q1⟩
      · skip
        intro d x wx hI hd
        obtain ⟨u32, u33, u34, u35, u36, u37, rfl, hw, p0, p2, p3, p4, p5, q1⟩ := hI
        obtain ⟨o9, b9⟩ := hw
        have e5 := p5 (hd 5 (by decide))
        subst e5
        clear p0 p2 p3 p4 p5 q1 hd o2 b2
        by_cases e : hv (jn p) = p
        · have HJ : Hid (JF p) := HI.out.2 e
          have hz : zz = false := by have := HZ.out; rw [e] at this; simpa using this
          subst hz
          clear e HI HZ
          go_wp2_with fail
          go_ret2
          exact ⟨.inl ⟨HJ.out, _, rfl, o9⟩, b9⟩
        · have HJ : Hid (¬ JF p) := fun h => e (HI.out.1 h)
          have hz : zz = true := by have := HZ.out; rw [beq_false_of_ne e] at this; simpa using this
          subst hz
          clear e HI HZ
          go_wp2_with fail
          go_ret2
          exact ⟨.inr ⟨HJ.out, rfl⟩, b9⟩
end Nb
end Go.Proofs.Ytfmihdcgehhkbaa
/- The law NibHalves. -/
namespace Go.Proofs.Ytfmihdcgehhkbaa
namespace Nb
open Go.RowKit
theorem halves_sl (b : List UInt8) (ao : Option Addr) (cap : Nat) (w : World) (hn : Hid (b.length ≤ 2097152)) (vw : Sp.Vw b ao w) :
    Calls Try.prog 11 #[.slice ao b.length cap] w fun e w' => ∃ v, e = .returned v ∧ Pk.Sl (hv b) v w' ∧ Below w.heap.size w w' :=
  (halves_any b ao cap w hn vw).mono fun e w' he => by
    obtain ⟨v, h1, h2, h3⟩ := he
    exact ⟨v, h1, Pk.own_sl h2, h3⟩
theorem nhalves_sl (b : List UInt8) (ao : Option Addr) (cap : Nat) (w : World) (hn : Hid (b.length ≤ 2097152)) (vw : Sp.Vw b ao w) :
    Calls Try.prog 12 #[.slice ao b.length cap] w fun e w' => ∃ v, e = .returned v ∧ Pk.Sl (hv b) v w' ∧ Below w.heap.size w w' :=
  (nhalves_any b ao cap w hn vw).mono fun e w' he => by
    obtain ⟨v, h1, h2, h3⟩ := he
    exact ⟨v, h1, Pk.own_sl h2, h3⟩
/-- What a path is joined to, and its error. -/
def jl (p : List UInt8) : List UInt8 := if hv (jn p) = p then jn p else []
def je (p : List UInt8) : Int := if hv (jn p) = p then 0 else 1
theorem jl_yes {p : List UInt8} (h : JF p) : jl p = jn p := by unfold jl; rw [if_pos (hv_jn p h)]
theorem je_yes {p : List UInt8} (h : JF p) : je p = 0 := by unfold je; rw [if_pos (hv_jn p h)]
theorem jl_no {p : List UInt8} (h : ¬ JF p) : jl p = [] := by unfold jl; rw [if_neg (fun e => h ((jf_iff p).2 e))]
theorem je_no {p : List UInt8} (h : ¬ JF p) : je p = 1 := by unfold je; rw [if_neg (fun e => h ((jf_iff p).2 e))]
theorem join_sl (p : List UInt8) (ao : Option Addr) (cap : Nat) (w : World) (hn : Hid (p.length ≤ 4194304)) (vw : Sp.Vw p ao w) :
    Calls Try.prog 9 #[.slice ao p.length cap] w fun e w' => ∃ v, e = .returned (.tuple #[v, .int .i64 (je p)]) ∧ Pk.Sl (jl p) v w' ∧ Below w.heap.size w w' := by
  by_cases h : JF p
  · rw [jl_yes h, je_yes h]
    exact (join_yes p ao cap w hn vw h).mono fun e w' he => by
      obtain ⟨v, h1, h2, h3⟩ := he
      exact ⟨v, h1, Pk.own_sl h2, h3⟩
  · rw [jl_no h, je_no h]
    exact (join_no p ao cap w hn vw h).mono fun e w' he => ⟨_, he.1, Pk.Sl_nil _, by rw [he.2]; exact Below.refl _ _⟩
theorem njoin_sl (p : List UInt8) (ao : Option Addr) (cap : Nat) (w : World) (hn : Hid (p.length ≤ 4194304)) (hcap : p.length ≤ cap) (vw : Sp.Vw p ao w) :
    Calls Try.prog 10 #[.slice ao p.length cap] w fun e w' => ∃ v, e = .returned (.tuple #[v, .int .i64 (je p)]) ∧ Pk.Sl (jl p) v w' ∧ Below w.heap.size w w' :=
  (njoin_any p ao cap w hn hcap vw).mono fun e w' he => by
    obtain ⟨⟨h, v, h1, h2⟩ | ⟨h, h1⟩, h3⟩ := he
    · rw [jl_yes h, je_yes h]
      exact ⟨v, h1, Pk.own_sl h2, h3⟩
    · rw [jl_no h, je_no h]
      exact ⟨_, h1, Pk.Sl_nil _, h3⟩
def NH (c0 c1 c2 c3 c5 c6 c7 c8 c9 c10 c11 c12 c13 c14 c15 c16 c17 c18 : Value) (w : World) (b T : List UInt8) (ao : Option Addr) (A B : ByteArray) (d : Nat → Bool) (x : Act) (wx : World) : Prop :=
  ∃ (u4 u19 u20 u21 u22 u23 u24 u25 u26 u27 u28 u29 u30 u31 u32 u33 u34 u35 u36 u37 : Value), x = { tmps := #[c0, c1, c2, c3, u4, c5, c6, c7, c8, c9, c10, c11, c12, c13, c14, c15, c16, c17, c18, u19, u20, u21, u22, u23, u24, u25, u26, u27, u28, u29, u30, u31, u32, u33, u34, u35, u36, u37], defers := [] } ∧ (Pk.Sl T c5 wx ∧ Pk.Sl T c7 wx ∧ Sp.Vw b ao wx ∧ Below w.heap.size w wx) ∧ (d 0 = true → u19 = c0) ∧ (d 2 = true → u21 = .string A) ∧ (d 3 = true → u22 = c0) ∧ (d 5 = true → u24 = .string A) ∧ (d 6 = true → u25 = .bool true) ∧ (d 7 = true → u26 = .bool true) ∧ (d 8 = true → u27 = c6) ∧ (d 9 = true → u28 = c8) ∧ (d 10 = true → u29 = .bool true) ∧ (d 11 = true → u30 = .bool true) ∧ (d 12 = true → u31 = .bool true) ∧ (d 13 = true → u32 = c5) ∧ (d 14 = true → u33 = .string B) ∧ (d 15 = true → u34 = c7) ∧ (d 16 = true → u35 = .string B) ∧ (d 17 = true → u36 = .bool true) ∧ (d 18 = true → u37 = .bool true) ∧ (d 19 = true → u4 = .bool true) ∧ (d 1 = true → Pk.Sl (hv b) u20 wx) ∧ (d 4 = true → Pk.Sl (hv b) u23 wx)
set_option maxHeartbeats 2000000 in
set_option maxRecDepth 100000 in
theorem law_halves (b p : List UInt8) (ao ap : Option Addr) (cap cp : Nat) (w : World) (hn : Hid (b.length ≤ 2097152)) (hm : Hid (p.length ≤ 4194304)) (hcp : p.length ≤ cp) (vb : Sp.Vw b ao w) (vp : Sp.Vw p ap w) :
    Calls Try.prog 3 #[.slice ao b.length cap, .slice ap p.length cp] w fun e w' => e = .returned (.bool true) ∧ Below w.heap.size w w' := by
  have KH : Hid (∀ wx : World, Sp.Vw b ao wx → Calls Try.prog 11 #[.slice ao b.length cap] wx fun e w' => ∃ v, e = .returned v ∧ Pk.Sl (hv b) v w' ∧ Below wx.heap.size wx w') := fun wx h => halves_sl b ao cap wx hn h
  have KN : Hid (∀ wx : World, Sp.Vw b ao wx → Calls Try.prog 12 #[.slice ao b.length cap] wx fun e w' => ∃ v, e = .returned v ∧ Pk.Sl (hv b) v w' ∧ Below wx.heap.size wx w') := fun wx h => nhalves_sl b ao cap wx hn h
  have K1 : Hid (∀ wx : World, Sp.Vw p ap wx → Calls Try.prog 9 #[.slice ap p.length cp] wx fun e w' => ∃ v, e = .returned (.tuple #[v, .int .i64 (je p)]) ∧ Pk.Sl (jl p) v w' ∧ Below wx.heap.size wx w') := fun wx h => join_sl p ap cp wx hm h
  have K2 : Hid (∀ wx : World, Sp.Vw p ap wx → Calls Try.prog 10 #[.slice ap p.length cp] wx fun e w' => ∃ v, e = .returned (.tuple #[v, .int .i64 (je p)]) ∧ Pk.Sl (jl p) v w' ∧ Below wx.heap.size wx w') := fun wx h => njoin_sl p ap cp wx hm hcp h
  have VB : Hid (Sp.Vw b ao w) := vb
  have VP : Hid (Sp.Vw p ap w) := vp
  clear vb vp hn hm hcp
  generalize je p = c at *
  generalize jl p = T at *
  go_enter Try.func3, Try.ntmps3
  go_wp2_with fail
  refine (K1.out _ VP.out).mono (fun e w2 he => ?_)
  obtain ⟨vx, rfl, s1, b1⟩ := he
  go_wp2_with fail
  refine (K2.out _ (Sp.Vw_below VP.out b1)).mono (fun e w3 he => ?_)
  obtain ⟨vy, rfl, s2, b2⟩ := he
  have bb := b1.trans (b2.mono b1.size)
  have m5 : Pk.Sl T vx w3.drew ∧ Pk.Sl T vy w3.drew ∧ Sp.Vw b ao w3.drew ∧ Below w.heap.size w w3 := ⟨Pk.Sl_below s1 b2.drew, Pk.Sl_below s2 (Below.refl _ _).drew, Sp.Vw_below VB.out bb.drew, bb⟩
  clear s1 s2 b1 b2 bb K1 K2 VB VP
  go_upto_region 3 with fail
  refine RI.wp_region_inv (NH (.slice ao b.length cap) (.slice ap p.length cp) undef undef vx (.int .i64 c) vy (.int .i64 c) (.tuple #[vx, .int .i64 c]) (.slice ap p.length cp) (.tuple #[vx, .int .i64 c]) vx (.int .i64 c) (.tuple #[vy, .int .i64 c]) (.slice ap p.length cp) (.tuple #[vy, .int .i64 c]) vy (.int .i64 c) w b T ao ⟨(hv b).toArray⟩ ⟨T.toArray⟩) (by kernel_rfl) (by kernel_rfl) ?_ ?_ ?_
  · exact ⟨(.bool false), undef, undef, undef, undef, undef, undef, undef, undef, undef, undef, undef, undef, undef, undef, undef, undef, undef, undef, undef, rfl, ⟨m5.1, m5.2.1, m5.2.2.1, m5.2.2.2.drew⟩, nofun, nofun, nofun, nofun, nofun, nofun, nofun, nofun, nofun, nofun, nofun, nofun, nofun, nofun, nofun, nofun, nofun, nofun, nofun, nofun⟩
  · skip
    intro d x wx i hI hi hm
    obtain ⟨u4, u19, u20, u21, u22, u23, u24, u25, u26, u27, u28, u29, u30, u31, u32, u33, u34, u35, u36, u37, rfl, hw, p0, p2, p3, p5, p6, p7, p8, p9, p10, p11, p12, p13, p14, p15, p16, p17, p18, p19, q1, q4⟩ := hI
    have hi' : i = 0 ∨ i = 1 ∨ i = 2 ∨ i = 3 ∨ i = 4 ∨ i = 5 ∨ i = 6 ∨ i = 7 ∨ i = 8 ∨ i = 9 ∨ i = 10 ∨ i = 11 ∨ i = 12 ∨ i = 13 ∨ i = 14 ∨ i = 15 ∨ i = 16 ∨ i = 17 ∨ i = 18 ∨ i = 19 := by simp at hi; omega
    have hd := hm.2
    clear hm hi
    rcases hi' with rfl | rfl | rfl | rfl | rfl | rfl | rfl | rfl | rfl | rfl | rfl | rfl | rfl | rfl | rfl | rfl | rfl | rfl | rfl | rfl
    · refine RI.wpOp_plain rfl rfl ?_
      go_simp
      exact ⟨u4, _, u20, u21, u22, u23, u24, u25, u26, u27, u28, u29, u30, u31, u32, u33, u34, u35, u36, u37, rfl, hw, fun _ => rfl, RI.keep (by decide) p2, RI.keep (by decide) p3, RI.keep (by decide) p5, RI.keep (by decide) p6, RI.keep (by decide) p7, RI.keep (by decide) p8, RI.keep (by decide) p9, RI.keep (by decide) p10, RI.keep (by decide) p11, RI.keep (by decide) p12, RI.keep (by decide) p13, RI.keep (by decide) p14, RI.keep (by decide) p15, RI.keep (by decide) p16, RI.keep (by decide) p17, RI.keep (by decide) p18, RI.keep (by decide) p19, RI.keep (by decide) q1, RI.keep (by decide) q4⟩
    · have hd := hd _ rfl
      simp [Region.binds] at hd
      obtain rfl := p0 (by simp [hd])
      refine RI.wpOp_plain rfl rfl ?_
      go_simp
      refine (KH.out _ hw.2.2.1).mono ?_
      rintro e w1 ⟨v1, rfl, hs1, hb1⟩
      exact ⟨u4, _, _, u21, u22, u23, u24, u25, u26, u27, u28, u29, u30, u31, u32, u33, u34, u35, u36, u37, rfl, ⟨Pk.Sl_below hw.1 hb1, Pk.Sl_below hw.2.1 hb1, Sp.Vw_below hw.2.2.1 hb1, hw.2.2.2.trans (hb1.mono hw.2.2.2.size)⟩, RI.keep (by decide) p0, RI.keep (by decide) p2, RI.keep (by decide) p3, RI.keep (by decide) p5, RI.keep (by decide) p6, RI.keep (by decide) p7, RI.keep (by decide) p8, RI.keep (by decide) p9, RI.keep (by decide) p10, RI.keep (by decide) p11, RI.keep (by decide) p12, RI.keep (by decide) p13, RI.keep (by decide) p14, RI.keep (by decide) p15, RI.keep (by decide) p16, RI.keep (by decide) p17, RI.keep (by decide) p18, RI.keep (by decide) p19, fun _ => hs1, RI.keep (by decide) (fun h => Pk.Sl_below (q4 h) hb1)⟩
    · have hd := hd _ rfl
      simp [Region.binds] at hd
      refine RI.wpOp_plain rfl rfl ?_
      have hcv := Pk.Sl_conv (q1 (by simp [hd]))
      go_simp
      exact ⟨u4, u19, u20, _, u22, u23, u24, u25, u26, u27, u28, u29, u30, u31, u32, u33, u34, u35, u36, u37, rfl, hw, RI.keep (by decide) p0, fun _ => rfl, RI.keep (by decide) p3, RI.keep (by decide) p5, RI.keep (by decide) p6, RI.keep (by decide) p7, RI.keep (by decide) p8, RI.keep (by decide) p9, RI.keep (by decide) p10, RI.keep (by decide) p11, RI.keep (by decide) p12, RI.keep (by decide) p13, RI.keep (by decide) p14, RI.keep (by decide) p15, RI.keep (by decide) p16, RI.keep (by decide) p17, RI.keep (by decide) p18, RI.keep (by decide) p19, RI.keep (by decide) q1, RI.keep (by decide) q4⟩
    · refine RI.wpOp_plain rfl rfl ?_
      go_simp
      exact ⟨u4, u19, u20, u21, _, u23, u24, u25, u26, u27, u28, u29, u30, u31, u32, u33, u34, u35, u36, u37, rfl, hw, RI.keep (by decide) p0, RI.keep (by decide) p2, fun _ => rfl, RI.keep (by decide) p5, RI.keep (by decide) p6, RI.keep (by decide) p7, RI.keep (by decide) p8, RI.keep (by decide) p9, RI.keep (by decide) p10, RI.keep (by decide) p11, RI.keep (by decide) p12, RI.keep (by decide) p13, RI.keep (by decide) p14, RI.keep (by decide) p15, RI.keep (by decide) p16, RI.keep (by decide) p17, RI.keep (by decide) p18, RI.keep (by decide) p19, RI.keep (by decide) q1, RI.keep (by decide) q4⟩
    · have hd := hd _ rfl
      simp [Region.binds] at hd
      obtain rfl := p3 (by simp [hd])
      refine RI.wpOp_plain rfl rfl ?_
      go_simp
      refine (KN.out _ hw.2.2.1).mono ?_
      rintro e w1 ⟨v1, rfl, hs1, hb1⟩
      exact ⟨u4, u19, u20, u21, _, _, u24, u25, u26, u27, u28, u29, u30, u31, u32, u33, u34, u35, u36, u37, rfl, ⟨Pk.Sl_below hw.1 hb1, Pk.Sl_below hw.2.1 hb1, Sp.Vw_below hw.2.2.1 hb1, hw.2.2.2.trans (hb1.mono hw.2.2.2.size)⟩, RI.keep (by decide) p0, RI.keep (by decide) p2, RI.keep (by decide) p3, RI.keep (by decide) p5, RI.keep (by decide) p6, RI.keep (by decide) p7, RI.keep (by decide) p8, RI.keep (by decide) p9, RI.keep (by decide) p10, RI.keep (by decide) p11, RI.keep (by decide) p12, RI.keep (by decide) p13, RI.keep (by decide) p14, RI.keep (by decide) p15, RI.keep (by decide) p16, RI.keep (by decide) p17, RI.keep (by decide) p18, RI.keep (by decide) p19, RI.keep (by decide) (fun h => Pk.Sl_below (q1 h) hb1), fun _ => hs1⟩
    · have hd := hd _ rfl
      simp [Region.binds] at hd
      refine RI.wpOp_plain rfl rfl ?_
      have hcv := Pk.Sl_conv (q4 (by simp [hd]))
      go_simp
      exact ⟨u4, u19, u20, u21, u22, u23, _, u25, u26, u27, u28, u29, u30, u31, u32, u33, u34, u35, u36, u37, rfl, hw, RI.keep (by decide) p0, RI.keep (by decide) p2, RI.keep (by decide) p3, fun _ => rfl, RI.keep (by decide) p6, RI.keep (by decide) p7, RI.keep (by decide) p8, RI.keep (by decide) p9, RI.keep (by decide) p10, RI.keep (by decide) p11, RI.keep (by decide) p12, RI.keep (by decide) p13, RI.keep (by decide) p14, RI.keep (by decide) p15, RI.keep (by decide) p16, RI.keep (by decide) p17, RI.keep (by decide) p18, RI.keep (by decide) p19, RI.keep (by decide) q1, RI.keep (by decide) q4⟩
    · have hd := hd _ rfl
      simp [Region.binds] at hd
      obtain rfl := p2 (by simp [hd])
      obtain rfl := p5 (by simp [hd])
      refine RI.wpOp_plain rfl rfl ?_
      go_simp
      exact ⟨u4, u19, u20, _, u22, u23, _, _, u26, u27, u28, u29, u30, u31, u32, u33, u34, u35, u36, u37, rfl, hw, RI.keep (by decide) p0, RI.keep (by decide) p2, RI.keep (by decide) p3, RI.keep (by decide) p5, fun _ => rfl, RI.keep (by decide) p7, RI.keep (by decide) p8, RI.keep (by decide) p9, RI.keep (by decide) p10, RI.keep (by decide) p11, RI.keep (by decide) p12, RI.keep (by decide) p13, RI.keep (by decide) p14, RI.keep (by decide) p15, RI.keep (by decide) p16, RI.keep (by decide) p17, RI.keep (by decide) p18, RI.keep (by decide) p19, RI.keep (by decide) q1, RI.keep (by decide) q4⟩
    · have hd := hd _ rfl
      simp [Region.binds] at hd
      obtain rfl := p6 (by simp [hd])
      refine RI.wpOp_plain rfl rfl ?_
      go_simp
      exact ⟨u4, u19, u20, u21, u22, u23, u24, _, _, u27, u28, u29, u30, u31, u32, u33, u34, u35, u36, u37, rfl, hw, RI.keep (by decide) p0, RI.keep (by decide) p2, RI.keep (by decide) p3, RI.keep (by decide) p5, RI.keep (by decide) p6, fun _ => rfl, RI.keep (by decide) p8, RI.keep (by decide) p9, RI.keep (by decide) p10, RI.keep (by decide) p11, RI.keep (by decide) p12, RI.keep (by decide) p13, RI.keep (by decide) p14, RI.keep (by decide) p15, RI.keep (by decide) p16, RI.keep (by decide) p17, RI.keep (by decide) p18, RI.keep (by decide) p19, RI.keep (by decide) q1, RI.keep (by decide) q4⟩
    · have hd := hd _ rfl
      simp [Region.binds] at hd
      obtain rfl := p7 (by simp [hd])
      refine RI.wpOp_guard rfl rfl rfl ?_
      go_simp
      exact ⟨u4, u19, u20, u21, u22, u23, u24, u25, _, _, u28, u29, u30, u31, u32, u33, u34, u35, u36, u37, rfl, hw, RI.keep (by decide) p0, RI.keep (by decide) p2, RI.keep (by decide) p3, RI.keep (by decide) p5, RI.keep (by decide) p6, RI.keep (by decide) p7, fun _ => rfl, RI.keep (by decide) p9, RI.keep (by decide) p10, RI.keep (by decide) p11, RI.keep (by decide) p12, RI.keep (by decide) p13, RI.keep (by decide) p14, RI.keep (by decide) p15, RI.keep (by decide) p16, RI.keep (by decide) p17, RI.keep (by decide) p18, RI.keep (by decide) p19, RI.keep (by decide) q1, RI.keep (by decide) q4⟩
    · have hd := hd _ rfl
      simp [Region.binds] at hd
      obtain rfl := p7 (by simp [hd])
      refine RI.wpOp_guard rfl rfl rfl ?_
      go_simp
      exact ⟨u4, u19, u20, u21, u22, u23, u24, u25, _, u27, _, u29, u30, u31, u32, u33, u34, u35, u36, u37, rfl, hw, RI.keep (by decide) p0, RI.keep (by decide) p2, RI.keep (by decide) p3, RI.keep (by decide) p5, RI.keep (by decide) p6, RI.keep (by decide) p7, RI.keep (by decide) p8, fun _ => rfl, RI.keep (by decide) p10, RI.keep (by decide) p11, RI.keep (by decide) p12, RI.keep (by decide) p13, RI.keep (by decide) p14, RI.keep (by decide) p15, RI.keep (by decide) p16, RI.keep (by decide) p17, RI.keep (by decide) p18, RI.keep (by decide) p19, RI.keep (by decide) q1, RI.keep (by decide) q4⟩
    · have hd := hd _ rfl
      simp [Region.binds] at hd
      obtain rfl := p7 (by simp [hd])
      obtain rfl := p8 (by simp [hd])
      obtain rfl := p9 (by simp [hd])
      refine RI.wpOp_guard rfl rfl rfl ?_
      go_simp
      exact ⟨u4, u19, u20, u21, u22, u23, u24, u25, _, _, _, _, u30, u31, u32, u33, u34, u35, u36, u37, rfl, hw, RI.keep (by decide) p0, RI.keep (by decide) p2, RI.keep (by decide) p3, RI.keep (by decide) p5, RI.keep (by decide) p6, RI.keep (by decide) p7, RI.keep (by decide) p8, RI.keep (by decide) p9, fun _ => rfl, RI.keep (by decide) p11, RI.keep (by decide) p12, RI.keep (by decide) p13, RI.keep (by decide) p14, RI.keep (by decide) p15, RI.keep (by decide) p16, RI.keep (by decide) p17, RI.keep (by decide) p18, RI.keep (by decide) p19, RI.keep (by decide) q1, RI.keep (by decide) q4⟩
    · have hd := hd _ rfl
      simp [Region.binds] at hd
      obtain rfl := p7 (by simp [hd])
      obtain rfl := p10 (by simp [hd])
      refine RI.wpOp_plain rfl rfl ?_
      go_simp
      exact ⟨u4, u19, u20, u21, u22, u23, u24, u25, _, u27, u28, _, _, u31, u32, u33, u34, u35, u36, u37, rfl, hw, RI.keep (by decide) p0, RI.keep (by decide) p2, RI.keep (by decide) p3, RI.keep (by decide) p5, RI.keep (by decide) p6, RI.keep (by decide) p7, RI.keep (by decide) p8, RI.keep (by decide) p9, RI.keep (by decide) p10, fun _ => rfl, RI.keep (by decide) p12, RI.keep (by decide) p13, RI.keep (by decide) p14, RI.keep (by decide) p15, RI.keep (by decide) p16, RI.keep (by decide) p17, RI.keep (by decide) p18, RI.keep (by decide) p19, RI.keep (by decide) q1, RI.keep (by decide) q4⟩
    · have hd := hd _ rfl
      simp [Region.binds] at hd
      obtain rfl := p7 (by simp [hd])
      obtain rfl := p11 (by simp [hd])
      refine RI.wpOp_plain rfl rfl ?_
      go_simp
      exact ⟨u4, u19, u20, u21, u22, u23, u24, u25, _, u27, u28, u29, _, _, u32, u33, u34, u35, u36, u37, rfl, hw, RI.keep (by decide) p0, RI.keep (by decide) p2, RI.keep (by decide) p3, RI.keep (by decide) p5, RI.keep (by decide) p6, RI.keep (by decide) p7, RI.keep (by decide) p8, RI.keep (by decide) p9, RI.keep (by decide) p10, RI.keep (by decide) p11, fun _ => rfl, RI.keep (by decide) p13, RI.keep (by decide) p14, RI.keep (by decide) p15, RI.keep (by decide) p16, RI.keep (by decide) p17, RI.keep (by decide) p18, RI.keep (by decide) p19, RI.keep (by decide) q1, RI.keep (by decide) q4⟩
    · have hd := hd _ rfl
      simp [Region.binds] at hd
      obtain rfl := p12 (by simp [hd])
      refine RI.wpOp_guard rfl rfl rfl ?_
      go_simp
      exact ⟨u4, u19, u20, u21, u22, u23, u24, u25, u26, u27, u28, u29, u30, _, _, u33, u34, u35, u36, u37, rfl, hw, RI.keep (by decide) p0, RI.keep (by decide) p2, RI.keep (by decide) p3, RI.keep (by decide) p5, RI.keep (by decide) p6, RI.keep (by decide) p7, RI.keep (by decide) p8, RI.keep (by decide) p9, RI.keep (by decide) p10, RI.keep (by decide) p11, RI.keep (by decide) p12, fun _ => rfl, RI.keep (by decide) p14, RI.keep (by decide) p15, RI.keep (by decide) p16, RI.keep (by decide) p17, RI.keep (by decide) p18, RI.keep (by decide) p19, RI.keep (by decide) q1, RI.keep (by decide) q4⟩
    · have hd := hd _ rfl
      simp [Region.binds] at hd
      obtain rfl := p12 (by simp [hd])
      obtain rfl := p13 (by simp [hd])
      refine RI.wpOp_guard rfl rfl rfl ?_
      have hcv := Pk.Sl_conv hw.1
      go_simp
      exact ⟨u4, u19, u20, u21, u22, u23, u24, u25, u26, u27, u28, u29, u30, _, _, _, u34, u35, u36, u37, rfl, hw, RI.keep (by decide) p0, RI.keep (by decide) p2, RI.keep (by decide) p3, RI.keep (by decide) p5, RI.keep (by decide) p6, RI.keep (by decide) p7, RI.keep (by decide) p8, RI.keep (by decide) p9, RI.keep (by decide) p10, RI.keep (by decide) p11, RI.keep (by decide) p12, RI.keep (by decide) p13, fun _ => rfl, RI.keep (by decide) p15, RI.keep (by decide) p16, RI.keep (by decide) p17, RI.keep (by decide) p18, RI.keep (by decide) p19, RI.keep (by decide) q1, RI.keep (by decide) q4⟩
    · have hd := hd _ rfl
      simp [Region.binds] at hd
      obtain rfl := p12 (by simp [hd])
      refine RI.wpOp_guard rfl rfl rfl ?_
      go_simp
      exact ⟨u4, u19, u20, u21, u22, u23, u24, u25, u26, u27, u28, u29, u30, _, u32, u33, _, u35, u36, u37, rfl, hw, RI.keep (by decide) p0, RI.keep (by decide) p2, RI.keep (by decide) p3, RI.keep (by decide) p5, RI.keep (by decide) p6, RI.keep (by decide) p7, RI.keep (by decide) p8, RI.keep (by decide) p9, RI.keep (by decide) p10, RI.keep (by decide) p11, RI.keep (by decide) p12, RI.keep (by decide) p13, RI.keep (by decide) p14, fun _ => rfl, RI.keep (by decide) p16, RI.keep (by decide) p17, RI.keep (by decide) p18, RI.keep (by decide) p19, RI.keep (by decide) q1, RI.keep (by decide) q4⟩
    · have hd := hd _ rfl
      simp [Region.binds] at hd
      obtain rfl := p12 (by simp [hd])
      obtain rfl := p15 (by simp [hd])
      refine RI.wpOp_guard rfl rfl rfl ?_
      have hcv := Pk.Sl_conv hw.2.1
      go_simp
      exact ⟨u4, u19, u20, u21, u22, u23, u24, u25, u26, u27, u28, u29, u30, _, u32, u33, _, _, u36, u37, rfl, hw, RI.keep (by decide) p0, RI.keep (by decide) p2, RI.keep (by decide) p3, RI.keep (by decide) p5, RI.keep (by decide) p6, RI.keep (by decide) p7, RI.keep (by decide) p8, RI.keep (by decide) p9, RI.keep (by decide) p10, RI.keep (by decide) p11, RI.keep (by decide) p12, RI.keep (by decide) p13, RI.keep (by decide) p14, RI.keep (by decide) p15, fun _ => rfl, RI.keep (by decide) p17, RI.keep (by decide) p18, RI.keep (by decide) p19, RI.keep (by decide) q1, RI.keep (by decide) q4⟩
    · have hd := hd _ rfl
      simp [Region.binds] at hd
      obtain rfl := p12 (by simp [hd])
      obtain rfl := p14 (by simp [hd])
      obtain rfl := p16 (by simp [hd])
      refine RI.wpOp_guard rfl rfl rfl ?_
      go_simp
      exact ⟨u4, u19, u20, u21, u22, u23, u24, u25, u26, u27, u28, u29, u30, _, u32, _, u34, _, _, u37, rfl, hw, RI.keep (by decide) p0, RI.keep (by decide) p2, RI.keep (by decide) p3, RI.keep (by decide) p5, RI.keep (by decide) p6, RI.keep (by decide) p7, RI.keep (by decide) p8, RI.keep (by decide) p9, RI.keep (by decide) p10, RI.keep (by decide) p11, RI.keep (by decide) p12, RI.keep (by decide) p13, RI.keep (by decide) p14, RI.keep (by decide) p15, RI.keep (by decide) p16, fun _ => rfl, RI.keep (by decide) p18, RI.keep (by decide) p19, RI.keep (by decide) q1, RI.keep (by decide) q4⟩
    · have hd := hd _ rfl
      simp [Region.binds] at hd
      obtain rfl := p12 (by simp [hd])
      obtain rfl := p17 (by simp [hd])
      refine RI.wpOp_plain rfl rfl ?_
      go_simp
      exact ⟨u4, u19, u20, u21, u22, u23, u24, u25, u26, u27, u28, u29, u30, _, u32, u33, u34, u35, _, _, rfl, hw, RI.keep (by decide) p0, RI.keep (by decide) p2, RI.keep (by decide) p3, RI.keep (by decide) p5, RI.keep (by decide) p6, RI.keep (by decide) p7, RI.keep (by decide) p8, RI.keep (by decide) p9, RI.keep (by decide) p10, RI.keep (by decide) p11, RI.keep (by decide) p12, RI.keep (by decide) p13, RI.keep (by decide) p14, RI.keep (by decide) p15, RI.keep (by decide) p16, RI.keep (by decide) p17, fun _ => rfl, RI.keep (by decide) p19, RI.keep (by decide) q1, RI.keep (by decide) q4⟩
    · have hd := hd _ rfl
      simp [Region.binds] at hd
      obtain rfl := p0 (by simp [hd])
      obtain rfl := p2 (by simp [hd])
      obtain rfl := p3 (by simp [hd])
      obtain rfl := p5 (by simp [hd])
      obtain rfl := p6 (by simp [hd])
      obtain rfl := p7 (by simp [hd])
      obtain rfl := p8 (by simp [hd])
      obtain rfl := p9 (by simp [hd])
      obtain rfl := p10 (by simp [hd])
      obtain rfl := p11 (by simp [hd])
      obtain rfl := p12 (by simp [hd])
      obtain rfl := p13 (by simp [hd])
      obtain rfl := p14 (by simp [hd])
      obtain rfl := p15 (by simp [hd])
      obtain rfl := p16 (by simp [hd])
      obtain rfl := p17 (by simp [hd])
      obtain rfl := p18 (by simp [hd])
      refine RI.wpOp_plain rfl rfl ?_
      go_simp
      exact ⟨_, _, u20, _, _, u23, _, _, _, _, _, _, _, _, _, _, _, _, _, _, rfl, hw, RI.keep (by decide) p0, RI.keep (by decide) p2, RI.keep (by decide) p3, RI.keep (by decide) p5, RI.keep (by decide) p6, RI.keep (by decide) p7, RI.keep (by decide) p8, RI.keep (by decide) p9, RI.keep (by decide) p10, RI.keep (by decide) p11, RI.keep (by decide) p12, RI.keep (by decide) p13, RI.keep (by decide) p14, RI.keep (by decide) p15, RI.keep (by decide) p16, RI.keep (by decide) p17, RI.keep (by decide) p18, fun _ => rfl, RI.keep (by decide) q1, RI.keep (by decide) q4⟩
  · skip
    intro d x wx hI hd
    obtain ⟨u4, u19, u20, u21, u22, u23, u24, u25, u26, u27, u28, u29, u30, u31, u32, u33, u34, u35, u36, u37, rfl, hw, p0, p2, p3, p5, p6, p7, p8, p9, p10, p11, p12, p13, p14, p15, p16, p17, p18, p19, q1, q4⟩ := hI
    have e4 := p19 (hd 19 (by decide))
    subst e4
    obtain ⟨_, _, _, bel⟩ := hw
    clear p0 p2 p3 p5 p6 p7 p8 p9 p10 p11 p12 p13 p14 p15 p16 p17 p18 p19 q1 q4 hd m5
    go_wp2_with fail
    go_ret
    exact ⟨rfl, bel⟩
end Nb
end Go.Proofs.Ytfmihdcgehhkbaa
/- Bytes that came in. -/
namespace Go.Proofs.Ytfmihdcgehhkbaa
namespace Sp
open Go.ChangeShapes Go.WideShapes Go.ChangeAt Go.RowKit Go.Joins
theorem ownK : ownKnob Try.prog.godebug = none := by kernel_rfl
theorem laidOutK : laidOutB Try.prog = true := by kernel_rfl
theorem cellsU8 : Try.prog.cellsOf 5 = 1 := by kernel_rfl
theorem bytesU8 : Try.prog.bytesOf 5 = 1 := by kernel_rfl
/-- Numbers as bytes. -/
def ub (zs : List Int) : List UInt8 := zs.map fun z => UInt8.ofNat z.toNat
theorem ub_length (zs : List Int) : (ub zs).length = zs.length := by simp [ub]
theorem ub_bz (zs : List Int) (hz : ∀ z ∈ zs, 0 ≤ z ∧ z < 256) (j : Nat) (h : j < zs.length) : bz (ub zs) j = zs.getD j 0 := by
  have hm := hz zs[j] (List.getElem_mem h)
  have h2 : j < (ub zs).length := by rw [ub_length]; exact h
  unfold bz
  rw [List.getD_eq_getElem?_getD, List.getD_eq_getElem?_getD, List.getElem?_eq_getElem h2, List.getElem?_eq_getElem h]
  simp only [Option.getD_some, ub, List.getElem_map, UInt8.toNat_ofNat']
  omega
set_option maxRecDepth 100000 in
theorem open_bytes {H : Type} {enc : TypeId × Value → H} {W : World} {r : Reach} {b0 : Nat} {v : Value} {d : DataW H} {p : List MemPlace}
    (hv : Value.okWide Try.prog W r b0 22 v) (h : DataW.Trod enc Try.prog W 0 (fun _ => true) true 22 v d p) :
    ∃ (l : List UInt8) (ao : Option Addr) (cap : Nat), v = .slice ao l.length cap ∧ l.length ≤ cap ∧ Vw l ao W ∧ (l = [] ∨ ∃ elems spare, d = .slice elems spare ∧ elems.length = l.length) := by
  obtain ⟨a0, len, cap, rfl⟩ := okWide_slice Try.underlying22 hv
  obtain ⟨fuel, hf⟩ := h
  rcases open_ints Try.underlying22 Try.underlying5 cellsU8 hf with ⟨hcs, hx⟩ | ⟨a, len', cap', zs, hcs, _, hl, hm, hz, hx, hcell, hwz⟩
  · simp [Value.cells] at hcs
    obtain ⟨rfl, rfl, rfl⟩ := hcs
    exact ⟨[], none, 0, rfl, Nat.le_refl _, Vw_nil _ _, .inl rfl⟩
  · simp [Value.cells] at hcs
    obtain ⟨rfl, rfl, rfl⟩ := hcs
    simp only [if_true] at hz
    have hb : ∀ z ∈ zs, 0 ≤ z ∧ z < 256 := fun z hz' => by have := bounds_u8 (hwz z hz'); omega
    have hb' : ∀ z ∈ zs.take len, 0 ≤ z ∧ z < 256 := fun z hz' => hb z (List.mem_of_mem_take hz')
    have hlt : (ub (zs.take len)).length = len := by rw [ub_length, List.length_take]; omega
    simp only [Prod.mk.injEq] at hx
    refine ⟨ub (zs.take len), some a, cap, by rw [hlt], by rw [hlt]; exact hl, ?_, .inr ⟨_, _, hx.1, by simp [lits, hlt]; omega⟩⟩
    intro h0
    rw [hlt] at h0
    obtain ⟨b, off, rfl, hc⟩ := ints_at hcell (by omega)
    refine ⟨b, off, rfl, ?_, fun j hj => ?_⟩
    · exact World.block_lt_of_cell? W ⟨b, off + 0, none⟩ (hc 0 (by omega))
    · rw [hlt] at hj
      rw [hc j (by omega), ub_bz _ hb' j (by rw [List.length_take]; omega)]
      simp [List.getD_eq_getElem?_getD, hj]
end Sp
end Go.Proofs.Ytfmihdcgehhkbaa
/- A slice of bytes that came in: its room too. -/
namespace Go.Proofs.Ytfmihdcgehhkbaa
namespace Sp
open Go.ChangeShapes Go.WideShapes Go.ChangeAt Go.RowKit
set_option maxRecDepth 100000 in
theorem open_bytes2 {H : Type} {enc : TypeId × Value → H} {W : World} {r : Reach} {b0 : Nat} {v : Value} {d : DataW H} {p : List MemPlace}
    (hv : Value.okWide Try.prog W r b0 22 v) (h : DataW.Trod enc Try.prog W 0 (fun _ => true) true 22 v d p) :
    ∃ (l : List UInt8) (ao : Option Addr) (cap : Nat), v = .slice ao l.length cap ∧ l.length ≤ cap ∧ (cap : Int) ≤ 9223372036854775807 ∧ Vw l ao W ∧ (l = [] ∨ ∃ elems spare, d = .slice elems spare ∧ elems.length = l.length) := by
  obtain ⟨l, ao, cap, rfl, h1, h2, h3⟩ := open_bytes hv h
  refine ⟨l, ao, cap, rfl, h1, ?_, h2, h3⟩
  obtain ⟨fuel, hf⟩ := h
  rcases open_ints Try.underlying22 Try.underlying5 cellsU8 hf with ⟨hcs, _⟩ | ⟨a, len', cap', zs, hcs, _, _, hm, _⟩
  · simp [Value.cells] at hcs
    omega
  · simp [Value.cells] at hcs
    obtain ⟨_, _, rfl⟩ := hcs
    unfold maxLen at hm
    omega
end Sp
end Go.Proofs.Ytfmihdcgehhkbaa
/- nib.head, nib.Tag, lampbearerref.NTag. -/
namespace Go.Proofs.Ytfmihdcgehhkbaa
namespace Nb
open Go.RowKit
theorem made2 (m c : Nat) (hmc : m ≤ c) (hm : Hid (c ≤ 4194304)) (w : World) : ∃ w', (Instr.makeSlice 22 (.int .i64 (m : Int)) (.int .i64 (c : Int))).run Try.prog w = .ok (.slice (some ⟨w.heap.size, 0, none⟩) m c) w' ∧ w'.heap.size = w.heap.size + 1 ∧ w'.ownsRow w.heap.size 5 1 (.slice (some ⟨w.heap.size, 0, none⟩) m c) m (List.replicate m (.int .u8 0)) ∧ Below w.heap.size w w' := by
  have hm := hm.out
  obtain ⟨i0, hi, hz0, hz1, hz2⟩ := info_parts Pk.Try.infoU8'
  have hr := run_make (P := Try.prog) w 22 5 i0 (.int .u8 0) Try.underlying22 hi hz0 .i64 .i64 (m : Int) (c : Int) (by omega) (by omega) (by rw [hz2]; omega) (by omega)
  rw [Int.toNat_natCast, Int.toNat_natCast, hz1, Nat.mul_one] at hr
  refine ⟨_, hr, by simp, ⟨by simp, .inr ⟨w.heap.size, c, madeCells (Value.int .u8 0).cells c, rfl, Nat.le_refl _, heap_alloc_new w _, hmc, by unfold maxLen; omega, by rw [size_madeCells, Nat.mul_one], ?_⟩⟩, (Below.refl _ _).alloc (Nat.le_refl _) _⟩
  rw [Nat.mul_one]
  apply List.ext_getElem?
  intro j
  rw [List.getElem?_take]
  by_cases hj : j < m
  · rw [if_pos hj]
    have hz : (Value.int .u8 0).cells = #[.int .u8 0] := rfl
    have hjc : j < c := by omega
    simp [madeCells, hz, hj, hjc, Nat.mod_one]
  · rw [if_neg hj, List.getElem?_eq_none (by simp; omega)]
theorem wpList_apq {P : Program} {ops : Array Oper} {rest : List Oper} {o : Oper} {a : Act} {Q : Exit → Act → World → Prop} {s x : Operand} {t u : TypeId} {v v2 v' : Value} {w w' : World} (hgd : o.guard = none) (ho : o.op = .call { callee := .builtin .append, args := #[s, x], argTypes := #[t, u] }) (hs : a.eval s = v) (hx : a.eval x = v2)
    (hr : (Builtin.append_ #[t, u] o.type #[v, v2]).run P w = .ok v' w') (h : wpList P ops Q rest (a.put o.dst v') w') : wpList P ops Q (o :: rest) a w := by
  refine wpList_plain hgd fun _ hK => ?_
  unfold Oper.wp execOp
  simp only [ho, resolve, invoke, builtin, Sem.run_bind, Sem.run_pure, Result.andThen_ok, List.map_toArray, List.map_cons, List.map_nil, hs, hx, hr]
  exact hK _ _ h
theorem own_lit (l : List UInt8) (w : World) (B : Nat) (h : B ≤ w.heap.size) (hl : l.length ≤ 64) : (w.alloc (.cells (Pk.bcs l).toArray 5)).ownsRow B 5 1 (.slice (some ⟨w.heap.size, 0, none⟩) l.length l.length) l.length (Pk.bcs l) := by
  have k := World.ownsRow_lit (size := 1) (e := 5) w (Pk.bcs l).toArray l.length h (by unfold maxLen; omega) (by simp [Pk.bcs_len])
  simpa using k
theorem bcs0 : Pk.bcs [0] = [.int .u8 0] := rfl
theorem bcs2 : Pk.bcs [2] = [.int .u8 2] := rfl
theorem lit0 (w : World) : Pk.Sl [0] (.slice (some ⟨w.heap.size, 0, none⟩) 1 1) (w.alloc (.cells #[.int .u8 0] 5)) := by
  have k := own_lit [0] w 0 (Nat.zero_le _) (by decide)
  rw [bcs0] at k
  refine Pk.own_sl (base := 0) ?_
  rw [bcs0]
  exact k
theorem or01 : bits .or .u8 0 1 = 1 := by decide +kernel
theorem or21 : bits .or .u8 2 1 = 3 := by decide +kernel
set_option maxHeartbeats 1000000 in
set_option maxRecDepth 100000 in
theorem head_odd (n : Nat) (leaf : Bool) (hn : Hid (n ≤ 4194300)) (ho : n % 2 = 1) (w : World) :
    Calls Try.prog 21 #[.int .i64 (n : Int), .bool leaf] w fun e w' => ∃ v, e = .returned v ∧ w'.ownsRow w.heap.size 5 1 v (hd n leaf).length (Pk.bcs (hd n leaf)) ∧ Below w.heap.size w w' := by
  obtain ⟨w1, hr, hs1, o1, b1⟩ := made2 1 (n + 2) (by omega) (by have := hn.out; show _ ≤ _; omega) w
  have ew : wrap64 ((n : Int) + 2) = (n : Int) + 2 := by
    have := hn.out
    unfold wrap64; omega
  have hr2 : (Instr.makeSlice 22 (.int .i64 1) (.int .i64 ((n : Int) + 2))).run Try.prog w = .ok (.slice (some ⟨w.heap.size, 0, none⟩) 1 (n + 2)) w1 := by
    rwa [show ((n + 2 : Nat) : Int) = (n : Int) + 2 by omega] at hr
  have hod : ((n : Int) % 2 != 0) = true := by simp; omega
  have c0 : w1.cell? ⟨w.heap.size, 0, none⟩ = some (.int .u8 0) := World.ownsRow.cellAt o1 0 (by omega)
  have f0 : w1.frozen? ⟨w.heap.size, 0, none⟩ = false := World.ownsRow.frozenAt o1 0
  have q1 := or01
  have q2 := or21
  have HO : Hid (n % 2 = 1) := ho
  clear hr ho
  cases leaf
  · have e : hd n false = [1] := by unfold hd; rw [if_pos HO.out]; rfl
    rw [e]
    go_enter Try.func21, Try.ntmps21
    go_wp2_with fail
    go_ret
    exact ⟨_, rfl, (o1.stored 0 _).1, b1.setCell (Nat.le_refl _) _⟩
  · have e : hd n true = [3] := by unfold hd; rw [if_pos HO.out]; rfl
    rw [e]
    go_enter Try.func21, Try.ntmps21
    go_wp2_with fail
    go_ret
    exact ⟨_, rfl, ((o1.stored 0 _).1.stored 0 _).1, (b1.setCell (Nat.le_refl _) _).setCell (Nat.le_refl _) _⟩
set_option maxHeartbeats 1000000 in
set_option maxRecDepth 100000 in
theorem head_even (n : Nat) (leaf : Bool) (hn : Hid (n ≤ 4194300)) (ho : n % 2 = 0) (w : World) :
    Calls Try.prog 21 #[.int .i64 (n : Int), .bool leaf] w fun e w' => ∃ v, e = .returned v ∧ w'.ownsRow w.heap.size 5 1 v (hd n leaf).length (Pk.bcs (hd n leaf)) ∧ Below w.heap.size w w' := by
  obtain ⟨w1, hr, hs1, o1, b1⟩ := made2 1 (n + 2) (by omega) (by have := hn.out; show _ ≤ _; omega) w
  have ew : wrap64 ((n : Int) + 2) = (n : Int) + 2 := by
    have := hn.out
    unfold wrap64; omega
  have hr2 : (Instr.makeSlice 22 (.int .i64 1) (.int .i64 ((n : Int) + 2))).run Try.prog w = .ok (.slice (some ⟨w.heap.size, 0, none⟩) 1 (n + 2)) w1 := by
    rwa [show ((n + 2 : Nat) : Int) = (n : Int) + 2 by omega] at hr
  have hod : ((n : Int) % 2 != 0) = false := by simp; omega
  have c0 : w1.cell? ⟨w.heap.size, 0, none⟩ = some (.int .u8 0) := World.ownsRow.cellAt o1 0 (by omega)
  have f0 : w1.frozen? ⟨w.heap.size, 0, none⟩ = false := World.ownsRow.frozenAt o1 0
  have q1 := or01
  have q2 := or21
  have HO : Hid (n % 2 = 0) := ho
  clear hr ho
  have h2 : w.heap.size ≤ w1.heap.size := by omega
  clear q1 q2 hs1
  cases leaf
  · have e : hd n false = [0] ++ [0] := by unfold hd; rw [if_neg (by have := HO.out; omega)]; rfl
    have s1 : Pk.Sl [0] (.slice (some ⟨w1.heap.size, 0, none⟩) 1 1) (w1.alloc (.cells #[.int .u8 0] 5)) := lit0 w1
    have oA : (w1.alloc (.cells #[.int .u8 0] 5)).ownsRow w.heap.size 5 1 (.slice (some ⟨w.heap.size, 0, none⟩) 1 (n + 2)) 1 (Pk.bcs [0]) := by
      rw [bcs0]
      exact o1.alloc _
    obtain ⟨v', w', hap, hown, hbel⟩ := Pk.app_sl (x := [0]) 22 oA s1 (by simp; omega) (by decide)
    have bb : Below w.heap.size w w' := (b1.alloc h2 _).trans hbel
    rw [e]
    go_enter Try.func21, Try.ntmps21
    go_wp2_with (at_builtin; refine wpList_apq rfl rfl rfl rfl hap ?_)
    go_ret
    exact ⟨_, rfl, hown, bb⟩
  · have e : hd n true = [2] ++ [0] := by unfold hd; rw [if_neg (by have := HO.out; omega)]; rfl
    have o2 := (o1.stored 0 (.int .u8 2)).1
    have b2 := b1.setCell (Nat.le_refl _) (p := ⟨w.heap.size, 0, none⟩) (.int .u8 2)
    have h3 : w.heap.size ≤ (w1.setCell ⟨w.heap.size, 0, none⟩ (.int .u8 2)).heap.size := by simp [World.setCell]; omega
    have s1 : Pk.Sl [0] (.slice (some ⟨w1.heap.size, 0, none⟩) 1 1) ((w1.setCell ⟨w.heap.size, 0, none⟩ (.int .u8 2)).alloc (.cells #[.int .u8 0] 5)) := by
      have k := lit0 (w1.setCell ⟨w.heap.size, 0, none⟩ (.int .u8 2))
      rwa [show (w1.setCell ⟨w.heap.size, 0, none⟩ (.int .u8 2)).heap.size = w1.heap.size by simp [World.setCell]] at k
    have oA : ((w1.setCell ⟨w.heap.size, 0, none⟩ (.int .u8 2)).alloc (.cells #[.int .u8 0] 5)).ownsRow w.heap.size 5 1 (.slice (some ⟨w.heap.size, 0, none⟩) 1 (n + 2)) 1 (Pk.bcs [2]) := by
      rw [bcs2]
      exact o2.alloc _
    obtain ⟨v', w', hap, hown, hbel⟩ := Pk.app_sl (x := [2]) 22 oA s1 (by simp; omega) (by decide)
    have bb : Below w.heap.size w w' := (b2.alloc h3 _).trans hbel
    rw [e]
    go_enter Try.func21, Try.ntmps21
    go_wp2_with (at_builtin; refine wpList_apq rfl rfl rfl rfl hap ?_)
    go_ret
    exact ⟨_, rfl, hown, bb⟩
end Nb
end Go.Proofs.Ytfmihdcgehhkbaa
/- nib.Tag, lampbearerref.NTag. -/
namespace Go.Proofs.Ytfmihdcgehhkbaa
namespace Nb
open Go.RowKit
theorem head_any (n : Nat) (leaf : Bool) (hn : Hid (n ≤ 4194300)) (w : World) :
    Calls Try.prog 21 #[.int .i64 (n : Int), .bool leaf] w fun e w' => ∃ v, e = .returned v ∧ w'.ownsRow w.heap.size 5 1 v (hd n leaf).length (Pk.bcs (hd n leaf)) ∧ Below w.heap.size w w' := by
  by_cases h : n % 2 = 1
  · exact head_odd n leaf hn h w
  · exact head_even n leaf hn (by omega) w
theorem hd_len (n : Nat) (leaf : Bool) : (hd n leaf).length ≤ 2 := by
  unfold hd
  split <;> simp
set_option maxHeartbeats 1000000 in
set_option maxRecDepth 100000 in
theorem tag_sl (p : List UInt8) (leaf : Bool) (ap : Option Addr) (cp : Nat) (w : World) (hn : Hid (p.length ≤ 4194300)) (hcp : p.length ≤ cp) (vp : Sp.Vw p ap w) :
    Calls Try.prog 13 #[.slice ap p.length cp, .bool leaf] w fun e w' => ∃ v, e = .returned (.tuple #[v, .int .i64 (je (tg p leaf))]) ∧ Pk.Sl (jl (tg p leaf)) v w' ∧ Below w.heap.size w w' := by
  have KH : Hid (∀ wx : World, Calls Try.prog 21 #[.int .i64 (p.length : Int), .bool leaf] wx fun e w' => ∃ v, e = .returned v ∧ w'.ownsRow wx.heap.size 5 1 v (hd p.length leaf).length (Pk.bcs (hd p.length leaf)) ∧ Below wx.heap.size wx w') := head_any p.length leaf hn
  have KJ : Hid (∀ (a3 : Option Addr) (c3 : Nat) (w' : World), Sp.Vw (tg p leaf) a3 w' → Calls Try.prog 9 #[.slice a3 (tg p leaf).length c3] w' fun e w'' => ∃ v, e = .returned (.tuple #[v, .int .i64 (je (tg p leaf))]) ∧ Pk.Sl (jl (tg p leaf)) v w'' ∧ Below w'.heap.size w' w'') := fun a3 c3 w' v3 => join_sl (tg p leaf) a3 c3 w' (by have := hn.out; have := tg_len p leaf; show _ ≤ _; omega) v3
  have HA : Hid (∀ (v : Value) (w2 : World), w2.ownsRow w.heap.size 5 1 v (hd p.length leaf).length (Pk.bcs (hd p.length leaf)) → Below w.heap.size w w2 → ∃ a3 c3 w', (Builtin.append_ #[22, 22] 22 #[v, .slice ap p.length cp]).run Try.prog w2 = .ok (.slice a3 (tg p leaf).length c3) w' ∧ Sp.Vw (tg p leaf) a3 w' ∧ Below w.heap.size w w') := fun v w2 ho hb => by
    obtain ⟨v', w', hap, hown, hbel⟩ := Pk.app_sl (x := hd p.length leaf) 22 ho (Pk.Sl_below ⟨ap, cp, rfl, hcp, vp⟩ hb) hb.size (by have := hn.out; have := hd_len p.length leaf; omega)
    obtain ⟨a3, c3, rfl, hc3, v3⟩ := Pk.own_sl hown
    exact ⟨a3, c3, w', hap, v3, hb.trans hbel⟩
  clear hn hcp vp
  generalize (tg p leaf).length = m at *
  generalize je (tg p leaf) = c at *
  generalize jl (tg p leaf) = T at *
  generalize p.length = n at *
  go_enter Try.func13, Try.ntmps13
  go_wp2_with fail
  refine (KH.out _).mono (fun e w2 he => ?_)
  obtain ⟨v0, rfl, o1, b1⟩ := he
  obtain ⟨a3, c3, w3, hap, v3, b3⟩ := HA.out _ _ o1 b1
  have V3 : Hid (Sp.Vw (tg p leaf) a3 w3) := v3
  clear v3 o1 b1 HA KH
  go_wp2_with (at_builtin; refine wpList_apq rfl rfl rfl rfl hap ?_)
  refine (KJ.out _ _ _ V3.out).mono (fun e w4 he => ?_)
  obtain ⟨v2, rfl, s2, b2⟩ := he
  have b4 := b3.trans (b2.mono b3.size)
  go_wp2_with fail
  go_ret2
  exact ⟨_, rfl, s2, b4⟩
set_option maxHeartbeats 1000000 in
set_option maxRecDepth 100000 in
theorem ntag_true_odd (p : List UInt8) (ap : Option Addr) (cp : Nat) (w : World) (hn : Hid (p.length ≤ 4194300)) (hcp : p.length ≤ cp) (vp : Sp.Vw p ap w) (ho : p.length % 2 = 1) :
    Calls Try.prog 14 #[.slice ap p.length cp, .bool true] w fun e w' => ∃ v, e = .returned (.tuple #[v, .int .i64 (je (tg p true))]) ∧ Pk.Sl (jl (tg p true)) v w' ∧ Below w.heap.size w w' := by
  have oA : (w.alloc (.cells #[.int .u8 3] 5)).ownsRow w.heap.size 5 1 (.slice (some ⟨w.heap.size, 0, none⟩) 1 1) 1 (Pk.bcs [3]) := own_lit [3] w w.heap.size (Nat.le_refl _) (by decide)
  have bA : Below w.heap.size w (w.alloc (.cells #[.int .u8 3] 5)) := (Below.refl _ _).alloc (Nat.le_refl _) _
  have sP : Pk.Sl p (.slice ap p.length cp) (w.alloc (.cells #[.int .u8 3] 5)) := Pk.Sl_below ⟨ap, cp, rfl, hcp, vp⟩ bA
  have et : tg p true = [3] ++ p := by unfold tg hd; rw [if_pos ho]; rfl
  obtain ⟨v', w', hap, hown, hbel⟩ := Pk.app_sl (x := [3]) 22 oA sP (by simp) (by have := hn.out; simp only [List.length_cons, List.length_nil]; omega)
  rw [← et] at hown
  obtain ⟨a3, c3, rfl, hc3, v3⟩ := Pk.own_sl hown
  have bb : Below w.heap.size w w' := bA.trans hbel
  have KJ : Hid (Calls Try.prog 10 #[.slice a3 (tg p true).length c3] w' fun e w'' => ∃ v, e = .returned (.tuple #[v, .int .i64 (je (tg p true))]) ∧ Pk.Sl (jl (tg p true)) v w'' ∧ Below w'.heap.size w' w'') := njoin_sl (tg p true) a3 c3 w' (by have := hn.out; have := tg_len p true; show _ ≤ _; omega) hc3 v3
  have hpar : ((p.length : Int) % 2 == 1) = true := beq_iff_eq.2 (by omega)
  clear et hown hc3 v3 sP oA bA vp hcp hn ho hbel
  generalize (tg p true).length = m at *
  generalize je (tg p true) = c at *
  generalize jl (tg p true) = T at *
  generalize p.length = n at *
  go_enter Try.func14, Try.ntmps14
  go_wp2_with (at_builtin; refine wpList_apq rfl rfl rfl rfl hap ?_)
  refine KJ.out.mono (fun e w2 he => ?_)
  obtain ⟨v2, rfl, s2, b2⟩ := he
  have b4 := bb.trans (b2.mono bb.size)
  go_wp2_with fail
  go_ret2
  exact ⟨_, rfl, s2, b4⟩
set_option maxHeartbeats 1000000 in
set_option maxRecDepth 100000 in
theorem ntag_true_even (p : List UInt8) (ap : Option Addr) (cp : Nat) (w : World) (hn : Hid (p.length ≤ 4194300)) (hcp : p.length ≤ cp) (vp : Sp.Vw p ap w) (ho : p.length % 2 = 0) :
    Calls Try.prog 14 #[.slice ap p.length cp, .bool true] w fun e w' => ∃ v, e = .returned (.tuple #[v, .int .i64 (je (tg p true))]) ∧ Pk.Sl (jl (tg p true)) v w' ∧ Below w.heap.size w w' := by
  have oA : (w.alloc (.cells #[.int .u8 2, .int .u8 0] 5)).ownsRow w.heap.size 5 1 (.slice (some ⟨w.heap.size, 0, none⟩) 2 2) 2 (Pk.bcs [2, 0]) := own_lit [2, 0] w w.heap.size (Nat.le_refl _) (by decide)
  have bA : Below w.heap.size w (w.alloc (.cells #[.int .u8 2, .int .u8 0] 5)) := (Below.refl _ _).alloc (Nat.le_refl _) _
  have sP : Pk.Sl p (.slice ap p.length cp) (w.alloc (.cells #[.int .u8 2, .int .u8 0] 5)) := Pk.Sl_below ⟨ap, cp, rfl, hcp, vp⟩ bA
  have et : tg p true = [2, 0] ++ p := by unfold tg hd; rw [if_neg (by omega)]; rfl
  obtain ⟨v', w', hap, hown, hbel⟩ := Pk.app_sl (x := [2, 0]) 22 oA sP (by simp) (by have := hn.out; simp only [List.length_cons, List.length_nil]; omega)
  rw [← et] at hown
  obtain ⟨a3, c3, rfl, hc3, v3⟩ := Pk.own_sl hown
  have bb : Below w.heap.size w w' := bA.trans hbel
  have KJ : Hid (Calls Try.prog 10 #[.slice a3 (tg p true).length c3] w' fun e w'' => ∃ v, e = .returned (.tuple #[v, .int .i64 (je (tg p true))]) ∧ Pk.Sl (jl (tg p true)) v w'' ∧ Below w'.heap.size w' w'') := njoin_sl (tg p true) a3 c3 w' (by have := hn.out; have := tg_len p true; show _ ≤ _; omega) hc3 v3
  have hpar : ((p.length : Int) % 2 == 1) = false := beq_false_of_ne (by omega)
  clear et hown hc3 v3 sP oA bA vp hcp hn ho hbel
  generalize (tg p true).length = m at *
  generalize je (tg p true) = c at *
  generalize jl (tg p true) = T at *
  generalize p.length = n at *
  go_enter Try.func14, Try.ntmps14
  go_wp2_with (at_builtin; refine wpList_apq rfl rfl rfl rfl hap ?_)
  refine KJ.out.mono (fun e w2 he => ?_)
  obtain ⟨v2, rfl, s2, b2⟩ := he
  have b4 := bb.trans (b2.mono bb.size)
  go_wp2_with fail
  go_ret2
  exact ⟨_, rfl, s2, b4⟩
set_option maxHeartbeats 1000000 in
set_option maxRecDepth 100000 in
theorem ntag_false_odd (p : List UInt8) (ap : Option Addr) (cp : Nat) (w : World) (hn : Hid (p.length ≤ 4194300)) (hcp : p.length ≤ cp) (vp : Sp.Vw p ap w) (ho : p.length % 2 = 1) :
    Calls Try.prog 14 #[.slice ap p.length cp, .bool false] w fun e w' => ∃ v, e = .returned (.tuple #[v, .int .i64 (je (tg p false))]) ∧ Pk.Sl (jl (tg p false)) v w' ∧ Below w.heap.size w w' := by
  have oA : (w.alloc (.cells #[.int .u8 1] 5)).ownsRow w.heap.size 5 1 (.slice (some ⟨w.heap.size, 0, none⟩) 1 1) 1 (Pk.bcs [1]) := own_lit [1] w w.heap.size (Nat.le_refl _) (by decide)
  have bA : Below w.heap.size w (w.alloc (.cells #[.int .u8 1] 5)) := (Below.refl _ _).alloc (Nat.le_refl _) _
  have sP : Pk.Sl p (.slice ap p.length cp) (w.alloc (.cells #[.int .u8 1] 5)) := Pk.Sl_below ⟨ap, cp, rfl, hcp, vp⟩ bA
  have et : tg p false = [1] ++ p := by unfold tg hd; rw [if_pos ho]; rfl
  obtain ⟨v', w', hap, hown, hbel⟩ := Pk.app_sl (x := [1]) 22 oA sP (by simp) (by have := hn.out; simp only [List.length_cons, List.length_nil]; omega)
  rw [← et] at hown
  obtain ⟨a3, c3, rfl, hc3, v3⟩ := Pk.own_sl hown
  have bb : Below w.heap.size w w' := bA.trans hbel
  have KJ : Hid (Calls Try.prog 10 #[.slice a3 (tg p false).length c3] w' fun e w'' => ∃ v, e = .returned (.tuple #[v, .int .i64 (je (tg p false))]) ∧ Pk.Sl (jl (tg p false)) v w'' ∧ Below w'.heap.size w' w'') := njoin_sl (tg p false) a3 c3 w' (by have := hn.out; have := tg_len p false; show _ ≤ _; omega) hc3 v3
  have hpar : ((p.length : Int) % 2 == 1) = true := beq_iff_eq.2 (by omega)
  clear et hown hc3 v3 sP oA bA vp hcp hn ho hbel
  generalize (tg p false).length = m at *
  generalize je (tg p false) = c at *
  generalize jl (tg p false) = T at *
  generalize p.length = n at *
  go_enter Try.func14, Try.ntmps14
  go_wp2_with (at_builtin; refine wpList_apq rfl rfl rfl rfl hap ?_)
  refine KJ.out.mono (fun e w2 he => ?_)
  obtain ⟨v2, rfl, s2, b2⟩ := he
  have b4 := bb.trans (b2.mono bb.size)
  go_wp2_with fail
  go_ret2
  exact ⟨_, rfl, s2, b4⟩
set_option maxHeartbeats 1000000 in
set_option maxRecDepth 100000 in
theorem ntag_false_even (p : List UInt8) (ap : Option Addr) (cp : Nat) (w : World) (hn : Hid (p.length ≤ 4194300)) (hcp : p.length ≤ cp) (vp : Sp.Vw p ap w) (ho : p.length % 2 = 0) :
    Calls Try.prog 14 #[.slice ap p.length cp, .bool false] w fun e w' => ∃ v, e = .returned (.tuple #[v, .int .i64 (je (tg p false))]) ∧ Pk.Sl (jl (tg p false)) v w' ∧ Below w.heap.size w w' := by
  have oA : (w.alloc (.cells #[.int .u8 0, .int .u8 0] 5)).ownsRow w.heap.size 5 1 (.slice (some ⟨w.heap.size, 0, none⟩) 2 2) 2 (Pk.bcs [0, 0]) := own_lit [0, 0] w w.heap.size (Nat.le_refl _) (by decide)
  have bA : Below w.heap.size w (w.alloc (.cells #[.int .u8 0, .int .u8 0] 5)) := (Below.refl _ _).alloc (Nat.le_refl _) _
  have sP : Pk.Sl p (.slice ap p.length cp) (w.alloc (.cells #[.int .u8 0, .int .u8 0] 5)) := Pk.Sl_below ⟨ap, cp, rfl, hcp, vp⟩ bA
  have et : tg p false = [0, 0] ++ p := by unfold tg hd; rw [if_neg (by omega)]; rfl
  obtain ⟨v', w', hap, hown, hbel⟩ := Pk.app_sl (x := [0, 0]) 22 oA sP (by simp) (by have := hn.out; simp only [List.length_cons, List.length_nil]; omega)
  rw [← et] at hown
  obtain ⟨a3, c3, rfl, hc3, v3⟩ := Pk.own_sl hown
  have bb : Below w.heap.size w w' := bA.trans hbel
  have KJ : Hid (Calls Try.prog 10 #[.slice a3 (tg p false).length c3] w' fun e w'' => ∃ v, e = .returned (.tuple #[v, .int .i64 (je (tg p false))]) ∧ Pk.Sl (jl (tg p false)) v w'' ∧ Below w'.heap.size w' w'') := njoin_sl (tg p false) a3 c3 w' (by have := hn.out; have := tg_len p false; show _ ≤ _; omega) hc3 v3
  have hpar : ((p.length : Int) % 2 == 1) = false := beq_false_of_ne (by omega)
  clear et hown hc3 v3 sP oA bA vp hcp hn ho hbel
  generalize (tg p false).length = m at *
  generalize je (tg p false) = c at *
  generalize jl (tg p false) = T at *
  generalize p.length = n at *
  go_enter Try.func14, Try.ntmps14
  go_wp2_with (at_builtin; refine wpList_apq rfl rfl rfl rfl hap ?_)
  refine KJ.out.mono (fun e w2 he => ?_)
  obtain ⟨v2, rfl, s2, b2⟩ := he
  have b4 := bb.trans (b2.mono bb.size)
  go_wp2_with fail
  go_ret2
  exact ⟨_, rfl, s2, b4⟩
theorem ntag_sl (p : List UInt8) (leaf : Bool) (ap : Option Addr) (cp : Nat) (w : World) (hn : Hid (p.length ≤ 4194300)) (hcp : p.length ≤ cp) (vp : Sp.Vw p ap w) :
    Calls Try.prog 14 #[.slice ap p.length cp, .bool leaf] w fun e w' => ∃ v, e = .returned (.tuple #[v, .int .i64 (je (tg p leaf))]) ∧ Pk.Sl (jl (tg p leaf)) v w' ∧ Below w.heap.size w w' := by
  by_cases h : p.length % 2 = 1
  · cases leaf
    · exact ntag_false_odd p ap cp w hn hcp vp h
    · exact ntag_true_odd p ap cp w hn hcp vp h
  · cases leaf
    · exact ntag_false_even p ap cp w hn hcp vp (by omega)
    · exact ntag_true_even p ap cp w hn hcp vp (by omega)
end Nb
end Go.Proofs.Ytfmihdcgehhkbaa
/- nib.Untag. -/
namespace Go.Proofs.Ytfmihdcgehhkbaa
namespace Nb
open Go.RowKit
theorem res3t (f : Func) (tm : Array Value) (W : World) (a b c : Nat) (p q r : Value) (hf : f.results = #[.tmp a, .tmp b, .tmp c]) (h1 : tm.getD a undef = p) (h2 : tm.getD b undef = q) (h3 : tm.getD c undef = r) : (results f tm).run Try.prog W = .ok (.tuple #[p, q, r]) W := by
  simp at h1 h2 h3
  simp [results, hf, go_sem, h1, h2, h3]
/-- What a path with its head is read as. -/
def un : List UInt8 → List UInt8 × Bool × Int
  | x :: y :: r => if x = 0 then (if y = 0 then (r, false, 0) else ([], false, 1)) else if x = 1 then (y :: r, false, 0) else if x = 2 then (if y = 0 then (r, true, 0) else ([], false, 1)) else if x = 3 then (y :: r, true, 0) else ([], false, 1)
  | _ => ([], false, 1)
theorem own_at {B : Nat} {l : List UInt8} {v : Value} {w : World} (h : w.ownsRow B 5 1 v l.length (Pk.bcs l)) (h0 : 0 < l.length) : ∃ g cap, v = .slice (some ⟨g, 0, none⟩) l.length cap ∧ l.length ≤ cap ∧ (cap : Int) ≤ 9223372036854775807 ∧ ∀ k (a' : Option Addr), k ≤ l.length → (0 < l.length - k → a' = some ⟨g, k, none⟩) → Pk.Sl (l.drop k) (.slice a' (l.length - k) (cap - k)) w := by
  rcases h.2 with ⟨_, h4⟩ | ⟨g, cap, cur, h3, h5⟩
  · omega
  · subst h3
    refine ⟨g, cap, rfl, h5.2.2.1, by have := h5.2.2.2.1; unfold maxLen at this; omega, fun k a' hk ha => ?_⟩
    have ldr : (l.drop k).length = l.length - k := List.length_drop ..
    refine ⟨a', cap - k, by rw [ldr], by rw [ldr]; have := h5.2.2.1; omega, fun h1 => ?_⟩
    rw [ldr] at h1
    refine ⟨g, k, ha h1, Pk.lt_of_heap h5.2.1, fun j hj => ?_⟩
    rw [ldr] at hj
    rw [h.cellAt (k + j) (by omega)]
    have hkj : k + j < l.length := by omega
    simp [Pk.bcs, Sp.bz, List.getD_eq_getElem?_getD, List.getElem?_drop, hkj]
theorem cell_at {B g cap : Nat} {l : List UInt8} {w : World} (h : w.ownsRow B 5 1 (.slice (some ⟨g, 0, none⟩) l.length cap) l.length (Pk.bcs l)) (j : Nat) (hj : j < l.length) : w.cell? ⟨g, j, none⟩ = some (.int .u8 (Sp.bz l j)) := by
  rw [h.cellAt j (by omega)]
  simp [Pk.bcs, hj, Sp.bz]
set_option maxHeartbeats 1000000 in
set_option maxRecDepth 100000 in
theorem untag_none (ao : Option Addr) (cap : Nat) (w : World) :
    Calls Try.prog 15 #[.slice ao 0 cap] w fun e w' => ∃ v, e = .returned (.tuple #[v, .bool false, .int .i64 1]) ∧ Pk.Sl [] v w' ∧ Below w.heap.size w w' := by
  have KH : Hid (∀ wx : World, Calls Try.prog 11 #[.slice ao 0 cap] wx fun e w' => ∃ v, e = .returned v ∧ w'.ownsRow wx.heap.size 5 1 v 0 (Pk.bcs []) ∧ Below wx.heap.size wx w') := fun wx => halves_any [] ao cap wx (Nat.zero_le _) (Sp.Vw_nil _ _)
  go_enter Try.func15, Try.ntmps15
  go_wp2_with fail
  refine (KH.out _).mono (fun e w2 he => ?_)
  obtain ⟨v0, rfl, own, b1⟩ := he
  have hv0 : ∃ a c, v0 = .slice a 0 c := by
    rcases own.2 with ⟨h3, _⟩ | ⟨g, c, cur, h3, _⟩
    · exact ⟨none, 0, h3⟩
    · exact ⟨_, c, h3⟩
  obtain ⟨a, c, rfl⟩ := hv0
  clear own
  go_wp2_with fail
  exact bodyPost_ret (res3t _ _ _ 2 3 4 _ _ _ rfl rfl rfl rfl) rfl ⟨_, rfl, Pk.Sl_nil _, b1⟩
set_option maxHeartbeats 1000000 in
set_option maxRecDepth 100000 in
theorem untag_high (b : List UInt8) (ao : Option Addr) (cap : Nat) (X Y : Int) (w : World) (hn : Hid (b.length ≤ 2097152)) (vw : Sp.Vw b ao w) (h0 : 2 ≤ (hv b).length) (hX : Sp.bz (hv b) 0 = X) (hY : Sp.bz (hv b) 1 = Y) (hx : 3 < X)  :
    Calls Try.prog 15 #[.slice ao b.length cap] w fun e w' => ∃ v, e = .returned (.tuple #[v, .bool false, .int .i64 1]) ∧ Pk.Sl [] v w' ∧ Below w.heap.size w w' := by
  have KH : Hid (∀ wx : World, Sp.Vw b ao wx → Calls Try.prog 11 #[.slice ao b.length cap] wx fun e w' => ∃ v, e = .returned v ∧ w'.ownsRow wx.heap.size 5 1 v (hv b).length (Pk.bcs (hv b)) ∧ Below wx.heap.size wx w') := fun wx h => halves_any b ao cap wx hn h
  have VB : Hid (Sp.Vw b ao w) := vw
  have HL : Hid (2 ≤ (hv b).length) := h0
  have HX : Hid (Sp.bz (hv b) 0 = X ∧ Sp.bz (hv b) 1 = Y) := ⟨hX, hY⟩
  have d0 : decide ((3 : Int) < X) = true := decide_eq_true hx
  clear vw h0 hX hY hx
  go_enter Try.func15, Try.ntmps15
  go_wp2_with fail
  refine (KH.out _ VB.out).mono (fun e w2 he => ?_)
  obtain ⟨v0, rfl, own, b1⟩ := he
  obtain ⟨g, cp, rfl, hcp, hc6, SD⟩ := own_at own (by have := HL.out; omega)
  have c0 := cell_at own 0 (by have := HL.out; omega)
  have c1 := cell_at own 1 (by have := HL.out; omega)
  rw [HX.out.1] at c0
  rw [HX.out.2] at c1
  have SD : Hid (∀ k (a' : Option Addr), k ≤ (hv b).length → (0 < (hv b).length - k → a' = some ⟨g, k, none⟩) → Pk.Sl ((hv b).drop k) (.slice a' ((hv b).length - k) (cp - k)) w2) := SD
  have hcp : Hid ((hv b).length ≤ cp) := hcp
  clear own
  generalize (hv b).length = n at *
  have n0 : ((n : Int) == 0) = false := beq_false_of_ne (by have := HL.out; omega)
  have n1 : (0 : Int) < (n : Int) := by have := HL.out; omega
  have n2 : (1 : Int) < (n : Int) := by have := HL.out; omega
  have n3 : (1 : Int) ≤ (n : Int) := by omega
  have n4 : (2 : Int) ≤ (n : Int) := by omega
  have n5 : (1 : Int) < (cp : Int) := by have := HL.out; have := hcp.out; omega
  have n6 : (2 : Int) ≤ (cp : Int) := by omega
  go_wp2_with fail
  exact bodyPost_ret (res3t _ _ _ 2 3 4 _ _ _ rfl rfl rfl rfl) rfl ⟨_, rfl, Pk.Sl_nil _, b1⟩
set_option maxHeartbeats 1000000 in
set_option maxRecDepth 100000 in
theorem untag_1 (b : List UInt8) (ao : Option Addr) (cap : Nat) (Y : Int) (w : World) (hn : Hid (b.length ≤ 2097152)) (vw : Sp.Vw b ao w) (h0 : 2 ≤ (hv b).length) (hX : Sp.bz (hv b) 0 = (1 : Int)) (hY : Sp.bz (hv b) 1 = Y)   :
    Calls Try.prog 15 #[.slice ao b.length cap] w fun e w' => ∃ v, e = .returned (.tuple #[v, .bool false, .int .i64 0]) ∧ Pk.Sl ((hv b).drop 1) v w' ∧ Below w.heap.size w w' := by
  have KH : Hid (∀ wx : World, Sp.Vw b ao wx → Calls Try.prog 11 #[.slice ao b.length cap] wx fun e w' => ∃ v, e = .returned v ∧ w'.ownsRow wx.heap.size 5 1 v (hv b).length (Pk.bcs (hv b)) ∧ Below wx.heap.size wx w') := fun wx h => halves_any b ao cap wx hn h
  have VB : Hid (Sp.Vw b ao w) := vw
  have HL : Hid (2 ≤ (hv b).length) := h0
  have HX : Hid (Sp.bz (hv b) 0 = (1 : Int) ∧ Sp.bz (hv b) 1 = Y) := ⟨hX, hY⟩
  have d0 : bits .and .u8 1 2 = 0 := by decide +kernel
  have d1 : bits .and .u8 1 1 = 1 := by decide +kernel
  clear vw h0 hX hY
  go_enter Try.func15, Try.ntmps15
  go_wp2_with fail
  refine (KH.out _ VB.out).mono (fun e w2 he => ?_)
  obtain ⟨v0, rfl, own, b1⟩ := he
  obtain ⟨g, cp, rfl, hcp, hc6, SD⟩ := own_at own (by have := HL.out; omega)
  have c0 := cell_at own 0 (by have := HL.out; omega)
  have c1 := cell_at own 1 (by have := HL.out; omega)
  rw [HX.out.1] at c0
  rw [HX.out.2] at c1
  have SD : Hid (∀ k (a' : Option Addr), k ≤ (hv b).length → (0 < (hv b).length - k → a' = some ⟨g, k, none⟩) → Pk.Sl ((hv b).drop k) (.slice a' ((hv b).length - k) (cp - k)) w2) := SD
  have hcp : Hid ((hv b).length ≤ cp) := hcp
  clear own
  generalize (hv b).length = n at *
  have n0 : ((n : Int) == 0) = false := beq_false_of_ne (by have := HL.out; omega)
  have n1 : (0 : Int) < (n : Int) := by have := HL.out; omega
  have n2 : (1 : Int) < (n : Int) := by have := HL.out; omega
  have n3 : (1 : Int) ≤ (n : Int) := by omega
  have n4 : (2 : Int) ≤ (n : Int) := by omega
  have n5 : (1 : Int) < (cp : Int) := by have := HL.out; have := hcp.out; omega
  have n6 : (2 : Int) ≤ (cp : Int) := by omega
  go_wp2_with fail
  exact bodyPost_ret (res3t _ _ _ 2 3 4 _ _ _ rfl rfl rfl rfl) rfl ⟨_, rfl, SD.out 1 _ (by omega) (fun _ => rfl), b1⟩
set_option maxHeartbeats 1000000 in
set_option maxRecDepth 100000 in
theorem untag_3 (b : List UInt8) (ao : Option Addr) (cap : Nat) (Y : Int) (w : World) (hn : Hid (b.length ≤ 2097152)) (vw : Sp.Vw b ao w) (h0 : 2 ≤ (hv b).length) (hX : Sp.bz (hv b) 0 = (3 : Int)) (hY : Sp.bz (hv b) 1 = Y)   :
    Calls Try.prog 15 #[.slice ao b.length cap] w fun e w' => ∃ v, e = .returned (.tuple #[v, .bool true, .int .i64 0]) ∧ Pk.Sl ((hv b).drop 1) v w' ∧ Below w.heap.size w w' := by
  have KH : Hid (∀ wx : World, Sp.Vw b ao wx → Calls Try.prog 11 #[.slice ao b.length cap] wx fun e w' => ∃ v, e = .returned v ∧ w'.ownsRow wx.heap.size 5 1 v (hv b).length (Pk.bcs (hv b)) ∧ Below wx.heap.size wx w') := fun wx h => halves_any b ao cap wx hn h
  have VB : Hid (Sp.Vw b ao w) := vw
  have HL : Hid (2 ≤ (hv b).length) := h0
  have HX : Hid (Sp.bz (hv b) 0 = (3 : Int) ∧ Sp.bz (hv b) 1 = Y) := ⟨hX, hY⟩
  have d0 : bits .and .u8 3 2 = 2 := by decide +kernel
  have d1 : bits .and .u8 3 1 = 1 := by decide +kernel
  clear vw h0 hX hY
  go_enter Try.func15, Try.ntmps15
  go_wp2_with fail
  refine (KH.out _ VB.out).mono (fun e w2 he => ?_)
  obtain ⟨v0, rfl, own, b1⟩ := he
  obtain ⟨g, cp, rfl, hcp, hc6, SD⟩ := own_at own (by have := HL.out; omega)
  have c0 := cell_at own 0 (by have := HL.out; omega)
  have c1 := cell_at own 1 (by have := HL.out; omega)
  rw [HX.out.1] at c0
  rw [HX.out.2] at c1
  have SD : Hid (∀ k (a' : Option Addr), k ≤ (hv b).length → (0 < (hv b).length - k → a' = some ⟨g, k, none⟩) → Pk.Sl ((hv b).drop k) (.slice a' ((hv b).length - k) (cp - k)) w2) := SD
  have hcp : Hid ((hv b).length ≤ cp) := hcp
  clear own
  generalize (hv b).length = n at *
  have n0 : ((n : Int) == 0) = false := beq_false_of_ne (by have := HL.out; omega)
  have n1 : (0 : Int) < (n : Int) := by have := HL.out; omega
  have n2 : (1 : Int) < (n : Int) := by have := HL.out; omega
  have n3 : (1 : Int) ≤ (n : Int) := by omega
  have n4 : (2 : Int) ≤ (n : Int) := by omega
  have n5 : (1 : Int) < (cp : Int) := by have := HL.out; have := hcp.out; omega
  have n6 : (2 : Int) ≤ (cp : Int) := by omega
  go_wp2_with fail
  exact bodyPost_ret (res3t _ _ _ 2 3 4 _ _ _ rfl rfl rfl rfl) rfl ⟨_, rfl, SD.out 1 _ (by omega) (fun _ => rfl), b1⟩
set_option maxHeartbeats 1000000 in
set_option maxRecDepth 100000 in
theorem untag_0n (b : List UInt8) (ao : Option Addr) (cap : Nat) (Y : Int) (w : World) (hn : Hid (b.length ≤ 2097152)) (vw : Sp.Vw b ao w) (h0 : 2 ≤ (hv b).length) (hX : Sp.bz (hv b) 0 = (0 : Int)) (hY : Sp.bz (hv b) 1 = Y)  (hy : ¬ Y = 0) :
    Calls Try.prog 15 #[.slice ao b.length cap] w fun e w' => ∃ v, e = .returned (.tuple #[v, .bool false, .int .i64 1]) ∧ Pk.Sl [] v w' ∧ Below w.heap.size w w' := by
  have KH : Hid (∀ wx : World, Sp.Vw b ao wx → Calls Try.prog 11 #[.slice ao b.length cap] wx fun e w' => ∃ v, e = .returned v ∧ w'.ownsRow wx.heap.size 5 1 v (hv b).length (Pk.bcs (hv b)) ∧ Below wx.heap.size wx w') := fun wx h => halves_any b ao cap wx hn h
  have VB : Hid (Sp.Vw b ao w) := vw
  have HL : Hid (2 ≤ (hv b).length) := h0
  have HX : Hid (Sp.bz (hv b) 0 = (0 : Int) ∧ Sp.bz (hv b) 1 = Y) := ⟨hX, hY⟩
  have d0 : bits .and .u8 0 2 = 0 := by decide +kernel
  have d1 : bits .and .u8 0 1 = 0 := by decide +kernel
  have d2 : (Y != 0) = true := by simpa using hy
  clear vw h0 hX hY hy
  go_enter Try.func15, Try.ntmps15
  go_wp2_with fail
  refine (KH.out _ VB.out).mono (fun e w2 he => ?_)
  obtain ⟨v0, rfl, own, b1⟩ := he
  obtain ⟨g, cp, rfl, hcp, hc6, SD⟩ := own_at own (by have := HL.out; omega)
  have c0 := cell_at own 0 (by have := HL.out; omega)
  have c1 := cell_at own 1 (by have := HL.out; omega)
  rw [HX.out.1] at c0
  rw [HX.out.2] at c1
  have SD : Hid (∀ k (a' : Option Addr), k ≤ (hv b).length → (0 < (hv b).length - k → a' = some ⟨g, k, none⟩) → Pk.Sl ((hv b).drop k) (.slice a' ((hv b).length - k) (cp - k)) w2) := SD
  have hcp : Hid ((hv b).length ≤ cp) := hcp
  clear own
  generalize (hv b).length = n at *
  have n0 : ((n : Int) == 0) = false := beq_false_of_ne (by have := HL.out; omega)
  have n1 : (0 : Int) < (n : Int) := by have := HL.out; omega
  have n2 : (1 : Int) < (n : Int) := by have := HL.out; omega
  have n3 : (1 : Int) ≤ (n : Int) := by omega
  have n4 : (2 : Int) ≤ (n : Int) := by omega
  have n5 : (1 : Int) < (cp : Int) := by have := HL.out; have := hcp.out; omega
  have n6 : (2 : Int) ≤ (cp : Int) := by omega
  go_wp2_with fail
  exact bodyPost_ret (res3t _ _ _ 2 3 4 _ _ _ rfl rfl rfl rfl) rfl ⟨_, rfl, Pk.Sl_nil _, b1⟩
set_option maxHeartbeats 1000000 in
set_option maxRecDepth 100000 in
theorem untag_0z (b : List UInt8) (ao : Option Addr) (cap : Nat) (w : World) (hn : Hid (b.length ≤ 2097152)) (vw : Sp.Vw b ao w) (h0 : 2 ≤ (hv b).length) (hX : Sp.bz (hv b) 0 = (0 : Int)) (hY : Sp.bz (hv b) 1 = 0)   :
    Calls Try.prog 15 #[.slice ao b.length cap] w fun e w' => ∃ v, e = .returned (.tuple #[v, .bool false, .int .i64 0]) ∧ Pk.Sl ((hv b).drop 2) v w' ∧ Below w.heap.size w w' := by
  have KH : Hid (∀ wx : World, Sp.Vw b ao wx → Calls Try.prog 11 #[.slice ao b.length cap] wx fun e w' => ∃ v, e = .returned v ∧ w'.ownsRow wx.heap.size 5 1 v (hv b).length (Pk.bcs (hv b)) ∧ Below wx.heap.size wx w') := fun wx h => halves_any b ao cap wx hn h
  have VB : Hid (Sp.Vw b ao w) := vw
  have HL : Hid (2 ≤ (hv b).length) := h0
  have HX : Hid (Sp.bz (hv b) 0 = (0 : Int) ∧ Sp.bz (hv b) 1 = 0) := ⟨hX, hY⟩
  have d0 : bits .and .u8 0 2 = 0 := by decide +kernel
  have d1 : bits .and .u8 0 1 = 0 := by decide +kernel
  clear vw h0 hX hY
  go_enter Try.func15, Try.ntmps15
  go_wp2_with fail
  refine (KH.out _ VB.out).mono (fun e w2 he => ?_)
  obtain ⟨v0, rfl, own, b1⟩ := he
  obtain ⟨g, cp, rfl, hcp, hc6, SD⟩ := own_at own (by have := HL.out; omega)
  have c0 := cell_at own 0 (by have := HL.out; omega)
  have c1 := cell_at own 1 (by have := HL.out; omega)
  rw [HX.out.1] at c0
  rw [HX.out.2] at c1
  have SD : Hid (∀ k (a' : Option Addr), k ≤ (hv b).length → (0 < (hv b).length - k → a' = some ⟨g, k, none⟩) → Pk.Sl ((hv b).drop k) (.slice a' ((hv b).length - k) (cp - k)) w2) := SD
  have hcp : Hid ((hv b).length ≤ cp) := hcp
  clear own
  generalize (hv b).length = n at *
  have n0 : ((n : Int) == 0) = false := beq_false_of_ne (by have := HL.out; omega)
  have n1 : (0 : Int) < (n : Int) := by have := HL.out; omega
  have n2 : (1 : Int) < (n : Int) := by have := HL.out; omega
  have n3 : (1 : Int) ≤ (n : Int) := by omega
  have n4 : (2 : Int) ≤ (n : Int) := by omega
  have n5 : (1 : Int) < (cp : Int) := by have := HL.out; have := hcp.out; omega
  have n6 : (2 : Int) ≤ (cp : Int) := by omega
  by_cases e : cp = 2
  · subst e
    have hn2 : n = 2 := by have := HL.out; have := hcp.out; omega
    subst hn2
    clear n0 n1 n2 n3 n4 n5 n6
    go_wp2_with fail
    exact bodyPost_ret (res3t _ _ _ 2 3 4 _ _ _ rfl rfl rfl rfl) rfl ⟨_, rfl, SD.out 2 _ (Nat.le_refl _) (fun h => absurd h (by decide)), b1⟩
  · have n7 : (2 : Int) < (cp : Int) := by omega
    go_wp2_with fail
    exact bodyPost_ret (res3t _ _ _ 2 3 4 _ _ _ rfl rfl rfl rfl) rfl ⟨_, rfl, SD.out 2 _ (by omega) (fun _ => rfl), b1⟩
set_option maxHeartbeats 1000000 in
set_option maxRecDepth 100000 in
theorem untag_2n (b : List UInt8) (ao : Option Addr) (cap : Nat) (Y : Int) (w : World) (hn : Hid (b.length ≤ 2097152)) (vw : Sp.Vw b ao w) (h0 : 2 ≤ (hv b).length) (hX : Sp.bz (hv b) 0 = (2 : Int)) (hY : Sp.bz (hv b) 1 = Y)  (hy : ¬ Y = 0) :
    Calls Try.prog 15 #[.slice ao b.length cap] w fun e w' => ∃ v, e = .returned (.tuple #[v, .bool false, .int .i64 1]) ∧ Pk.Sl [] v w' ∧ Below w.heap.size w w' := by
  have KH : Hid (∀ wx : World, Sp.Vw b ao wx → Calls Try.prog 11 #[.slice ao b.length cap] wx fun e w' => ∃ v, e = .returned v ∧ w'.ownsRow wx.heap.size 5 1 v (hv b).length (Pk.bcs (hv b)) ∧ Below wx.heap.size wx w') := fun wx h => halves_any b ao cap wx hn h
  have VB : Hid (Sp.Vw b ao w) := vw
  have HL : Hid (2 ≤ (hv b).length) := h0
  have HX : Hid (Sp.bz (hv b) 0 = (2 : Int) ∧ Sp.bz (hv b) 1 = Y) := ⟨hX, hY⟩
  have d0 : bits .and .u8 2 2 = 2 := by decide +kernel
  have d1 : bits .and .u8 2 1 = 0 := by decide +kernel
  have d2 : (Y != 0) = true := by simpa using hy
  clear vw h0 hX hY hy
  go_enter Try.func15, Try.ntmps15
  go_wp2_with fail
  refine (KH.out _ VB.out).mono (fun e w2 he => ?_)
  obtain ⟨v0, rfl, own, b1⟩ := he
  obtain ⟨g, cp, rfl, hcp, hc6, SD⟩ := own_at own (by have := HL.out; omega)
  have c0 := cell_at own 0 (by have := HL.out; omega)
  have c1 := cell_at own 1 (by have := HL.out; omega)
  rw [HX.out.1] at c0
  rw [HX.out.2] at c1
  have SD : Hid (∀ k (a' : Option Addr), k ≤ (hv b).length → (0 < (hv b).length - k → a' = some ⟨g, k, none⟩) → Pk.Sl ((hv b).drop k) (.slice a' ((hv b).length - k) (cp - k)) w2) := SD
  have hcp : Hid ((hv b).length ≤ cp) := hcp
  clear own
  generalize (hv b).length = n at *
  have n0 : ((n : Int) == 0) = false := beq_false_of_ne (by have := HL.out; omega)
  have n1 : (0 : Int) < (n : Int) := by have := HL.out; omega
  have n2 : (1 : Int) < (n : Int) := by have := HL.out; omega
  have n3 : (1 : Int) ≤ (n : Int) := by omega
  have n4 : (2 : Int) ≤ (n : Int) := by omega
  have n5 : (1 : Int) < (cp : Int) := by have := HL.out; have := hcp.out; omega
  have n6 : (2 : Int) ≤ (cp : Int) := by omega
  go_wp2_with fail
  exact bodyPost_ret (res3t _ _ _ 2 3 4 _ _ _ rfl rfl rfl rfl) rfl ⟨_, rfl, Pk.Sl_nil _, b1⟩
set_option maxHeartbeats 1000000 in
set_option maxRecDepth 100000 in
theorem untag_2z (b : List UInt8) (ao : Option Addr) (cap : Nat) (w : World) (hn : Hid (b.length ≤ 2097152)) (vw : Sp.Vw b ao w) (h0 : 2 ≤ (hv b).length) (hX : Sp.bz (hv b) 0 = (2 : Int)) (hY : Sp.bz (hv b) 1 = 0)   :
    Calls Try.prog 15 #[.slice ao b.length cap] w fun e w' => ∃ v, e = .returned (.tuple #[v, .bool true, .int .i64 0]) ∧ Pk.Sl ((hv b).drop 2) v w' ∧ Below w.heap.size w w' := by
  have KH : Hid (∀ wx : World, Sp.Vw b ao wx → Calls Try.prog 11 #[.slice ao b.length cap] wx fun e w' => ∃ v, e = .returned v ∧ w'.ownsRow wx.heap.size 5 1 v (hv b).length (Pk.bcs (hv b)) ∧ Below wx.heap.size wx w') := fun wx h => halves_any b ao cap wx hn h
  have VB : Hid (Sp.Vw b ao w) := vw
  have HL : Hid (2 ≤ (hv b).length) := h0
  have HX : Hid (Sp.bz (hv b) 0 = (2 : Int) ∧ Sp.bz (hv b) 1 = 0) := ⟨hX, hY⟩
  have d0 : bits .and .u8 2 2 = 2 := by decide +kernel
  have d1 : bits .and .u8 2 1 = 0 := by decide +kernel
  clear vw h0 hX hY
  go_enter Try.func15, Try.ntmps15
  go_wp2_with fail
  refine (KH.out _ VB.out).mono (fun e w2 he => ?_)
  obtain ⟨v0, rfl, own, b1⟩ := he
  obtain ⟨g, cp, rfl, hcp, hc6, SD⟩ := own_at own (by have := HL.out; omega)
  have c0 := cell_at own 0 (by have := HL.out; omega)
  have c1 := cell_at own 1 (by have := HL.out; omega)
  rw [HX.out.1] at c0
  rw [HX.out.2] at c1
  have SD : Hid (∀ k (a' : Option Addr), k ≤ (hv b).length → (0 < (hv b).length - k → a' = some ⟨g, k, none⟩) → Pk.Sl ((hv b).drop k) (.slice a' ((hv b).length - k) (cp - k)) w2) := SD
  have hcp : Hid ((hv b).length ≤ cp) := hcp
  clear own
  generalize (hv b).length = n at *
  have n0 : ((n : Int) == 0) = false := beq_false_of_ne (by have := HL.out; omega)
  have n1 : (0 : Int) < (n : Int) := by have := HL.out; omega
  have n2 : (1 : Int) < (n : Int) := by have := HL.out; omega
  have n3 : (1 : Int) ≤ (n : Int) := by omega
  have n4 : (2 : Int) ≤ (n : Int) := by omega
  have n5 : (1 : Int) < (cp : Int) := by have := HL.out; have := hcp.out; omega
  have n6 : (2 : Int) ≤ (cp : Int) := by omega
  by_cases e : cp = 2
  · subst e
    have hn2 : n = 2 := by have := HL.out; have := hcp.out; omega
    subst hn2
    clear n0 n1 n2 n3 n4 n5 n6
    go_wp2_with fail
    exact bodyPost_ret (res3t _ _ _ 2 3 4 _ _ _ rfl rfl rfl rfl) rfl ⟨_, rfl, SD.out 2 _ (Nat.le_refl _) (fun h => absurd h (by decide)), b1⟩
  · have n7 : (2 : Int) < (cp : Int) := by omega
    go_wp2_with fail
    exact bodyPost_ret (res3t _ _ _ 2 3 4 _ _ _ rfl rfl rfl rfl) rfl ⟨_, rfl, SD.out 2 _ (by omega) (fun _ => rfl), b1⟩
theorem bz_0 (x : UInt8) (r : List UInt8) : Sp.bz (x :: r) 0 = (x.toNat : Int) := rfl
theorem bz_1 (x y : UInt8) (r : List UInt8) : Sp.bz (x :: y :: r) 1 = (y.toNat : Int) := rfl
theorem untag_sl (b : List UInt8) (ao : Option Addr) (cap : Nat) (w : World) (hn : Hid (b.length ≤ 2097152)) (vw : Sp.Vw b ao w) :
    Calls Try.prog 15 #[.slice ao b.length cap] w fun e w' => ∃ v, e = .returned (.tuple #[v, .bool (un (hv b)).2.1, .int .i64 (un (hv b)).2.2]) ∧ Pk.Sl (un (hv b)).1 v w' ∧ Below w.heap.size w w' := by
  cases b with
  | nil => exact untag_none ao cap w
  | cons c r =>
    have hc := UInt8.toNat_lt c
    generalize hx : UInt8.ofNat (c.toNat / 16) = x
    generalize hy : UInt8.ofNat (c.toNat % 16) = y
    have e : hv (c :: r) = x :: y :: hv r := by rw [hv, hx, hy]
    have h0 : 2 ≤ (hv (c :: r)).length := by rw [e]; simp
    have nat0 : ∀ z : UInt8, ∀ m : UInt8, z.toNat = m.toNat → z = m := fun z m h => UInt8.toNat_inj.1 h
    have X0 : Sp.bz (hv (c :: r)) 0 = (x.toNat : Int) := by rw [e]; rfl
    have Y0 : Sp.bz (hv (c :: r)) 1 = (y.toNat : Int) := by rw [e]; rfl
    rw [e]
    by_cases x0 : x = 0
    · subst x0
      by_cases y0 : y = 0
      · subst y0
        have k := untag_0z (c :: r) ao cap w hn vw h0 X0 Y0
        rw [e] at k
        exact k
      · have k := untag_0n (c :: r) ao cap _ w hn vw h0 X0 Y0 (fun h => y0 (nat0 y 0 (by have : ((0 : UInt8).toNat) = 0 := rfl; omega)))
        have eu : un (0 :: y :: hv r) = ([], false, 1) := by simp [un, y0]
        rw [eu]
        exact k
    · by_cases x1 : x = 1
      · subst x1
        have k := untag_1 (c :: r) ao cap _ w hn vw h0 X0 Y0
        rw [e] at k
        exact k
      · by_cases x2 : x = 2
        · subst x2
          by_cases y0 : y = 0
          · subst y0
            have k := untag_2z (c :: r) ao cap w hn vw h0 X0 Y0
            rw [e] at k
            exact k
          · have k := untag_2n (c :: r) ao cap _ w hn vw h0 X0 Y0 (fun h => y0 (nat0 y 0 (by have : ((0 : UInt8).toNat) = 0 := rfl; omega)))
            have eu : un (2 :: y :: hv r) = ([], false, 1) := by simp [un, y0]
            rw [eu]
            exact k
        · by_cases x3 : x = 3
          · subst x3
            have k := untag_3 (c :: r) ao cap _ w hn vw h0 X0 Y0
            rw [e] at k
            exact k
          · have hx3 : 3 < x.toNat := by
              rcases Nat.lt_or_ge 3 x.toNat with h | h
              · exact h
              · exfalso
                have : x.toNat = 0 ∨ x.toNat = 1 ∨ x.toNat = 2 ∨ x.toNat = 3 := by omega
                rcases this with h | h | h | h
                · exact x0 (nat0 x 0 h)
                · exact x1 (nat0 x 1 h)
                · exact x2 (nat0 x 2 h)
                · exact x3 (nat0 x 3 h)
            have k := untag_high (c :: r) ao cap _ _ w hn vw h0 X0 Y0 (by omega)
            have eu : un (x :: y :: hv r) = ([], false, 1) := by simp [un, x0, x1, x2, x3]
            rw [eu]
            exact k
end Nb
end Go.Proofs.Ytfmihdcgehhkbaa
/- lampbearerref.NUntag. -/
namespace Go.Proofs.Ytfmihdcgehhkbaa
namespace Nb
open Go.RowKit
theorem pick_lf (l2 lf : Bool) (k : Nat) (h : (if lf then 1 else 0) = k) (h1 : (if l2 then 1 else 0) < k + 1) (h2 : ¬ (if l2 then 1 else 0) < k) : l2 = lf := by
  subst h
  cases l2 <;> cases lf <;> simp_all
theorem tagged2 (p b : List UInt8) (leaf : Bool) : (je (tg p leaf) = 0 ∧ jl (tg p leaf) = b) ↔ tg p leaf = hv b := by
  rw [← tagged]
  by_cases h : JF (tg p leaf)
  · rw [je_yes h, jl_yes h]
    exact ⟨fun k => ⟨h, k.2⟩, fun k => ⟨rfl, k.2⟩⟩
  · rw [je_no h]
    exact ⟨fun k => absurd k.1 (by decide), fun k => absurd k.1 h⟩
theorem tagged3 (p b : List UInt8) (leaf : Bool) (h : ¬ tg p leaf = hv b) : je (tg p leaf) = 1 ∨ (je (tg p leaf) = 0 ∧ jl (tg p leaf) ≠ b) := by
  by_cases hj : JF (tg p leaf)
  · exact .inr ⟨je_yes hj, fun e => h ((tagged2 p b leaf).1 ⟨je_yes hj, e⟩)⟩
  · exact .inl (je_no hj)
theorem un_yes (b : List UInt8) (f : Nat) (leaf : Bool) (h1 : 1 ≤ f) (h2 : f ≤ 2) (h : tg ((hv b).drop f) leaf = hv b) : un (hv b) = ((hv b).drop f, leaf, 0) := by
  cases b with
  | nil =>
    exfalso
    have := congrArg List.length h
    unfold tg hd at this
    simp [hv] at this
  | cons c r =>
    have hl := hv_len r
    rw [hv] at h ⊢
    generalize UInt8.ofNat (c.toNat / 16) = x at *
    generalize UInt8.ofNat (c.toNat % 16) = y at *
    have hf : f = 1 ∨ f = 2 := by omega
    rcases hf with rfl | rfl
    · simp only [List.drop_succ_cons, List.drop_zero] at h ⊢
      unfold tg hd at h
      rw [if_pos (by rw [List.length_cons, hl]; omega)] at h
      cases leaf
      · simp at h
        subst h
        rfl
      · simp at h
        subst h
        rfl
    · simp only [List.drop_succ_cons, List.drop_zero] at h ⊢
      unfold tg hd at h
      rw [if_neg (by rw [hl]; omega)] at h
      cases leaf
      · simp at h
        obtain ⟨rfl, rfl⟩ := h
        rfl
      · simp at h
        obtain ⟨rfl, rfl⟩ := h
        rfl
theorem un_no (b : List UInt8) (h : ∀ f, 1 ≤ f → f < 3 → ∀ leaf, tg ((hv b).drop f) leaf ≠ hv b) : un (hv b) = ([], false, 1) := by
  cases b with
  | nil => rfl
  | cons c r =>
    have hl := hv_len r
    rw [hv] at h ⊢
    generalize UInt8.ofNat (c.toNat / 16) = x at *
    generalize UInt8.ofNat (c.toNat % 16) = y at *
    have A := h 1 (by omega) (by omega)
    have B := h 2 (by omega) (by omega)
    simp only [List.drop_succ_cons, List.drop_zero] at A B
    have A0 := A false
    have A1 := A true
    have B0 := B false
    have B1 := B true
    unfold tg hd at A0 A1 B0 B1
    rw [if_pos (by rw [List.length_cons, hl]; omega)] at A0 A1
    rw [if_neg (by rw [hl]; omega)] at B0 B1
    simp at A0 A1 B0 B1
    rw [un]
    by_cases x0 : x = 0
    · rw [if_pos x0, if_neg (fun e => B0 x0.symm e.symm)]
    · rw [if_neg x0, if_neg (fun e => A0 e.symm)]
      by_cases x2 : x = 2
      · rw [if_pos x2, if_neg (fun e => B1 x2.symm e.symm)]
      · rw [if_neg x2, if_neg (fun e => A1 e.symm)]
set_option maxHeartbeats 2000000 in
set_option maxRecDepth 100000 in
theorem nuntag_none (ao : Option Addr) (cap : Nat) (w : World) :
    Calls Try.prog 16 #[.slice ao 0 cap] w fun e w' => ∃ v, e = .returned (.tuple #[v, .bool false, .int .i64 1]) ∧ Pk.Sl [] v w' ∧ Below w.heap.size w w' := by
  go_enter Try.func16, Try.ntmps16
  go_wp2
  refine wp_loop_rounds 1 ?_
  rw [rounds_succ]
  go_wp2
  exact bodyPost_ret (res3t _ _ _ 2 3 4 _ _ _ rfl rfl rfl rfl) rfl ⟨_, rfl, Pk.Sl_nil _, Below.refl _ _⟩
set_option maxHeartbeats 2000000 in
set_option maxRecDepth 100000 in
theorem nuntag_some (b : List UInt8) (ao : Option Addr) (cap : Nat) (w : World) (h0 : 0 < b.length) (hn : Hid (b.length ≤ 2097140)) (hcap : b.length ≤ cap) (vw : Sp.Vw b ao w) :
    Calls Try.prog 16 #[.slice ao b.length cap] w fun e w' => ∃ v, e = .returned (.tuple #[v, .bool (un (hv b)).2.1, .int .i64 (un (hv b)).2.2]) ∧ Pk.Sl (un (hv b)).1 v w' ∧ Below w.heap.size w w' := by
  have KN : Hid (∀ wx : World, Below w.heap.size w wx → Calls Try.prog 12 #[.slice ao b.length cap] wx fun e w' => ∃ v, e = .returned v ∧ w'.ownsRow wx.heap.size 5 1 v (hv b).length (Pk.bcs (hv b)) ∧ Below wx.heap.size wx w') := fun wx h => nhalves_any b ao cap wx (by have := hn.out; show _ ≤ _; omega) (Sp.Vw_below vw h)
  have KT : Hid (∀ (f : Nat) (leaf : Bool) (a : Option Addr) (c : Nat) (wx : World), Pk.Sl ((hv b).drop f) (.slice a ((hv b).length - f) c) wx → Calls Try.prog 14 #[.slice a ((hv b).length - f) c, .bool leaf] wx fun e w' => ∃ v, e = .returned (.tuple #[v, .int .i64 (je (tg ((hv b).drop f) leaf))]) ∧ Pk.Sl (jl (tg ((hv b).drop f) leaf)) v w' ∧ Below wx.heap.size wx w') := fun f leaf a c wx h => by
    obtain ⟨a2, c2, e2, h2, v2⟩ := h
    have ldr : ((hv b).drop f).length = (hv b).length - f := List.length_drop ..
    injection e2 with e3 e4 e5
    subst e3 e5
    rw [← ldr]
    exact ntag_sl _ leaf a c wx (by have := hn.out; have := hv_len b; show _ ≤ _; omega) h2 v2
  have HC : Hid (∀ wx : World, Below w.heap.size w wx → (convert 22 9 (.slice ao b.length cap)).run Try.prog wx = .ok (.string ⟨b.toArray⟩) wx) := fun wx hb => Pk.Sl_conv ⟨ao, cap, rfl, hcap, Sp.Vw_below vw hb⟩
  have HL : Hid ((hv b).length = 2 * b.length) := hv_len b
  have H0 : Hid (0 < b.length) := h0
  have hw2 : Hid (wrap64 (2 * (b.length : Int)) = 2 * (b.length : Int)) := by
    have hn' := hn.out
    show _ = _
    unfold wrap64; omega
  clear vw hcap h0
  go_enter Try.func16, Try.ntmps16
  go_wp2_with fail
  go_loopw [5] (fun i wr => ∃ f : Nat, 1 ≤ f ∧ f ≤ 3 ∧ i = .int .i64 (f : Int) ∧ Hid (∀ f', 1 ≤ f' → f' < f → ∀ leaf, tg ((hv b).drop f') leaf ≠ hv b) ∧ Below w.heap.size w wr) (fun i _ => ((3 : Int) - intOf i).toNat)
  case atStart => exact ⟨1, Nat.le_refl _, by decide, rfl, fun f' h1 h2 => by omega, Below.refl _ _⟩
  case round =>
    obtain ⟨f, hf1, hf3, rfl, hN, hb⟩ := hrel
    by_cases hf2 : f ≤ 2
    · have d1 : decide ((f : Int) ≤ 2) = true := decide_eq_true (by omega)
      have d2 : decide ((f : Int) ≤ 2 * (b.length : Int)) = true := decide_eq_true (by have := H0.out; omega)
      have hs := stp f (by show _ ≤ _; omega)
      have HF1 : Hid (1 ≤ f) := hf1
      have HF2 : Hid (f ≤ 2) := hf2
      have hw := hw2.out
      go_wp2_with fail
      clear hw d1 d2
      obtain ⟨G, eG⟩ : ∃ G, G = wr.heap.size := ⟨_, rfl⟩
      have cA : (wr.alloc (.cells #[.bool false, .bool true] 4)).cell? ⟨wr.heap.size, 0, none⟩ = some (.bool false) := by simp [go_sem]
      have cB : (wr.alloc (.cells #[.bool false, .bool true] 4)).cell? ⟨wr.heap.size, 1, none⟩ = some (.bool true) := by simp [go_sem]
      have hA : wr.heap.size < (wr.alloc (.cells #[.bool false, .bool true] 4)).heap.size := by simp
      have bA : Below w.heap.size w (wr.alloc (.cells #[.bool false, .bool true] 4)) := hb.alloc hb.size _
      rw [← eG] at cA cB hA ⊢
      generalize wr.alloc (.cells #[.bool false, .bool true] 4) = WA at *
      clear eG hb
      go_loopw [24] (fun i wx => ∃ k : Nat, k ≤ 2 ∧ i = .int .i64 (k : Int) ∧ Hid (∀ l2 : Bool, (if l2 then 1 else 0) < k → tg ((hv b).drop f) l2 ≠ hv b) ∧ wx.cell? ⟨G, 0, none⟩ = some (.bool false) ∧ wx.cell? ⟨G, 1, none⟩ = some (.bool true) ∧ G < wx.heap.size ∧ Below w.heap.size w wx) (fun i _ => ((2 : Int) - intOf i).toNat)
      case atStart => exact ⟨0, Nat.zero_le _, rfl, fun l2 h => by omega, cA, cB, hA, bA⟩
      case round =>
        clear cA cB hA bA
        obtain ⟨k, hk, rfl, hno, c20, c21, hG, b2⟩ := hrel
        by_cases hk2 : k < 2
        · have d1 : decide ((k : Int) < 2) = true := decide_eq_true (by omega)
          have dk : (k : Int) < 2 := by omega
          have hw := stp k (by show _ ≤ _; omega)
          obtain ⟨lf, HLF, ck⟩ : ∃ lf : Bool, Hid ((if lf then 1 else 0) = k) ∧ wr.cell? ⟨G, k, none⟩ = some (.bool lf) := by
            have : k = 0 ∨ k = 1 := by omega
            rcases this with rfl | rfl
            · exact ⟨false, rfl, c20⟩
            · exact ⟨true, rfl, c21⟩
          go_wp2_with fail
          refine (KN.out _ b2).mono (fun e w4 he => ?_)
          obtain ⟨v0, rfl, own, b3'⟩ := he
          obtain ⟨g, cp, rfl, hcp, hc6, SD⟩ := own_at own (by rw [HL.out]; have := H0.out; omega)
          have b3 := b2.trans (b3'.mono b2.size)
          have c40 := (b3'.cell (p := ⟨G, 0, none⟩) hG).trans c20
          have c41 := (b3'.cell (p := ⟨G, 1, none⟩) hG).trans c21
          have hG3 := Nat.lt_of_lt_of_le hG b3'.size
          have n4 : (f : Int) ≤ ((hv b).length : Int) := by rw [HL.out]; have := H0.out; omega
          have n3 : (0 : Int) ≤ (f : Int) := by omega
          have HCP : Hid ((hv b).length ≤ cp) := hcp
          have n6 : (f : Int) ≤ (cp : Int) := by omega
          clear own b3' c20 c21 ck hG b2 hcp
          by_cases e : cp = f
          · have sd := SD f (some ⟨g, 0, none⟩) (by omega) (fun h => by have := HCP.out; omega)
            have e := e.symm
            subst e
            rw [Nat.sub_self] at sd
            clear SD
            go_wp2_with fail
            refine (KT.out f lf _ _ _ sd).mono (fun e w5 he => ?_)
            obtain ⟨v1, rfl, s1, b4⟩ := he
            have bb := b3.trans (b4.mono b3.size)
            have hcv1 := Pk.Sl_conv s1
            have hcv2 := HC.out _ bb
            have SP := Pk.Sl_below sd b4
            have SP : Hid _ := SP
            have c6 := (b4.cell (p := ⟨G, 0, none⟩) hG3).trans c40
            have c7 := (b4.cell (p := ⟨G, 1, none⟩) hG3).trans c41
            have hG5 := Nat.lt_of_lt_of_le hG3 b4.size
            clear s1 sd b4 b3 c40 c41
            by_cases ok : tg ((hv b).drop f) lf = hv b
            · obtain ⟨j0, j1⟩ := (tagged2 _ b lf).2 ok
              have HU : Hid (un (hv b) = ((hv b).drop f, lf, 0)) := un_yes b f lf HF1.out HF2.out ok
              rw [j1] at hcv1
              rw [j0]
              clear ok j0 j1 c6 c7
              go_wp2_with fail
              exact bodyPost_ret (res3t _ _ _ 2 3 4 _ _ _ rfl rfl rfl rfl) rfl ⟨_, by rw [HU.out]; rfl, by rw [HU.out]; exact SP.out, bb⟩
            · have HNO : Hid (∀ l2 : Bool, (if l2 then 1 else 0) < k + 1 → tg ((hv b).drop f) l2 ≠ hv b) := fun l2 h => by
                by_cases e2 : (if l2 then 1 else 0) < k
                · exact hno.out l2 e2
                · have : l2 = lf := pick_lf l2 lf k HLF.out h e2
                  rw [this]; exact ok
              rcases tagged3 _ b lf ok with j0 | ⟨j0, j1⟩
              · rw [j0]
                clear ok j0 hno SP
                go_wp2_with fail
                have hw := hw.out
                go_roundw
                case rel => exact ⟨k + 1, hk2, step_v k _ (by first | exact hw | rfl), HNO, c6, c7, hG5, bb⟩
                case measure => exact msr k 2 hk2 _ (by first | exact hw | rfl)
              · rw [j0]
                have hne : (jl (tg ((hv b).drop f) lf) == b) = false := beq_false_of_ne j1
                clear ok j0 j1 hno SP
                go_wp2_with fail
                have hw := hw.out
                go_roundw
                case rel => exact ⟨k + 1, hk2, step_v k _ (by first | exact hw | rfl), HNO, c6, c7, hG5, bb⟩
                case measure => exact msr k 2 hk2 _ (by first | exact hw | rfl)
          · have sd := SD f (some ⟨g, f, none⟩) (by omega) (fun _ => rfl)
            have n7 : (f : Int) < (cp : Int) := by omega
            clear SD e
            go_wp2_with fail
            refine (KT.out f lf _ _ _ sd).mono (fun e w5 he => ?_)
            obtain ⟨v1, rfl, s1, b4⟩ := he
            have bb := b3.trans (b4.mono b3.size)
            have hcv1 := Pk.Sl_conv s1
            have hcv2 := HC.out _ bb
            have SP := Pk.Sl_below sd b4
            have SP : Hid _ := SP
            have c6 := (b4.cell (p := ⟨G, 0, none⟩) hG3).trans c40
            have c7 := (b4.cell (p := ⟨G, 1, none⟩) hG3).trans c41
            have hG5 := Nat.lt_of_lt_of_le hG3 b4.size
            clear s1 sd b4 b3 c40 c41
            by_cases ok : tg ((hv b).drop f) lf = hv b
            · obtain ⟨j0, j1⟩ := (tagged2 _ b lf).2 ok
              have HU : Hid (un (hv b) = ((hv b).drop f, lf, 0)) := un_yes b f lf HF1.out HF2.out ok
              rw [j1] at hcv1
              rw [j0]
              clear ok j0 j1 c6 c7
              go_wp2_with fail
              exact bodyPost_ret (res3t _ _ _ 2 3 4 _ _ _ rfl rfl rfl rfl) rfl ⟨_, by rw [HU.out]; rfl, by rw [HU.out]; exact SP.out, bb⟩
            · have HNO : Hid (∀ l2 : Bool, (if l2 then 1 else 0) < k + 1 → tg ((hv b).drop f) l2 ≠ hv b) := fun l2 h => by
                by_cases e2 : (if l2 then 1 else 0) < k
                · exact hno.out l2 e2
                · have : l2 = lf := pick_lf l2 lf k HLF.out h e2
                  rw [this]; exact ok
              rcases tagged3 _ b lf ok with j0 | ⟨j0, j1⟩
              · rw [j0]
                clear ok j0 hno SP
                go_wp2_with fail
                have hw := hw.out
                go_roundw
                case rel => exact ⟨k + 1, hk2, step_v k _ (by first | exact hw | rfl), HNO, c6, c7, hG5, bb⟩
                case measure => exact msr k 2 hk2 _ (by first | exact hw | rfl)
              · rw [j0]
                have hne : (jl (tg ((hv b).drop f) lf) == b) = false := beq_false_of_ne j1
                clear ok j0 j1 hno SP
                go_wp2_with fail
                have hw := hw.out
                go_roundw
                case rel => exact ⟨k + 1, hk2, step_v k _ (by first | exact hw | rfl), HNO, c6, c7, hG5, bb⟩
                case measure => exact msr k 2 hk2 _ (by first | exact hw | rfl)
        · obtain rfl : k = 2 := by omega
          have HN2 : Hid (∀ f', 1 ≤ f' → f' < f + 1 → ∀ leaf, tg ((hv b).drop f') leaf ≠ hv b) := fun f' h1 h2 leaf => by
            by_cases e : f' = f
            · subst e; exact hno.out leaf (by cases leaf <;> decide)
            · exact hN.out f' h1 (by omega) leaf
          clear hno hN c20 c21
          go_wp2_with fail
          have hw := hs.out
          go_roundw
          case rel => exact ⟨f + 1, by omega, by omega, step_v f _ (by first | exact hw | rfl), HN2, b2⟩
          case measure => exact msr f 3 (by omega) _ (by first | exact hw | rfl)
    · obtain rfl : f = 3 := by omega
      have HU : Hid (un (hv b) = ([], false, 1)) := un_no b hN.out
      clear hN
      go_wp2_with fail
      exact bodyPost_ret (res3t _ _ _ 2 3 4 _ _ _ rfl rfl rfl rfl) rfl ⟨_, by rw [HU.out]; rfl, by rw [HU.out]; exact Pk.Sl_nil _, hb⟩
theorem nuntag_sl (b : List UInt8) (ao : Option Addr) (cap : Nat) (w : World) (hn : Hid (b.length ≤ 2097140)) (hcap : b.length ≤ cap) (vw : Sp.Vw b ao w) :
    Calls Try.prog 16 #[.slice ao b.length cap] w fun e w' => ∃ v, e = .returned (.tuple #[v, .bool (un (hv b)).2.1, .int .i64 (un (hv b)).2.2]) ∧ Pk.Sl (un (hv b)).1 v w' ∧ Below w.heap.size w w' := by
  by_cases h0 : 0 < b.length
  · exact nuntag_some b ao cap w h0 hn hcap vw
  · have e : b = [] := List.length_eq_zero_iff.1 (by omega)
    subst e
    exact nuntag_none ao cap w
end Nb
end Go.Proofs.Ytfmihdcgehhkbaa
/- The law NibTags; alive6. -/
namespace Go.Proofs.Ytfmihdcgehhkbaa
namespace Nb
open Go.RowKit
set_option maxHeartbeats 2000000 in
set_option maxRecDepth 100000 in
theorem law_tags (p b : List UInt8) (leaf : Bool) (ap ao : Option Addr) (cp cap : Nat) (w : World) (hm : Hid (p.length ≤ 4194300)) (hn : Hid (b.length ≤ 2097140)) (hcp : p.length ≤ cp) (hcap : b.length ≤ cap) (vp : Sp.Vw p ap w) (vb : Sp.Vw b ao w) :
    Calls Try.prog 4 #[.slice ap p.length cp, .bool leaf, .slice ao b.length cap] w fun e w' => e = .returned (.bool true) ∧ Below w.heap.size w w' := by
  have K1 : Hid (∀ wx : World, Sp.Vw p ap wx → Calls Try.prog 13 #[.slice ap p.length cp, .bool leaf] wx fun e w' => ∃ v, e = .returned (.tuple #[v, .int .i64 (je (tg p leaf))]) ∧ Pk.Sl (jl (tg p leaf)) v w' ∧ Below wx.heap.size wx w') := fun wx h => tag_sl p leaf ap cp wx hm hcp h
  have K2 : Hid (∀ wx : World, Sp.Vw p ap wx → Calls Try.prog 14 #[.slice ap p.length cp, .bool leaf] wx fun e w' => ∃ v, e = .returned (.tuple #[v, .int .i64 (je (tg p leaf))]) ∧ Pk.Sl (jl (tg p leaf)) v w' ∧ Below wx.heap.size wx w') := fun wx h => ntag_sl p leaf ap cp wx hm hcp h
  have K3 : Hid (∀ wx : World, Sp.Vw b ao wx → Calls Try.prog 15 #[.slice ao b.length cap] wx fun e w' => ∃ v, e = .returned (.tuple #[v, .bool (un (hv b)).2.1, .int .i64 (un (hv b)).2.2]) ∧ Pk.Sl (un (hv b)).1 v w' ∧ Below wx.heap.size wx w') := fun wx h => untag_sl b ao cap wx (by have := hn.out; show _ ≤ _; omega) h
  have K4 : Hid (∀ wx : World, Sp.Vw b ao wx → Calls Try.prog 16 #[.slice ao b.length cap] wx fun e w' => ∃ v, e = .returned (.tuple #[v, .bool (un (hv b)).2.1, .int .i64 (un (hv b)).2.2]) ∧ Pk.Sl (un (hv b)).1 v w' ∧ Below wx.heap.size wx w') := fun wx h => nuntag_sl b ao cap wx hn hcap h
  have VB : Hid (Sp.Vw b ao w) := vb
  have VP : Hid (Sp.Vw p ap w) := vp
  clear vb vp hn hm hcp hcap
  generalize (un (hv b)).1 = R at *
  generalize (un (hv b)).2.1 = lf at *
  generalize (un (hv b)).2.2 = e2 at *
  generalize je (tg p leaf) = c at *
  generalize jl (tg p leaf) = T at *
  go_enter Try.func4, Try.ntmps4
  go_wp2_with fail
  refine (K1.out _ VP.out).mono (fun e w2 he => ?_)
  obtain ⟨v1, rfl, s1, b1⟩ := he
  go_wp2_with fail
  refine (K2.out _ (Sp.Vw_below VP.out b1)).mono (fun e w3 he => ?_)
  obtain ⟨v2, rfl, s2, b2⟩ := he
  have bb := b1.trans (b2.mono b1.size)
  have s1' : Hid _ := Pk.Sl_below s1 b2
  have s2' : Hid _ := s2
  clear s1 s2 b1 b2 K1 K2 VP
  go_wp2_with fail
  refine (K3.out _ (Sp.Vw_below VB.out bb)).mono (fun e w4 he => ?_)
  obtain ⟨v3, rfl, s3, b3⟩ := he
  have bc := bb.trans (b3.mono bb.size)
  have s1 : Hid _ := Pk.Sl_below s1'.out b3
  have s2 : Hid _ := Pk.Sl_below s2'.out b3
  have s3' : Hid _ := s3
  clear s1' s2' bb b3 s3 K3
  go_wp2_with fail
  refine (K4.out _ (Sp.Vw_below VB.out bc)).mono (fun e w5 he => ?_)
  obtain ⟨v4, rfl, s4, b4⟩ := he
  have bd := bc.trans (b4.mono bc.size)
  have q1 := Pk.Sl_conv (Pk.Sl_below s1.out b4)
  have q2 := Pk.Sl_conv (Pk.Sl_below s2.out b4)
  have q3 := Pk.Sl_conv (Pk.Sl_below s3'.out b4)
  have q4 := Pk.Sl_conv s4
  clear s1 s2 s3' s4 b4 bc K4 VB
  go_wp2_with fail
  go_ret
  exact ⟨rfl, bd⟩
set_option maxHeartbeats 2000000 in
set_option maxRecDepth 100000 in
theorem alive6_any (w : World) : Calls Try.prog 19 #[] w fun e w' => e = .returned (.bool true) ∧ Below w.heap.size w w' := by
  have bA : Below w.heap.size w (w.alloc (.cells #[.int .u8 1, .int .u8 2, .int .u8 3] 5)) := (Below.refl _ _).alloc (Nat.le_refl _) _
  have oA : (w.alloc (.cells #[.int .u8 1, .int .u8 2, .int .u8 3] 5)).ownsRow 0 5 1 (.slice (some ⟨w.heap.size, 0, none⟩) 3 3) 3 (Pk.bcs [1, 2, 3]) := own_lit [1, 2, 3] w 0 (Nat.zero_le _) (by decide)
  have K1 : Hid (Calls Try.prog 13 #[.slice (some ⟨w.heap.size, 0, none⟩) 3 3, .bool true] (w.alloc (.cells #[.int .u8 1, .int .u8 2, .int .u8 3] 5)) fun e w' => ∃ v, e = .returned (.tuple #[v, .int .i64 0]) ∧ Pk.Sl [49, 35] v w' ∧ Below (w.alloc (.cells #[.int .u8 1, .int .u8 2, .int .u8 3] 5)).heap.size (w.alloc (.cells #[.int .u8 1, .int .u8 2, .int .u8 3] 5)) w') := by
    have hs := Pk.own_sl (l := [1, 2, 3]) oA
    obtain ⟨a2, c2, e2, h2, v2⟩ := hs
    cases e2
    have k := tag_sl [1, 2, 3] true (some ⟨w.heap.size, 0, none⟩) 3 _ (by show _ ≤ _; decide) (by decide) v2
    have e1 : je (tg [1, 2, 3] true) = 0 := by decide +kernel
    have e3 : jl (tg [1, 2, 3] true) = [49, 35] := by decide +kernel
    rw [e1, e3] at k
    exact k
  have K2 : Hid (∀ (a : Option Addr) (c : Nat) (wx : World), Sp.Vw [49, 35] a wx → Calls Try.prog 15 #[.slice a 2 c] wx fun e w' => ∃ v, e = .returned (.tuple #[v, .bool true, .int .i64 0]) ∧ Pk.Sl [1, 2, 3] v w' ∧ Below wx.heap.size wx w') := fun a c wx h => by
    have k := untag_sl [49, 35] a c wx (by show _ ≤ _; decide) h
    have e1 : un (hv [49, 35]) = ([1, 2, 3], true, 0) := by decide +kernel
    rw [e1] at k
    exact k
  have K3 : Hid (∀ (a : Option Addr) (c : Nat) (wx : World), Sp.Vw [1, 2, 3] a wx → Calls Try.prog 17 #[.slice a 3 c, .slice a 3 c] wx fun e w' => e = .returned (.int .i64 3) ∧ Below wx.heap.size wx w') := fun a c wx h => common_any [1, 2, 3] [1, 2, 3] a a c c wx (by show _ ≤ _; decide) h h
  clear oA
  go_enter Try.func19, Try.ntmps19
  go_wp2_with fail
  generalize w.alloc (.cells #[.int .u8 1, .int .u8 2, .int .u8 3] 5) = W0 at *
  refine K1.out.mono (fun e w2 he => ?_)
  obtain ⟨v1, rfl, s1, b1⟩ := he
  obtain ⟨a1, c1, rfl, hc1, vw1⟩ := s1
  have bb := bA.trans (b1.mono bA.size)
  have V1 : Hid (Sp.Vw [49, 35] a1 w2) := vw1
  have HC1 : Hid (2 ≤ c1) := hc1
  clear b1 vw1 hc1 K1 bA
  go_wp2_with fail
  refine (K2.out _ _ _ V1.out).mono (fun e w3 he => ?_)
  obtain ⟨v2, rfl, s2, b2⟩ := he
  obtain ⟨a2, c2, rfl, hc2, vw2⟩ := s2
  have bc := bb.trans (b2.mono bb.size)
  have V2 : Hid (Sp.Vw [1, 2, 3] a2 w3) := vw2
  have q1 : (convert 22 9 (.slice a1 2 c1)).run Try.prog w3 = .ok (.string ⟨#[49, 35]⟩) w3 := Pk.Sl_conv (b := [49, 35]) ⟨a1, c1, rfl, HC1.out, Sp.Vw_below V1.out b2⟩
  have q2 : (convert 22 9 (.slice a2 3 c2)).run Try.prog w3 = .ok (.string ⟨#[1, 2, 3]⟩) w3 := Pk.Sl_conv (b := [1, 2, 3]) ⟨a2, c2, rfl, hc2, vw2⟩
  clear b2 bb vw2 hc2 K2 V1
  go_wp2_with fail
  refine (K3.out _ _ _ V2.out).mono (fun e w4 he => ?_)
  obtain ⟨rfl, b3⟩ := he
  have bd := bc.trans (b3.mono bc.size)
  go_wp2_with fail
  go_ret
  exact ⟨rfl, bd⟩
end Nb
end Go.Proofs.Ytfmihdcgehhkbaa
/- lampbearerref.NCommon; the law NibCommon. -/
namespace Go.Proofs.Ytfmihdcgehhkbaa
namespace Nb
open Go.RowKit
theorem vw_tail {x : UInt8} {p : List UInt8} {g off : Nat} {a1 : Option Addr} {w w' : World} (hg : g < w.heap.size) (hc : ∀ j, j < (x :: p).length → w.cell? ⟨g, off + j, none⟩ = some (.int .u8 (Sp.bz (x :: p) j))) (ha : 0 < p.length → a1 = some ⟨g, off + 1, none⟩) (hb : Below w.heap.size w w') : Sp.Vw p a1 w' := fun h0 => by
  refine ⟨g, off + 1, ha h0, Nat.lt_of_lt_of_le hg hb.size, fun j hj => ?_⟩
  have k := hc (j + 1) (by rw [List.length_cons]; omega)
  rw [hb.cell (p := ⟨g, off + 1 + j, none⟩) hg, show off + 1 + j = off + (j + 1) by omega, k]
  rfl
set_option maxHeartbeats 1000000 in
set_option maxRecDepth 100000 in
theorem ncommon_any : ∀ (p q : List UInt8) (ap aq : Option Addr) (cp cq : Nat) (w : World), p.length ≤ cp → q.length ≤ cq → (cp : Int) ≤ 9223372036854775807 → (cq : Int) ≤ 9223372036854775807 → Hid ((p.length : Int) ≤ 140737488355328) → Sp.Vw p ap w → Sp.Vw q aq w →
    Calls Try.prog 18 #[.slice ap p.length cp, .slice aq q.length cq] w fun e w' => e = .returned (.int .i64 (cmn p q : Int)) ∧ Below w.heap.size w w' := by
  intro p
  induction p with
  | nil =>
    intro q ap aq cp cq w _ _ _ _ _ _ _
    have e : cmn [] q = 0 := by cases q <;> rfl
    rw [e, List.length_nil]
    generalize q.length = m
    go_enter Try.func18, Try.ntmps18
    go_wp2_with fail
    go_quiet (fail)
    go_wp2_with fail
    go_ret
    exact ⟨rfl, below_drewN (Below.refl _ _) _⟩
  | cons x p IH =>
    intro q ap aq cp cq w hcp hcq hc6 hd6 hl hp hq
    cases q with
    | nil =>
      have e : cmn (x :: p) [] = 0 := rfl
      rw [e, List.length_nil]
      have n6 : (((x :: p).length : Int) == 0) = false := beq_false_of_ne (by rw [List.length_cons]; omega)
      clear hp hq hl IH hcp hcq
      generalize (x :: p).length = n at *
      go_enter Try.func18, Try.ntmps18
      go_wp2_with fail
      go_quiet (fail)
      go_wp2_with fail
      go_ret
      exact ⟨rfl, below_drewN (Below.refl _ _) _⟩
    | cons y q =>
      obtain ⟨g, off, rfl, hg, hc⟩ := hp (by rw [List.length_cons]; omega)
      obtain ⟨h, ofh, rfl, hh, hd⟩ := hq (by rw [List.length_cons]; omega)
      have c0 := hc 0 (by rw [List.length_cons]; omega)
      have c1 := hd 0 (by rw [List.length_cons]; omega)
      rw [Nat.add_zero] at c0 c1
      have n6 : (((x :: p).length : Int) == 0) = false := beq_false_of_ne (by rw [List.length_cons]; omega)
      have n7 : (((y :: q).length : Int) == 0) = false := beq_false_of_ne (by rw [List.length_cons]; omega)
      have n8 : (0 : Int) < ((x :: p).length : Int) := by rw [List.length_cons]; omega
      have n9 : (0 : Int) < ((y :: q).length : Int) := by rw [List.length_cons]; omega
      have m8 : (1 : Int) ≤ ((x :: p).length : Int) := by rw [List.length_cons]; omega
      have m9 : (1 : Int) ≤ ((y :: q).length : Int) := by rw [List.length_cons]; omega
      have KK : Hid (∀ (a1 a2 : Option Addr) (wx : World), (0 < p.length → a1 = some ⟨g, off + 1, none⟩) → (0 < q.length → a2 = some ⟨h, ofh + 1, none⟩) → Below w.heap.size w wx → Calls Try.prog 18 #[.slice a1 ((x :: p).length - 1) (cp - 1), .slice a2 ((y :: q).length - 1) (cq - 1)] wx fun e w' => e = .returned (.int .i64 (cmn p q : Int)) ∧ Below wx.heap.size wx w') := fun a1 a2 wx h1 h2 hb => by
        rw [List.length_cons] at hcp hcq
        have k := IH q a1 a2 (cp - 1) (cq - 1) wx (by omega) (by omega) (by omega) (by omega) (by have := hl.out; rw [List.length_cons] at this; show _ ≤ _; omega) (vw_tail hg hc h1 hb) (vw_tail hh hd h2 hb)
        exact k
      have HN : Hid ((x :: p).length = p.length + 1) := List.length_cons
      have HM : Hid ((y :: q).length = q.length + 1) := List.length_cons
      have HA : Hid ((x :: p).length ≤ cp) := hcp
      have HB : Hid ((y :: q).length ≤ cq) := hcq
      have HW : Hid (IntKind.i64.wrap (1 + (cmn p q : Int)) = ((cmn p q + 1 : Nat) : Int)) := by
        have := hl.out
        have := cmn_le p q
        rw [List.length_cons] at *
        show _ = _
        rw [IntKind.wrap_i64]; omega
      by_cases e : x = y
      · have E : Hid (cmn (x :: p) (y :: q) = cmn p q + 1) := by show _ = _; rw [cmn, if_pos e]
        have t1 : (Sp.bz (x :: p) 0 != Sp.bz (y :: q) 0) = false := by subst e; simp [Sp.bz]
        rw [E.out]
        clear hp hq hl IH hcp hcq hc hd e E
        generalize Sp.bz (x :: p) 0 = X at *
        generalize Sp.bz (y :: q) 0 = Y at *
        generalize (x :: p).length = n at *
        generalize (y :: q).length = m at *
        generalize cmn p q = c at *
        by_cases hp1 : cp = 1
        · subst hp1
          by_cases hq1 : cq = 1
          · subst hq1
            go_enter Try.func18, Try.ntmps18
            go_wp2_with fail
            go_quiet (fail)
            go_upto_region 3 with fail
            refine RS.wp_region_one (fun wx => Below w.heap.size w wx) (by kernel_rfl) (by kernel_rfl) ((below_drewN (Below.refl _ _) _).drew) ?_
            dsimp only [List.toList_toArray]
            refine RS.go1 (v := ?_) (a' := ?_) rfl ?_ ?_ ?_
            rotate_left 2
            · intro K wx hS hK
              go_simp
              exact hK _ hS
            · simp only [Act.put, List.setIfInBounds_toArray, List.set_cons_succ, List.set_cons_zero]
              rfl
            refine RS.go1 (v := ?_) (a' := ?_) rfl ?_ ?_ ?_
            rotate_left 2
            · intro K wx hS hK
              go_simp
              exact hK _ hS
            · simp only [Act.put, List.setIfInBounds_toArray, List.set_cons_succ, List.set_cons_zero]
              rfl
            refine RS.go1 (v := ?_) (a' := ?_) rfl ?_ ?_ ?_
            rotate_left 2
            · intro K wx hS hK
              go_simp
              exact hK _ hS
            · simp only [Act.put, List.setIfInBounds_toArray, List.set_cons_succ, List.set_cons_zero]
              rfl
            refine RS.go1 (v := ?_) (a' := ?_) rfl ?_ ?_ ?_
            rotate_left 2
            · intro K wx hS hK
              go_simp
              exact hK _ hS
            · simp only [Act.put, List.setIfInBounds_toArray, List.set_cons_succ, List.set_cons_zero]
              rfl
            refine RS.go1 (v := ?_) (a' := ?_) rfl ?_ ?_ ?_
            rotate_left 2
            · intro K wx hS hK
              go_simp
              refine (KK.out _ _ _ (fun h => by first | rfl | (exfalso; have := HN.out; have := HM.out; have := HA.out; have := HB.out; omega)) (fun h => by first | rfl | (exfalso; have := HN.out; have := HM.out; have := HA.out; have := HB.out; omega)) hS).mono (fun e w2 he => ?_)
              refine ⟨_, he.1, ?_⟩
              exact hK _ (hS.trans (he.2.mono hS.size))
            · simp only [Act.put, List.setIfInBounds_toArray, List.set_cons_succ, List.set_cons_zero]
              rfl
            refine RS.go1 (v := ?_) (a' := ?_) rfl ?_ ?_ ?_
            rotate_left 2
            · intro K wx hS hK
              go_simp
              exact hK _ hS
            · simp only [Act.put, List.setIfInBounds_toArray, List.set_cons_succ, List.set_cons_zero]
              rfl
            refine RS.go1 (v := ?_) (a' := ?_) rfl ?_ ?_ ?_
            rotate_left 2
            · intro K wx hS hK
              go_simp
              exact hK _ hS
            · simp only [Act.put, List.setIfInBounds_toArray, List.set_cons_succ, List.set_cons_zero]
              rfl
            refine RS.go_end ?_
            intro w9 hb
            go_wp2_with fail
            go_ret
            exact ⟨by rw [← HW.out]; rfl, hb⟩
          · have n5 : (1 : Int) < (cq : Int) := by have := HM.out; have := HB.out; omega
            go_enter Try.func18, Try.ntmps18
            go_wp2_with fail
            go_quiet (fail)
            go_upto_region 3 with fail
            refine RS.wp_region_one (fun wx => Below w.heap.size w wx) (by kernel_rfl) (by kernel_rfl) ((below_drewN (Below.refl _ _) _).drew) ?_
            dsimp only [List.toList_toArray]
            refine RS.go1 (v := ?_) (a' := ?_) rfl ?_ ?_ ?_
            rotate_left 2
            · intro K wx hS hK
              go_simp
              exact hK _ hS
            · simp only [Act.put, List.setIfInBounds_toArray, List.set_cons_succ, List.set_cons_zero]
              rfl
            refine RS.go1 (v := ?_) (a' := ?_) rfl ?_ ?_ ?_
            rotate_left 2
            · intro K wx hS hK
              go_simp
              exact hK _ hS
            · simp only [Act.put, List.setIfInBounds_toArray, List.set_cons_succ, List.set_cons_zero]
              rfl
            refine RS.go1 (v := ?_) (a' := ?_) rfl ?_ ?_ ?_
            rotate_left 2
            · intro K wx hS hK
              go_simp
              exact hK _ hS
            · simp only [Act.put, List.setIfInBounds_toArray, List.set_cons_succ, List.set_cons_zero]
              rfl
            refine RS.go1 (v := ?_) (a' := ?_) rfl ?_ ?_ ?_
            rotate_left 2
            · intro K wx hS hK
              go_simp
              exact hK _ hS
            · simp only [Act.put, List.setIfInBounds_toArray, List.set_cons_succ, List.set_cons_zero]
              rfl
            refine RS.go1 (v := ?_) (a' := ?_) rfl ?_ ?_ ?_
            rotate_left 2
            · intro K wx hS hK
              go_simp
              refine (KK.out _ _ _ (fun h => by first | rfl | (exfalso; have := HN.out; have := HM.out; have := HA.out; have := HB.out; omega)) (fun h => by first | rfl | (exfalso; have := HN.out; have := HM.out; have := HA.out; have := HB.out; omega)) hS).mono (fun e w2 he => ?_)
              refine ⟨_, he.1, ?_⟩
              exact hK _ (hS.trans (he.2.mono hS.size))
            · simp only [Act.put, List.setIfInBounds_toArray, List.set_cons_succ, List.set_cons_zero]
              rfl
            refine RS.go1 (v := ?_) (a' := ?_) rfl ?_ ?_ ?_
            rotate_left 2
            · intro K wx hS hK
              go_simp
              exact hK _ hS
            · simp only [Act.put, List.setIfInBounds_toArray, List.set_cons_succ, List.set_cons_zero]
              rfl
            refine RS.go1 (v := ?_) (a' := ?_) rfl ?_ ?_ ?_
            rotate_left 2
            · intro K wx hS hK
              go_simp
              exact hK _ hS
            · simp only [Act.put, List.setIfInBounds_toArray, List.set_cons_succ, List.set_cons_zero]
              rfl
            refine RS.go_end ?_
            intro w9 hb
            go_wp2_with fail
            go_ret
            exact ⟨by rw [← HW.out]; rfl, hb⟩
        · have n4 : (1 : Int) < (cp : Int) := by have := HN.out; have := HA.out; omega
          by_cases hq1 : cq = 1
          · subst hq1
            go_enter Try.func18, Try.ntmps18
            go_wp2_with fail
            go_quiet (fail)
            go_upto_region 3 with fail
            refine RS.wp_region_one (fun wx => Below w.heap.size w wx) (by kernel_rfl) (by kernel_rfl) ((below_drewN (Below.refl _ _) _).drew) ?_
            dsimp only [List.toList_toArray]
            refine RS.go1 (v := ?_) (a' := ?_) rfl ?_ ?_ ?_
            rotate_left 2
            · intro K wx hS hK
              go_simp
              exact hK _ hS
            · simp only [Act.put, List.setIfInBounds_toArray, List.set_cons_succ, List.set_cons_zero]
              rfl
            refine RS.go1 (v := ?_) (a' := ?_) rfl ?_ ?_ ?_
            rotate_left 2
            · intro K wx hS hK
              go_simp
              exact hK _ hS
            · simp only [Act.put, List.setIfInBounds_toArray, List.set_cons_succ, List.set_cons_zero]
              rfl
            refine RS.go1 (v := ?_) (a' := ?_) rfl ?_ ?_ ?_
            rotate_left 2
            · intro K wx hS hK
              go_simp
              exact hK _ hS
            · simp only [Act.put, List.setIfInBounds_toArray, List.set_cons_succ, List.set_cons_zero]
              rfl
            refine RS.go1 (v := ?_) (a' := ?_) rfl ?_ ?_ ?_
            rotate_left 2
            · intro K wx hS hK
              go_simp
              exact hK _ hS
            · simp only [Act.put, List.setIfInBounds_toArray, List.set_cons_succ, List.set_cons_zero]
              rfl
            refine RS.go1 (v := ?_) (a' := ?_) rfl ?_ ?_ ?_
            rotate_left 2
            · intro K wx hS hK
              go_simp
              refine (KK.out _ _ _ (fun h => by first | rfl | (exfalso; have := HN.out; have := HM.out; have := HA.out; have := HB.out; omega)) (fun h => by first | rfl | (exfalso; have := HN.out; have := HM.out; have := HA.out; have := HB.out; omega)) hS).mono (fun e w2 he => ?_)
              refine ⟨_, he.1, ?_⟩
              exact hK _ (hS.trans (he.2.mono hS.size))
            · simp only [Act.put, List.setIfInBounds_toArray, List.set_cons_succ, List.set_cons_zero]
              rfl
            refine RS.go1 (v := ?_) (a' := ?_) rfl ?_ ?_ ?_
            rotate_left 2
            · intro K wx hS hK
              go_simp
              exact hK _ hS
            · simp only [Act.put, List.setIfInBounds_toArray, List.set_cons_succ, List.set_cons_zero]
              rfl
            refine RS.go1 (v := ?_) (a' := ?_) rfl ?_ ?_ ?_
            rotate_left 2
            · intro K wx hS hK
              go_simp
              exact hK _ hS
            · simp only [Act.put, List.setIfInBounds_toArray, List.set_cons_succ, List.set_cons_zero]
              rfl
            refine RS.go_end ?_
            intro w9 hb
            go_wp2_with fail
            go_ret
            exact ⟨by rw [← HW.out]; rfl, hb⟩
          · have n5 : (1 : Int) < (cq : Int) := by have := HM.out; have := HB.out; omega
            go_enter Try.func18, Try.ntmps18
            go_wp2_with fail
            go_quiet (fail)
            go_upto_region 3 with fail
            refine RS.wp_region_one (fun wx => Below w.heap.size w wx) (by kernel_rfl) (by kernel_rfl) ((below_drewN (Below.refl _ _) _).drew) ?_
            dsimp only [List.toList_toArray]
            refine RS.go1 (v := ?_) (a' := ?_) rfl ?_ ?_ ?_
            rotate_left 2
            · intro K wx hS hK
              go_simp
              exact hK _ hS
            · simp only [Act.put, List.setIfInBounds_toArray, List.set_cons_succ, List.set_cons_zero]
              rfl
            refine RS.go1 (v := ?_) (a' := ?_) rfl ?_ ?_ ?_
            rotate_left 2
            · intro K wx hS hK
              go_simp
              exact hK _ hS
            · simp only [Act.put, List.setIfInBounds_toArray, List.set_cons_succ, List.set_cons_zero]
              rfl
            refine RS.go1 (v := ?_) (a' := ?_) rfl ?_ ?_ ?_
            rotate_left 2
            · intro K wx hS hK
              go_simp
              exact hK _ hS
            · simp only [Act.put, List.setIfInBounds_toArray, List.set_cons_succ, List.set_cons_zero]
              rfl
            refine RS.go1 (v := ?_) (a' := ?_) rfl ?_ ?_ ?_
            rotate_left 2
            · intro K wx hS hK
              go_simp
              exact hK _ hS
            · simp only [Act.put, List.setIfInBounds_toArray, List.set_cons_succ, List.set_cons_zero]
              rfl
            refine RS.go1 (v := ?_) (a' := ?_) rfl ?_ ?_ ?_
            rotate_left 2
            · intro K wx hS hK
              go_simp
              refine (KK.out _ _ _ (fun h => by first | rfl | (exfalso; have := HN.out; have := HM.out; have := HA.out; have := HB.out; omega)) (fun h => by first | rfl | (exfalso; have := HN.out; have := HM.out; have := HA.out; have := HB.out; omega)) hS).mono (fun e w2 he => ?_)
              refine ⟨_, he.1, ?_⟩
              exact hK _ (hS.trans (he.2.mono hS.size))
            · simp only [Act.put, List.setIfInBounds_toArray, List.set_cons_succ, List.set_cons_zero]
              rfl
            refine RS.go1 (v := ?_) (a' := ?_) rfl ?_ ?_ ?_
            rotate_left 2
            · intro K wx hS hK
              go_simp
              exact hK _ hS
            · simp only [Act.put, List.setIfInBounds_toArray, List.set_cons_succ, List.set_cons_zero]
              rfl
            refine RS.go1 (v := ?_) (a' := ?_) rfl ?_ ?_ ?_
            rotate_left 2
            · intro K wx hS hK
              go_simp
              exact hK _ hS
            · simp only [Act.put, List.setIfInBounds_toArray, List.set_cons_succ, List.set_cons_zero]
              rfl
            refine RS.go_end ?_
            intro w9 hb
            go_wp2_with fail
            go_ret
            exact ⟨by rw [← HW.out]; rfl, hb⟩
      · have E : Hid (cmn (x :: p) (y :: q) = 0) := by show _ = _; rw [cmn, if_neg e]
        have t1 : (Sp.bz (x :: p) 0 != Sp.bz (y :: q) 0) = true := by
          simp only [Sp.bz, List.getD_cons_zero, bne_iff_ne, ne_eq]
          intro h
          exact e (UInt8.toNat_inj.1 (by omega))
        rw [E.out]
        clear hp hq hl IH hcp hcq hc hd e E KK HW
        generalize Sp.bz (x :: p) 0 = X at *
        generalize Sp.bz (y :: q) 0 = Y at *
        generalize (x :: p).length = n at *
        generalize (y :: q).length = m at *
        go_enter Try.func18, Try.ntmps18
        go_wp2_with fail
        go_quiet (fail)
        go_wp2_with fail
        go_ret
        exact ⟨rfl, below_drewN (Below.refl _ _) _⟩
set_option maxHeartbeats 1000000 in
set_option maxRecDepth 100000 in
theorem law_common (p q : List UInt8) (ap aq : Option Addr) (cp cq : Nat) (w : World) (hcp : p.length ≤ cp) (hcq : q.length ≤ cq) (hc6 : (cp : Int) ≤ 9223372036854775807) (hd6 : (cq : Int) ≤ 9223372036854775807) (hl : Hid ((p.length : Int) ≤ 140737488355328)) (hp : Sp.Vw p ap w) (hq : Sp.Vw q aq w) :
    Calls Try.prog 5 #[.slice ap p.length cp, .slice aq q.length cq] w fun e w' => e = .returned (.bool true) ∧ Below w.heap.size w w' := by
  have K1 : Hid (∀ wx : World, Below w.heap.size w wx → Calls Try.prog 17 #[.slice ap p.length cp, .slice aq q.length cq] wx fun e w' => e = .returned (.int .i64 (cmn p q : Int)) ∧ Below wx.heap.size wx w') := fun wx hb => common_any p q ap aq cp cq wx hl (Sp.Vw_below hp hb) (Sp.Vw_below hq hb)
  have K2 : Hid (∀ wx : World, Below w.heap.size w wx → Calls Try.prog 18 #[.slice ap p.length cp, .slice aq q.length cq] wx fun e w' => e = .returned (.int .i64 (cmn p q : Int)) ∧ Below wx.heap.size wx w') := fun wx hb => ncommon_any p q ap aq cp cq wx hcp hcq hc6 hd6 hl (Sp.Vw_below hp hb) (Sp.Vw_below hq hb)
  generalize cmn p q = c at *
  generalize p.length = n at *
  generalize q.length = m at *
  clear hp hq hl hcp hcq hc6 hd6
  go_enter Try.func5, Try.ntmps5
  go_wp2_with fail
  refine (K1.out _ (Below.refl _ _)).mono (fun e w2 he => ?_)
  obtain ⟨rfl, b1⟩ := he
  go_wp2_with fail
  refine (K2.out _ b1).mono (fun e w3 he => ?_)
  obtain ⟨rfl, b2⟩ := he
  have bb := b1.trans (b2.mono b1.size)
  go_wp2
  go_ret
  exact ⟨rfl, bb⟩
end Nb
end Go.Proofs.Ytfmihdcgehhkbaa
/- The law NibTagBack. -/
namespace Go.Proofs.Ytfmihdcgehhkbaa
namespace Nb
open Go.RowKit
theorem tg_drop (p : List UInt8) (leaf : Bool) : ∃ f, 1 ≤ f ∧ f ≤ 2 ∧ (tg p leaf).drop f = p := by
  unfold tg hd
  by_cases h : p.length % 2 = 1
  · exact ⟨1, by decide, by decide, by rw [if_pos h]; rfl⟩
  · exact ⟨2, by decide, by decide, by rw [if_neg h]; rfl⟩
theorem un_tg (p : List UInt8) (leaf : Bool) (h : JF (tg p leaf)) : un (tg p leaf) = (p, leaf, 0) := by
  obtain ⟨f, h1, h2, h3⟩ := tg_drop p leaf
  have k := un_yes (jn (tg p leaf)) f leaf h1 h2 (by rw [hv_jn _ h, h3])
  rwa [hv_jn _ h, h3] at k
theorem un_or (b : List UInt8) : ((un (hv b)).2.2 = 0 ∧ tg (un (hv b)).1 (un (hv b)).2.1 = hv b) ∨ (un (hv b)).2.2 = 1 := by
  by_cases h : ∀ f, 1 ≤ f → f < 3 → ∀ leaf, tg ((hv b).drop f) leaf ≠ hv b
  · right; rw [un_no b h]
  · left
    have : ∃ f leaf, 1 ≤ f ∧ f < 3 ∧ tg ((hv b).drop f) leaf = hv b := by
      apply Classical.byContradiction
      intro hn
      exact h fun f h1 h2 leaf e => hn ⟨f, leaf, h1, h2, e⟩
    obtain ⟨f, leaf, h1, h2, e⟩ := this
    rw [un_yes b f leaf h1 (by omega) e]
    exact ⟨rfl, e⟩
theorem un_len : ∀ l : List UInt8, (un l).1.length ≤ l.length
  | [] => by simp [un]
  | [_] => by simp [un]
  | x :: y :: r => by
    rw [un]
    repeat' split
    all_goals (simp only [List.length_cons, List.length_nil]; omega)
set_option maxHeartbeats 2000000 in
set_option maxRecDepth 100000 in
theorem tb_yy (p b x r : List UInt8) (leaf l : Bool) (ap ao : Option Addr) (cp cap : Nat) (w : World) (hcp : p.length ≤ cp) (hcap : b.length ≤ cap) (vp : Sp.Vw p ap w) (vb : Sp.Vw b ao w)
    (K1 : Hid (∀ wx : World, Sp.Vw p ap wx → Calls Try.prog 13 #[.slice ap p.length cp, .bool leaf] wx fun e w' => ∃ v, e = .returned (.tuple #[v, .int .i64 0]) ∧ Pk.Sl x v w' ∧ Below wx.heap.size wx w'))
    (K2 : Hid (∀ (a : Option Addr) (c : Nat) (wx : World), Sp.Vw x a wx → Calls Try.prog 15 #[.slice a x.length c] wx fun e w' => ∃ v, e = .returned (.tuple #[v, .bool leaf, .int .i64 0]) ∧ Pk.Sl p v w' ∧ Below wx.heap.size wx w'))
    (K3 : Hid (∀ wx : World, Sp.Vw b ao wx → Calls Try.prog 15 #[.slice ao b.length cap] wx fun e w' => ∃ v, e = .returned (.tuple #[v, .bool l, .int .i64 0]) ∧ Pk.Sl r v w' ∧ Below wx.heap.size wx w'))
    (K4 : Hid (∀ (a : Option Addr) (c4 : Nat) (wx : World), r.length ≤ c4 → Sp.Vw r a wx → Calls Try.prog 13 #[.slice a r.length c4, .bool l] wx fun e w' => ∃ v, e = .returned (.tuple #[v, .int .i64 0]) ∧ Pk.Sl b v w' ∧ Below wx.heap.size wx w')) :
    Calls Try.prog 7 #[.slice ap p.length cp, .bool leaf, .slice ao b.length cap] w fun e w' => e = .returned (.bool true) ∧ Below w.heap.size w w' := by
  have KA : Hid (∀ wx : World, Calls Try.prog 19 #[] wx fun e w' => e = .returned (.bool true) ∧ Below wx.heap.size wx w') := alive6_any
  have VB : Hid (Sp.Vw b ao w) := vb
  have VP : Hid (Sp.Vw p ap w) := vp
  have HP : Hid (p.length ≤ cp) := hcp
  have HB : Hid (b.length ≤ cap) := hcap
  clear vb vp hcp hcap
  go_enter Try.func7, Try.ntmps7
  go_wp2_with fail
  refine (KA.out _).mono (fun e w1 he => ?_)
  obtain ⟨rfl, b1⟩ := he
  go_wp2_with fail
  refine (K1.out _ (Sp.Vw_below VP.out b1)).mono (fun e w2 he => ?_)
  obtain ⟨v1, rfl, s1, b2⟩ := he
  obtain ⟨a1, c1, rfl, hc1, vw1⟩ := s1
  have bb := b1.trans (b2.mono b1.size)
  have V1 : Hid _ := vw1
  have HC1 : Hid _ := hc1
  clear vw1 hc1 b1 b2 KA K1
  go_wp2_with fail
  refine (K2.out _ _ _ V1.out).mono (fun e w3 he => ?_)
  obtain ⟨v2, rfl, s2, b3⟩ := he
  have bc := bb.trans (b3.mono bb.size)
  have q1 := Pk.Sl_conv s2
  have q2 : (convert 22 9 (.slice ap p.length cp)).run Try.prog w3 = .ok (.string ⟨p.toArray⟩) w3 := Pk.Sl_conv ⟨ap, cp, rfl, HP.out, Sp.Vw_below VP.out bc⟩
  clear s2 b3 bb K2 V1 HC1
  go_wp2_with fail
  refine (K3.out _ (Sp.Vw_below VB.out bc)).mono (fun e w4 he => ?_)
  obtain ⟨v3, rfl, s3, b4⟩ := he
  obtain ⟨a3, c3, rfl, hc3, vw3⟩ := s3
  have bd := bc.trans (b4.mono bc.size)
  have V3 : Hid _ := vw3
  have HC3 : Hid _ := hc3
  clear vw3 hc3 b4 bc K3 q1 q2
  go_wp2_with fail
  refine (K4.out _ _ _ HC3.out V3.out).mono (fun e w5 he => ?_)
  obtain ⟨v4, rfl, s4, b5⟩ := he
  have be := bd.trans (b5.mono bd.size)
  have q3 := Pk.Sl_conv s4
  have q4 : (convert 22 9 (.slice ao b.length cap)).run Try.prog w5 = .ok (.string ⟨b.toArray⟩) w5 := Pk.Sl_conv ⟨ao, cap, rfl, HB.out, Sp.Vw_below VB.out be⟩
  clear s4 b5 bd K4 V3 HC3
  go_wp2_with fail
  go_ret
  exact ⟨rfl, be⟩
set_option maxHeartbeats 2000000 in
set_option maxRecDepth 100000 in
theorem tb_yn (p b x r y : List UInt8) (leaf l : Bool) (ap ao : Option Addr) (cp cap : Nat) (c : Int) (w : World) (hcp : p.length ≤ cp) (hcap : b.length ≤ cap) (vp : Sp.Vw p ap w) (vb : Sp.Vw b ao w)
    (K1 : Hid (∀ wx : World, Sp.Vw p ap wx → Calls Try.prog 13 #[.slice ap p.length cp, .bool leaf] wx fun e w' => ∃ v, e = .returned (.tuple #[v, .int .i64 0]) ∧ Pk.Sl x v w' ∧ Below wx.heap.size wx w'))
    (K2 : Hid (∀ (a : Option Addr) (c : Nat) (wx : World), Sp.Vw x a wx → Calls Try.prog 15 #[.slice a x.length c] wx fun e w' => ∃ v, e = .returned (.tuple #[v, .bool leaf, .int .i64 0]) ∧ Pk.Sl p v w' ∧ Below wx.heap.size wx w'))
    (K3 : Hid (∀ wx : World, Sp.Vw b ao wx → Calls Try.prog 15 #[.slice ao b.length cap] wx fun e w' => ∃ v, e = .returned (.tuple #[v, .bool l, .int .i64 1]) ∧ Pk.Sl r v w' ∧ Below wx.heap.size wx w'))
    (K4 : Hid (∀ (a : Option Addr) (c4 : Nat) (wx : World), r.length ≤ c4 → Sp.Vw r a wx → Calls Try.prog 13 #[.slice a r.length c4, .bool l] wx fun e w' => ∃ v, e = .returned (.tuple #[v, .int .i64 c]) ∧ Pk.Sl y v w' ∧ Below wx.heap.size wx w')) :
    Calls Try.prog 7 #[.slice ap p.length cp, .bool leaf, .slice ao b.length cap] w fun e w' => e = .returned (.bool true) ∧ Below w.heap.size w w' := by
  have KA : Hid (∀ wx : World, Calls Try.prog 19 #[] wx fun e w' => e = .returned (.bool true) ∧ Below wx.heap.size wx w') := alive6_any
  have VB : Hid (Sp.Vw b ao w) := vb
  have VP : Hid (Sp.Vw p ap w) := vp
  have HP : Hid (p.length ≤ cp) := hcp
  have HB : Hid (b.length ≤ cap) := hcap
  clear vb vp hcp hcap
  go_enter Try.func7, Try.ntmps7
  go_wp2_with fail
  refine (KA.out _).mono (fun e w1 he => ?_)
  obtain ⟨rfl, b1⟩ := he
  go_wp2_with fail
  refine (K1.out _ (Sp.Vw_below VP.out b1)).mono (fun e w2 he => ?_)
  obtain ⟨v1, rfl, s1, b2⟩ := he
  obtain ⟨a1, c1, rfl, hc1, vw1⟩ := s1
  have bb := b1.trans (b2.mono b1.size)
  have V1 : Hid _ := vw1
  have HC1 : Hid _ := hc1
  clear vw1 hc1 b1 b2 KA K1
  go_wp2_with fail
  refine (K2.out _ _ _ V1.out).mono (fun e w3 he => ?_)
  obtain ⟨v2, rfl, s2, b3⟩ := he
  have bc := bb.trans (b3.mono bb.size)
  have q1 := Pk.Sl_conv s2
  have q2 : (convert 22 9 (.slice ap p.length cp)).run Try.prog w3 = .ok (.string ⟨p.toArray⟩) w3 := Pk.Sl_conv ⟨ap, cp, rfl, HP.out, Sp.Vw_below VP.out bc⟩
  clear s2 b3 bb K2 V1 HC1
  go_wp2_with fail
  refine (K3.out _ (Sp.Vw_below VB.out bc)).mono (fun e w4 he => ?_)
  obtain ⟨v3, rfl, s3, b4⟩ := he
  obtain ⟨a3, c3, rfl, hc3, vw3⟩ := s3
  have bd := bc.trans (b4.mono bc.size)
  have V3 : Hid _ := vw3
  have HC3 : Hid _ := hc3
  clear vw3 hc3 b4 bc K3 q1 q2
  go_wp2_with fail
  refine (K4.out _ _ _ HC3.out V3.out).mono (fun e w5 he => ?_)
  obtain ⟨v4, rfl, s4, b5⟩ := he
  have be := bd.trans (b5.mono bd.size)
  have q3 := Pk.Sl_conv s4
  have q4 : (convert 22 9 (.slice ao b.length cap)).run Try.prog w5 = .ok (.string ⟨b.toArray⟩) w5 := Pk.Sl_conv ⟨ao, cap, rfl, HB.out, Sp.Vw_below VB.out be⟩
  clear s4 b5 bd K4 V3 HC3
  go_wp2_with fail
  go_ret
  exact ⟨rfl, be⟩
set_option maxHeartbeats 2000000 in
set_option maxRecDepth 100000 in
theorem tb_ny (p b r : List UInt8) (leaf l : Bool) (ap ao : Option Addr) (cp cap : Nat) (w : World) (hcp : p.length ≤ cp) (hcap : b.length ≤ cap) (vp : Sp.Vw p ap w) (vb : Sp.Vw b ao w)
    (K1 : Hid (∀ wx : World, Sp.Vw p ap wx → Calls Try.prog 13 #[.slice ap p.length cp, .bool leaf] wx fun e w' => ∃ v, e = .returned (.tuple #[v, .int .i64 1]) ∧ Pk.Sl [] v w' ∧ Below wx.heap.size wx w'))
    (K2 : Hid (∀ (a : Option Addr) (c : Nat) (wx : World), Sp.Vw [] a wx → Calls Try.prog 15 #[.slice a 0 c] wx fun e w' => ∃ v, e = .returned (.tuple #[v, .bool false, .int .i64 1]) ∧ Pk.Sl [] v w' ∧ Below wx.heap.size wx w'))
    (K3 : Hid (∀ wx : World, Sp.Vw b ao wx → Calls Try.prog 15 #[.slice ao b.length cap] wx fun e w' => ∃ v, e = .returned (.tuple #[v, .bool l, .int .i64 0]) ∧ Pk.Sl r v w' ∧ Below wx.heap.size wx w'))
    (K4 : Hid (∀ (a : Option Addr) (c4 : Nat) (wx : World), r.length ≤ c4 → Sp.Vw r a wx → Calls Try.prog 13 #[.slice a r.length c4, .bool l] wx fun e w' => ∃ v, e = .returned (.tuple #[v, .int .i64 0]) ∧ Pk.Sl b v w' ∧ Below wx.heap.size wx w')) :
    Calls Try.prog 7 #[.slice ap p.length cp, .bool leaf, .slice ao b.length cap] w fun e w' => e = .returned (.bool true) ∧ Below w.heap.size w w' := by
  have KA : Hid (∀ wx : World, Calls Try.prog 19 #[] wx fun e w' => e = .returned (.bool true) ∧ Below wx.heap.size wx w') := alive6_any
  have VB : Hid (Sp.Vw b ao w) := vb
  have VP : Hid (Sp.Vw p ap w) := vp
  have HP : Hid (p.length ≤ cp) := hcp
  have HB : Hid (b.length ≤ cap) := hcap
  clear vb vp hcp hcap
  go_enter Try.func7, Try.ntmps7
  go_wp2_with fail
  refine (KA.out _).mono (fun e w1 he => ?_)
  obtain ⟨rfl, b1⟩ := he
  go_wp2_with fail
  refine (K1.out _ (Sp.Vw_below VP.out b1)).mono (fun e w2 he => ?_)
  obtain ⟨v1, rfl, s1, b2⟩ := he
  obtain ⟨a1, c1, rfl, hc1, vw1⟩ := s1
  have bb := b1.trans (b2.mono b1.size)
  have V1 : Hid _ := vw1
  have HC1 : Hid _ := hc1
  clear vw1 hc1 b1 b2 KA K1
  go_wp2_with fail
  refine (K2.out _ _ _ V1.out).mono (fun e w3 he => ?_)
  obtain ⟨v2, rfl, s2, b3⟩ := he
  have bc := bb.trans (b3.mono bb.size)
  have q1 := Pk.Sl_conv s2
  have q2 : (convert 22 9 (.slice ap p.length cp)).run Try.prog w3 = .ok (.string ⟨p.toArray⟩) w3 := Pk.Sl_conv ⟨ap, cp, rfl, HP.out, Sp.Vw_below VP.out bc⟩
  clear s2 b3 bb K2 V1 HC1
  go_wp2_with fail
  refine (K3.out _ (Sp.Vw_below VB.out bc)).mono (fun e w4 he => ?_)
  obtain ⟨v3, rfl, s3, b4⟩ := he
  obtain ⟨a3, c3, rfl, hc3, vw3⟩ := s3
  have bd := bc.trans (b4.mono bc.size)
  have V3 : Hid _ := vw3
  have HC3 : Hid _ := hc3
  clear vw3 hc3 b4 bc K3 q1 q2
  go_wp2_with fail
  refine (K4.out _ _ _ HC3.out V3.out).mono (fun e w5 he => ?_)
  obtain ⟨v4, rfl, s4, b5⟩ := he
  have be := bd.trans (b5.mono bd.size)
  have q3 := Pk.Sl_conv s4
  have q4 : (convert 22 9 (.slice ao b.length cap)).run Try.prog w5 = .ok (.string ⟨b.toArray⟩) w5 := Pk.Sl_conv ⟨ao, cap, rfl, HB.out, Sp.Vw_below VB.out be⟩
  clear s4 b5 bd K4 V3 HC3
  go_wp2_with fail
  go_ret
  exact ⟨rfl, be⟩
set_option maxHeartbeats 2000000 in
set_option maxRecDepth 100000 in
theorem tb_nn (p b r y : List UInt8) (leaf l : Bool) (ap ao : Option Addr) (cp cap : Nat) (c : Int) (w : World) (hcp : p.length ≤ cp) (hcap : b.length ≤ cap) (vp : Sp.Vw p ap w) (vb : Sp.Vw b ao w)
    (K1 : Hid (∀ wx : World, Sp.Vw p ap wx → Calls Try.prog 13 #[.slice ap p.length cp, .bool leaf] wx fun e w' => ∃ v, e = .returned (.tuple #[v, .int .i64 1]) ∧ Pk.Sl [] v w' ∧ Below wx.heap.size wx w'))
    (K2 : Hid (∀ (a : Option Addr) (c : Nat) (wx : World), Sp.Vw [] a wx → Calls Try.prog 15 #[.slice a 0 c] wx fun e w' => ∃ v, e = .returned (.tuple #[v, .bool false, .int .i64 1]) ∧ Pk.Sl [] v w' ∧ Below wx.heap.size wx w'))
    (K3 : Hid (∀ wx : World, Sp.Vw b ao wx → Calls Try.prog 15 #[.slice ao b.length cap] wx fun e w' => ∃ v, e = .returned (.tuple #[v, .bool l, .int .i64 1]) ∧ Pk.Sl r v w' ∧ Below wx.heap.size wx w'))
    (K4 : Hid (∀ (a : Option Addr) (c4 : Nat) (wx : World), r.length ≤ c4 → Sp.Vw r a wx → Calls Try.prog 13 #[.slice a r.length c4, .bool l] wx fun e w' => ∃ v, e = .returned (.tuple #[v, .int .i64 c]) ∧ Pk.Sl y v w' ∧ Below wx.heap.size wx w')) :
    Calls Try.prog 7 #[.slice ap p.length cp, .bool leaf, .slice ao b.length cap] w fun e w' => e = .returned (.bool true) ∧ Below w.heap.size w w' := by
  have KA : Hid (∀ wx : World, Calls Try.prog 19 #[] wx fun e w' => e = .returned (.bool true) ∧ Below wx.heap.size wx w') := alive6_any
  have VB : Hid (Sp.Vw b ao w) := vb
  have VP : Hid (Sp.Vw p ap w) := vp
  have HP : Hid (p.length ≤ cp) := hcp
  have HB : Hid (b.length ≤ cap) := hcap
  clear vb vp hcp hcap
  go_enter Try.func7, Try.ntmps7
  go_wp2_with fail
  refine (KA.out _).mono (fun e w1 he => ?_)
  obtain ⟨rfl, b1⟩ := he
  go_wp2_with fail
  refine (K1.out _ (Sp.Vw_below VP.out b1)).mono (fun e w2 he => ?_)
  obtain ⟨v1, rfl, s1, b2⟩ := he
  obtain ⟨a1, c1, rfl, hc1, vw1⟩ := s1
  have bb := b1.trans (b2.mono b1.size)
  have V1 : Hid _ := vw1
  have HC1 : Hid _ := hc1
  clear vw1 hc1 b1 b2 KA K1
  go_wp2_with fail
  refine (K2.out _ _ _ V1.out).mono (fun e w3 he => ?_)
  obtain ⟨v2, rfl, s2, b3⟩ := he
  have bc := bb.trans (b3.mono bb.size)
  have q1 := Pk.Sl_conv s2
  have q2 : (convert 22 9 (.slice ap p.length cp)).run Try.prog w3 = .ok (.string ⟨p.toArray⟩) w3 := Pk.Sl_conv ⟨ap, cp, rfl, HP.out, Sp.Vw_below VP.out bc⟩
  clear s2 b3 bb K2 V1 HC1
  go_wp2_with fail
  refine (K3.out _ (Sp.Vw_below VB.out bc)).mono (fun e w4 he => ?_)
  obtain ⟨v3, rfl, s3, b4⟩ := he
  obtain ⟨a3, c3, rfl, hc3, vw3⟩ := s3
  have bd := bc.trans (b4.mono bc.size)
  have V3 : Hid _ := vw3
  have HC3 : Hid _ := hc3
  clear vw3 hc3 b4 bc K3 q1 q2
  go_wp2_with fail
  refine (K4.out _ _ _ HC3.out V3.out).mono (fun e w5 he => ?_)
  obtain ⟨v4, rfl, s4, b5⟩ := he
  have be := bd.trans (b5.mono bd.size)
  have q3 := Pk.Sl_conv s4
  have q4 : (convert 22 9 (.slice ao b.length cap)).run Try.prog w5 = .ok (.string ⟨b.toArray⟩) w5 := Pk.Sl_conv ⟨ao, cap, rfl, HB.out, Sp.Vw_below VB.out be⟩
  clear s4 b5 bd K4 V3 HC3
  go_wp2_with fail
  go_ret
  exact ⟨rfl, be⟩
theorem law_tagback (p b : List UInt8) (leaf : Bool) (ap ao : Option Addr) (cp cap : Nat) (w : World) (hm : Hid (p.length ≤ 2097140)) (hn : Hid (b.length ≤ 2097140)) (hcp : p.length ≤ cp) (hcap : b.length ≤ cap) (vp : Sp.Vw p ap w) (vb : Sp.Vw b ao w) :
    Calls Try.prog 7 #[.slice ap p.length cp, .bool leaf, .slice ao b.length cap] w fun e w' => e = .returned (.bool true) ∧ Below w.heap.size w w' := by
  have k1 : ∀ wx : World, Sp.Vw p ap wx → Calls Try.prog 13 #[.slice ap p.length cp, .bool leaf] wx fun e w' => ∃ v, e = .returned (.tuple #[v, .int .i64 (je (tg p leaf))]) ∧ Pk.Sl (jl (tg p leaf)) v w' ∧ Below wx.heap.size wx w' := fun wx h => tag_sl p leaf ap cp wx (by have := hm.out; show _ ≤ _; omega) hcp h
  have k2 : ∀ (a : Option Addr) (c : Nat) (wx : World), Sp.Vw (jl (tg p leaf)) a wx → Calls Try.prog 15 #[.slice a (jl (tg p leaf)).length c] wx fun e w' => ∃ v, e = .returned (.tuple #[v, .bool (un (hv (jl (tg p leaf)))).2.1, .int .i64 (un (hv (jl (tg p leaf)))).2.2]) ∧ Pk.Sl (un (hv (jl (tg p leaf)))).1 v w' ∧ Below wx.heap.size wx w' := fun a c wx h => untag_sl (jl (tg p leaf)) a c wx (by
    have := hm.out
    have := tg_len p leaf
    show _ ≤ _
    by_cases hj : JF (tg p leaf)
    · rw [jl_yes hj, jn_length]; omega
    · rw [jl_no hj]; simp) h
  have k3 : ∀ wx : World, Sp.Vw b ao wx → Calls Try.prog 15 #[.slice ao b.length cap] wx fun e w' => ∃ v, e = .returned (.tuple #[v, .bool (un (hv b)).2.1, .int .i64 (un (hv b)).2.2]) ∧ Pk.Sl (un (hv b)).1 v w' ∧ Below wx.heap.size wx w' := fun wx h => untag_sl b ao cap wx (by have := hn.out; show _ ≤ _; omega) h
  have k4 : ∀ (a : Option Addr) (c4 : Nat) (wx : World), (un (hv b)).1.length ≤ c4 → Sp.Vw (un (hv b)).1 a wx → Calls Try.prog 13 #[.slice a (un (hv b)).1.length c4, .bool (un (hv b)).2.1] wx fun e w' => ∃ v, e = .returned (.tuple #[v, .int .i64 (je (tg (un (hv b)).1 (un (hv b)).2.1))]) ∧ Pk.Sl (jl (tg (un (hv b)).1 (un (hv b)).2.1)) v w' ∧ Below wx.heap.size wx w' := fun a c4 wx h1 h => tag_sl _ _ a c4 wx (by
    have := hn.out
    have := un_len (hv b)
    rw [hv_len] at this
    show _ ≤ _
    omega) h1 h
  by_cases hj : JF (tg p leaf)
  · have ex : hv (jl (tg p leaf)) = tg p leaf := by rw [jl_yes hj, hv_jn _ hj]
    rw [ex, un_tg p leaf hj] at k2
    rw [je_yes hj] at k1
    rcases un_or b with ⟨e1, e2⟩ | e1
    · obtain ⟨j0, j1⟩ := (tagged2 _ b _).2 e2
      rw [e1] at k3
      rw [j0, j1] at k4
      exact tb_yy p b (jl (tg p leaf)) (un (hv b)).1 leaf (un (hv b)).2.1 ap ao cp cap w hcp hcap vp vb k1 k2 k3 k4
    · rw [e1] at k3
      exact tb_yn p b (jl (tg p leaf)) (un (hv b)).1 (jl (tg (un (hv b)).1 (un (hv b)).2.1)) leaf (un (hv b)).2.1 ap ao cp cap (je (tg (un (hv b)).1 (un (hv b)).2.1)) w hcp hcap vp vb k1 k2 k3 k4
  · rw [jl_no hj] at k2
    rw [je_no hj, jl_no hj] at k1
    rcases un_or b with ⟨e1, e2⟩ | e1
    · obtain ⟨j0, j1⟩ := (tagged2 _ b _).2 e2
      rw [e1] at k3
      rw [j0, j1] at k4
      exact tb_ny p b (un (hv b)).1 leaf (un (hv b)).2.1 ap ao cp cap w hcp hcap vp vb k1 k2 k3 k4
    · rw [e1] at k3
      exact tb_nn p b (un (hv b)).1 (jl (tg (un (hv b)).1 (un (hv b)).2.1)) leaf (un (hv b)).2.1 ap ao cp cap (je (tg (un (hv b)).1 (un (hv b)).2.1)) w hcp hcap vp vb k1 k2 k3 k4
end Nb
end Go.Proofs.Ytfmihdcgehhkbaa
