/- Variables of a call's own in memory: what they hold, and what leaves them alone. -/
import Derived.Test.YtmlddefoehgofaaPackA
import Derived.Orders
import Derived.WalkKit
import Derived.ProofKit
import Derived.OpenShut
import Derived.ShutString
import Derived.ChangeOld
import Derived.Lib.SmallJoins
import Derived.SizedLaws
namespace Go.Proofs.Ytmlddefoehgofaa
open Go.RowKit Go.Shelf
theorem CF_al {g n : Nat} {F : Nat → Int} {w : World} (h : CF g n F w) (hg : g < w.heap.size) (o : Obj) : CF g n F (w.alloc o) := CF_below h ((Below.refl _ _).alloc (Nat.le_refl _) o) hg
/-- Block g is the call's own, is not frozen, and its first n cells are F's. -/
structure Vb (B g n : Nat) (F : Nat → Int) (wx : World) : Prop where
  lo : B ≤ g
  hi : g < wx.heap.size
  c : CF g n F wx
  f : Fz g wx
theorem Vb_below {B g n : Nat} {F : Nat → Int} {w1 w2 : World} (h : Vb B g n F w1) (hb : Below w1.heap.size w1 w2) : Vb B g n F w2 := ⟨h.lo, Nat.lt_of_lt_of_le h.hi hb.size, CF_below h.c hb h.hi, Fz_below h.f hb h.hi⟩
theorem Vb_al {B g n : Nat} {F : Nat → Int} {w1 : World} (h : Vb B g n F w1) (o : Obj) : Vb B g n F (w1.alloc o) := Vb_below h ((Below.refl _ _).alloc (Nat.le_refl _) o)
theorem Vb_drew {B g n : Nat} {F : Nat → Int} {w1 : World} (h : Vb B g n F w1) : Vb B g n F w1.drew := Vb_below h (Below.refl _ _).drew
theorem Vb_gb {B g n k : Nat} {F : Nat → Int} {w1 w2 : World} (h : Vb B g n F w1) (hb : w1.grownBy w2 (some k)) (hne : g ≠ k) : Vb B g n F w2 := ⟨h.lo, Nat.lt_of_lt_of_le h.hi hb.size, CF_gb h.c hb hne h.hi, Fz_gb h.f hb hne h.hi⟩
theorem Vb_other {B g n : Nat} {F : Nat → Int} {w1 : World} {a : Addr} {v : Value} (h : Vb B g n F w1) (hne : a.block ≠ g) : Vb B g n F (w1.setCell a v) := ⟨h.lo, by simpa using h.hi, CF_other h.c hne, Fz_set h.f⟩
theorem Vb_set {B g n k : Nat} {F : Nat → Int} {w1 : World} {v : Int} (h : Vb B g n F w1) (hk : k < n) : Vb B g n (upd F k v) (w1.setCell ⟨g, k, none⟩ (.int .u64 v)) := ⟨h.lo, by simpa using h.hi, CF_set h.c hk, Fz_set h.f⟩
theorem Vb_set4 {B g m : Nat} {F : Nat → Int} {w1 : World} (h : Vb B g 4 F w1) : Vb B g 4 (dg m) ((((w1.setCell ⟨g, 0, none⟩ (.int .u64 (dg m 0))).setCell ⟨g, 1, none⟩ (.int .u64 (dg m 1))).setCell ⟨g, 2, none⟩ (.int .u64 (dg m 2))).setCell ⟨g, 3, none⟩ (.int .u64 (dg m 3))) := by
  have k := Vb_set (v := dg m 3) (Vb_set (v := dg m 2) (Vb_set (v := dg m 1) (Vb_set (v := dg m 0) h (show 0 < 4 by omega)) (show 1 < 4 by omega)) (show 2 < 4 by omega)) (show 3 < 4 by omega)
  refine ⟨k.lo, k.hi, CF_ext k.c fun o ho => ?_, k.f⟩
  have : o = 0 ∨ o = 1 ∨ o = 2 ∨ o = 3 := by omega
  rcases this with rfl | rfl | rfl | rfl <;> simp [upd]
theorem Vb_set8 {B g m : Nat} {F : Nat → Int} {w1 : World} (h : Vb B g 8 F w1) : Vb B g 8 (dg m) ((((((((w1.setCell ⟨g, 0, none⟩ (.int .u64 (dg m 0))).setCell ⟨g, 1, none⟩ (.int .u64 (dg m 1))).setCell ⟨g, 2, none⟩ (.int .u64 (dg m 2))).setCell ⟨g, 3, none⟩ (.int .u64 (dg m 3))).setCell ⟨g, 4, none⟩ (.int .u64 (dg m 4))).setCell ⟨g, 5, none⟩ (.int .u64 (dg m 5))).setCell ⟨g, 6, none⟩ (.int .u64 (dg m 6))).setCell ⟨g, 7, none⟩ (.int .u64 (dg m 7))) := ⟨h.lo, by simpa using h.hi, C8_set h.c, Fz_set (Fz_set (Fz_set (Fz_set (Fz_set (Fz_set (Fz_set (Fz_set h.f)))))))⟩
theorem Vb_o4 {B g n k m : Nat} {F : Nat → Int} {w1 : World} (h : Vb B g n F w1) (hne : k ≠ g) : Vb B g n F ((((w1.setCell ⟨k, 0, none⟩ (.int .u64 (dg m 0))).setCell ⟨k, 1, none⟩ (.int .u64 (dg m 1))).setCell ⟨k, 2, none⟩ (.int .u64 (dg m 2))).setCell ⟨k, 3, none⟩ (.int .u64 (dg m 3))) := Vb_other (Vb_other (Vb_other (Vb_other h hne) hne) hne) hne
theorem Vb_o8 {B g n k m : Nat} {F : Nat → Int} {w1 : World} (h : Vb B g n F w1) (hne : k ≠ g) : Vb B g n F ((((((((w1.setCell ⟨k, 0, none⟩ (.int .u64 (dg m 0))).setCell ⟨k, 1, none⟩ (.int .u64 (dg m 1))).setCell ⟨k, 2, none⟩ (.int .u64 (dg m 2))).setCell ⟨k, 3, none⟩ (.int .u64 (dg m 3))).setCell ⟨k, 4, none⟩ (.int .u64 (dg m 4))).setCell ⟨k, 5, none⟩ (.int .u64 (dg m 5))).setCell ⟨k, 6, none⟩ (.int .u64 (dg m 6))).setCell ⟨k, 7, none⟩ (.int .u64 (dg m 7))) := Vb_other (Vb_other (Vb_other (Vb_other (Vb_other (Vb_other (Vb_other (Vb_other h hne) hne) hne) hne) hne) hne) hne) hne
theorem Vb_new4 (B n : Nat) (w1 : World) (T : TypeId) (hB : B ≤ w1.heap.size) : Vb B w1.heap.size 4 (dg n) (w1.alloc (.cells #[.int .u64 (dg n 0), .int .u64 (dg n 1), .int .u64 (dg n 2), .int .u64 (dg n 3)] T)) := ⟨hB, by simp, C4_alloc n w1 T, Fz_alloc w1 _ T⟩
theorem Vb_new0 (B : Nat) (w1 : World) (T : TypeId) (hB : B ≤ w1.heap.size) : Vb B w1.heap.size 4 (dg 0) (w1.alloc (.cells #[.int .u64 0, .int .u64 0, .int .u64 0, .int .u64 0] T)) := Vb_new4 B 0 w1 T hB
theorem Vb_new8 (B n : Nat) (w1 : World) (T : TypeId) (hB : B ≤ w1.heap.size) : Vb B w1.heap.size 8 (dg n) (w1.alloc (.cells #[.int .u64 (dg n 0), .int .u64 (dg n 1), .int .u64 (dg n 2), .int .u64 (dg n 3), .int .u64 (dg n 4), .int .u64 (dg n 5), .int .u64 (dg n 6), .int .u64 (dg n 7)] T)) := ⟨hB, by simp, fun o ho => by
  have : o = 0 ∨ o = 1 ∨ o = 2 ∨ o = 3 ∨ o = 4 ∨ o = 5 ∨ o = 6 ∨ o = 7 := by omega
  rcases this with rfl | rfl | rfl | rfl | rfl | rfl | rfl | rfl <;> simp, Fz_alloc w1 _ T⟩
theorem Vb_new8e {B n g : Nat} {w1 : World} {T : TypeId} (hg : g = w1.heap.size) (hB : B ≤ g) : Vb B g 8 (dg n) (w1.alloc (.cells #[.int .u64 (dg n 0), .int .u64 (dg n 1), .int .u64 (dg n 2), .int .u64 (dg n 3), .int .u64 (dg n 4), .int .u64 (dg n 5), .int .u64 (dg n 6), .int .u64 (dg n 7)] T)) := by subst hg; exact Vb_new8 B n w1 T hB
theorem Vb_new4e {B n g : Nat} {w1 : World} {T : TypeId} (hg : g = w1.heap.size) (hB : B ≤ g) : Vb B g 4 (dg n) (w1.alloc (.cells #[.int .u64 (dg n 0), .int .u64 (dg n 1), .int .u64 (dg n 2), .int .u64 (dg n 3)] T)) := by subst hg; exact Vb_new4 B n w1 T hB
theorem Vb_new80 (B : Nat) (w1 : World) (T : TypeId) (hB : B ≤ w1.heap.size) : Vb B w1.heap.size 8 (dg 0) (w1.alloc (.cells #[.int .u64 0, .int .u64 0, .int .u64 0, .int .u64 0, .int .u64 0, .int .u64 0, .int .u64 0, .int .u64 0] T)) := by
  have k := Vb_new8 B 0 w1 T hB
  simp only [dg_zero] at k
  exact k
theorem Vb_new80e {B g : Nat} {w1 : World} {T : TypeId} (hg : g = w1.heap.size) (hB : B ≤ g) : Vb B g 8 (dg 0) (w1.alloc (.cells #[.int .u64 0, .int .u64 0, .int .u64 0, .int .u64 0, .int .u64 0, .int .u64 0, .int .u64 0, .int .u64 0] T)) := by subst hg; exact Vb_new80 B w1 T hB
theorem Vb_new0e {B g : Nat} {w1 : World} {T : TypeId} (hg : g = w1.heap.size) (hB : B ≤ g) : Vb B g 4 (dg 0) (w1.alloc (.cells #[.int .u64 0, .int .u64 0, .int .u64 0, .int .u64 0] T)) := by subst hg; exact Vb_new0 B w1 T hB
theorem Bel_set8 {h m B : Nat} {w w1 : World} (c : Below B w w1) (hB : B ≤ h) : Below B w ((((((((w1.setCell ⟨h, 0, none⟩ (.int .u64 (dg m 0))).setCell ⟨h, 1, none⟩ (.int .u64 (dg m 1))).setCell ⟨h, 2, none⟩ (.int .u64 (dg m 2))).setCell ⟨h, 3, none⟩ (.int .u64 (dg m 3))).setCell ⟨h, 4, none⟩ (.int .u64 (dg m 4))).setCell ⟨h, 5, none⟩ (.int .u64 (dg m 5))).setCell ⟨h, 6, none⟩ (.int .u64 (dg m 6))).setCell ⟨h, 7, none⟩ (.int .u64 (dg m 7))) := (((((((c.setCell hB _).setCell hB _).setCell hB _).setCell hB _).setCell hB _).setCell hB _).setCell hB _).setCell hB _
theorem K_other {g n : Nat} {F : Nat → Int} {w : World} {a : Addr} {v : Value} (h : ∀ o, o < n → w.cell? ⟨g, o, none⟩ = some (.int .u64 (F o))) (hne : a.block ≠ g) : ∀ o, o < n → (w.setCell a v).cell? ⟨g, o, none⟩ = some (.int .u64 (F o)) := CF_other h hne
theorem K_drew {g n : Nat} {F : Nat → Int} {w : World} (h : ∀ o, o < n → w.cell? ⟨g, o, none⟩ = some (.int .u64 (F o))) : ∀ o, o < n → w.drew.cell? ⟨g, o, none⟩ = some (.int .u64 (F o)) := h
theorem K_al {g n : Nat} {F : Nat → Int} {w : World} (h : ∀ o, o < n → w.cell? ⟨g, o, none⟩ = some (.int .u64 (F o))) (hg : g < w.heap.size) (x : Obj) : ∀ o, o < n → (w.alloc x).cell? ⟨g, o, none⟩ = some (.int .u64 (F o)) := CF_al h hg x
theorem K_o4 {g n k m : Nat} {F : Nat → Int} {w : World} (h : ∀ o, o < n → w.cell? ⟨g, o, none⟩ = some (.int .u64 (F o))) (hne : k ≠ g) : ∀ o, o < n → ((((w.setCell ⟨k, 0, none⟩ (.int .u64 (dg m 0))).setCell ⟨k, 1, none⟩ (.int .u64 (dg m 1))).setCell ⟨k, 2, none⟩ (.int .u64 (dg m 2))).setCell ⟨k, 3, none⟩ (.int .u64 (dg m 3))).cell? ⟨g, o, none⟩ = some (.int .u64 (F o)) := CF_other (CF_other (CF_other (CF_other h hne) hne) hne) hne
theorem K_o8 {g n k m : Nat} {F : Nat → Int} {w : World} (h : ∀ o, o < n → w.cell? ⟨g, o, none⟩ = some (.int .u64 (F o))) (hne : k ≠ g) : ∀ o, o < n → ((((((((w.setCell ⟨k, 0, none⟩ (.int .u64 (dg m 0))).setCell ⟨k, 1, none⟩ (.int .u64 (dg m 1))).setCell ⟨k, 2, none⟩ (.int .u64 (dg m 2))).setCell ⟨k, 3, none⟩ (.int .u64 (dg m 3))).setCell ⟨k, 4, none⟩ (.int .u64 (dg m 4))).setCell ⟨k, 5, none⟩ (.int .u64 (dg m 5))).setCell ⟨k, 6, none⟩ (.int .u64 (dg m 6))).setCell ⟨k, 7, none⟩ (.int .u64 (dg m 7))).cell? ⟨g, o, none⟩ = some (.int .u64 (F o)) := CF_other (CF_other (CF_other (CF_other (CF_other (CF_other (CF_other (CF_other h hne) hne) hne) hne) hne) hne) hne) hne
/-- Four words in a row, from block B on: two handed in, two still 0. -/
structure M4 (w : World) (x0 x1 x2 x3 : Nat) (wx : World) : Prop where
  v0 : Vb w.heap.size w.heap.size 4 (dg x0) wx
  v1 : Vb w.heap.size (w.heap.size + 1) 4 (dg x1) wx
  v2 : Vb w.heap.size (w.heap.size + 1 + 1) 4 (dg x2) wx
  v3 : Vb w.heap.size (w.heap.size + 1 + 1 + 1) 4 (dg x3) wx
  bel : Below w.heap.size w wx
theorem M4_below {w : World} {x0 x1 x2 x3 : Nat} {w1 w2 : World} (h : M4 w x0 x1 x2 x3 w1) (k : Below w1.heap.size w1 w2) : M4 w x0 x1 x2 x3 w2 := ⟨Vb_below h.v0 k, Vb_below h.v1 k, Vb_below h.v2 k, Vb_below h.v3 k, h.bel.trans (k.mono (Nat.le_of_lt h.v0.hi))⟩
theorem M4_al {w : World} {x0 x1 x2 x3 : Nat} {w1 : World} (h : M4 w x0 x1 x2 x3 w1) (o : Obj) : M4 w x0 x1 x2 x3 (w1.alloc o) := M4_below h ((Below.refl _ _).alloc (Nat.le_refl _) o)
theorem M4_drew {w : World} {x0 x1 x2 x3 : Nat} {w1 : World} (h : M4 w x0 x1 x2 x3 w1) : M4 w x0 x1 x2 x3 w1.drew := M4_below h (Below.refl _ _).drew
theorem M4_start (w : World) (a b : Nat) (T : TypeId) : M4 w a b 0 0 ((((w.alloc (.cells #[.int .u64 (dg a 0), .int .u64 (dg a 1), .int .u64 (dg a 2), .int .u64 (dg a 3)] T)).alloc (.cells #[.int .u64 (dg b 0), .int .u64 (dg b 1), .int .u64 (dg b 2), .int .u64 (dg b 3)] T)).alloc (.cells #[.int .u64 0, .int .u64 0, .int .u64 0, .int .u64 0] T)).alloc (.cells #[.int .u64 0, .int .u64 0, .int .u64 0, .int .u64 0] T)) := by
  have e1 : ∀ o, (w.alloc o).heap.size = w.heap.size + 1 := fun o => by simp
  have e2 : ∀ o p, ((w.alloc o).alloc p).heap.size = w.heap.size + 1 + 1 := fun o p => by simp
  have e3 : ∀ o p q, (((w.alloc o).alloc p).alloc q).heap.size = w.heap.size + 1 + 1 + 1 := fun o p q => by simp
  refine ⟨Vb_al (Vb_al (Vb_al (Vb_new4 _ a w T (Nat.le_refl _)) _) _) _, ?_, ?_, ?_, ?_⟩
  · have k := Vb_al (Vb_al (Vb_new4 w.heap.size b (w.alloc (.cells #[.int .u64 (dg a 0), .int .u64 (dg a 1), .int .u64 (dg a 2), .int .u64 (dg a 3)] T)) T (by simp)) (.cells #[.int .u64 0, .int .u64 0, .int .u64 0, .int .u64 0] T)) (.cells #[.int .u64 0, .int .u64 0, .int .u64 0, .int .u64 0] T)
    rw [e1] at k; exact k
  · have k := Vb_al (Vb_new0 w.heap.size ((w.alloc (.cells #[.int .u64 (dg a 0), .int .u64 (dg a 1), .int .u64 (dg a 2), .int .u64 (dg a 3)] T)).alloc (.cells #[.int .u64 (dg b 0), .int .u64 (dg b 1), .int .u64 (dg b 2), .int .u64 (dg b 3)] T)) T (by simp <;> omega)) (.cells #[.int .u64 0, .int .u64 0, .int .u64 0, .int .u64 0] T)
    rw [e2] at k; exact k
  · have k := Vb_new0 w.heap.size (((w.alloc (.cells #[.int .u64 (dg a 0), .int .u64 (dg a 1), .int .u64 (dg a 2), .int .u64 (dg a 3)] T)).alloc (.cells #[.int .u64 (dg b 0), .int .u64 (dg b 1), .int .u64 (dg b 2), .int .u64 (dg b 3)] T)).alloc (.cells #[.int .u64 0, .int .u64 0, .int .u64 0, .int .u64 0] T)) T (by simp <;> omega)
    rw [e3] at k; exact k
  · repeat (first | exact Below.refl _ _ | refine Below.alloc ?_ (by simp <;> omega) _)
theorem M4_o8 {w : World} {x0 x1 x2 x3 k m : Nat} {w1 : World} (h : M4 w x0 x1 x2 x3 w1) (hk : w.heap.size + 1 + 1 + 1 < k) : M4 w x0 x1 x2 x3 ((((((((w1.setCell ⟨k, 0, none⟩ (.int .u64 (dg m 0))).setCell ⟨k, 1, none⟩ (.int .u64 (dg m 1))).setCell ⟨k, 2, none⟩ (.int .u64 (dg m 2))).setCell ⟨k, 3, none⟩ (.int .u64 (dg m 3))).setCell ⟨k, 4, none⟩ (.int .u64 (dg m 4))).setCell ⟨k, 5, none⟩ (.int .u64 (dg m 5))).setCell ⟨k, 6, none⟩ (.int .u64 (dg m 6))).setCell ⟨k, 7, none⟩ (.int .u64 (dg m 7))) := ⟨Vb_o8 h.v0 (by omega), Vb_o8 h.v1 (by omega), Vb_o8 h.v2 (by omega), Vb_o8 h.v3 (by omega), Bel_set8 h.bel (by omega)⟩
theorem M4_o4 {w : World} {x0 x1 x2 x3 k m : Nat} {w1 : World} (h : M4 w x0 x1 x2 x3 w1) (hk : w.heap.size + 1 + 1 + 1 < k) : M4 w x0 x1 x2 x3 ((((w1.setCell ⟨k, 0, none⟩ (.int .u64 (dg m 0))).setCell ⟨k, 1, none⟩ (.int .u64 (dg m 1))).setCell ⟨k, 2, none⟩ (.int .u64 (dg m 2))).setCell ⟨k, 3, none⟩ (.int .u64 (dg m 3))) := ⟨Vb_o4 h.v0 (by omega), Vb_o4 h.v1 (by omega), Vb_o4 h.v2 (by omega), Vb_o4 h.v3 (by omega), Bel_set4 h.bel (by omega)⟩
theorem M4_set3 {w : World} {x0 x1 x2 x3 m : Nat} {w1 : World} (h : M4 w x0 x1 x2 x3 w1) : M4 w x0 x1 x2 m ((((w1.setCell ⟨w.heap.size + 1 + 1 + 1, 0, none⟩ (.int .u64 (dg m 0))).setCell ⟨w.heap.size + 1 + 1 + 1, 1, none⟩ (.int .u64 (dg m 1))).setCell ⟨w.heap.size + 1 + 1 + 1, 2, none⟩ (.int .u64 (dg m 2))).setCell ⟨w.heap.size + 1 + 1 + 1, 3, none⟩ (.int .u64 (dg m 3))) := ⟨Vb_o4 h.v0 (by omega), Vb_o4 h.v1 (by omega), Vb_o4 h.v2 (by omega), Vb_set4 h.v3, Bel_set4 h.bel (by omega)⟩
theorem M4_set2 {w : World} {x0 x1 x2 x3 m : Nat} {w1 : World} (h : M4 w x0 x1 x2 x3 w1) : M4 w x0 x1 m x3 ((((w1.setCell ⟨w.heap.size + 1 + 1, 0, none⟩ (.int .u64 (dg m 0))).setCell ⟨w.heap.size + 1 + 1, 1, none⟩ (.int .u64 (dg m 1))).setCell ⟨w.heap.size + 1 + 1, 2, none⟩ (.int .u64 (dg m 2))).setCell ⟨w.heap.size + 1 + 1, 3, none⟩ (.int .u64 (dg m 3))) := ⟨Vb_o4 h.v0 (by omega), Vb_o4 h.v1 (by omega), Vb_set4 h.v2, Vb_o4 h.v3 (by omega), Bel_set4 h.bel (by omega)⟩
end Go.Proofs.Ytmlddefoehgofaa
/- A region that draws its order, by what holds of what is done: one walk an operation, whatever the order. -/
namespace Go.Proofs.Ytmlddefoehgofaa
namespace RI
/-- What is done, with i done too. -/
def don (d : Nat → Bool) (i j : Nat) : Bool := if j = i then true else d j
theorem don_same (d : Nat → Bool) (i : Nat) : don d i i = true := by simp [don]
theorem don_other (d : Nat → Bool) (i j : Nat) (h : j ≠ i) : don d i j = d j := by simp [don, h]
theorem keep {d : Nat → Bool} {i j : Nat} {p : Prop} (hne : j ≠ i) (h : d j = true → p) : don d i j = true → p := fun k => h (by rwa [don_other _ _ _ hne] at k)
/-- Operation i may come up. -/
def may (ops : Array Oper) (d : Nat → Bool) (i : Nat) : Prop := d i = false ∧ ∀ o, ops[i]? = some o → (o.after.all fun e => !Region.binds .any e || d e.on) = true
def dof (l : Array Bool) (j : Nat) : Bool := l.getD j false
theorem dof_set (l : Array Bool) (i : Nat) (hi : i < l.size) : dof (l.setIfInBounds i true) = don (dof l) i := by
  funext j
  unfold dof don
  by_cases e : j = i
  · subst e; simp [hi]
  · simp only [Array.getD_eq_getD_getElem?, Array.getElem?_setIfInBounds]
    rw [if_neg (fun h => e h.symm), if_neg e]
theorem ready_iff (ops : Array Oper) (l : Array Bool) (i : Nat) (hl : l.size = ops.size) : i ∈ Region.ready .any ops l ↔ i < ops.size ∧ may ops (dof l) i := by
  unfold Region.ready may dof
  rw [List.mem_filter, List.mem_range]
  constructor
  · rintro ⟨h1, h2⟩
    refine ⟨h1, ?_, ?_⟩
    · simp [show i < l.size by omega] at h2 ⊢; exact h2.1
    · intro o ho; simp [ho] at h2; simpa using h2.2
  · rintro ⟨h1, h2, h3⟩
    refine ⟨h1, ?_⟩
    have h4 := h3 ops[i] (Array.getElem?_eq_getElem h1)
    simp [h1, show i < l.size by omega] at h2 h4 ⊢
    exact ⟨h2, h4⟩
/-- How many of the first n are not done. -/
def un (d : Nat → Bool) : Nat → Nat
  | 0 => 0
  | n + 1 => un d n + if d n then 0 else 1
theorem un_don (d : Nat → Bool) (i : Nat) : ∀ n, (n ≤ i → un (don d i) n = un d n) ∧ (i < n → d i = false → un (don d i) n + 1 = un d n)
  | 0 => ⟨fun _ => rfl, fun h => absurd h (by omega)⟩
  | n + 1 => by
    obtain ⟨h1, h2⟩ := un_don d i n
    refine ⟨fun h => ?_, fun h hd => ?_⟩
    · rw [un, un, h1 (by omega), don_other _ _ _ (by omega)]
    · by_cases e : n = i
      · subst e; rw [un, un, h1 (Nat.le_refl _), don_same, hd]; simp
      · rw [un, un, don_other _ _ _ e, ← h2 (by omega) hd]; omega
theorem un_zero (d : Nat → Bool) : ∀ n, un d n = 0 → ∀ j, j < n → d j = true
  | 0, _, _, h => absurd h (by omega)
  | n + 1, h, j, hj => by
    rw [un] at h
    by_cases e : j = n
    · subst e
      cases hd : d j with
      | true => rfl
      | false => rw [hd] at h; simp at h
    · exact un_zero d n (by omega) j (by omega)
theorem un_all (n : Nat) : un (fun _ => false) n = n := by
  induction n with
  | zero => rfl
  | succ n ih => rw [un, ih]; rfl
/-- Each operation leans on earlier ones alone. -/
def early (ops : Array Oper) : Bool := (List.range ops.size).all fun i => ((ops[i]?).map fun o => o.after.all fun e => !Region.binds .any e || decide (e.on < i)).getD true
theorem all_done (ops : Array Oper) (he : early ops = true) (d : Nat → Bool) (h : ∀ i, i < ops.size → ¬ may ops d i) : ∀ i, i < ops.size → d i = true := by
  intro i
  induction i using Nat.strongRecOn with
  | _ i ih =>
    intro hi
    cases hd : d i with
    | true => rfl
    | false =>
      refine absurd ⟨hd, fun o ho => ?_⟩ (h i hi)
      have h1 := (List.all_eq_true.1 he) i (List.mem_range.2 hi)
      rw [ho] at h1
      simp only [Option.map_some, Option.getD_some, Array.all_eq_true_iff_forall_mem] at h1
      rw [Array.all_eq_true_iff_forall_mem]
      intro e hee
      have h2 := h1 e hee
      cases hb : Region.binds .any e with
      | false => rfl
      | true =>
        rw [hb] at h2
        simp at h2
        rw [ih e.on h2 (by omega)]
        rfl
section
variable {P : Program} {ops : Array Oper} {Q : Exit → Act → World → Prop}
theorem wpAny_inv (I : (Nat → Bool) → Act → World → Prop) (he : early ops = true)
    (hstep : ∀ d a w i, I d a w → i < ops.size → may ops d i → wpOp P ops Q i (I (don d i)) a w)
    (hend : ∀ d a w, I d a w → (∀ i, i < ops.size → d i = true) → Q .normal a w) :
    ∀ fuel l a w, l.size = ops.size → un (dof l) ops.size ≤ fuel → I (dof l) a w → wpAny P .any ops Q fuel l a w
  | 0, l, a, w, hl, hu, hI => by
    have hd := un_zero (dof l) ops.size (by omega)
    refine ⟨?_, hend _ a w hI hd⟩
    rw [List.eq_nil_iff_forall_not_mem]
    intro i hi
    obtain ⟨h1, h2⟩ := (ready_iff ops l i hl).1 hi
    have := hd i h1
    rw [h2.1] at this; cases this
  | fuel + 1, l, a, w, hl, hu, hI => by
    refine ⟨fun hr => hend _ a w hI (all_done ops he _ fun i h1 h2 => ?_), fun i hi => ?_⟩
    · have := (ready_iff ops l i hl).2 ⟨h1, h2⟩
      rw [hr] at this; cases this
    · obtain ⟨h1, h2⟩ := (ready_iff ops l i hl).1 hi
      refine wpOp_mono (fun a' w' h => ?_) (hstep _ a w i hI h1 h2)
      have e := dof_set l i (by omega)
      refine wpAny_inv I he hstep hend fuel _ a' w' (by simpa using hl) ?_ (by rw [e]; exact h)
      rw [e]
      have := (un_don (dof l) i ops.size).2 h1 h2.1
      omega
/-- The law: I holds ahead of all, each operation that may come up keeps it, and it ends well where all are done. -/
theorem wp_region_inv {id : Nat} {a : Act} {w : World} (I : (Nat → Bool) → Act → World → Prop) (hm : P.follows .mixedOrders = true) (he : early ops = true) (h0 : I (fun _ => false) a w.drew)
    (hstep : ∀ d a w i, I d a w → i < ops.size → may ops d i → wpOp P ops Q i (I (don d i)) a w)
    (hend : ∀ d a w, I d a w → (∀ i, i < ops.size → d i = true) → Q .normal a w) : (Code.region id ops true).wp P Q a w := by
  refine wp_region_any hm (wpAny_inv I he hstep hend ops.size _ a _ (by simp) ?_ ?_)
  · have e : dof (Array.replicate ops.size false) = fun _ => false := by
      funext j
      unfold dof
      by_cases h : j < ops.size <;> simp [h]
    rw [e, un_all]; exact Nat.le_refl _
  · have e : dof (Array.replicate ops.size false) = fun _ => false := by
      funext j
      unfold dof
      by_cases h : j < ops.size <;> simp [h]
    rw [e]; exact h0
theorem wpOp_plain {i : Nat} {o : Oper} {K : Act → World → Prop} {a : Act} {w : World} (ho : ops[i]? = some o) (hg : o.guard = none) (h : o.wp P a w K Q) : wpOp P ops Q i K a w := by
  unfold wpOp
  rw [ho]
  have hw : Region.wanted o (yielded ops a.tmps) = true := by simp [Region.wanted, hg]
  simp only [hw, if_true]
  exact .inl h
theorem wpOp_guard {i j : Nat} {v : Bool} {o : Oper} {K : Act → World → Prop} {a : Act} {w : World} (ho : ops[i]? = some o) (hg : o.guard = some (j, v)) (hy : yielded ops a.tmps j = some v) (h : o.wp P a w K Q) : wpOp P ops Q i K a w := by
  unfold wpOp
  rw [ho]
  have hw : Region.wanted o (yielded ops a.tmps) = true := by simp [Region.wanted, hg, hy]
  simp only [hw, if_true]
  exact .inl h
end
end RI
end Go.Proofs.Ytmlddefoehgofaa
/- A region that draws its order, walked in the order of its text: where each operation looks only at slots that stand fast by then, and gives one value whatever the order. -/
namespace Go.Proofs.Ytmlddefoehgofaa
namespace RS
open RI
/-- What an operation comes to, by its value alone. -/
def upv (P : Program) (K : Value → World → Prop) : Result Next → Prop
  | .ok (.value v) w => K v w
  | .ok .skip w => K undef w
  | .ok (.enter f args) w => Calls P f args w fun e w' => ∃ v, e = .returned v ∧ K v w'
  | .ok (.row row args) w => Rows P row args w K
  | _ => False
@[simp] theorem upv_value (P : Program) (K : Value → World → Prop) (v : Value) (w : World) : upv P K (.ok (.value v) w) = K v w := rfl
@[simp] theorem upv_skip (P : Program) (K : Value → World → Prop) (w : World) : upv P K (.ok .skip w) = K undef w := rfl
@[simp] theorem upv_enter (P : Program) (K : Value → World → Prop) (f : FuncId) (args : Array Value) (w : World) : upv P K (.ok (.enter f args) w) = Calls P f args w fun e w' => ∃ v, e = .returned v ∧ K v w' := rfl
/-- What operation i, at frame a, must do: come to v, and keep the world well. -/
def Step (P : Program) (ops : Array Oper) (I : (Nat → Bool) → World → Prop) (i : Nat) (o : Oper) (v : Value) (a : Act) : Prop :=
  (Region.wanted o (yielded ops a.tmps) = true ∧ ∀ (K : Value → World → Prop) d w, I d w → may ops d i → (∀ w', I (don d i) w' → K v w') → upv P K ((execOp a.eval o).run P w)) ∨
  (Region.wanted o (yielded ops a.tmps) = false ∧ v = undef ∧ ∀ d w, I d w → may ops d i → I (don d i) w)
/-- The walk in the text's order. -/
def Seq (P : Program) (ops : Array Oper) (I : (Nat → Bool) → World → Prop) (E : Act → Prop) : Nat → List Oper → Act → Prop
  | _, [], a => E a
  | i, o :: r, a => ∃ v, Step P ops I i o v a ∧ Seq P ops I E (i + 1) r (a.put o.dst v)
def bindsOn (o : Oper) (j : Nat) : Bool := o.after.any fun e => Region.binds .any e && e.on == j
def isSel : Op → Bool
  | .select _ _ => true
  | _ => false
/-- Of two operations: unlike slots are written; and one that looks at what the other writes is bound to it. -/
def pairOk (ops : Array Oper) (i j : Nat) : Bool :=
  match ops[i]?, ops[j]? with
  | some x, some y =>
    match y.dst with
    | none => true
    | some t => (x.dst != some t || i == j) && (!(x.looksAt ops).contains t || (decide (j < i) && bindsOn x j) || (decide (i < j) && bindsOn y i))
  | _, _ => true
def okOps (ops : Array Oper) : Bool :=
  RI.early ops && (List.range ops.size).all fun i => ((ops[i]?).map fun o => !isSel o.op).getD true && (List.range ops.size).all fun j => pairOk ops i j
/-- The frame behind those of the first k operations that are done. -/
def fr (ops : Array Oper) (V : Nat → Value) (d : Nat → Bool) (a : Act) : Nat → Act
  | 0 => a
  | k + 1 => if d k then (fr ops V d a k).put ((ops[k]?).bind (·.dst)) (V k) else fr ops V d a k
def tt : Nat → Bool := fun _ => true
variable {P : Program} {ops : Array Oper} {Q : Exit → Act → World → Prop}
theorem put_get (a : Act) (x : Option Tmp) (v : Value) (t : Nat) : (a.put x v).tmps[t]? = if x = some t then (if t < a.tmps.size then some v else none) else a.tmps[t]? := by
  cases x with
  | none => simp [Act.put]
  | some d =>
    simp only [Act.put, Array.getElem?_setIfInBounds]
    by_cases e : d = t
    · subst e; simp
    · simp [e]
theorem get_size {a b : Act} {t : Nat} (h : a.tmps[t]? = b.tmps[t]?) : (t < a.tmps.size) = (t < b.tmps.size) := by
  apply propext
  have ha := Array.getElem?_eq_none_iff (xs := a.tmps) (i := t)
  have hb := Array.getElem?_eq_none_iff (xs := b.tmps) (i := t)
  rw [h] at ha
  have := ha.symm.trans hb
  omega
theorem fr_congr (V : Nat → Value) (a : Act) (d e : Nat → Bool) : ∀ k, (∀ j, j < k → d j = e j) → fr ops V d a k = fr ops V e a k
  | 0, _ => rfl
  | k + 1, h => by rw [fr, fr, fr_congr V a d e k (fun j hj => h j (by omega)), h k (by omega)]
/-- What a slot holds, where its writer stands fast. -/
theorem fr_get (V : Nat → Value) (a : Act) (d : Nat → Bool) (i t : Nat) : ∀ k, (∀ j, j < k → (ops[j]?).bind (·.dst) = some t → (j < i ∧ d j = true) ∨ (i < j ∧ d j = false)) → (fr ops V d a k).tmps[t]? = (fr ops V tt a (min k i)).tmps[t]?
  | 0, _ => by simp [fr]
  | k + 1, h => by
    have ih := fr_get V a d i t k (fun j hj => h j (by omega))
    have hk := h k (by omega)
    by_cases hi : k < i
    · rw [show min (k + 1) i = k + 1 by omega, fr, fr]
      rw [show min k i = k by omega] at ih
      simp only [tt, if_true]
      cases hd : d k with
      | true => simp only [if_true]; rw [put_get, put_get]; simp only [get_size ih, ih]
      | false =>
        simp only [Bool.false_eq_true, if_false]
        rw [put_get, ih]
        by_cases e : (ops[k]?).bind (·.dst) = some t
        · rcases hk e with ⟨_, h2⟩ | ⟨h1, _⟩
          · rw [hd] at h2; cases h2
          · omega
        · rw [if_neg e]
    · rw [show min (k + 1) i = i by omega, fr]
      rw [show min k i = i by omega] at ih
      cases hd : d k with
      | false => simp only [Bool.false_eq_true, if_false]; exact ih
      | true =>
        simp only [if_true]
        rw [put_get, ih]
        by_cases e : (ops[k]?).bind (·.dst) = some t
        · rcases hk e with ⟨h1, _⟩ | ⟨_, h2⟩
          · omega
          · rw [hd] at h2; cases h2
        · rw [if_neg e]
theorem fr_put (V : Nat → Value) (a : Act) (d : Nat → Bool) (i : Nat) (hd : d i = false) : ∀ k, (∀ j, j < k → j ≠ i → ∀ t, (ops[i]?).bind (·.dst) = some t → (ops[j]?).bind (·.dst) ≠ some t) →
    fr ops V (don d i) a k = if i < k then (fr ops V d a k).put ((ops[i]?).bind (·.dst)) (V i) else fr ops V d a k
  | 0, _ => by simp [fr]
  | k + 1, h => by
    have ih := fr_put V a d i hd k (fun j hj => h j (by omega))
    rw [fr, fr]
    by_cases e : k = i
    · subst e
      rw [don_same, hd, ih, if_neg (show ¬ k < k by omega), if_pos (show k < k + 1 by omega)]
      simp
    · rw [don_other _ _ _ e, ih]
      by_cases h1 : i < k
      · rw [if_pos h1, if_pos (show i < k + 1 by omega)]
        cases hk : d k with
        | false => simp
        | true =>
          simp only [if_true]
          exact Act.put_comm _ _ _ (fun t ht => h k (by omega) e t ht)
      · rw [if_neg h1, if_neg (show ¬ i < k + 1 by omega)]
theorem seq_vals {I : (Nat → Bool) → World → Prop} {E : Act → Prop} (a : Act) : ∀ (l : List Oper) (k : Nat) (V : Nat → Value), (∀ j, l[j]? = ops[k + j]?) → Seq P ops I E k l (fr ops V tt a k) →
    ∃ V', (∀ j, j < k → V' j = V j) ∧ (∀ j o, l[j]? = some o → Step P ops I (k + j) o (V' (k + j)) (fr ops V' tt a (k + j))) ∧ E (fr ops V' tt a (k + l.length))
  | [], k, V, _, h => ⟨V, fun _ _ => rfl, fun j o hj => by simp at hj, by simpa [Seq] using h⟩
  | o :: r, k, V, hl, h => by
    obtain ⟨v, h1, h2⟩ := h
    have hk : ops[k]? = some o := by simpa using (hl 0).symm
    have frV : ∀ V1 V2 : Nat → Value, ∀ n, (∀ j, j < n → V1 j = V2 j) → fr ops V1 tt a n = fr ops V2 tt a n := by
      intro V1 V2 n
      induction n with
      | zero => intro _; rfl
      | succ n ih => intro hv; rw [fr, fr, ih (fun j hj => hv j (by omega)), hv n (by omega)]
    let W : Nat → Value := fun j => if j = k then v else V j
    have hW : fr ops W tt a (k + 1) = (fr ops V tt a k).put o.dst v := by
      rw [fr, frV W V k (fun j hj => by simp only [W]; rw [if_neg (by omega)])]
      simp [tt, hk, W]
    rw [← hW] at h2
    obtain ⟨V', e1, e2, e3⟩ := seq_vals a r (k + 1) W (fun j => by have := hl (j + 1); rw [show k + (j + 1) = k + 1 + j by omega] at this; simpa using this) h2
    refine ⟨V', fun j hj => ?_, fun j o' hj => ?_, ?_⟩
    · rw [e1 j (by omega)]; simp only [W]; rw [if_neg (by omega)]
    · cases j with
      | zero =>
        have : o' = o := by simpa using hj.symm
        subst this
        rw [Nat.add_zero, e1 k (by omega), frV V' V k (fun j hj => by rw [e1 j (by omega)]; simp only [W]; rw [if_neg (by omega)])]
        simpa [W] using h1
      | succ j => rw [show k + (j + 1) = k + 1 + j by omega]; exact e2 j o' (by simpa using hj)
    · rw [show k + (o :: r).length = k + 1 + r.length by simp; omega]; exact e3
theorem upv_upon {o : Oper} {a : Act} {K : Act → World → Prop} : ∀ {r : Result Next}, upv P (fun v w => K (a.put o.dst v) w) r → o.upon P a K Q r
  | .ok (.value _) _, h => h
  | .ok .skip _, h => h
  | .ok (.enter _ _) _, h => Calls.mono h fun e w' he => by obtain ⟨v, rfl, hk⟩ := he; exact hk
  | .ok (.row _ _) _, h => h
  | .ok (.defer _) _, h => h.elim
  | .ok (.round ..) _, h => h.elim
  | .ok .recover _, h => h.elim
  | .ok (.spawn _) _, h => h.elim
  | .halt _ _, h => h.elim
theorem mem_looks {x : Oper} {t : Nat} (h : .tmp t ∈ x.op.operands) : t ∈ x.looksAt ops := List.mem_append_left _ (List.mem_filterMap.2 ⟨.tmp t, by simpa using h, rfl⟩)
theorem eval_get {a b : Act} {t : Nat} (h : a.tmps[t]? = b.tmps[t]?) : a.eval (.tmp t) = b.eval (.tmp t) := by simp only [Act.eval, Array.getD_eq_getD_getElem?, h]
theorem wanted_get {a b : Act} {o : Oper} (h : ∀ t, t ∈ o.looksAt ops → a.tmps[t]? = b.tmps[t]?) : Region.wanted o (yielded ops a.tmps) = Region.wanted o (yielded ops b.tmps) := by
  unfold Region.wanted
  cases hg : o.guard with
  | none => rfl
  | some gw =>
    obtain ⟨g, want⟩ := gw
    have : yielded ops a.tmps g = yielded ops b.tmps g := by
      unfold yielded
      cases ht : (ops[g]?).bind (·.dst) with
      | none => rfl
      | some t => simp only [Option.bind_some]; rw [h t (by simp [Oper.looksAt, hg, ht])]
    simp only [this]
theorem wp_region_seq {id : Nat} {a : Act} {w : World} (I : (Nat → Bool) → World → Prop) (hm : P.follows .mixedOrders = true) (hok : okOps ops = true) (h0 : I (fun _ => false) w.drew)
    (hs : Seq P ops I (fun a' => ∀ d w', I d w' → (∀ i, i < ops.size → d i = true) → Q .normal a' w') 0 ops.toList a) : (Code.region id ops true).wp P Q a w := by
  have hok' := hok
  unfold okOps at hok'
  rw [Bool.and_eq_true] at hok'
  obtain ⟨he, hp⟩ := hok'
  obtain ⟨V, _, hst, hE⟩ := seq_vals (P := P) (ops := ops) (I := I) a ops.toList 0 (fun _ => undef) (fun j => by simp) hs
  simp only [Nat.zero_add] at hst hE
  have pair : ∀ (i j : Nat) (x y : Oper) (t : Nat), ops[i]? = some x → ops[j]? = some y → y.dst = some t → (x.dst = some t → i = j) ∧ (t ∈ x.looksAt ops → (j < i ∧ bindsOn x j = true) ∨ (i < j ∧ bindsOn y i = true)) := by
    intro i j x y t hx hy ht
    have hi : i < ops.size := (Array.getElem?_eq_some_iff.1 hx).1
    have hj : j < ops.size := (Array.getElem?_eq_some_iff.1 hy).1
    have h1 := List.all_eq_true.1 hp i (List.mem_range.2 hi)
    rw [Bool.and_eq_true] at h1
    have h2 := List.all_eq_true.1 h1.2 j (List.mem_range.2 hj)
    unfold pairOk at h2
    simp only [hx, hy, ht] at h2
    simp at h2
    refine ⟨fun e => h2.1.resolve_left (fun h => h e), fun hm => ?_⟩
    rcases h2.2 with (h | h) | h
    · exact absurd hm h
    · exact .inl h
    · exact .inr h
  have nosel : ∀ (i : Nat) (x : Oper) cs b, ops[i]? = some x → x.op ≠ .select cs b := by
    intro i x cs b hx hc
    have hi : i < ops.size := (Array.getElem?_eq_some_iff.1 hx).1
    have h1 := List.all_eq_true.1 hp i (List.mem_range.2 hi)
    rw [Bool.and_eq_true, hx] at h1
    simp [hc, isSel] at h1
  have bon : ∀ {x : Oper} {j : Nat}, bindsOn x j = true → ∃ e, e ∈ x.after ∧ Region.binds .any e = true ∧ e.on = j := by
    intro x j h
    unfold bindsOn at h
    rw [Array.any_eq_true'] at h
    obtain ⟨e, h1, h2⟩ := h
    rw [Bool.and_eq_true, beq_iff_eq] at h2
    exact ⟨e, h1, h2.1, h2.2⟩
  refine wp_region_inv (fun d x wx => x = fr ops V d a ops.size ∧ I d wx ∧ ∀ j o, ops[j]? = some o → d j = true → ∀ e, e ∈ o.after → Region.binds .any e = true → d e.on = true) hm he ?_ ?_ ?_
  · refine ⟨?_, h0, fun _ _ _ h => by cases h⟩
    have : ∀ k, fr ops V (fun _ => false) a k = a := by
      intro k
      induction k with
      | zero => rfl
      | succ k ih => rw [fr, ih]; simp
    exact (this _).symm
  · rintro d x wx i ⟨rfl, hI, hcl⟩ hi hmay
    obtain ⟨o, ho⟩ : ∃ o, ops[i]? = some o := ⟨ops[i], Array.getElem?_eq_getElem hi⟩
    have hdeps : ∀ e, e ∈ o.after → Region.binds .any e = true → d e.on = true := by
      intro e h1 h2
      have := hmay.2 o ho
      rw [Array.all_eq_true_iff_forall_mem] at this
      have := this e h1
      rw [h2] at this
      simpa using this
    have hsame : ∀ t, t ∈ o.looksAt ops → (fr ops V d a ops.size).tmps[t]? = (fr ops V tt a i).tmps[t]? := by
      intro t ht
      have := fr_get (ops := ops) V a d i t ops.size (fun j hj hjt => by
        obtain ⟨y, hy⟩ : ∃ y, ops[j]? = some y := ⟨ops[j], Array.getElem?_eq_getElem hj⟩
        rw [hy] at hjt
        rcases (pair i j o y t ho hy hjt).2 ht with ⟨h1, h2⟩ | ⟨h1, h2⟩
        · obtain ⟨e, e1, e2, e3⟩ := bon h2
          exact .inl ⟨h1, e3 ▸ hdeps e e1 e2⟩
        · refine .inr ⟨h1, ?_⟩
          cases hdj : d j with
          | false => rfl
          | true =>
            obtain ⟨e, e1, e2, e3⟩ := bon h2
            have := hcl j y hy hdj e e1 e2
            rw [e3, hmay.1] at this; cases this)
      rw [this, show min ops.size i = i by omega]
    have hex : execOp (fr ops V d a ops.size).eval o = execOp (fr ops V tt a i).eval o := by
      refine execOp_congr o (fun cs b => nosel i o cs b ho) (fun x hx => ?_)
      cases x with
      | tmp t => exact eval_get (hsame t (mem_looks hx))
      | _ => rfl
    have hwa := wanted_get hsame
    have hput : ∀ v, v = V i → (fr ops V d a ops.size).put o.dst v = fr ops V (don d i) a ops.size := by
      rintro v rfl
      rw [fr_put V a d i hmay.1 ops.size (fun j hj hne t ht => fun hjt => ?_), if_pos hi, ho]
      · rfl
      · obtain ⟨y, hy⟩ : ∃ y, ops[j]? = some y := ⟨ops[j], Array.getElem?_eq_getElem hj⟩
        rw [hy] at hjt
        rw [ho] at ht
        exact hne ((pair i j o y t ho hy hjt).1 ht).symm
    have hclo : ∀ j o', ops[j]? = some o' → don d i j = true → ∀ e, e ∈ o'.after → Region.binds .any e = true → don d i e.on = true := by
      intro j o' hj hdj e e1 e2
      have : d e.on = true := by
        by_cases hji : j = i
        · subst hji
          rw [ho] at hj
          cases hj
          exact hdeps e e1 e2
        · rw [don_other _ _ _ hji] at hdj
          exact hcl j o' hj hdj e e1 e2
      unfold don; split
      · rfl
      · exact this
    unfold wpOp
    rw [ho]
    simp only
    rcases hst i o (by simpa using ho) with ⟨h1, h2⟩ | ⟨h1, h2, h3⟩
    · rw [hwa, h1, if_pos rfl]
      refine .inl ?_
      unfold Oper.wp
      rw [hex]
      exact upv_upon (h2 _ d wx hI hmay (fun w' hI' => ⟨hput _ rfl, hI', hclo⟩))
    · rw [hwa, h1]
      simp only [Bool.false_eq_true, if_false]
      exact ⟨hput _ h2.symm, h3 d wx hI hmay, hclo⟩
  · rintro d x wx ⟨rfl, hI, _⟩ hall
    rw [fr_congr V a d tt ops.size (fun j hj => hall j hj)]
    exact hE d wx hI hall
/-- One step, where the world keeps S. -/
theorem go1 {S : World → Prop} {E : Act → Prop} {i : Nat} {o : Oper} {r : List Oper} {a a' : Act} {v : Value} (hg : o.guard = none)
    (h : ∀ (K : Value → World → Prop) w, S w → (∀ w', S w' → K v w') → upv P K ((execOp a.eval o).run P w)) (he : a.put o.dst v = a')
    (hr : Seq P ops (fun _ => S) E (i + 1) r a') : Seq P ops (fun _ => S) E i (o :: r) a :=
  ⟨v, .inl ⟨by simp [Region.wanted, hg], fun K _ w hS _ hK => h K w hS hK⟩, he ▸ hr⟩
/-- The same, of an operation under a guard that is met. -/
theorem go1g {S : World → Prop} {E : Act → Prop} {i : Nat} {o : Oper} {r : List Oper} {a a' : Act} {v : Value} (hg : Region.wanted o (yielded ops a.tmps) = true)
    (h : ∀ (K : Value → World → Prop) w, S w → (∀ w', S w' → K v w') → upv P K ((execOp a.eval o).run P w)) (he : a.put o.dst v = a')
    (hr : Seq P ops (fun _ => S) E (i + 1) r a') : Seq P ops (fun _ => S) E i (o :: r) a :=
  ⟨v, .inl ⟨hg, fun K _ w hS _ hK => h K w hS hK⟩, he ▸ hr⟩
/-- One that its guard leaves out. -/
theorem go0 {S : World → Prop} {E : Act → Prop} {i : Nat} {o : Oper} {r : List Oper} {a a' : Act} (hg : Region.wanted o (yielded ops a.tmps) = false) (he : a.put o.dst undef = a')
    (hr : Seq P ops (fun _ => S) E (i + 1) r a') : Seq P ops (fun _ => S) E i (o :: r) a :=
  ⟨undef, .inr ⟨hg, rfl, fun _ _ h _ => h⟩, he ▸ hr⟩
theorem go_end {I : (Nat → Bool) → World → Prop} {E : Act → Prop} {i : Nat} {a : Act} (h : E a) : Seq P ops I E i [] a := h
end RS
end Go.Proofs.Ytmlddefoehgofaa
/- What a call holds in memory: a list of blocks of its own, each with its cells; all below the call's start is as it was. -/
namespace Go.Proofs.Ytmlddefoehgofaa
namespace Hm
open Go.RowKit
structure Bk where
  g : Nat
  n : Nat
  F : Nat → Value
structure Ok (B : Nat) (k : Bk) (wx : World) : Prop where
  lo : B ≤ k.g
  hi : k.g < wx.heap.size
  c : ∀ o, o < k.n → wx.cell? ⟨k.g, o, none⟩ = some (k.F o)
  f : ∀ o, wx.frozen? ⟨k.g, o, none⟩ = false
structure Hd (w : World) (L : List Bk) (wx : World) : Prop where
  bel : Below w.heap.size w wx
  ok : ∀ k, k ∈ L → Ok w.heap.size k wx
/-- A word's block. -/
def W4 (g x : Nat) : Bk := ⟨g, 4, fun o => .int .u64 (dg x o)⟩
def updv (F : Nat → Value) (k : Nat) (v : Value) : Nat → Value := fun o => if o = k then v else F o
theorem Ok_below {B : Nat} {k : Bk} {w1 w2 : World} (h : Ok B k w1) (hb : Below w1.heap.size w1 w2) : Ok B k w2 :=
  ⟨h.lo, Nat.lt_of_lt_of_le h.hi hb.size, fun o ho => (hb.cell (p := ⟨k.g, o, none⟩) h.hi).trans (h.c o ho), fun o => (hb.frozen (p := ⟨k.g, o, none⟩) h.hi).trans (h.f o)⟩
theorem Ok_other {B : Nat} {k : Bk} {w1 : World} {a : Addr} {v : Value} (h : Ok B k w1) (hne : a.block ≠ k.g) : Ok B k (w1.setCell a v) :=
  ⟨h.lo, by simpa using h.hi, fun o ho => by rw [World.cell?_setCell_other w1 a _ v (fun e => hne (by rw [e]))]; exact h.c o ho, fun o => by rw [World.frozen?_setCell]; exact h.f o⟩
theorem Ok_set {B i : Nat} {k : Bk} {w1 : World} {v : Value} (h : Ok B k w1) (hi : i < k.n) : Ok B ⟨k.g, k.n, updv k.F i v⟩ (w1.setCell ⟨k.g, i, none⟩ v) :=
  ⟨h.lo, by simpa using h.hi, fun o ho => by
    unfold updv
    by_cases e : o = i
    · subst e
      have := World.cell?_setCell_same w1 ⟨k.g, o, none⟩ v (h.c o hi)
      simpa using this
    · have := World.cell?_setCell_other w1 ⟨k.g, i, none⟩ ⟨k.g, o, none⟩ v (fun e' => e (by simpa using e'.symm))
      simp only [if_neg e]
      exact this.trans (h.c o ho), fun o => by rw [World.frozen?_setCell]; exact h.f o⟩
theorem Ok_ext {B : Nat} {k : Bk} {G : Nat → Value} {w1 : World} (h : Ok B k w1) (e : ∀ o, o < k.n → k.F o = G o) : Ok B ⟨k.g, k.n, G⟩ w1 :=
  ⟨h.lo, h.hi, fun o ho => (h.c o ho).trans (congrArg some (e o ho)), h.f⟩
theorem below {w : World} {L : List Bk} {w1 w2 : World} (h : Hd w L w1) (hb : Below w1.heap.size w1 w2) : Hd w L w2 :=
  ⟨h.bel.trans (hb.mono h.bel.size), fun k hk => Ok_below (h.ok k hk) hb⟩
theorem drew {w : World} {L : List Bk} {w1 : World} (h : Hd w L w1) : Hd w L w1.drew := below h (Below.refl _ _).drew
theorem al {w : World} {L : List Bk} {w1 : World} (h : Hd w L w1) (o : Obj) : Hd w L (w1.alloc o) := below h ((Below.refl _ _).alloc (Nat.le_refl _) o)
theorem start (w : World) : Hd w [] w := ⟨Below.refl _ _, fun _ h => by cases h⟩
theorem sub {w : World} {L M : List Bk} {w1 : World} (h : Hd w L w1) (hs : ∀ k, k ∈ M → k ∈ L) : Hd w M w1 := ⟨h.bel, fun k hk => h.ok k (hs k hk)⟩
theorem new4 {w : World} {L : List Bk} {w1 : World} {g n : Nat} {T : TypeId} (h : Hd w L w1) (hg : g = w1.heap.size) : Hd w (W4 g n :: L) (w1.alloc (.cells #[.int .u64 (dg n 0), .int .u64 (dg n 1), .int .u64 (dg n 2), .int .u64 (dg n 3)] T)) := by
  subst hg
  refine ⟨(al h _).bel, fun k hk => ?_⟩
  rcases List.mem_cons.1 hk with rfl | hk
  · have v := Vb_new4 w.heap.size n w1 T h.bel.size
    exact ⟨v.lo, v.hi, v.c, v.f⟩
  · exact (al h _).ok k hk
theorem new0 {w : World} {L : List Bk} {w1 : World} {g : Nat} {T : TypeId} (h : Hd w L w1) (hg : g = w1.heap.size) : Hd w (W4 g 0 :: L) (w1.alloc (.cells #[.int .u64 0, .int .u64 0, .int .u64 0, .int .u64 0] T)) := new4 (n := 0) h hg
/-- A cell of the first block is set. -/
theorem set {w : World} {g n : Nat} {F : Nat → Value} {L : List Bk} {w1 : World} {i : Nat} {v : Value} (h : Hd w (⟨g, n, F⟩ :: L) w1) (hi : i < n) (hne : ∀ b, b ∈ L → g ≠ b.g) : Hd w (⟨g, n, updv F i v⟩ :: L) (w1.setCell ⟨g, i, none⟩ v) := by
  have h0 := h.ok _ (List.mem_cons_self ..)
  refine ⟨h.bel.setCell h0.lo _, fun b hb => ?_⟩
  rcases List.mem_cons.1 hb with rfl | hb
  · exact Ok_set h0 hi
  · exact Ok_other (h.ok b (List.mem_cons_of_mem _ hb)) (hne b hb)
theorem ext {w : World} {k : Bk} {G : Nat → Value} {L : List Bk} {w1 : World} (h : Hd w (k :: L) w1) (e : ∀ o, o < k.n → k.F o = G o) : Hd w (⟨k.g, k.n, G⟩ :: L) w1 := by
  refine ⟨h.bel, fun b hb => ?_⟩
  rcases List.mem_cons.1 hb with rfl | hb
  · exact Ok_ext (h.ok k (List.mem_cons_self ..)) e
  · exact h.ok b (List.mem_cons_of_mem _ hb)
/-- A word is laid into the first block. -/
theorem set4 {w : World} {g m : Nat} {F : Nat → Value} {L : List Bk} {w1 : World} (h : Hd w (⟨g, 4, F⟩ :: L) w1) (hne : ∀ b, b ∈ L → g ≠ b.g) : Hd w (W4 g m :: L) ((((w1.setCell ⟨g, 0, none⟩ (.int .u64 (dg m 0))).setCell ⟨g, 1, none⟩ (.int .u64 (dg m 1))).setCell ⟨g, 2, none⟩ (.int .u64 (dg m 2))).setCell ⟨g, 3, none⟩ (.int .u64 (dg m 3))) := by
  have h1 := set (i := 0) (v := .int .u64 (dg m 0)) h (by decide) hne
  have h2 := set (i := 1) (v := .int .u64 (dg m 1)) h1 (by decide) hne
  have h3 := set (i := 2) (v := .int .u64 (dg m 2)) h2 (by decide) hne
  have h4 := set (i := 3) (v := .int .u64 (dg m 3)) h3 (by decide) hne
  refine ext h4 (fun o ho => ?_)
  have : o = 0 ∨ o = 1 ∨ o = 2 ∨ o = 3 := by have : o < 4 := ho; omega
  rcases this with rfl | rfl | rfl | rfl <;> rfl
end Hm
namespace RS
open RI
variable {P : Program} {ops : Array Oper} {Q : Exit → Act → World → Prop}
/-- S till operation k is done, T from then on; k comes last. -/
def Two (S T : World → Prop) (k : Nat) (d : Nat → Bool) (w : World) : Prop := (d k = false → S w) ∧ (d k = true → T w ∧ ∀ j, j < k → d j = true)
theorem two0 {S T : World → Prop} {k : Nat} {w : World} (h : S w) : Two S T k (fun _ => false) w := ⟨fun _ => h, fun h => by cases h⟩
theorem two_step {S T : World → Prop} {k i : Nat} {o : Oper} {a : Act} {v : Value} (hik : i < k)
    (h : ∀ (K : Value → World → Prop) w, S w → (∀ w', S w' → K v w') → upv P K ((execOp a.eval o).run P w)) : ∀ (K : Value → World → Prop) d w, Two S T k d w → may ops d i → (∀ w', Two S T k (don d i) w' → K v w') → upv P K ((execOp a.eval o).run P w) := by
  intro K d w hI hmay hK
  have hdk : d k = false := by
    cases hd : d k with
    | false => rfl
    | true => have := (hI.2 hd).2 i hik; rw [hmay.1] at this; cases this
  exact h K w (hI.1 hdk) (fun w' hS' => hK w' ⟨fun _ => hS', fun h => by rw [don_other _ _ _ (by omega), hdk] at h; cases h⟩)
theorem go2 {S T : World → Prop} {k : Nat} {E : Act → Prop} {i : Nat} {o : Oper} {r : List Oper} {a a' : Act} {v : Value} (hik : i < k) (hg : o.guard = none)
    (h : ∀ (K : Value → World → Prop) w, S w → (∀ w', S w' → K v w') → upv P K ((execOp a.eval o).run P w)) (he : a.put o.dst v = a')
    (hr : Seq P ops (Two S T k) E (i + 1) r a') : Seq P ops (Two S T k) E i (o :: r) a :=
  ⟨v, .inl ⟨by simp [Region.wanted, hg], two_step hik h⟩, he ▸ hr⟩
theorem go2g {S T : World → Prop} {k : Nat} {E : Act → Prop} {i : Nat} {o : Oper} {r : List Oper} {a a' : Act} {v : Value} (hik : i < k) (hg : Region.wanted o (yielded ops a.tmps) = true)
    (h : ∀ (K : Value → World → Prop) w, S w → (∀ w', S w' → K v w') → upv P K ((execOp a.eval o).run P w)) (he : a.put o.dst v = a')
    (hr : Seq P ops (Two S T k) E (i + 1) r a') : Seq P ops (Two S T k) E i (o :: r) a :=
  ⟨v, .inl ⟨hg, two_step hik h⟩, he ▸ hr⟩
theorem go2z {S T : World → Prop} {k : Nat} {E : Act → Prop} {i : Nat} {o : Oper} {r : List Oper} {a a' : Act} (hik : i < k) (hg : Region.wanted o (yielded ops a.tmps) = false) (he : a.put o.dst undef = a')
    (hr : Seq P ops (Two S T k) E (i + 1) r a') : Seq P ops (Two S T k) E i (o :: r) a := by
  refine ⟨undef, .inr ⟨hg, rfl, fun d w hI hmay => ?_⟩, he ▸ hr⟩
  have hdk : d k = false := by
    cases hd : d k with
    | false => rfl
    | true => have := (hI.2 hd).2 i hik; rw [hmay.1] at this; cases this
  exact And.intro (fun _ => hI.1 hdk) (fun h => by rw [don_other _ _ _ (by omega), hdk] at h; cases h)
/-- The last one leads from S to T. -/
theorem go2_last {S T : World → Prop} {k : Nat} {E : Act → Prop} {o : Oper} {a a' : Act} {v : Value} (hg : o.guard = none) (hb : ((List.range k).all fun j => bindsOn o j) = true) (hk : ops[k]? = some o)
    (h : ∀ (K : Value → World → Prop) w, S w → (∀ w', T w' → K v w') → upv P K ((execOp a.eval o).run P w)) (he : a.put o.dst v = a')
    (hr : E a') : Seq P ops (Two S T k) E k [o] a := by
  refine ⟨v, .inl ⟨by simp [Region.wanted, hg], fun K d w hI hmay hK => h K w (hI.1 hmay.1) (fun w' hT => hK w' (And.intro (fun h => by rw [don_same] at h; exact absurd h (by decide)) (fun _ => And.intro hT (fun j hj => ?_))))⟩, he ▸ hr⟩
  rw [don_other _ _ _ (by omega)]
  have h1 := List.all_eq_true.1 hb j (List.mem_range.2 hj)
  unfold bindsOn at h1
  rw [Array.any_eq_true'] at h1
  obtain ⟨e, e1, e2⟩ := h1
  rw [Bool.and_eq_true, beq_iff_eq] at e2
  have h2 := hmay.2 o hk
  rw [Array.all_eq_true_iff_forall_mem] at h2
  have h3 := h2 e e1
  rw [e2.1, e2.2] at h3
  simpa using h3
theorem wp_region_two {id : Nat} {a : Act} {w : World} (S T : World → Prop) (k : Nat) (hm : P.follows .mixedOrders = true) (hok : okOps ops = true) (hk : k < ops.size) (h0 : S w.drew)
    (hs : Seq P ops (Two S T k) (fun a' => ∀ w', T w' → Q .normal a' w') 0 ops.toList a) : (Code.region id ops true).wp P Q a w := by
  refine wp_region_seq (Two S T k) hm hok (two0 h0) ?_
  have : ∀ l i a, Seq P ops (Two S T k) (fun a' => ∀ w', T w' → Q .normal a' w') i l a → Seq P ops (Two S T k) (fun a' => ∀ d w', Two S T k d w' → (∀ i, i < ops.size → d i = true) → Q .normal a' w') i l a := by
    intro l
    induction l with
    | nil => intro i a h d w' hI hall; exact h w' (hI.2 (hall k hk)).1
    | cons o r ih => intro i a h; obtain ⟨v, h1, h2⟩ := h; exact ⟨v, h1, ih _ _ h2⟩
  exact this _ _ _ hs
theorem wp_region_one {id : Nat} {a : Act} {w : World} (S : World → Prop) (hm : P.follows .mixedOrders = true) (hok : okOps ops = true) (h0 : S w.drew)
    (hs : Seq P ops (fun _ => S) (fun a' => ∀ w', S w' → Q .normal a' w') 0 ops.toList a) : (Code.region id ops true).wp P Q a w := by
  refine wp_region_seq (fun _ => S) hm hok h0 ?_
  have : ∀ l i a, Seq P ops (fun _ => S) (fun a' => ∀ w', S w' → Q .normal a' w') i l a → Seq P ops (fun _ => S) (fun a' => ∀ (d : Nat → Bool) w', S w' → (∀ i, i < ops.size → d i = true) → Q .normal a' w') i l a := by
    intro l
    induction l with
    | nil => intro i a h d w' hI _; exact h w' hI
    | cons o r ih => intro i a h; obtain ⟨v, h1, h2⟩ := h; exact ⟨v, h1, ih _ _ h2⟩
  exact this _ _ _ hs
end RS
end Go.Proofs.Ytmlddefoehgofaa
/- slices.Equal of numbers; lampbearerlaw.CodePlaces. -/
namespace Go.Proofs.Ytmlddefoehgofaa
namespace Cd
open Go.RowKit
theorem Ri_form {B : Nat} {l : List Nat} {v : Value} {w : World} (h : Ri B l v w) : ∃ ao cap, v = .slice ao l.length cap := by
  rcases h.2 with ⟨h3, h4⟩ | ⟨g, cap, cur, h3, h5⟩
  · exact ⟨none, 0, by rw [h4]; exact h3⟩
  · exact ⟨_, _, h3⟩
theorem Ri_at {B : Nat} {l : List Nat} {ao : Option Addr} {n cap : Nat} {w : World} (h : Ri B l (.slice ao n cap) w) (h0 : 0 < l.length) : ∃ g, ao = some ⟨g, 0, none⟩ ∧ g < w.heap.size ∧ ∀ j, j < l.length → w.cell? ⟨g, j, none⟩ = some (.int .i64 (l.getD j 0 : Int)) := by
  rcases h.2 with ⟨h3, h4⟩ | ⟨g, cap', cur, h3, h5⟩
  · omega
  · have h6 := h
    rw [h3] at h6
    injection h3 with e1 e2 e3
    refine ⟨g, e1, Pk.lt_of_heap h5.2.1, fun j hj => ?_⟩
    rw [h6.cellAt j (by omega)]
    simp [ics, hj]
set_option maxHeartbeats 1000000 in
set_option maxRecDepth 100000 in
theorem equal_same (l : List Nat) (n : Nat) (hn : Hid (n = l.length)) (hz : Hid (n ≤ 1048576)) (B C : Nat) (ao bo : Option Addr) (ca cb : Nat) (w : World) (ha : Hid (Ri B l (.slice ao n ca) w)) (hb : Hid (Ri C l (.slice bo n cb) w)) : Calls Try.prog 6 #[.slice ao n ca, .slice bo n cb] w fun e w' => e = .returned (.bool true) ∧ Below w.heap.size w w' := by
  go_enter Try.func6, Try.ntmps6
  go_wp2_with fail
  go_loopw [13] (fun p wr => ∃ i : Nat, i ≤ n ∧ p = .int .i64 (i : Int) ∧ Below w.heap.size w wr) (fun p _ => ((n : Int) - intOf p).toNat)
  case atStart => exact ⟨0, Nat.zero_le _, rfl, Below.refl _ _⟩
  case round =>
    obtain ⟨i, hi, rfl, hB⟩ := hrel
    by_cases hlt : i < n
    · have d0 : (0 : Int) ≤ (i : Int) := by omega
      have d1 : (i : Int) < (n : Int) := by omega
      have hil : i < l.length := by rw [← hn.out]; exact hlt
      obtain ⟨g, rfl, hg, hc⟩ := Ri_at ha.out (by omega)
      obtain ⟨h, rfl, hh, hd⟩ := Ri_at hb.out (by omega)
      have c1 := (hB.cell (p := ⟨g, i, none⟩) hg).trans (hc i hil)
      have c2 := (hB.cell (p := ⟨h, i, none⟩) hh).trans (hd i hil)
      have HB : Hid _ := hB
      have hw := stwI i n hlt (by have := hz.out; omega)
      clear hB hc hd hil
      generalize (l.getD i 0 : Int) = X at *
      have G1 : Hid (g < wr.heap.size) := Nat.lt_of_lt_of_le hg HB.out.size
      have H1 : Hid (h < wr.heap.size) := Nat.lt_of_lt_of_le hh HB.out.size
      have C1 : Hid _ := c1
      have C2 : Hid _ := c2
      clear c1 c2
      go_wp2_with fail
      refine RS.wp_region_one (fun wx => Below wr.heap.size wr wx) (by kernel_rfl) (by kernel_rfl) ((Below.refl _ _).drew) ?_
      dsimp only [List.toList_toArray]
      refine RS.go1 (v := ?_) (a' := ?_) rfl ?_ ?_ ?_
      rotate_left 2
      · intro K wx hS hK
        go_simp
        exact hK _ hS
      · simp only [Act.put, List.setIfInBounds_toArray, List.set_cons_succ, List.set_cons_zero]
        rfl
      refine RS.go1 (v := ?_) (a' := ?_) rfl ?_ ?_ ?_
      rotate_left 2
      · intro K wx hS hK
        go_simp
        exact hK _ hS
      · simp only [Act.put, List.setIfInBounds_toArray, List.set_cons_succ, List.set_cons_zero]
        rfl
      refine RS.go1 (v := ?_) (a' := ?_) rfl ?_ ?_ ?_
      rotate_left 2
      · intro K wx hS hK
        go_simp
        exact hK _ hS
      · simp only [Act.put, List.setIfInBounds_toArray, List.set_cons_succ, List.set_cons_zero]
        rfl
      refine RS.go1 (v := ?_) (a' := ?_) rfl ?_ ?_ ?_
      rotate_left 2
      · intro K wx hS hK
        have x1 := (hS.cell (p := ⟨g, i, none⟩) G1.out).trans C1.out
        go_simp
        exact hK _ hS
      · simp only [Act.put, List.setIfInBounds_toArray, List.set_cons_succ, List.set_cons_zero]
        rfl
      refine RS.go1 (v := ?_) (a' := ?_) rfl ?_ ?_ ?_
      rotate_left 2
      · intro K wx hS hK
        go_simp
        exact hK _ hS
      · simp only [Act.put, List.setIfInBounds_toArray, List.set_cons_succ, List.set_cons_zero]
        rfl
      refine RS.go1 (v := ?_) (a' := ?_) rfl ?_ ?_ ?_
      rotate_left 2
      · intro K wx hS hK
        go_simp
        exact hK _ hS
      · simp only [Act.put, List.setIfInBounds_toArray, List.set_cons_succ, List.set_cons_zero]
        rfl
      refine RS.go1 (v := ?_) (a' := ?_) rfl ?_ ?_ ?_
      rotate_left 2
      · intro K wx hS hK
        go_simp
        exact hK _ hS
      · simp only [Act.put, List.setIfInBounds_toArray, List.set_cons_succ, List.set_cons_zero]
        rfl
      refine RS.go1 (v := ?_) (a' := ?_) rfl ?_ ?_ ?_
      rotate_left 2
      · intro K wx hS hK
        have x2 := (hS.cell (p := ⟨h, i, none⟩) H1.out).trans C2.out
        go_simp
        exact hK _ hS
      · simp only [Act.put, List.setIfInBounds_toArray, List.set_cons_succ, List.set_cons_zero]
        rfl
      refine RS.go1 (v := ?_) (a' := ?_) rfl ?_ ?_ ?_
      rotate_left 2
      · intro K wx hS hK
        go_simp
        exact hK _ hS
      · simp only [Act.put, List.setIfInBounds_toArray, List.set_cons_succ, List.set_cons_zero]
        rfl
      refine RS.go_end ?_
      intro w9 h9
      have H9 : Hid (Below w.heap.size w w9) := HB.out.trans (h9.mono HB.out.size)
      clear h9
      go_wp2_with fail
      go_roundw
      case rel => exact ⟨i + 1, hlt, by rw [hw.out]; rfl, H9.out⟩
      case measure => rw [hw.out]; exact stmI i n (i + 1) hlt (by omega)
    · have ek : i = n := by omega
      subst ek
      have HB : Hid _ := hB
      have d0 : ¬ (i : Int) < (i : Int) := by omega
      clear hB
      go_wp2_with fail
      go_ret
      exact ⟨rfl, HB.out⟩
set_option maxHeartbeats 1000000 in
set_option maxRecDepth 100000 in
theorem law_places (c : List UInt8) (n : Nat) (hn : Hid (n = c.length)) (hz : Hid (n ≤ 1048576)) (ao : Option Addr) (cap : Nat) (pc : Int) (w : World) (hv : Hid (Sp.Vw c ao w)) : Calls Try.prog 3 #[.slice ao n cap, .int .i64 pc] w fun e w' => e = .returned (.bool true) ∧ Below w.heap.size w w' := by
  have hz4 : Hid (n ≤ 4194304) := by show _ ≤ _; have := hz.out; omega
  have hl : Hid ((st c n).1.length ≤ 1048576) := by show _ ≤ _; have := st_le c n; have := hz.out; omega
  have K1 : Hid (∀ W : World, Below w.heap.size w W → Calls Try.prog 4 #[.slice ao n cap, .int .i64 pc] W fun e w' => e = .returned (.int .i64 (nx c pc : Int)) ∧ Below W.heap.size W w') := fun W hb => next_any c n hn hz4 ao cap pc W (Sp.Vw_below hv.out hb)
  have K2 : Hid (∀ W : World, Below w.heap.size w W → Calls Try.prog 5 #[.slice ao n cap, .int .i64 pc] W fun e w' => e = .returned (.int .i64 (nx c pc : Int)) ∧ Below W.heap.size W w') := fun W hb => lnext_any c n hn hz4 ao cap pc W (Sp.Vw_below hv.out hb)
  have K3 : Hid (∀ W : World, Below w.heap.size w W → Calls Try.prog 7 #[.slice ao n cap] W fun e w' => ∃ v, e = .returned v ∧ Ri W.heap.size (st c n).1 v w' ∧ Below W.heap.size W w') := fun W hb => landings_any c n hn hz ao cap W (Sp.Vw_below hv.out hb)
  have K4 : Hid (∀ W : World, Below w.heap.size w W → Calls Try.prog 8 #[.slice ao n cap] W fun e w' => ∃ v, e = .returned v ∧ Ri W.heap.size (st c n).1 v w' ∧ Below W.heap.size W w') := fun W hb => llandings_any c n hn hz ao cap W (Sp.Vw_below hv.out hb)
  obtain ⟨L, hL⟩ : ∃ L, Hid ((st c n).1 = L) := ⟨_, rfl⟩
  rw [hL.out] at K3 K4 hl
  obtain ⟨m, hm⟩ : ∃ m, Hid (m = L.length) := ⟨_, rfl⟩
  generalize nx c pc = X at *
  clear hv hz4
  go_enter Try.func3, Try.ntmps3
  go_wp2_with fail
  refine (K1.out w (Below.refl _ _)).mono ?_
  rintro e w1 ⟨rfl, b1⟩
  have B1 : Hid _ := b1
  clear b1 K1
  go_wp2_with fail
  refine (K2.out w1 B1.out).mono ?_
  rintro e w2 ⟨rfl, b2⟩
  have B2 : Hid (Below w.heap.size w w2) := B1.out.trans (b2.mono B1.out.size)
  clear b2 B1 K2
  go_wp2_with fail
  refine (K3.out w2 B2.out).mono ?_
  rintro e w3 ⟨v3, rfl, r3, b3⟩
  obtain ⟨a3, c3, e3⟩ := Ri_form r3
  rw [← hm.out] at e3
  subst e3
  have B3 : Hid (Below w.heap.size w w3) := B2.out.trans (b3.mono B2.out.size)
  have R3 : Hid _ := r3
  clear b3 B2 K3 r3
  go_wp2_with fail
  refine (K4.out w3 B3.out).mono ?_
  rintro e w4 ⟨v4, rfl, r4, b4⟩
  obtain ⟨a4, c4, e4⟩ := Ri_form r4
  rw [← hm.out] at e4
  subst e4
  have B4 : Hid (Below w.heap.size w w4) := B3.out.trans (b4.mono B3.out.size)
  have KE : Hid (Calls Try.prog 6 #[.slice a3 m c3, .slice a4 m c4] w4 fun e w' => e = .returned (.bool true) ∧ Below w4.heap.size w4 w') := equal_same L m hm (by show _ ≤ _; rw [hm.out]; exact hl.out) _ _ a3 a4 c3 c4 w4 (Ri_below R3.out b4) r4
  clear b4 B3 K4 r4 R3
  go_wp2_with fail
  refine KE.out.mono ?_
  rintro e w5 ⟨rfl, b5⟩
  have B5 : Hid (Below w.heap.size w w5) := B4.out.trans (b5.mono B4.out.size)
  clear b5 B4 KE
  go_wp2_with fail
  go_ret
  exact ⟨rfl, B5.out⟩
end Cd
end Go.Proofs.Ytmlddefoehgofaa
/- Bytes that came in. -/
namespace Go.Proofs.Ytmlddefoehgofaa
namespace Sp
open Go.ChangeShapes Go.WideShapes Go.ChangeAt Go.RowKit Go.Joins
theorem ownK : ownKnob Try.prog.godebug = none := by kernel_rfl
theorem laidOutK : laidOutB Try.prog = true := by kernel_rfl
theorem cellsU8 : Try.prog.cellsOf 5 = 1 := by kernel_rfl
theorem bytesU8 : Try.prog.bytesOf 5 = 1 := by kernel_rfl
/-- Numbers as bytes. -/
def ub (zs : List Int) : List UInt8 := zs.map fun z => UInt8.ofNat z.toNat
theorem ub_length (zs : List Int) : (ub zs).length = zs.length := by simp [ub]
theorem ub_bz (zs : List Int) (hz : ∀ z ∈ zs, 0 ≤ z ∧ z < 256) (j : Nat) (h : j < zs.length) : bz (ub zs) j = zs.getD j 0 := by
  have hm := hz zs[j] (List.getElem_mem h)
  have h2 : j < (ub zs).length := by rw [ub_length]; exact h
  unfold bz
  rw [List.getD_eq_getElem?_getD, List.getD_eq_getElem?_getD, List.getElem?_eq_getElem h2, List.getElem?_eq_getElem h]
  simp only [Option.getD_some, ub, List.getElem_map, UInt8.toNat_ofNat']
  omega
set_option maxRecDepth 100000 in
theorem open_bytes {H : Type} {enc : TypeId × Value → H} {W : World} {r : Reach} {b0 : Nat} {v : Value} {d : DataW H} {p : List MemPlace}
    (hv : Value.okWide Try.prog W r b0 22 v) (h : DataW.Trod enc Try.prog W 0 (fun _ => true) true 22 v d p) :
    ∃ (l : List UInt8) (ao : Option Addr) (cap : Nat), v = .slice ao l.length cap ∧ l.length ≤ cap ∧ Vw l ao W ∧ (l = [] ∨ ∃ elems spare, d = .slice elems spare ∧ elems.length = l.length) := by
  obtain ⟨a0, len, cap, rfl⟩ := okWide_slice Try.underlying22 hv
  obtain ⟨fuel, hf⟩ := h
  rcases open_ints Try.underlying22 Try.underlying5 cellsU8 hf with ⟨hcs, hx⟩ | ⟨a, len', cap', zs, hcs, _, hl, hm, hz, hx, hcell, hwz⟩
  · simp [Value.cells] at hcs
    obtain ⟨rfl, rfl, rfl⟩ := hcs
    exact ⟨[], none, 0, rfl, Nat.le_refl _, Vw_nil _ _, .inl rfl⟩
  · simp [Value.cells] at hcs
    obtain ⟨rfl, rfl, rfl⟩ := hcs
    simp only [if_true] at hz
    have hb : ∀ z ∈ zs, 0 ≤ z ∧ z < 256 := fun z hz' => by have := bounds_u8 (hwz z hz'); omega
    have hb' : ∀ z ∈ zs.take len, 0 ≤ z ∧ z < 256 := fun z hz' => hb z (List.mem_of_mem_take hz')
    have hlt : (ub (zs.take len)).length = len := by rw [ub_length, List.length_take]; omega
    simp only [Prod.mk.injEq] at hx
    refine ⟨ub (zs.take len), some a, cap, by rw [hlt], by rw [hlt]; exact hl, ?_, .inr ⟨_, _, hx.1, by simp [lits, hlt]; omega⟩⟩
    intro h0
    rw [hlt] at h0
    obtain ⟨b, off, rfl, hc⟩ := ints_at hcell (by omega)
    refine ⟨b, off, rfl, ?_, fun j hj => ?_⟩
    · exact World.block_lt_of_cell? W ⟨b, off + 0, none⟩ (hc 0 (by omega))
    · rw [hlt] at hj
      rw [hc j (by omega), ub_bz _ hb' j (by rw [List.length_take]; omega)]
      simp [List.getD_eq_getElem?_getD, hj]
end Sp
end Go.Proofs.Ytmlddefoehgofaa
/- A slice of bytes that came in: its room too. -/
namespace Go.Proofs.Ytmlddefoehgofaa
namespace Sp
open Go.ChangeShapes Go.WideShapes Go.ChangeAt Go.RowKit
set_option maxRecDepth 100000 in
theorem open_bytes2 {H : Type} {enc : TypeId × Value → H} {W : World} {r : Reach} {b0 : Nat} {v : Value} {d : DataW H} {p : List MemPlace}
    (hv : Value.okWide Try.prog W r b0 22 v) (h : DataW.Trod enc Try.prog W 0 (fun _ => true) true 22 v d p) :
    ∃ (l : List UInt8) (ao : Option Addr) (cap : Nat), v = .slice ao l.length cap ∧ l.length ≤ cap ∧ (cap : Int) ≤ 9223372036854775807 ∧ Vw l ao W ∧ (l = [] ∨ ∃ elems spare, d = .slice elems spare ∧ elems.length = l.length) := by
  obtain ⟨l, ao, cap, rfl, h1, h2, h3⟩ := open_bytes hv h
  refine ⟨l, ao, cap, rfl, h1, ?_, h2, h3⟩
  obtain ⟨fuel, hf⟩ := h
  rcases open_ints Try.underlying22 Try.underlying5 cellsU8 hf with ⟨hcs, _⟩ | ⟨a, len', cap', zs, hcs, _, _, hm, _⟩
  · simp [Value.cells] at hcs
    omega
  · simp [Value.cells] at hcs
    obtain ⟨_, _, rfl⟩ := hcs
    unfold maxLen at hm
    omega
end Sp
end Go.Proofs.Ytmlddefoehgofaa
