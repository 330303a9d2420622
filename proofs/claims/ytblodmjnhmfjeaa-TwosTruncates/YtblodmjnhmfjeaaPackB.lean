/- Variables of a call's own in memory: what they hold, and what leaves them alone. -/
import Derived.Test.YtblodmjnhmfjeaaPackA
import Derived.ProofKit
import Derived.OpenShut
import Derived.ShutString
import Derived.ChangeOld
import Derived.Laws.IdiomArrays
import Derived.Lib.SmallJoins
import Derived.Orders
import Derived.WalkKit
namespace Go.Proofs.Ytblodmjnhmfjeaa
open Go.RowKit Go.Shelf
theorem CF_al {g n : Nat} {F : Nat → Int} {w : World} (h : CF g n F w) (hg : g < w.heap.size) (o : Obj) : CF g n F (w.alloc o) := CF_below h ((Below.refl _ _).alloc (Nat.le_refl _) o) hg
/-- Block g is the call's own, is not frozen, and its first n cells are F's. -/
structure Vb (B g n : Nat) (F : Nat → Int) (wx : World) : Prop where
  lo : B ≤ g
  hi : g < wx.heap.size
  c : CF g n F wx
  f : Fz g wx
theorem Vb_below {B g n : Nat} {F : Nat → Int} {w1 w2 : World} (h : Vb B g n F w1) (hb : Below w1.heap.size w1 w2) : Vb B g n F w2 := ⟨h.lo, Nat.lt_of_lt_of_le h.hi hb.size, CF_below h.c hb h.hi, Fz_below h.f hb h.hi⟩
theorem Vb_al {B g n : Nat} {F : Nat → Int} {w1 : World} (h : Vb B g n F w1) (o : Obj) : Vb B g n F (w1.alloc o) := Vb_below h ((Below.refl _ _).alloc (Nat.le_refl _) o)
theorem Vb_drew {B g n : Nat} {F : Nat → Int} {w1 : World} (h : Vb B g n F w1) : Vb B g n F w1.drew := Vb_below h (Below.refl _ _).drew
theorem Vb_gb {B g n k : Nat} {F : Nat → Int} {w1 w2 : World} (h : Vb B g n F w1) (hb : w1.grownBy w2 (some k)) (hne : g ≠ k) : Vb B g n F w2 := ⟨h.lo, Nat.lt_of_lt_of_le h.hi hb.size, CF_gb h.c hb hne h.hi, Fz_gb h.f hb hne h.hi⟩
theorem Vb_other {B g n : Nat} {F : Nat → Int} {w1 : World} {a : Addr} {v : Value} (h : Vb B g n F w1) (hne : a.block ≠ g) : Vb B g n F (w1.setCell a v) := ⟨h.lo, by simpa using h.hi, CF_other h.c hne, Fz_set h.f⟩
theorem Vb_set {B g n k : Nat} {F : Nat → Int} {w1 : World} {v : Int} (h : Vb B g n F w1) (hk : k < n) : Vb B g n (upd F k v) (w1.setCell ⟨g, k, none⟩ (.int .u64 v)) := ⟨h.lo, by simpa using h.hi, CF_set h.c hk, Fz_set h.f⟩
theorem Vb_set4 {B g m : Nat} {F : Nat → Int} {w1 : World} (h : Vb B g 4 F w1) : Vb B g 4 (dg m) ((((w1.setCell ⟨g, 0, none⟩ (.int .u64 (dg m 0))).setCell ⟨g, 1, none⟩ (.int .u64 (dg m 1))).setCell ⟨g, 2, none⟩ (.int .u64 (dg m 2))).setCell ⟨g, 3, none⟩ (.int .u64 (dg m 3))) := by
  have k := Vb_set (v := dg m 3) (Vb_set (v := dg m 2) (Vb_set (v := dg m 1) (Vb_set (v := dg m 0) h (show 0 < 4 by omega)) (show 1 < 4 by omega)) (show 2 < 4 by omega)) (show 3 < 4 by omega)
  refine ⟨k.lo, k.hi, CF_ext k.c fun o ho => ?_, k.f⟩
  have : o = 0 ∨ o = 1 ∨ o = 2 ∨ o = 3 := by omega
  rcases this with rfl | rfl | rfl | rfl <;> simp [upd]
theorem Vb_set8 {B g m : Nat} {F : Nat → Int} {w1 : World} (h : Vb B g 8 F w1) : Vb B g 8 (dg m) ((((((((w1.setCell ⟨g, 0, none⟩ (.int .u64 (dg m 0))).setCell ⟨g, 1, none⟩ (.int .u64 (dg m 1))).setCell ⟨g, 2, none⟩ (.int .u64 (dg m 2))).setCell ⟨g, 3, none⟩ (.int .u64 (dg m 3))).setCell ⟨g, 4, none⟩ (.int .u64 (dg m 4))).setCell ⟨g, 5, none⟩ (.int .u64 (dg m 5))).setCell ⟨g, 6, none⟩ (.int .u64 (dg m 6))).setCell ⟨g, 7, none⟩ (.int .u64 (dg m 7))) := ⟨h.lo, by simpa using h.hi, C8_set h.c, Fz_set (Fz_set (Fz_set (Fz_set (Fz_set (Fz_set (Fz_set (Fz_set h.f)))))))⟩
theorem Vb_o4 {B g n k m : Nat} {F : Nat → Int} {w1 : World} (h : Vb B g n F w1) (hne : k ≠ g) : Vb B g n F ((((w1.setCell ⟨k, 0, none⟩ (.int .u64 (dg m 0))).setCell ⟨k, 1, none⟩ (.int .u64 (dg m 1))).setCell ⟨k, 2, none⟩ (.int .u64 (dg m 2))).setCell ⟨k, 3, none⟩ (.int .u64 (dg m 3))) := Vb_other (Vb_other (Vb_other (Vb_other h hne) hne) hne) hne
theorem Vb_o8 {B g n k m : Nat} {F : Nat → Int} {w1 : World} (h : Vb B g n F w1) (hne : k ≠ g) : Vb B g n F ((((((((w1.setCell ⟨k, 0, none⟩ (.int .u64 (dg m 0))).setCell ⟨k, 1, none⟩ (.int .u64 (dg m 1))).setCell ⟨k, 2, none⟩ (.int .u64 (dg m 2))).setCell ⟨k, 3, none⟩ (.int .u64 (dg m 3))).setCell ⟨k, 4, none⟩ (.int .u64 (dg m 4))).setCell ⟨k, 5, none⟩ (.int .u64 (dg m 5))).setCell ⟨k, 6, none⟩ (.int .u64 (dg m 6))).setCell ⟨k, 7, none⟩ (.int .u64 (dg m 7))) := Vb_other (Vb_other (Vb_other (Vb_other (Vb_other (Vb_other (Vb_other (Vb_other h hne) hne) hne) hne) hne) hne) hne) hne
theorem Vb_new4 (B n : Nat) (w1 : World) (T : TypeId) (hB : B ≤ w1.heap.size) : Vb B w1.heap.size 4 (dg n) (w1.alloc (.cells #[.int .u64 (dg n 0), .int .u64 (dg n 1), .int .u64 (dg n 2), .int .u64 (dg n 3)] T)) := ⟨hB, by simp, C4_alloc n w1 T, Fz_alloc w1 _ T⟩
theorem Vb_new0 (B : Nat) (w1 : World) (T : TypeId) (hB : B ≤ w1.heap.size) : Vb B w1.heap.size 4 (dg 0) (w1.alloc (.cells #[.int .u64 0, .int .u64 0, .int .u64 0, .int .u64 0] T)) := Vb_new4 B 0 w1 T hB
theorem Vb_new8 (B n : Nat) (w1 : World) (T : TypeId) (hB : B ≤ w1.heap.size) : Vb B w1.heap.size 8 (dg n) (w1.alloc (.cells #[.int .u64 (dg n 0), .int .u64 (dg n 1), .int .u64 (dg n 2), .int .u64 (dg n 3), .int .u64 (dg n 4), .int .u64 (dg n 5), .int .u64 (dg n 6), .int .u64 (dg n 7)] T)) := ⟨hB, by simp, fun o ho => by
  have : o = 0 ∨ o = 1 ∨ o = 2 ∨ o = 3 ∨ o = 4 ∨ o = 5 ∨ o = 6 ∨ o = 7 := by omega
  rcases this with rfl | rfl | rfl | rfl | rfl | rfl | rfl | rfl <;> simp, Fz_alloc w1 _ T⟩
theorem Vb_new8e {B n g : Nat} {w1 : World} {T : TypeId} (hg : g = w1.heap.size) (hB : B ≤ g) : Vb B g 8 (dg n) (w1.alloc (.cells #[.int .u64 (dg n 0), .int .u64 (dg n 1), .int .u64 (dg n 2), .int .u64 (dg n 3), .int .u64 (dg n 4), .int .u64 (dg n 5), .int .u64 (dg n 6), .int .u64 (dg n 7)] T)) := by subst hg; exact Vb_new8 B n w1 T hB
theorem Vb_new4e {B n g : Nat} {w1 : World} {T : TypeId} (hg : g = w1.heap.size) (hB : B ≤ g) : Vb B g 4 (dg n) (w1.alloc (.cells #[.int .u64 (dg n 0), .int .u64 (dg n 1), .int .u64 (dg n 2), .int .u64 (dg n 3)] T)) := by subst hg; exact Vb_new4 B n w1 T hB
theorem Vb_new80 (B : Nat) (w1 : World) (T : TypeId) (hB : B ≤ w1.heap.size) : Vb B w1.heap.size 8 (dg 0) (w1.alloc (.cells #[.int .u64 0, .int .u64 0, .int .u64 0, .int .u64 0, .int .u64 0, .int .u64 0, .int .u64 0, .int .u64 0] T)) := by
  have k := Vb_new8 B 0 w1 T hB
  simp only [dg_zero] at k
  exact k
theorem Vb_new80e {B g : Nat} {w1 : World} {T : TypeId} (hg : g = w1.heap.size) (hB : B ≤ g) : Vb B g 8 (dg 0) (w1.alloc (.cells #[.int .u64 0, .int .u64 0, .int .u64 0, .int .u64 0, .int .u64 0, .int .u64 0, .int .u64 0, .int .u64 0] T)) := by subst hg; exact Vb_new80 B w1 T hB
theorem Vb_new0e {B g : Nat} {w1 : World} {T : TypeId} (hg : g = w1.heap.size) (hB : B ≤ g) : Vb B g 4 (dg 0) (w1.alloc (.cells #[.int .u64 0, .int .u64 0, .int .u64 0, .int .u64 0] T)) := by subst hg; exact Vb_new0 B w1 T hB
theorem Bel_set8 {h m B : Nat} {w w1 : World} (c : Below B w w1) (hB : B ≤ h) : Below B w ((((((((w1.setCell ⟨h, 0, none⟩ (.int .u64 (dg m 0))).setCell ⟨h, 1, none⟩ (.int .u64 (dg m 1))).setCell ⟨h, 2, none⟩ (.int .u64 (dg m 2))).setCell ⟨h, 3, none⟩ (.int .u64 (dg m 3))).setCell ⟨h, 4, none⟩ (.int .u64 (dg m 4))).setCell ⟨h, 5, none⟩ (.int .u64 (dg m 5))).setCell ⟨h, 6, none⟩ (.int .u64 (dg m 6))).setCell ⟨h, 7, none⟩ (.int .u64 (dg m 7))) := (((((((c.setCell hB _).setCell hB _).setCell hB _).setCell hB _).setCell hB _).setCell hB _).setCell hB _).setCell hB _
theorem K_other {g n : Nat} {F : Nat → Int} {w : World} {a : Addr} {v : Value} (h : ∀ o, o < n → w.cell? ⟨g, o, none⟩ = some (.int .u64 (F o))) (hne : a.block ≠ g) : ∀ o, o < n → (w.setCell a v).cell? ⟨g, o, none⟩ = some (.int .u64 (F o)) := CF_other h hne
theorem K_drew {g n : Nat} {F : Nat → Int} {w : World} (h : ∀ o, o < n → w.cell? ⟨g, o, none⟩ = some (.int .u64 (F o))) : ∀ o, o < n → w.drew.cell? ⟨g, o, none⟩ = some (.int .u64 (F o)) := h
theorem K_al {g n : Nat} {F : Nat → Int} {w : World} (h : ∀ o, o < n → w.cell? ⟨g, o, none⟩ = some (.int .u64 (F o))) (hg : g < w.heap.size) (x : Obj) : ∀ o, o < n → (w.alloc x).cell? ⟨g, o, none⟩ = some (.int .u64 (F o)) := CF_al h hg x
theorem K_o4 {g n k m : Nat} {F : Nat → Int} {w : World} (h : ∀ o, o < n → w.cell? ⟨g, o, none⟩ = some (.int .u64 (F o))) (hne : k ≠ g) : ∀ o, o < n → ((((w.setCell ⟨k, 0, none⟩ (.int .u64 (dg m 0))).setCell ⟨k, 1, none⟩ (.int .u64 (dg m 1))).setCell ⟨k, 2, none⟩ (.int .u64 (dg m 2))).setCell ⟨k, 3, none⟩ (.int .u64 (dg m 3))).cell? ⟨g, o, none⟩ = some (.int .u64 (F o)) := CF_other (CF_other (CF_other (CF_other h hne) hne) hne) hne
theorem K_o8 {g n k m : Nat} {F : Nat → Int} {w : World} (h : ∀ o, o < n → w.cell? ⟨g, o, none⟩ = some (.int .u64 (F o))) (hne : k ≠ g) : ∀ o, o < n → ((((((((w.setCell ⟨k, 0, none⟩ (.int .u64 (dg m 0))).setCell ⟨k, 1, none⟩ (.int .u64 (dg m 1))).setCell ⟨k, 2, none⟩ (.int .u64 (dg m 2))).setCell ⟨k, 3, none⟩ (.int .u64 (dg m 3))).setCell ⟨k, 4, none⟩ (.int .u64 (dg m 4))).setCell ⟨k, 5, none⟩ (.int .u64 (dg m 5))).setCell ⟨k, 6, none⟩ (.int .u64 (dg m 6))).setCell ⟨k, 7, none⟩ (.int .u64 (dg m 7))).cell? ⟨g, o, none⟩ = some (.int .u64 (F o)) := CF_other (CF_other (CF_other (CF_other (CF_other (CF_other (CF_other (CF_other h hne) hne) hne) hne) hne) hne) hne) hne
/-- Four words in a row, from block B on: two handed in, two still 0. -/
structure M4 (w : World) (x0 x1 x2 x3 : Nat) (wx : World) : Prop where
  v0 : Vb w.heap.size w.heap.size 4 (dg x0) wx
  v1 : Vb w.heap.size (w.heap.size + 1) 4 (dg x1) wx
  v2 : Vb w.heap.size (w.heap.size + 1 + 1) 4 (dg x2) wx
  v3 : Vb w.heap.size (w.heap.size + 1 + 1 + 1) 4 (dg x3) wx
  bel : Below w.heap.size w wx
theorem M4_below {w : World} {x0 x1 x2 x3 : Nat} {w1 w2 : World} (h : M4 w x0 x1 x2 x3 w1) (k : Below w1.heap.size w1 w2) : M4 w x0 x1 x2 x3 w2 := ⟨Vb_below h.v0 k, Vb_below h.v1 k, Vb_below h.v2 k, Vb_below h.v3 k, h.bel.trans (k.mono (Nat.le_of_lt h.v0.hi))⟩
theorem M4_al {w : World} {x0 x1 x2 x3 : Nat} {w1 : World} (h : M4 w x0 x1 x2 x3 w1) (o : Obj) : M4 w x0 x1 x2 x3 (w1.alloc o) := M4_below h ((Below.refl _ _).alloc (Nat.le_refl _) o)
theorem M4_drew {w : World} {x0 x1 x2 x3 : Nat} {w1 : World} (h : M4 w x0 x1 x2 x3 w1) : M4 w x0 x1 x2 x3 w1.drew := M4_below h (Below.refl _ _).drew
theorem M4_start (w : World) (a b : Nat) (T : TypeId) : M4 w a b 0 0 ((((w.alloc (.cells #[.int .u64 (dg a 0), .int .u64 (dg a 1), .int .u64 (dg a 2), .int .u64 (dg a 3)] T)).alloc (.cells #[.int .u64 (dg b 0), .int .u64 (dg b 1), .int .u64 (dg b 2), .int .u64 (dg b 3)] T)).alloc (.cells #[.int .u64 0, .int .u64 0, .int .u64 0, .int .u64 0] T)).alloc (.cells #[.int .u64 0, .int .u64 0, .int .u64 0, .int .u64 0] T)) := by
  have e1 : ∀ o, (w.alloc o).heap.size = w.heap.size + 1 := fun o => by simp
  have e2 : ∀ o p, ((w.alloc o).alloc p).heap.size = w.heap.size + 1 + 1 := fun o p => by simp
  have e3 : ∀ o p q, (((w.alloc o).alloc p).alloc q).heap.size = w.heap.size + 1 + 1 + 1 := fun o p q => by simp
  refine ⟨Vb_al (Vb_al (Vb_al (Vb_new4 _ a w T (Nat.le_refl _)) _) _) _, ?_, ?_, ?_, ?_⟩
  · have k := Vb_al (Vb_al (Vb_new4 w.heap.size b (w.alloc (.cells #[.int .u64 (dg a 0), .int .u64 (dg a 1), .int .u64 (dg a 2), .int .u64 (dg a 3)] T)) T (by simp)) (.cells #[.int .u64 0, .int .u64 0, .int .u64 0, .int .u64 0] T)) (.cells #[.int .u64 0, .int .u64 0, .int .u64 0, .int .u64 0] T)
    rw [e1] at k; exact k
  · have k := Vb_al (Vb_new0 w.heap.size ((w.alloc (.cells #[.int .u64 (dg a 0), .int .u64 (dg a 1), .int .u64 (dg a 2), .int .u64 (dg a 3)] T)).alloc (.cells #[.int .u64 (dg b 0), .int .u64 (dg b 1), .int .u64 (dg b 2), .int .u64 (dg b 3)] T)) T (by simp <;> omega)) (.cells #[.int .u64 0, .int .u64 0, .int .u64 0, .int .u64 0] T)
    rw [e2] at k; exact k
  · have k := Vb_new0 w.heap.size (((w.alloc (.cells #[.int .u64 (dg a 0), .int .u64 (dg a 1), .int .u64 (dg a 2), .int .u64 (dg a 3)] T)).alloc (.cells #[.int .u64 (dg b 0), .int .u64 (dg b 1), .int .u64 (dg b 2), .int .u64 (dg b 3)] T)).alloc (.cells #[.int .u64 0, .int .u64 0, .int .u64 0, .int .u64 0] T)) T (by simp <;> omega)
    rw [e3] at k; exact k
  · repeat (first | exact Below.refl _ _ | refine Below.alloc ?_ (by simp <;> omega) _)
theorem M4_o8 {w : World} {x0 x1 x2 x3 k m : Nat} {w1 : World} (h : M4 w x0 x1 x2 x3 w1) (hk : w.heap.size + 1 + 1 + 1 < k) : M4 w x0 x1 x2 x3 ((((((((w1.setCell ⟨k, 0, none⟩ (.int .u64 (dg m 0))).setCell ⟨k, 1, none⟩ (.int .u64 (dg m 1))).setCell ⟨k, 2, none⟩ (.int .u64 (dg m 2))).setCell ⟨k, 3, none⟩ (.int .u64 (dg m 3))).setCell ⟨k, 4, none⟩ (.int .u64 (dg m 4))).setCell ⟨k, 5, none⟩ (.int .u64 (dg m 5))).setCell ⟨k, 6, none⟩ (.int .u64 (dg m 6))).setCell ⟨k, 7, none⟩ (.int .u64 (dg m 7))) := ⟨Vb_o8 h.v0 (by omega), Vb_o8 h.v1 (by omega), Vb_o8 h.v2 (by omega), Vb_o8 h.v3 (by omega), Bel_set8 h.bel (by omega)⟩
theorem M4_o4 {w : World} {x0 x1 x2 x3 k m : Nat} {w1 : World} (h : M4 w x0 x1 x2 x3 w1) (hk : w.heap.size + 1 + 1 + 1 < k) : M4 w x0 x1 x2 x3 ((((w1.setCell ⟨k, 0, none⟩ (.int .u64 (dg m 0))).setCell ⟨k, 1, none⟩ (.int .u64 (dg m 1))).setCell ⟨k, 2, none⟩ (.int .u64 (dg m 2))).setCell ⟨k, 3, none⟩ (.int .u64 (dg m 3))) := ⟨Vb_o4 h.v0 (by omega), Vb_o4 h.v1 (by omega), Vb_o4 h.v2 (by omega), Vb_o4 h.v3 (by omega), Bel_set4 h.bel (by omega)⟩
theorem M4_set3 {w : World} {x0 x1 x2 x3 m : Nat} {w1 : World} (h : M4 w x0 x1 x2 x3 w1) : M4 w x0 x1 x2 m ((((w1.setCell ⟨w.heap.size + 1 + 1 + 1, 0, none⟩ (.int .u64 (dg m 0))).setCell ⟨w.heap.size + 1 + 1 + 1, 1, none⟩ (.int .u64 (dg m 1))).setCell ⟨w.heap.size + 1 + 1 + 1, 2, none⟩ (.int .u64 (dg m 2))).setCell ⟨w.heap.size + 1 + 1 + 1, 3, none⟩ (.int .u64 (dg m 3))) := ⟨Vb_o4 h.v0 (by omega), Vb_o4 h.v1 (by omega), Vb_o4 h.v2 (by omega), Vb_set4 h.v3, Bel_set4 h.bel (by omega)⟩
theorem M4_set2 {w : World} {x0 x1 x2 x3 m : Nat} {w1 : World} (h : M4 w x0 x1 x2 x3 w1) : M4 w x0 x1 m x3 ((((w1.setCell ⟨w.heap.size + 1 + 1, 0, none⟩ (.int .u64 (dg m 0))).setCell ⟨w.heap.size + 1 + 1, 1, none⟩ (.int .u64 (dg m 1))).setCell ⟨w.heap.size + 1 + 1, 2, none⟩ (.int .u64 (dg m 2))).setCell ⟨w.heap.size + 1 + 1, 3, none⟩ (.int .u64 (dg m 3))) := ⟨Vb_o4 h.v0 (by omega), Vb_o4 h.v1 (by omega), Vb_set4 h.v2, Vb_o4 h.v3 (by omega), Bel_set4 h.bel (by omega)⟩
end Go.Proofs.Ytblodmjnhmfjeaa
/- A word that came in: its four parts make a number below 2^256. -/
namespace Go.Proofs.Ytblodmjnhmfjeaa
open Go.ChangeShapes Go.WideShapes Go.ChangeAt Go.RowKit Go.Joins
theorem Try.own : ownKnob Try.prog.godebug = none := by kernel_rfl
theorem Try.laidOut : laidOutB Try.prog = true := by kernel_rfl
theorem Try.cellsWord : Try.prog.cellsOf 24 = 4 := by kernel_rfl
theorem wd_parts (p q r s : Int) (hp : 0 ≤ p ∧ p < 18446744073709551616) (hq : 0 ≤ q ∧ q < 18446744073709551616) (hr : 0 ≤ r ∧ r < 18446744073709551616) (hs : 0 ≤ s ∧ s < 18446744073709551616) : ∃ n : Nat, n < 2 ^ 256 ∧ Value.agg #[.int .u64 p, .int .u64 q, .int .u64 r, .int .u64 s] = Wd n := by
  refine ⟨(p + q * 18446744073709551616 + r * 340282366920938463463374607431768211456 + s * 6277101735386680763835789423207666416102355444464034512896).toNat, by omega, wd_of ?_ ?_ ?_ ?_⟩
  · rw [dg0]; omega
  · rw [dg1]; omega
  · rw [dg2]; omega
  · rw [dg3]; omega
theorem okWide_array {P : Program} {w : World} {r : Reach} {base : Nat} {t e : TypeId} {n : Nat} {v : Value} (ht : P.underlying t = some (.array n e)) (h : Value.okWide P w r base t v) : ∃ cs, v = .agg cs ∧ cs.size = P.cellsOf t := by
  simp only [Value.okWide, ht] at h
  obtain ⟨cs, h1, h2, _⟩ := h
  exact ⟨cs, h1, h2⟩
theorem open_word {H : Type} {enc : TypeId × Value → H} {W : World} {r : Reach} {b0 base : Nat} {spare : Nat → Bool} {held : Bool} {v : Value} {d : DataW H} {p : List MemPlace}
    (hv : Value.okWide Try.prog W r b0 24 v) (h : DataW.Trod enc Try.prog W base spare held 24 v d p) : ∃ n : Nat, n < 2 ^ 256 ∧ v = Wd n := by
  obtain ⟨cs, rfl, hsz⟩ := okWide_array Try.underlying24 hv
  obtain ⟨c0, c1, c2, c3, rfl⟩ := array4 (hsz.trans Try.cellsWord)
  obtain ⟨fuel, hf⟩ := h
  obtain ⟨y0, y1, y2, y3, n, hx, h0, h1, h2, h3⟩ := trod_array4 Try.underlying24 Try.cellsU64 (by simpa [Value.cells] using hf)
  obtain ⟨a, e0, _, wa⟩ := DataW.trod_int Try.underlying22 h0
  obtain ⟨b, e1, _, wb⟩ := DataW.trod_int Try.underlying22 h1
  obtain ⟨c, e2, _, wc⟩ := DataW.trod_int Try.underlying22 h2
  obtain ⟨e, e3, _, we⟩ := DataW.trod_int Try.underlying22 h3
  simp at e0 e1 e2 e3
  subst e0 e1 e2 e3
  have ba := bounds_u64 wa
  have bb := bounds_u64 wb
  have bc := bounds_u64 wc
  have be := bounds_u64 we
  exact wd_parts a b c e (by omega) (by omega) (by omega) (by omega)
end Go.Proofs.Ytblodmjnhmfjeaa
/- What stands in memory during a law over words: the words handed in, in blocks of their own. -/
namespace Go.Proofs.Ytblodmjnhmfjeaa
open Go.RowKit Go.Shelf
structure S1 (w : World) (a : Nat) (wx : World) : Prop where
  hi : w.heap.size < wx.heap.size
  c0 : ∀ o, o < 4 → wx.cell? ⟨w.heap.size, o, none⟩ = some (.int .u64 (dg a o))
  bel : Below w.heap.size w wx
theorem S1_below {w : World} {a : Nat} {w1 w2 : World} (h : S1 w a w1) (k : Below w1.heap.size w1 w2) : S1 w a w2 := by
  have hi := h.hi
  have := k.size
  exact ⟨by omega, C4_below h.c0 k (by omega), h.bel.trans (k.mono (by omega))⟩
theorem S1_drew {w : World} {a : Nat} {w1 : World} (h : S1 w a w1) : S1 w a w1.drew := ⟨h.hi, h.c0, h.bel.drew⟩
theorem S1_start (w : World) (a : Nat) : S1 w a (w.alloc (.cells #[.int .u64 (dg a 0), .int .u64 (dg a 1), .int .u64 (dg a 2), .int .u64 (dg a 3)] 24)) := by
  refine ⟨by simp, fun o ho => ?_, ?_⟩
  · have : o = 0 ∨ o = 1 ∨ o = 2 ∨ o = 3 := by omega
    rcases this with rfl | rfl | rfl | rfl <;> simp [go_sem]
  · repeat (first | exact Below.refl _ _ | refine Below.alloc ?_ (by simp <;> omega) _)
structure S2 (w : World) (a b : Nat) (wx : World) : Prop where
  hi : w.heap.size + 1 < wx.heap.size
  c0 : ∀ o, o < 4 → wx.cell? ⟨w.heap.size, o, none⟩ = some (.int .u64 (dg a o))
  c1 : ∀ o, o < 4 → wx.cell? ⟨w.heap.size + 1, o, none⟩ = some (.int .u64 (dg b o))
  bel : Below w.heap.size w wx
theorem S2_below {w : World} {a b : Nat} {w1 w2 : World} (h : S2 w a b w1) (k : Below w1.heap.size w1 w2) : S2 w a b w2 := by
  have hi := h.hi
  have := k.size
  exact ⟨by omega, C4_below h.c0 k (by omega), C4_below h.c1 k (by omega), h.bel.trans (k.mono (by omega))⟩
theorem S2_drew {w : World} {a b : Nat} {w1 : World} (h : S2 w a b w1) : S2 w a b w1.drew := ⟨h.hi, h.c0, h.c1, h.bel.drew⟩
theorem S2_start (w : World) (a b : Nat) : S2 w a b ((w.alloc (.cells #[.int .u64 (dg a 0), .int .u64 (dg a 1), .int .u64 (dg a 2), .int .u64 (dg a 3)] 24)).alloc (.cells #[.int .u64 (dg b 0), .int .u64 (dg b 1), .int .u64 (dg b 2), .int .u64 (dg b 3)] 24)) := by
  refine ⟨by simp, fun o ho => ?_, fun o ho => ?_, ?_⟩
  · have : o = 0 ∨ o = 1 ∨ o = 2 ∨ o = 3 := by omega
    rcases this with rfl | rfl | rfl | rfl <;> simp [go_sem]
  · have : o = 0 ∨ o = 1 ∨ o = 2 ∨ o = 3 := by omega
    rcases this with rfl | rfl | rfl | rfl <;> simp [go_sem]
  · repeat (first | exact Below.refl _ _ | refine Below.alloc ?_ (by simp <;> omega) _)
structure S3 (w : World) (a b c : Nat) (wx : World) : Prop where
  hi : w.heap.size + 1 + 1 < wx.heap.size
  c0 : ∀ o, o < 4 → wx.cell? ⟨w.heap.size, o, none⟩ = some (.int .u64 (dg a o))
  c1 : ∀ o, o < 4 → wx.cell? ⟨w.heap.size + 1, o, none⟩ = some (.int .u64 (dg b o))
  c2 : ∀ o, o < 4 → wx.cell? ⟨w.heap.size + 1 + 1, o, none⟩ = some (.int .u64 (dg c o))
  bel : Below w.heap.size w wx
theorem S3_below {w : World} {a b c : Nat} {w1 w2 : World} (h : S3 w a b c w1) (k : Below w1.heap.size w1 w2) : S3 w a b c w2 := by
  have hi := h.hi
  have := k.size
  exact ⟨by omega, C4_below h.c0 k (by omega), C4_below h.c1 k (by omega), C4_below h.c2 k (by omega), h.bel.trans (k.mono (by omega))⟩
theorem S3_drew {w : World} {a b c : Nat} {w1 : World} (h : S3 w a b c w1) : S3 w a b c w1.drew := ⟨h.hi, h.c0, h.c1, h.c2, h.bel.drew⟩
theorem S3_start (w : World) (a b c : Nat) : S3 w a b c (((w.alloc (.cells #[.int .u64 (dg a 0), .int .u64 (dg a 1), .int .u64 (dg a 2), .int .u64 (dg a 3)] 24)).alloc (.cells #[.int .u64 (dg b 0), .int .u64 (dg b 1), .int .u64 (dg b 2), .int .u64 (dg b 3)] 24)).alloc (.cells #[.int .u64 (dg c 0), .int .u64 (dg c 1), .int .u64 (dg c 2), .int .u64 (dg c 3)] 24)) := by
  refine ⟨by simp, fun o ho => ?_, fun o ho => ?_, fun o ho => ?_, ?_⟩
  · have : o = 0 ∨ o = 1 ∨ o = 2 ∨ o = 3 := by omega
    rcases this with rfl | rfl | rfl | rfl <;> simp [go_sem]
  · have : o = 0 ∨ o = 1 ∨ o = 2 ∨ o = 3 := by omega
    rcases this with rfl | rfl | rfl | rfl <;> simp [go_sem]
  · have : o = 0 ∨ o = 1 ∨ o = 2 ∨ o = 3 := by omega
    rcases this with rfl | rfl | rfl | rfl <;> simp [go_sem]
  · repeat (first | exact Below.refl _ _ | refine Below.alloc ?_ (by simp <;> omega) _)
structure S4 (w : World) (a b c d : Nat) (wx : World) : Prop where
  hi : w.heap.size + 1 + 1 + 1 < wx.heap.size
  c0 : ∀ o, o < 4 → wx.cell? ⟨w.heap.size, o, none⟩ = some (.int .u64 (dg a o))
  c1 : ∀ o, o < 4 → wx.cell? ⟨w.heap.size + 1, o, none⟩ = some (.int .u64 (dg b o))
  c2 : ∀ o, o < 4 → wx.cell? ⟨w.heap.size + 1 + 1, o, none⟩ = some (.int .u64 (dg c o))
  c3 : ∀ o, o < 4 → wx.cell? ⟨w.heap.size + 1 + 1 + 1, o, none⟩ = some (.int .u64 (dg d o))
  bel : Below w.heap.size w wx
theorem S4_below {w : World} {a b c d : Nat} {w1 w2 : World} (h : S4 w a b c d w1) (k : Below w1.heap.size w1 w2) : S4 w a b c d w2 := by
  have hi := h.hi
  have := k.size
  exact ⟨by omega, C4_below h.c0 k (by omega), C4_below h.c1 k (by omega), C4_below h.c2 k (by omega), C4_below h.c3 k (by omega), h.bel.trans (k.mono (by omega))⟩
theorem S4_drew {w : World} {a b c d : Nat} {w1 : World} (h : S4 w a b c d w1) : S4 w a b c d w1.drew := ⟨h.hi, h.c0, h.c1, h.c2, h.c3, h.bel.drew⟩
theorem S4_start (w : World) (a b c d : Nat) : S4 w a b c d ((((w.alloc (.cells #[.int .u64 (dg a 0), .int .u64 (dg a 1), .int .u64 (dg a 2), .int .u64 (dg a 3)] 24)).alloc (.cells #[.int .u64 (dg b 0), .int .u64 (dg b 1), .int .u64 (dg b 2), .int .u64 (dg b 3)] 24)).alloc (.cells #[.int .u64 (dg c 0), .int .u64 (dg c 1), .int .u64 (dg c 2), .int .u64 (dg c 3)] 24)).alloc (.cells #[.int .u64 (dg d 0), .int .u64 (dg d 1), .int .u64 (dg d 2), .int .u64 (dg d 3)] 24)) := by
  refine ⟨by simp, fun o ho => ?_, fun o ho => ?_, fun o ho => ?_, fun o ho => ?_, ?_⟩
  · have : o = 0 ∨ o = 1 ∨ o = 2 ∨ o = 3 := by omega
    rcases this with rfl | rfl | rfl | rfl <;> simp [go_sem]
  · have : o = 0 ∨ o = 1 ∨ o = 2 ∨ o = 3 := by omega
    rcases this with rfl | rfl | rfl | rfl <;> simp [go_sem]
  · have : o = 0 ∨ o = 1 ∨ o = 2 ∨ o = 3 := by omega
    rcases this with rfl | rfl | rfl | rfl <;> simp [go_sem]
  · have : o = 0 ∨ o = 1 ∨ o = 2 ∨ o = 3 := by omega
    rcases this with rfl | rfl | rfl | rfl <;> simp [go_sem]
  · repeat (first | exact Below.refl _ _ | refine Below.alloc ?_ (by simp <;> omega) _)
theorem add_mod (a b : Nat) (w : World) :
    Calls Try.prog 14 #[Wd a, Wd b] w fun e w' => e = .returned (Wd (a + b)) ∧ Below w.heap.size w w' := by
  rw [← Wd_mod a, ← Wd_mod b]
  refine (add_any (a % 2 ^ 256) (b % 2 ^ 256) (Nat.mod_lt _ (by decide)) (Nat.mod_lt _ (by decide)) w).mono ?_
  rintro e w' ⟨rfl, h⟩
  exact ⟨congrArg _ (by rw [← Wd_mod (a + b), Nat.add_mod, ← Wd_mod (a % 2 ^ 256 + b % 2 ^ 256)]), h⟩
theorem Wd_congr {x y : Nat} (h : x % 2 ^ 256 = y % 2 ^ 256) : Wd x = Wd y := by rw [← Wd_mod x, ← Wd_mod y, h]
/-- Sub at any two words, the answer named otherwise. -/
theorem sub_to (a b r : Nat) (h : (r + b) % 2 ^ 256 = a % 2 ^ 256) (w : World) :
    Calls Try.prog 24 #[Wd a, Wd b] w fun e w' => e = .returned (Wd r) ∧ Below w.heap.size w w' := by
  rw [← Wd_mod b]
  refine (sub_any a (b % 2 ^ 256) (Nat.mod_lt _ (by decide)) w).mono ?_
  rintro e w' ⟨rfl, k⟩
  exact ⟨congrArg _ (Wd_congr (by omega)), k⟩
end Go.Proofs.Ytblodmjnhmfjeaa
/- word.divide at every word; word.DivMod. -/
namespace Go.Proofs.Ytblodmjnhmfjeaa
open Go.RowKit Go.Shelf
attribute [local go_sem ↓] Go.wp_at_zero Go.wp_at_succ
/-- The rest; 0, if b is 0. -/
def md (a b : Nat) : Nat := if b = 0 then 0 else a % b
theorem wd_zero : Wd 0 = .agg #[.int .u64 0, .int .u64 0, .int .u64 0, .int .u64 0] := by unfold Wd; simp only [dg_zero]
theorem wi_zero : Wi 0 = .agg #[.int .u64 0, .int .u64 0, .int .u64 0, .int .u64 0, .int .u64 0, .int .u64 0, .int .u64 0, .int .u64 0] := by unfold Wi; simp only [dg_zero]
theorem eq_zero (w : World) : (binOp .eql 24 (.agg #[.int .u64 0, .int .u64 0, .int .u64 0, .int .u64 0]) (.agg #[.int .u64 0, .int .u64 0, .int .u64 0, .int .u64 0])).run Try.prog w = .ok (.bool true) w := by
  obtain ⟨i, hi⟩ := Try.infoU64
  rw [run_eql_struct, run_equalIn_array w 9999 _ _ Try.underlying24 hi, Try.cellsU64]
  simp [Op.eqItems, go_sem, List.range, List.range.loop]
set_option maxHeartbeats 4000000 in
set_option maxRecDepth 100000 in
theorem divide_zero (a : Nat) (w : World) :
    Calls Try.prog 42 #[Wi a, Wd 0] w fun e w' => e = .returned (.tuple #[Wi 0, Wd 0]) ∧ Below w.heap.size w w' := by
  have q0 := eq_zero
  have q1 := eq_guard2
  rw [wd_zero, wi_zero]
  conv => arg 3; unfold Wi
  go_enter Try.func42, Try.ntmps42
  go_wp2_with fail
  refine bodyPost_ret (v := .tuple #[.agg #[.int .u64 0, .int .u64 0, .int .u64 0, .int .u64 0, .int .u64 0, .int .u64 0, .int .u64 0, .int .u64 0], .agg #[.int .u64 0, .int .u64 0, .int .u64 0, .int .u64 0]]) (by simp [results, Try.results42, go_sem]) rfl ⟨rfl, ?_⟩
  repeat (first | exact Below.refl _ _ | refine Below.alloc ?_ (by simp <;> omega) _)
theorem divide_all (a b e : Nat) (he : e = 512) (ha : a < 2 ^ e) (hb : b < 2 ^ 256) (w : World) :
    Calls Try.prog 42 #[Wi a, Wd b] w fun e w' => e = .returned (.tuple #[Wi (a / b), Wd (md a b)]) ∧ Below w.heap.size w w' := by
  by_cases h0 : b = 0
  · subst h0
    rw [Nat.div_zero]
    exact divide_zero a w
  · unfold md
    rw [if_neg h0]
    exact divide_any a b e he ha hb h0 w
theorem resultM (tm : Array Value) (w W : World) (a b x y : Nat) (h4 : tm.getD 4 undef = .pointer (some ⟨w.heap.size + 1 + 1, 0, none⟩)) (h5 : tm.getD 5 undef = .pointer (some ⟨w.heap.size + 1 + 1 + 1, 0, none⟩)) (m : M4 w a b x y W) : (results Try.f22 tm).run Try.prog W = .ok (.tuple #[Wd x, Wd y]) W := by
  have c1 : ∀ o, o < 4 → W.cell? ⟨w.heap.size + 1 + 1, o, none⟩ = some (.int .u64 (dg x o)) := m.v2.c
  have c2 : ∀ o, o < 4 → W.cell? ⟨w.heap.size + 1 + 1 + 1, o, none⟩ = some (.int .u64 (dg y o)) := m.v3.c
  simp at h4 h5
  simp [Wd, results, Try.results22, go_sem, h4, h5, c1, c2]
theorem widen_zero (a : Nat) (ha : a < 2 ^ 256) (w : World) :
    Calls Try.prog 43 #[Wd a, .int .u64 0] w fun e w' => e = .returned (Wi a) ∧ Below w.heap.size w w' := by
  have := widen_any a 0 ha (by decide) w
  rw [Nat.zero_mul, Nat.add_zero] at this
  exact this
set_option maxHeartbeats 4000000 in
set_option maxRecDepth 100000 in
theorem divmod_any (a b : Nat) (ha : a < 2 ^ 256) (hb : b < 2 ^ 256) (w : World) :
    Calls Try.prog 22 #[Wd a, Wd b] w fun e w' => e = .returned (.tuple #[Wd (a / b), Wd (md a b)]) ∧ Below w.heap.size w w' := by
  have HW : Hid (∀ w : World, Calls Try.prog 43 #[Wd a, .int .u64 0] w fun e w' => e = .returned (Wi a) ∧ Below w.heap.size w w') := fun w => widen_zero a ha w
  obtain ⟨e, he⟩ : ∃ e, e = 512 := ⟨_, rfl⟩
  have h5 : a < 2 ^ e := Nat.lt_of_lt_of_le ha (Nat.pow_le_pow_right (by decide) (by omega))
  obtain ⟨N, hN⟩ : ∃ N, N = a / b := ⟨_, rfl⟩
  obtain ⟨R, hR⟩ : ∃ R, R = md a b := ⟨_, rfl⟩
  have HD : Hid (∀ w : World, Calls Try.prog 42 #[Wi a, Wd b] w fun e w' => e = .returned (.tuple #[Wi N, Wd R]) ∧ Below w.heap.size w w') := fun w => by rw [hN, hR]; exact divide_all a b e he h5 hb w
  have HL : Hid (∀ w : World, Calls Try.prog 37 #[Wi N] w fun e w' => e = .returned (Wd N) ∧ Below w.heap.size w w') := fun w => low_any N w
  rw [← hN, ← hR]
  clear ha hb hN hR h5 he e
  have m0 := M4_start w a b 24
  conv => arg 3; unfold Wd
  go_enter Try.func22, Try.ntmps22
  go_wp2_with fail
  generalize (((w.alloc (.cells #[.int .u64 (dg a 0), .int .u64 (dg a 1), .int .u64 (dg a 2), .int .u64 (dg a 3)] 24)).alloc (.cells #[.int .u64 (dg b 0), .int .u64 (dg b 1), .int .u64 (dg b 2), .int .u64 (dg b 3)] 24)).alloc (.cells #[.int .u64 0, .int .u64 0, .int .u64 0, .int .u64 0] 24)).alloc (.cells #[.int .u64 0, .int .u64 0, .int .u64 0, .int .u64 0] 24) = W0 at m0 ⊢
  have n0 := m0
  have t0 : (∀ o, o < 4 → W0.cell? ⟨w.heap.size, o, none⟩ = some (.int .u64 (dg a o))) ∧ (∀ o, o < 4 → W0.cell? ⟨w.heap.size + 1, o, none⟩ = some (.int .u64 (dg b o))) := ⟨n0.v0.c, n0.v1.c⟩
  replace m0 := M4_drew m0
  have s0 : (∀ o, o < 4 → W0.drew.cell? ⟨w.heap.size, o, none⟩ = some (.int .u64 (dg a o))) ∧ (∀ o, o < 4 → W0.drew.cell? ⟨w.heap.size + 1, o, none⟩ = some (.int .u64 (dg b o))) := ⟨m0.v0.c, m0.v1.c⟩
  go_cut [6] (fun p wx => ∃ g : Nat, p = .pointer (some ⟨g, 0, none⟩) ∧ Vb (w.heap.size + 1 + 1 + 1 + 1) g 8 (dg N) wx ∧ M4 w a b 0 R wx)
  case first =>
    go_region_held3 (fun w' => (∀ o, o < 4 → w'.cell? ⟨w.heap.size, o, none⟩ = some (.int .u64 (dg a o))) ∧ (∀ o, o < 4 → w'.cell? ⟨w.heap.size + 1, o, none⟩ = some (.int .u64 (dg b o)))) (first | with_reducible exact s2 | with_reducible exact s1 | with_reducible exact s0 | exact ⟨(by with_reducible exact K_drew (K_al t0.1 n0.v0.hi _)), (by with_reducible exact K_drew (K_al t0.2 n0.v1.hi _))⟩ | exact ⟨(by with_reducible exact K_al s1.1 m1.v0.hi _), (by with_reducible exact K_al s1.2 m1.v1.hi _)⟩ | (refine ⟨?_, ?_⟩ <;> (repeat (first | with_reducible exact s2.1 | with_reducible exact s2.2 | (with_reducible refine K_o4 ?_ (by omega)) | (with_reducible refine K_o8 ?_ (by omega)) | (with_reducible refine K_al ?_ (by first | omega | (simp <;> omega)) _)))))
      (first
        | (go_at_call 43; refine (HW.out _).mono ?_; rintro e1 w1 ⟨rfl, hb1⟩; (first | (have m1 := (by with_reducible exact M4_below m0 hb1 : M4 w a b 0 0 w1)) | (have m1 := M4_below (M4_drew (M4_al n0 (.cells #[.int .u64 0, .int .u64 0, .int .u64 0, .int .u64 0, .int .u64 0, .int .u64 0, .int .u64 0, .int .u64 0] 39))) hb1; have v1 : Vb (w.heap.size + 1 + 1 + 1 + 1) W0.heap.size 8 (dg 0) w1 := Vb_below (Vb_drew (Vb_new80 (w.heap.size + 1 + 1 + 1 + 1) W0 39 n0.v3.hi)) hb1)); have s1 : (∀ o, o < 4 → w1.cell? ⟨w.heap.size, o, none⟩ = some (.int .u64 (dg a o))) ∧ (∀ o, o < 4 → w1.cell? ⟨w.heap.size + 1, o, none⟩ = some (.int .u64 (dg b o))) := ⟨m1.v0.c, m1.v1.c⟩; clear hb1)
        | (go_at_call 42; refine (HD.out _).mono ?_; rintro e2 w2 ⟨rfl, hb2⟩; (first | (have m2 := (by with_reducible exact M4_below m1 hb2 : M4 w a b 0 0 w2); have v2 := Vb_below v1 hb2; have l2 := v2.lo; have c4 := v2.c; have f4 := v2.f; unfold CF at c4; unfold Fz at f4) | (have m2 := (by with_reducible exact M4_below m1 hb2 : M4 w a b 0 0 w2)) | (have m2 := M4_below (M4_al m1 (.cells #[.int .u64 0, .int .u64 0, .int .u64 0, .int .u64 0, .int .u64 0, .int .u64 0, .int .u64 0, .int .u64 0] 39)) hb2; have v2 := Vb_below (Vb_new80 (w.heap.size + 1 + 1 + 1 + 1) _ 39 m1.v3.hi) hb2; have l2 := v2.lo; have c4 := v2.c; have f4 := v2.f; unfold CF at c4; unfold Fz at f4)); have s2 : (∀ o, o < 4 → w2.cell? ⟨w.heap.size, o, none⟩ = some (.int .u64 (dg a o))) ∧ (∀ o, o < 4 → w2.cell? ⟨w.heap.size + 1, o, none⟩ = some (.int .u64 (dg b o))) := ⟨m2.v0.c, m2.v1.c⟩; have z2 := m2.v3.hi; have c3 := m2.v3.c; have f3 := m2.v3.f; unfold CF at c3; unfold Fz at f3; clear hb2; simp only [Wi, Wd]))
    all_goals
      go_wp2_with fail
      go_meet
      case rel => first | (refine ⟨_, rfl, (by with_reducible exact Vb_o4 (Vb_set8 v2) (by omega)), ?_⟩; exact M4_set3 (M4_o8 m2 (by omega))) | (refine ⟨w2.heap.size, rfl, (by with_reducible exact Vb_o4 (Vb_new8 _ N w2 _ (by omega)) (by omega)), ?_⟩; exact M4_set3 (M4_al m2 _)) | exact ⟨w2.heap.size, rfl, Vb_new8e (by simp) (by omega), M4_al (M4_set3 m2) _⟩
  case rest =>
    obtain ⟨g, rfl, vg, mm⟩ := hcut
    clear m0 n0 t0 s0 HW HD
    have cg := vg.c
    unfold CF at cg
    have c3 := mm.v3.c
    unfold CF at c3
    go_wp2_with fail
    go_region_with (first | (go_at_call 37; refine (HL.out _).mono ?_; rintro e1 w3 ⟨rfl, hb3⟩; have m3 := M4_below (M4_drew mm) hb3; have d2 := m3.v2.c; have d3 := m3.v3.c; have f2 := m3.v2.f; have f3 := m3.v3.f; unfold CF at d2 d3; unfold Fz at f2 f3; clear hb3; simp only [Wd]))
    all_goals
      go_wp2_with fail
      have m5 := M4_set3 (m := R) (M4_set2 (m := N) m3)
      exact bodyPost_ret (v := .tuple #[Wd N, Wd R]) (resultM _ w _ a b N R rfl rfl m5) rfl ⟨rfl, m5.bel⟩
end Go.Proofs.Ytblodmjnhmfjeaa
/- A region that draws its order, by what holds of what is done: one walk an operation, whatever the order. -/
namespace Go.Proofs.Ytblodmjnhmfjeaa
namespace RI
/-- What is done, with i done too. -/
def don (d : Nat → Bool) (i j : Nat) : Bool := if j = i then true else d j
theorem don_same (d : Nat → Bool) (i : Nat) : don d i i = true := by simp [don]
theorem don_other (d : Nat → Bool) (i j : Nat) (h : j ≠ i) : don d i j = d j := by simp [don, h]
theorem keep {d : Nat → Bool} {i j : Nat} {p : Prop} (hne : j ≠ i) (h : d j = true → p) : don d i j = true → p := fun k => h (by rwa [don_other _ _ _ hne] at k)
/-- Operation i may come up. -/
def may (ops : Array Oper) (d : Nat → Bool) (i : Nat) : Prop := d i = false ∧ ∀ o, ops[i]? = some o → (o.after.all fun e => !Region.binds .any e || d e.on) = true
def dof (l : Array Bool) (j : Nat) : Bool := l.getD j false
theorem dof_set (l : Array Bool) (i : Nat) (hi : i < l.size) : dof (l.setIfInBounds i true) = don (dof l) i := by
  funext j
  unfold dof don
  by_cases e : j = i
  · subst e; simp [hi]
  · simp only [Array.getD_eq_getD_getElem?, Array.getElem?_setIfInBounds]
    rw [if_neg (fun h => e h.symm), if_neg e]
theorem ready_iff (ops : Array Oper) (l : Array Bool) (i : Nat) (hl : l.size = ops.size) : i ∈ Region.ready .any ops l ↔ i < ops.size ∧ may ops (dof l) i := by
  unfold Region.ready may dof
  rw [List.mem_filter, List.mem_range]
  constructor
  · rintro ⟨h1, h2⟩
    refine ⟨h1, ?_, ?_⟩
    · simp [show i < l.size by omega] at h2 ⊢; exact h2.1
    · intro o ho; simp [ho] at h2; simpa using h2.2
  · rintro ⟨h1, h2, h3⟩
    refine ⟨h1, ?_⟩
    have h4 := h3 ops[i] (Array.getElem?_eq_getElem h1)
    simp [h1, show i < l.size by omega] at h2 h4 ⊢
    exact ⟨h2, h4⟩
/-- How many of the first n are not done. -/
def un (d : Nat → Bool) : Nat → Nat
  | 0 => 0
  | n + 1 => un d n + if d n then 0 else 1
theorem un_don (d : Nat → Bool) (i : Nat) : ∀ n, (n ≤ i → un (don d i) n = un d n) ∧ (i < n → d i = false → un (don d i) n + 1 = un d n)
  | 0 => ⟨fun _ => rfl, fun h => absurd h (by omega)⟩
  | n + 1 => by
    obtain ⟨h1, h2⟩ := un_don d i n
    refine ⟨fun h => ?_, fun h hd => ?_⟩
    · rw [un, un, h1 (by omega), don_other _ _ _ (by omega)]
    · by_cases e : n = i
      · subst e; rw [un, un, h1 (Nat.le_refl _), don_same, hd]; simp
      · rw [un, un, don_other _ _ _ e, ← h2 (by omega) hd]; omega
theorem un_zero (d : Nat → Bool) : ∀ n, un d n = 0 → ∀ j, j < n → d j = true
  | 0, _, _, h => absurd h (by omega)
  | n + 1, h, j, hj => by
    rw [un] at h
    by_cases e : j = n
    · subst e
      cases hd : d j with
      | true => rfl
      | false => rw [hd] at h; simp at h
    · exact un_zero d n (by omega) j (by omega)
theorem un_all (n : Nat) : un (fun _ => false) n = n := by
  induction n with
  | zero => rfl
  | succ n ih => rw [un, ih]; rfl
/-- Each operation leans on earlier ones alone. -/
def early (ops : Array Oper) : Bool := (List.range ops.size).all fun i => ((ops[i]?).map fun o => o.after.all fun e => !Region.binds .any e || decide (e.on < i)).getD true
theorem all_done (ops : Array Oper) (he : early ops = true) (d : Nat → Bool) (h : ∀ i, i < ops.size → ¬ may ops d i) : ∀ i, i < ops.size → d i = true := by
  intro i
  induction i using Nat.strongRecOn with
  | _ i ih =>
    intro hi
    cases hd : d i with
    | true => rfl
    | false =>
      refine absurd ⟨hd, fun o ho => ?_⟩ (h i hi)
      have h1 := (List.all_eq_true.1 he) i (List.mem_range.2 hi)
      rw [ho] at h1
      simp only [Option.map_some, Option.getD_some, Array.all_eq_true_iff_forall_mem] at h1
      rw [Array.all_eq_true_iff_forall_mem]
      intro e hee
      have h2 := h1 e hee
      cases hb : Region.binds .any e with
      | false => rfl
      | true =>
        rw [hb] at h2
        simp at h2
        rw [ih e.on h2 (by omega)]
        rfl
section
variable {P : Program} {ops : Array Oper} {Q : Exit → Act → World → Prop}
theorem wpAny_inv (I : (Nat → Bool) → Act → World → Prop) (he : early ops = true)
    (hstep : ∀ d a w i, I d a w → i < ops.size → may ops d i → wpOp P ops Q i (I (don d i)) a w)
    (hend : ∀ d a w, I d a w → (∀ i, i < ops.size → d i = true) → Q .normal a w) :
    ∀ fuel l a w, l.size = ops.size → un (dof l) ops.size ≤ fuel → I (dof l) a w → wpAny P .any ops Q fuel l a w
  | 0, l, a, w, hl, hu, hI => by
    have hd := un_zero (dof l) ops.size (by omega)
    refine ⟨?_, hend _ a w hI hd⟩
    rw [List.eq_nil_iff_forall_not_mem]
    intro i hi
    obtain ⟨h1, h2⟩ := (ready_iff ops l i hl).1 hi
    have := hd i h1
    rw [h2.1] at this; cases this
  | fuel + 1, l, a, w, hl, hu, hI => by
    refine ⟨fun hr => hend _ a w hI (all_done ops he _ fun i h1 h2 => ?_), fun i hi => ?_⟩
    · have := (ready_iff ops l i hl).2 ⟨h1, h2⟩
      rw [hr] at this; cases this
    · obtain ⟨h1, h2⟩ := (ready_iff ops l i hl).1 hi
      refine wpOp_mono (fun a' w' h => ?_) (hstep _ a w i hI h1 h2)
      have e := dof_set l i (by omega)
      refine wpAny_inv I he hstep hend fuel _ a' w' (by simpa using hl) ?_ (by rw [e]; exact h)
      rw [e]
      have := (un_don (dof l) i ops.size).2 h1 h2.1
      omega
/-- The law: I holds ahead of all, each operation that may come up keeps it, and it ends well where all are done. -/
theorem wp_region_inv {id : Nat} {a : Act} {w : World} (I : (Nat → Bool) → Act → World → Prop) (hm : P.follows .mixedOrders = true) (he : early ops = true) (h0 : I (fun _ => false) a w.drew)
    (hstep : ∀ d a w i, I d a w → i < ops.size → may ops d i → wpOp P ops Q i (I (don d i)) a w)
    (hend : ∀ d a w, I d a w → (∀ i, i < ops.size → d i = true) → Q .normal a w) : (Code.region id ops true).wp P Q a w := by
  refine wp_region_any hm (wpAny_inv I he hstep hend ops.size _ a _ (by simp) ?_ ?_)
  · have e : dof (Array.replicate ops.size false) = fun _ => false := by
      funext j
      unfold dof
      by_cases h : j < ops.size <;> simp [h]
    rw [e, un_all]; exact Nat.le_refl _
  · have e : dof (Array.replicate ops.size false) = fun _ => false := by
      funext j
      unfold dof
      by_cases h : j < ops.size <;> simp [h]
    rw [e]; exact h0
theorem wpOp_plain {i : Nat} {o : Oper} {K : Act → World → Prop} {a : Act} {w : World} (ho : ops[i]? = some o) (hg : o.guard = none) (h : o.wp P a w K Q) : wpOp P ops Q i K a w := by
  unfold wpOp
  rw [ho]
  have hw : Region.wanted o (yielded ops a.tmps) = true := by simp [Region.wanted, hg]
  simp only [hw, if_true]
  exact .inl h
theorem wpOp_guard {i j : Nat} {v : Bool} {o : Oper} {K : Act → World → Prop} {a : Act} {w : World} (ho : ops[i]? = some o) (hg : o.guard = some (j, v)) (hy : yielded ops a.tmps j = some v) (h : o.wp P a w K Q) : wpOp P ops Q i K a w := by
  unfold wpOp
  rw [ho]
  have hw : Region.wanted o (yielded ops a.tmps) = true := by simp [Region.wanted, hg, hy]
  simp only [hw, if_true]
  exact .inl h
end
end RI
end Go.Proofs.Ytblodmjnhmfjeaa
/- twos.Neg, belowNought, size and the reference's TNeg, TBelow: words with a sign. -/
namespace Go.Proofs.Ytblodmjnhmfjeaa
open Go.RowKit Go.Shelf
theorem T_two {d : Nat → Bool} {i j k : Nat} {p : Prop} (hj : j ≠ i) (hk : k ≠ i) (h : d j = true → d k = true → p) : RI.don d i j = true → RI.don d i k = true → p := by
  rw [RI.don_other _ _ _ hj, RI.don_other _ _ _ hk]; exact h
theorem T_on {d : Nat → Bool} {i j k : Nat} {p : Prop} (hj : j ≠ i) (hk : k ≠ i) (h : d j = true → d k = true ∧ p) : RI.don d i j = true → RI.don d i k = true ∧ p := by
  rw [RI.don_other _ _ _ hj, RI.don_other _ _ _ hk]; exact h
theorem T_no {d : Nat → Bool} {i j : Nat} {p q : Prop} (hj : j ≠ i) (hf : d i = false) (h : d j = true → d i = true ∧ p) : RI.don d i j = true → q := by
  rw [RI.don_other _ _ _ hj]; intro k; have := (h k).1; rw [hf] at this; exact absurd this (by decide)
/-- 2^256 less a, rest 2^256. -/
def ng (a : Nat) : Nat := (2 ^ 256 - a) % 2 ^ 256
/-- Whether a word is below nought. -/
def sg (a : Nat) : Bool := decide (2 ^ 255 ≤ a)
/-- A word without its sign. -/
def sz (a : Nat) : Nat := if sg a = true then ng a else a
theorem ng_lt (a : Nat) : ng a < 2 ^ 256 := Nat.mod_lt _ (by decide)
theorem sz_lt (a : Nat) (h : a < 2 ^ 256) : sz a < 2 ^ 256 := by
  unfold sz
  split
  · exact ng_lt a
  · exact h
theorem ng_sub (a : Nat) : Wd (0 + 2 ^ 256 - a) = Wd (ng a) := by rw [Nat.zero_add, ← Wd_mod (2 ^ 256 - a)]; rfl
theorem sg_dg (a : Nat) (ha : a < 2 ^ 256) : decide ((9223372036854775808 : Int) ≤ dg a 3) = sg a := by
  unfold dg sg
  rw [decide_eq_decide]
  omega
theorem sg_wb (a : Nat) (ha : a < 2 ^ 256) : wb a 255 = sg a := by
  unfold wb sg
  rw [decide_eq_decide]
  omega
/-- Two words in a row: one handed in, one that goes out. -/
structure M2 (w : World) (x0 x1 : Nat) (wx : World) : Prop where
  v0 : Vb w.heap.size w.heap.size 4 (dg x0) wx
  v1 : Vb w.heap.size (w.heap.size + 1) 4 (dg x1) wx
  bel : Below w.heap.size w wx
theorem M2_below {w : World} {x0 x1 : Nat} {w1 w2 : World} (h : M2 w x0 x1 w1) (k : Below w1.heap.size w1 w2) : M2 w x0 x1 w2 := ⟨Vb_below h.v0 k, Vb_below h.v1 k, h.bel.trans (k.mono (Nat.le_of_lt h.v0.hi))⟩
theorem M2_drew {w : World} {x0 x1 : Nat} {w1 : World} (h : M2 w x0 x1 w1) : M2 w x0 x1 w1.drew := M2_below h (Below.refl _ _).drew
theorem M2_start (w : World) (a : Nat) : M2 w a 0 ((w.alloc (.cells #[.int .u64 (dg a 0), .int .u64 (dg a 1), .int .u64 (dg a 2), .int .u64 (dg a 3)] 24)).alloc (.cells #[.int .u64 0, .int .u64 0, .int .u64 0, .int .u64 0] 24)) := by
  have e1 : ∀ o, (w.alloc o).heap.size = w.heap.size + 1 := fun o => by simp
  refine ⟨Vb_al (Vb_new4 _ a w _ (Nat.le_refl _)) _, ?_, ((Below.refl _ _).alloc (Nat.le_refl _) _).alloc (by simp) _⟩
  have k := Vb_new0 w.heap.size (w.alloc (.cells #[.int .u64 (dg a 0), .int .u64 (dg a 1), .int .u64 (dg a 2), .int .u64 (dg a 3)] 24)) 24 (by simp)
  rw [e1] at k; exact k
theorem M2_set1 {w : World} {x0 x1 m : Nat} {w1 : World} (h : M2 w x0 x1 w1) : M2 w x0 m ((((w1.setCell ⟨w.heap.size + 1, 0, none⟩ (.int .u64 (dg m 0))).setCell ⟨w.heap.size + 1, 1, none⟩ (.int .u64 (dg m 1))).setCell ⟨w.heap.size + 1, 2, none⟩ (.int .u64 (dg m 2))).setCell ⟨w.heap.size + 1, 3, none⟩ (.int .u64 (dg m 3))) := ⟨Vb_o4 h.v0 (by omega), Vb_set4 h.v1, Bel_set4 h.bel (by omega)⟩
theorem resultTw (f : Func) (tm : Array Value) (W : World) (g y s : Nat) (hf : f.results = #[.cell s 24]) (h : tm.getD s undef = .pointer (some ⟨g, 0, none⟩)) (c : CF g 4 (dg y) W) : (results f tm).run Try.prog W = .ok (Wd y) W := by
  have c2 : ∀ o, o < 4 → W.cell? ⟨g, o, none⟩ = some (.int .u64 (dg y o)) := c
  simp at h
  simp [Wd, results, hf, go_sem, h, c2]
theorem neg_any (a : Nat) (ha : a < 2 ^ 256) (w : World) :
    Calls Try.prog 17 #[Wd a] w fun e w' => e = .returned (Wd (ng a)) ∧ Below w.heap.size w w' := by
  have K : Hid (∀ w : World, Calls Try.prog 24 #[Wd 0, Wd a] w fun e w' => e = .returned (Wd (ng a)) ∧ Below w.heap.size w w') := fun w => by
    have k := sub_any 0 a ha w
    rw [ng_sub] at k
    exact k
  rw [wd_zero] at K
  clear ha
  generalize ng a = n at *
  have m0 := M2_start w a
  conv => arg 3; unfold Wd
  go_enter Try.func17, Try.ntmps17
  go_wp2_with fail
  generalize (w.alloc (.cells #[.int .u64 (dg a 0), .int .u64 (dg a 1), .int .u64 (dg a 2), .int .u64 (dg a 3)] 24)).alloc (.cells #[.int .u64 0, .int .u64 0, .int .u64 0, .int .u64 0] 24) = W0 at m0 ⊢
  refine (K.out _).mono ?_
  rintro e w1 ⟨rfl, hb⟩
  have HM : Hid (M2 w a 0 w1) := M2_below m0 hb
  clear hb m0
  have c1 : ∀ o, o < 4 → w1.cell? ⟨w.heap.size + 1, o, none⟩ = some (.int .u64 (dg 0 o)) := HM.out.v1.c
  have f1 : ∀ o, w1.frozen? ⟨w.heap.size + 1, o, none⟩ = false := HM.out.v1.f
  have z1 := HM.out.v1.hi
  unfold Wd
  go_wp2_with fail
  have m1 := M2_set1 (m := n) HM.out
  exact bodyPost_ret (v := Wd n) (resultTw _ _ _ (w.heap.size + 1) n 2 rfl rfl m1.v1.c) rfl ⟨rfl, m1.bel⟩
theorem below_any (a : Nat) (ha : a < 2 ^ 256) (w : World) :
    Calls Try.prog 44 #[Wd a] w fun e w' => e = .returned (.bool (sg a)) ∧ Below w.heap.size w w' := by
  have r1 := sg_dg a ha
  clear ha
  generalize sg a = t at *
  conv => arg 3; unfold Wd
  go_enter Try.func44, Try.ntmps44
  go_wp2_with fail
  go_ret
  exact ⟨rfl, (Below.refl _ _).alloc (Nat.le_refl _) _⟩
theorem size_any (a : Nat) (ha : a < 2 ^ 256) (w : World) :
    Calls Try.prog 46 #[Wd a] w fun e w' => e = .returned (Wd (sz a)) ∧ Below w.heap.size w w' := by
  have K : Hid (∀ w : World, Calls Try.prog 44 #[Wd a] w fun e w' => e = .returned (.bool (sg a)) ∧ Below w.heap.size w w') := fun w => below_any a ha w
  have N : Hid (∀ w : World, Calls Try.prog 17 #[Wd a] w fun e w' => e = .returned (Wd (ng a)) ∧ Below w.heap.size w w') := fun w => neg_any a ha w
  have m0 := M2_start w a
  unfold sz
  clear ha
  conv => arg 3; unfold Wd
  generalize ng a = n at *
  generalize sg a = t at *
  cases t
  · rw [if_neg (by decide)]
    go_enter Try.func46, Try.ntmps46
    go_wp2_with fail
    generalize (w.alloc (.cells #[.int .u64 (dg a 0), .int .u64 (dg a 1), .int .u64 (dg a 2), .int .u64 (dg a 3)] 24)).alloc (.cells #[.int .u64 0, .int .u64 0, .int .u64 0, .int .u64 0] 24) = W0 at m0 ⊢
    refine (K.out _).mono ?_
    rintro e w1 ⟨rfl, hb⟩
    have HM : Hid (M2 w a 0 w1) := M2_below m0 hb
    clear hb m0
    have c0 : ∀ o, o < 4 → w1.cell? ⟨w.heap.size, o, none⟩ = some (.int .u64 (dg a o)) := HM.out.v0.c
    have c1 : ∀ o, o < 4 → w1.cell? ⟨w.heap.size + 1, o, none⟩ = some (.int .u64 (dg 0 o)) := HM.out.v1.c
    have f1 : ∀ o, w1.frozen? ⟨w.heap.size + 1, o, none⟩ = false := HM.out.v1.f
    have z1 := HM.out.v1.hi
    have z0 := HM.out.v0.hi
    go_wp2_with fail
    have m1 := M2_set1 (m := a) HM.out
    exact bodyPost_ret (v := Wd a) (resultTw _ _ _ (w.heap.size + 1) a 2 rfl rfl m1.v1.c) rfl ⟨rfl, m1.bel⟩
  · rw [if_pos rfl]
    go_enter Try.func46, Try.ntmps46
    go_wp2_with fail
    generalize (w.alloc (.cells #[.int .u64 (dg a 0), .int .u64 (dg a 1), .int .u64 (dg a 2), .int .u64 (dg a 3)] 24)).alloc (.cells #[.int .u64 0, .int .u64 0, .int .u64 0, .int .u64 0] 24) = W0 at m0 ⊢
    refine (K.out _).mono ?_
    rintro e w1 ⟨rfl, hb⟩
    replace m0 := M2_below m0 hb
    have c0 : ∀ o, o < 4 → w1.cell? ⟨w.heap.size, o, none⟩ = some (.int .u64 (dg a o)) := m0.v0.c
    clear hb
    go_wp2_with fail
    refine (N.out _).mono ?_
    rintro e w2 ⟨rfl, hb⟩
    have HM : Hid (M2 w a 0 w2) := M2_below m0 hb
    clear hb m0 c0
    have c1 : ∀ o, o < 4 → w2.cell? ⟨w.heap.size + 1, o, none⟩ = some (.int .u64 (dg 0 o)) := HM.out.v1.c
    have f1 : ∀ o, w2.frozen? ⟨w.heap.size + 1, o, none⟩ = false := HM.out.v1.f
    have z1 := HM.out.v1.hi
    unfold Wd
    go_wp2_with fail
    have m1 := M2_set1 (m := n) HM.out
    exact bodyPost_ret (v := Wd n) (resultTw _ _ _ (w.heap.size + 1) n 2 rfl rfl m1.v1.c) rfl ⟨rfl, m1.bel⟩
end Go.Proofs.Ytblodmjnhmfjeaa
