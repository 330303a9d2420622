/- What stands in memory: the cells of a block, none of them frozen. -/
import Derived.Test.YtblodmjnhmfjeaaRows
import Derived.Test.YtblodmjnhmfjeaaSpArith
import Derived.WalkKit
import Derived.WalkSpells
import Derived.WalkLawsBesides
import Derived.Deep.RegionHeld3
import Derived.Deep.DrawnRows
import Derived.Deep.DeepFit
import Derived.Handy
import Derived.BigQuiet
import Derived.Deep.QuietTactic
import Derived.Deep.RegionWith
import Derived.BigRegion
namespace Go.Proofs.Ytblodmjnhmfjeaa
namespace Sp
open Go.RowKit
/-- The first n cells of block g are F's. -/
def CK (k : IntKind) (g n : Nat) (F : Nat → Int) (w : World) : Prop := ∀ o, o < n → w.cell? ⟨g, o, none⟩ = some (.int k (F o))
def Fz (g : Nat) (w : World) : Prop := ∀ j, w.frozen? ⟨g, j, none⟩ = false
theorem CK_set {k : IntKind} {g n i : Nat} {F : Nat → Int} {w : World} {v : Int} (h : CK k g n F w) (hi : i < n) : CK k g n (upd F i v) (w.setCell ⟨g, i, none⟩ (.int k v)) := fun o ho => by
  unfold upd
  by_cases e : o = i
  · subst e; rw [World.cell?_setCell_same _ _ _ (h o hi), if_pos rfl]
  · rw [World.cell?_setCell_other w ⟨g, i, none⟩ ⟨g, o, none⟩ _ (fun e' => e (by simpa using e'.symm)), h o ho, if_neg e]
theorem CK_below {k : IntKind} {B g n : Nat} {F : Nat → Int} {w w' : World} (h : CK k g n F w) (hb : Below B w w') (hg : g < B) : CK k g n F w' := fun j hj => (hb.cell (p := ⟨g, j, none⟩) hg).trans (h j hj)
theorem CK_other {k : IntKind} {g n : Nat} {F : Nat → Int} {w : World} {a : Addr} {v : Value} (h : CK k g n F w) (hne : a.block ≠ g) : CK k g n F (w.setCell a v) := fun j hj => by
  rw [World.cell?_setCell_other w a _ v (fun e => hne (by rw [e]))]; exact h j hj
theorem CK_drew {k : IntKind} {g n : Nat} {F : Nat → Int} {w : World} (h : CK k g n F w) : CK k g n F w.drew := h
theorem CK_drewN {k : IntKind} {g n m : Nat} {F : Nat → Int} {w : World} (h : CK k g n F w) : CK k g n F (w.drewN m) := fun j hj => by
  have := h j hj; simpa using this
theorem CK_ext {k : IntKind} {g n : Nat} {F G : Nat → Int} {w : World} (h : CK k g n F w) (e : ∀ o, o < n → F o = G o) : CK k g n G w := fun o ho => by rw [h o ho, e o ho]
theorem CK_al {k : IntKind} {g n : Nat} {F : Nat → Int} {w : World} (h : CK k g n F w) (hg : g < w.heap.size) (o : Obj) : CK k g n F (w.alloc o) := CK_below h ((Below.refl _ _).alloc (Nat.le_refl _) o) hg
theorem Fz_below {B g : Nat} {w w' : World} (h : Fz g w) (hb : Below B w w') (hg : g < B) : Fz g w' := fun j => (hb.frozen (p := ⟨g, j, none⟩) hg).trans (h j)
theorem Fz_drew {g : Nat} {w : World} (h : Fz g w) : Fz g w.drew := h
theorem Fz_drewN {g m : Nat} {w : World} (h : Fz g w) : Fz g (w.drewN m) := fun j => by
  have := h j; simpa using this
theorem Fz_set {g : Nat} {w : World} {a : Addr} {v : Value} (h : Fz g w) : Fz g (w.setCell a v) := fun j => by
  rw [World.frozen?_setCell]; exact h j
theorem Fz_al {g : Nat} {w : World} (h : Fz g w) (hg : g < w.heap.size) (o : Obj) : Fz g (w.alloc o) := Fz_below h ((Below.refl _ _).alloc (Nat.le_refl _) o) hg
theorem Fz_new (w : World) (c : Array Value) (T : TypeId) : Fz w.heap.size (w.alloc (.cells c T)) := fun o => by simp [go_sem]
/-- Block g is the call's own, is not frozen, and its first n cells are F's. -/
structure Vb (k : IntKind) (B g n : Nat) (F : Nat → Int) (wx : World) : Prop where
  lo : B ≤ g
  hi : g < wx.heap.size
  c : CK k g n F wx
  f : Fz g wx
theorem Vb_below {k : IntKind} {B g n : Nat} {F : Nat → Int} {w1 w2 : World} (h : Vb k B g n F w1) (hb : Below w1.heap.size w1 w2) : Vb k B g n F w2 := ⟨h.lo, Nat.lt_of_lt_of_le h.hi hb.size, CK_below h.c hb h.hi, Fz_below h.f hb h.hi⟩
theorem Vb_al {k : IntKind} {B g n : Nat} {F : Nat → Int} {w1 : World} (h : Vb k B g n F w1) (o : Obj) : Vb k B g n F (w1.alloc o) := Vb_below h ((Below.refl _ _).alloc (Nat.le_refl _) o)
theorem Vb_drew {k : IntKind} {B g n : Nat} {F : Nat → Int} {w1 : World} (h : Vb k B g n F w1) : Vb k B g n F w1.drew := Vb_below h (Below.refl _ _).drew
theorem Vb_other {k : IntKind} {B g n : Nat} {F : Nat → Int} {w1 : World} {a : Addr} {v : Value} (h : Vb k B g n F w1) (hne : a.block ≠ g) : Vb k B g n F (w1.setCell a v) := ⟨h.lo, by simpa using h.hi, CK_other h.c hne, Fz_set h.f⟩
theorem Vb_set {k : IntKind} {B g n i : Nat} {F : Nat → Int} {w1 : World} {v : Int} (h : Vb k B g n F w1) (hi : i < n) : Vb k B g n (upd F i v) (w1.setCell ⟨g, i, none⟩ (.int k v)) := ⟨h.lo, by simpa using h.hi, CK_set h.c hi, Fz_set h.f⟩
/-- A state in a block of its own. -/
theorem Vb_new8 (B : Nat) (F : Nat → Int) (w1 : World) (T : TypeId) (hB : B ≤ w1.heap.size) : Vb .u64 B w1.heap.size 8 F (w1.alloc (.cells #[.int .u64 (F 0), .int .u64 (F 1), .int .u64 (F 2), .int .u64 (F 3), .int .u64 (F 4), .int .u64 (F 5), .int .u64 (F 6), .int .u64 (F 7)] T)) := ⟨hB, by simp, fun o ho => by
  have : o = 0 ∨ o = 1 ∨ o = 2 ∨ o = 3 ∨ o = 4 ∨ o = 5 ∨ o = 6 ∨ o = 7 := by omega
  rcases this with rfl | rfl | rfl | rfl | rfl | rfl | rfl | rfl <;> simp, Fz_new w1 _ T⟩
theorem CK_set8 {g : Nat} {F G : Nat → Int} {w : World} (h : CK .u64 g 8 F w) : CK .u64 g 8 G ((((((((w.setCell ⟨g, 0, none⟩ (.int .u64 (G 0))).setCell ⟨g, 1, none⟩ (.int .u64 (G 1))).setCell ⟨g, 2, none⟩ (.int .u64 (G 2))).setCell ⟨g, 3, none⟩ (.int .u64 (G 3))).setCell ⟨g, 4, none⟩ (.int .u64 (G 4))).setCell ⟨g, 5, none⟩ (.int .u64 (G 5))).setCell ⟨g, 6, none⟩ (.int .u64 (G 6))).setCell ⟨g, 7, none⟩ (.int .u64 (G 7))) := by
  refine CK_ext (CK_set (CK_set (CK_set (CK_set (CK_set (CK_set (CK_set (CK_set h (i := 0) (by decide)) (i := 1) (by decide)) (i := 2) (by decide)) (i := 3) (by decide)) (i := 4) (by decide)) (i := 5) (by decide)) (i := 6) (by decide)) (i := 7) (by decide)) (fun o ho => ?_)
  have : o = 0 ∨ o = 1 ∨ o = 2 ∨ o = 3 ∨ o = 4 ∨ o = 5 ∨ o = 6 ∨ o = 7 := by omega
  rcases this with rfl | rfl | rfl | rfl | rfl | rfl | rfl | rfl <;> simp [upd]
theorem Bel_set8 {h B : Nat} {G : Nat → Int} {w w1 : World} (c : Below B w w1) (hB : B ≤ h) : Below B w ((((((((w1.setCell ⟨h, 0, none⟩ (.int .u64 (G 0))).setCell ⟨h, 1, none⟩ (.int .u64 (G 1))).setCell ⟨h, 2, none⟩ (.int .u64 (G 2))).setCell ⟨h, 3, none⟩ (.int .u64 (G 3))).setCell ⟨h, 4, none⟩ (.int .u64 (G 4))).setCell ⟨h, 5, none⟩ (.int .u64 (G 5))).setCell ⟨h, 6, none⟩ (.int .u64 (G 6))).setCell ⟨h, 7, none⟩ (.int .u64 (G 7))) := (((((((c.setCell hB _).setCell hB _).setCell hB _).setCell hB _).setCell hB _).setCell hB _).setCell hB _).setCell hB _
end Sp
end Go.Proofs.Ytblodmjnhmfjeaa
