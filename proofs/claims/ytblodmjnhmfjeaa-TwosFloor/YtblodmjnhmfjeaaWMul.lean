/- lampbearerref.WMul: the product of two words, by doubling. -/
import Derived.Test.YtblodmjnhmfjeaaWBit
namespace Go.Proofs.Ytblodmjnhmfjeaa
open Go.RowKit Go.Shelf
/-- The four cells of block g are n's parts; none is frozen. -/
def C4 (g n : Nat) (w : World) : Prop := ∀ o, o < 4 → w.cell? ⟨g, o, none⟩ = some (.int .u64 (dg n o))
theorem C4_below {B g n : Nat} {w w' : World} (h : C4 g n w) (hb : Below B w w') (hg : g < B) : C4 g n w' := fun j hj => (hb.cell (p := ⟨g, j, none⟩) hg).trans (h j hj)
theorem C4_alloc (n : Nat) (w : World) (T : TypeId) : C4 w.heap.size n (w.alloc (.cells #[.int .u64 (dg n 0), .int .u64 (dg n 1), .int .u64 (dg n 2), .int .u64 (dg n 3)] T)) := fun o ho => by
  have : o = 0 ∨ o = 1 ∨ o = 2 ∨ o = 3 := by omega
  rcases this with rfl | rfl | rfl | rfl <;> simp
theorem Fz_alloc (w : World) (c : Array Value) (T : TypeId) : Fz w.heap.size (w.alloc (.cells c T)) := fun o => by simp [go_sem]
theorem C4_set {g n m : Nat} {w : World} (h : C4 g n w) : C4 g m ((((w.setCell ⟨g, 0, none⟩ (.int .u64 (dg m 0))).setCell ⟨g, 1, none⟩ (.int .u64 (dg m 1))).setCell ⟨g, 2, none⟩ (.int .u64 (dg m 2))).setCell ⟨g, 3, none⟩ (.int .u64 (dg m 3))) := fun o ho => by
  have h0 := h 0 (by decide)
  have h1 := h 1 (by decide)
  have h2 := h 2 (by decide)
  have h3 := h 3 (by decide)
  have : o = 0 ∨ o = 1 ∨ o = 2 ∨ o = 3 := by omega
  rcases this with rfl | rfl | rfl | rfl <;> simp [go_sem, h0, h1, h2, h3]
theorem C4_other {g n : Nat} {w : World} {a : Addr} {v : Value} (h : C4 g n w) (hne : a.block ≠ g) : C4 g n (w.setCell a v) := fun j hj => by
  rw [World.cell?_setCell_other w a _ v (fun e => hne (by rw [e]))]; exact h j hj
end Go.Proofs.Ytblodmjnhmfjeaa
