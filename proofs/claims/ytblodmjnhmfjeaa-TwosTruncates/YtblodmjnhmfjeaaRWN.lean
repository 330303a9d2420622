/- New words within a region. -/
import Derived.Test.YtblodmjnhmfjeaaRW
import Derived.Test.YtblodmjnhmfjeaaRNew
namespace Go.Proofs.Ytblodmjnhmfjeaa
namespace Hm
open Go.RowKit
/-- A new word's block, none of L's. -/
structure Fresh (w : World) (L : List Bk) (g : Nat) (wx : World) : Prop where
  ok : Ok w.heap.size (W4 g 0) wx
  ne : ∀ b, b ∈ L → g ≠ b.g
theorem Fresh_below {w : World} {L : List Bk} {g : Nat} {w1 w2 : World} (h : Fresh w L g w1) (hb : Below w1.heap.size w1 w2) : Fresh w L g w2 := ⟨Ok_below h.ok hb, h.ne⟩
theorem cons {w : World} {L : List Bk} {g : Nat} {w1 : World} (h : Hd w L w1) (hg : Fresh w L g w1) : Hd w (⟨g, 4, fun o => .int .u64 (dg 0 o)⟩ :: L) w1 := by
  refine ⟨h.bel, fun k hk => ?_⟩
  rcases List.mem_cons.1 hk with rfl | hk
  · exact hg.ok
  · exact h.ok k hk
end Hm
namespace RW
open Go.RowKit Go.Shelf
theorem al {w0 : World} {L : List Hm.Bk} {K : Value → World → Prop} {ρ : Operand → Value} {o : Oper} {w : World} (ho : o.op = .alloc 24) (hS : Hm.Hd w0 L w)
    (hK : ∀ w', Below w.heap.size w w' → Hm.Fresh w0 L w.heap.size w' → K (RN.pv w.heap.size) w') : RS.upv Try.prog K ((execOp ρ o).run Try.prog w) := by
  obtain ⟨dst, op, ty, pos, after, guard⟩ := o
  simp only at ho
  subst ho
  have h1 := hK _ ((Below.refl _ _).alloc (Nat.le_refl _) (.cells #[.int .u64 0, .int .u64 0, .int .u64 0, .int .u64 0] 24)) ⟨(Hm.new0 hS rfl).ok _ (List.mem_cons_self ..), fun b hb => Nat.ne_of_gt (hS.ok b hb).hi⟩
  unfold RN.pv at h1
  go_simp
  exact h1
end RW
end Go.Proofs.Ytblodmjnhmfjeaa
