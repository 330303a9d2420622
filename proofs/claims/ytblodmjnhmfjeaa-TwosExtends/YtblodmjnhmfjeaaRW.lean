/- Words within a region: loaded, laid, held against each other. -/
import Derived.Test.YtblodmjnhmfjeaaHm
import Derived.Test.YtblodmjnhmfjeaaLawSums
import Derived.Test.YtblodmjnhmfjeaaSpEq
namespace Go.Proofs.Ytblodmjnhmfjeaa
namespace RW
open Go.RowKit Go.Shelf
theorem ld {K : Value → World → Prop} {a : Act} {o : Oper} {s g x : Nat} {w : World} (ho : o.op = .load 24 (.tmp s)) (ha : a.eval (.tmp s) = .pointer (some ⟨g, 0, none⟩))
    (hc : ∀ j, j < 4 → w.cell? ⟨g, j, none⟩ = some (.int .u64 (dg x j))) (hK : K (Wd x) w) : RS.upv Try.prog K ((execOp a.eval o).run Try.prog w) := by
  obtain ⟨dst, op, ty, pos, after, guard⟩ := o
  simp only at ho
  subst ho
  generalize a.eval = ρ at *
  unfold Wd at hK
  go_simp
  exact hK
theorem wd_arr (x : Nat) (i : Nat) (hi : i < 4) : (#[.int .u64 (dg x 0), .int .u64 (dg x 1), .int .u64 (dg x 2), .int .u64 (dg x 3)] : Array Value)[i]? = some (.int .u64 (dg x i)) := by
  have : i = 0 ∨ i = 1 ∨ i = 2 ∨ i = 3 := by omega
  rcases this with rfl | rfl | rfl | rfl <;> rfl
theorem dg_inj (x y : Nat) : (∀ i, i < 4 → dg x i = dg y i) ↔ x % 2 ^ 256 = y % 2 ^ 256 := by
  constructor
  · intro h
    have h0 := h 0 (by decide)
    have h1 := h 1 (by decide)
    have h2 := h 2 (by decide)
    have h3 := h 3 (by decide)
    unfold dg at h0 h1 h2 h3
    omega
  · intro h i hi
    have : i = 0 ∨ i = 1 ∨ i = 2 ∨ i = 3 := by omega
    unfold dg
    rcases this with rfl | rfl | rfl | rfl <;> omega
theorem eqw (x y : Nat) (w : World) : (binOp .eql 24 (Wd x) (Wd y)).run Try.prog w = .ok (.bool (decide (x % 2 ^ 256 = y % 2 ^ 256))) w := by
  unfold Wd
  rw [Sp.eql_array 24 22 4 .u64 (by kernel_rfl) (by kernel_rfl) (by kernel_rfl) (by kernel_rfl) (by kernel_rfl) _ _ (dg x) (dg y) w (fun i hi => ⟨wd_arr x i hi, wd_arr y i hi⟩)]
  congr 2
  rw [Bool.eq_iff_iff, Sp.same_iff, dg_inj, decide_eq_true_iff]
theorem neqw (x y : Nat) (w : World) : (binOp .neq 24 (Wd x) (Wd y)).run Try.prog w = .ok (.bool (!decide (x % 2 ^ 256 = y % 2 ^ 256))) w := by
  have h := eqw x y w
  unfold Wd at *
  rw [Sp.neq_array 24 22 4 .u64 (by kernel_rfl) (by kernel_rfl) (by kernel_rfl) (by kernel_rfl) (by kernel_rfl) _ _ (dg x) (dg y) w (fun i hi => ⟨wd_arr x i hi, wd_arr y i hi⟩)]
  congr 3
  rw [Bool.eq_iff_iff, Sp.same_iff, dg_inj, decide_eq_true_iff]
theorem eq {K : Value → World → Prop} {a : Act} {o : Oper} {X Y : Operand} {x y : Nat} {b : Bool} {w : World} (ho : o.op = .binOp .eql 24 X Y 24) (hx : a.eval X = Wd x) (hy : a.eval Y = Wd y)
    (hb : decide (x % 2 ^ 256 = y % 2 ^ 256) = b) (hK : K (.bool b) w) : RS.upv Try.prog K ((execOp a.eval o).run Try.prog w) := by
  obtain ⟨dst, op, ty, pos, after, guard⟩ := o
  simp only at ho
  subst ho
  generalize a.eval = ρ at *
  have e1 := eqw x y w
  rw [hb] at e1
  have g1 := eq_guard .eql X Y x y w
  go_simp
  exact hK
theorem neq {K : Value → World → Prop} {a : Act} {o : Oper} {X Y : Operand} {x y : Nat} {b : Bool} {w : World} (ho : o.op = .binOp .neq 24 X Y 24) (hx : a.eval X = Wd x) (hy : a.eval Y = Wd y)
    (hb : (!decide (x % 2 ^ 256 = y % 2 ^ 256)) = b) (hK : K (.bool b) w) : RS.upv Try.prog K ((execOp a.eval o).run Try.prog w) := by
  obtain ⟨dst, op, ty, pos, after, guard⟩ := o
  simp only at ho
  subst ho
  generalize a.eval = ρ at *
  have e1 := neqw x y w
  rw [hb] at e1
  have g1 := eq_guard .neq X Y x y w
  go_simp
  exact hK
theorem st {K : Value → World → Prop} {a : Act} {o : Oper} {s : Nat} {V : Operand} {g x : Nat} {F : Nat → Value} {w : World} (ho : o.op = .store 24 (.tmp s) V) (ha : a.eval (.tmp s) = .pointer (some ⟨g, 0, none⟩)) (hv : a.eval V = Wd x)
    (hc : ∀ j, j < 4 → w.cell? ⟨g, j, none⟩ = some (F j)) (hf : ∀ j, w.frozen? ⟨g, j, none⟩ = false)
    (hK : K undef ((((w.setCell ⟨g, 0, none⟩ (.int .u64 (dg x 0))).setCell ⟨g, 1, none⟩ (.int .u64 (dg x 1))).setCell ⟨g, 2, none⟩ (.int .u64 (dg x 2))).setCell ⟨g, 3, none⟩ (.int .u64 (dg x 3)))) : RS.upv Try.prog K ((execOp a.eval o).run Try.prog w) := by
  obtain ⟨dst, op, ty, pos, after, guard⟩ := o
  simp only at ho
  subst ho
  generalize a.eval = ρ at *
  unfold Wd at hv
  go_simp
  exact hK
end RW
end Go.Proofs.Ytblodmjnhmfjeaa
