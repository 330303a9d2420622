/- Two arrays of numbers are equal where their numbers are. -/
import Derived.Test.YtblodmjnhmfjeaaSpSumA
import Derived.ChangeKeysEq
namespace Go.Proofs.Ytblodmjnhmfjeaa
namespace Sp
open Go.RowKit
/-- The first n numbers are the same. -/
def same (n : Nat) (F G : Nat → Int) : Bool := (List.range n).all fun i => F i == G i
theorem same_iff (n : Nat) (F G : Nat → Int) : same n F G = true ↔ ∀ i, i < n → F i = G i := by simp [same]
theorem same_self (n : Nat) (F : Nat → Int) : same n F F = true := (same_iff n F F).2 fun _ _ => rfl
theorem eqItems_ints (d : Nat) (e : TypeId) (k : IntKind) (he : Try.prog.underlying e = some (.int k)) (hk : Try.prog.plainKey e = true) (xs ys : Array Value) (F G : Nat → Int) (w : World) :
    ∀ is : List Nat, (∀ i ∈ is, xs[i]? = some (.int k (F i)) ∧ ys[i]? = some (.int k (G i))) → (Op.eqItems (d + 1) e 1 xs ys is).run Try.prog w = .ok (is.all fun i => F i == G i) w
  | [], _ => by simp [Op.eqItems]
  | i :: is, h => by
    obtain ⟨h1, h2⟩ := h i (by simp)
    have p1 := run_part_plain (P := Try.prog) w hk (off := i * 1) (xs := xs) (by rw [Nat.mul_one]; exact h1)
    have p2 := run_part_plain (P := Try.prog) w hk (off := i * 1) (xs := ys) (by rw [Nat.mul_one]; exact h2)
    have p3 : (Op.equalIn (d + 1) e (.int k (F i)) (.int k (G i))).run Try.prog w = .ok (F i == G i) w := by simp [Op.equalIn, run_underlying he]
    have ih := eqItems_ints d e k he hk xs ys F G w is (fun j hj => h j (by simp [hj]))
    simp only [Op.eqItems, Sem.run_bind, p1, p2, p3, Result.andThen_ok]
    by_cases c : F i = G i
    · simp [c, ih]
    · simp [c]
theorem eql_array (T e : TypeId) (n : Nat) (k : IntKind) (hT : Try.prog.underlying T = some (.array n e)) (he : Try.prog.underlying e = some (.int k)) (hk : Try.prog.plainKey e = true) (hc : Try.prog.cellsOf e = 1) (hi : (Try.prog.info? e).isSome = true)
    (xs ys : Array Value) (F G : Nat → Int) (w : World) (hx : ∀ i, i < n → xs[i]? = some (.int k (F i)) ∧ ys[i]? = some (.int k (G i))) :
    (binOp .eql T (.agg xs) (.agg ys)).run Try.prog w = .ok (.bool (same n F G)) w := by
  obtain ⟨i, hi⟩ := Option.isSome_iff_exists.1 hi
  rw [run_eql_struct, run_equalIn_array w 9999 _ _ hT hi, hc, eqItems_ints 9998 e k he hk xs ys F G w (List.range n) (fun j hj => hx j (List.mem_range.1 hj))]
  rfl
theorem neq_array (T e : TypeId) (n : Nat) (k : IntKind) (hT : Try.prog.underlying T = some (.array n e)) (he : Try.prog.underlying e = some (.int k)) (hk : Try.prog.plainKey e = true) (hc : Try.prog.cellsOf e = 1) (hi : (Try.prog.info? e).isSome = true)
    (xs ys : Array Value) (F G : Nat → Int) (w : World) (hx : ∀ i, i < n → xs[i]? = some (.int k (F i)) ∧ ys[i]? = some (.int k (G i))) :
    (binOp .neq T (.agg xs) (.agg ys)).run Try.prog w = .ok (.bool (!same n F G)) w := by
  obtain ⟨i, hi⟩ := Option.isSome_iff_exists.1 hi
  rw [run_neq_struct, run_equalIn_array w 9999 _ _ hT hi, hc, eqItems_ints 9998 e k he hk xs ys F G w (List.range n) (fun j hj => hx j (List.mem_range.1 hj))]
  rfl
theorem eqGuardHash : Try.prog.eqGuardType Try.prog.depth 55 = false := by kernel_rfl
theorem eq_guard32 (op : BinOp) (x y : Operand) (F G : Nat → Int) (w : World) : (eqGuard op 55 x y (Hv F) (Hv G)).run Try.prog w = .ok () w := by
  unfold Hv
  exact run_eqGuard_agg w op _ x y _ _ eqGuardHash
theorem eq32 (F G : Nat → Int) (w : World) : (binOp .eql 55 (Hv F) (Hv G)).run Try.prog w = .ok (.bool (same 32 F G)) w :=
  eql_array 55 5 32 .u8 Try.underlying55 Try.underlying5 (by kernel_rfl) (by kernel_rfl) (by kernel_rfl) (h32 F).toArray (h32 G).toArray F G w (fun i hi => by
    rw [List.getElem?_toArray, List.getElem?_toArray]; exact ⟨h32_get F i hi, h32_get G i hi⟩)
theorem neq32 (F G : Nat → Int) (w : World) : (binOp .neq 55 (Hv F) (Hv G)).run Try.prog w = .ok (.bool (!same 32 F G)) w :=
  neq_array 55 5 32 .u8 Try.underlying55 Try.underlying5 (by kernel_rfl) (by kernel_rfl) (by kernel_rfl) (h32 F).toArray (h32 G).toArray F G w (fun i hi => by
    rw [List.getElem?_toArray, List.getElem?_toArray]; exact ⟨h32_get F i hi, h32_get G i hi⟩)
theorem Sv_get (F : Nat → Int) (i : Nat) (hi : i < 8) : (#[Value.int .u64 (F 0), .int .u64 (F 1), .int .u64 (F 2), .int .u64 (F 3), .int .u64 (F 4), .int .u64 (F 5), .int .u64 (F 6), .int .u64 (F 7)] : Array Value)[i]? = some (.int .u64 (F i)) := by
  have : i = 0 ∨ i = 1 ∨ i = 2 ∨ i = 3 ∨ i = 4 ∨ i = 5 ∨ i = 6 ∨ i = 7 := by omega
  rcases this with rfl | rfl | rfl | rfl | rfl | rfl | rfl | rfl <;> rfl
theorem eq32_self (F : Nat → Int) (w : World) : (binOp .eql 55 (Hv F) (Hv F)).run Try.prog w = .ok (.bool true) w := by
  rw [eq32, same_self]
end Sp
end Go.Proofs.Ytblodmjnhmfjeaa
