/- lampbearerref.WCmp: the document's own order of words. -/
import Derived.Test.YtblodmjnhmfjeaaWLess
import Derived.Test.YtblodmjnhmfjeaaCmp
import Derived.Test.YtblodmjnhmfjeaaLawKit
import Derived.Test.YtblodmjnhmfjeaaSpEq
namespace Go.Proofs.Ytblodmjnhmfjeaa
open Go.RowKit Go.Shelf
theorem dg_inj {a b : Nat} (ha : a < 2 ^ 256) (hb : b < 2 ^ 256) (h : ∀ o, o < 4 → dg a o = dg b o) : a = b := by
  have h0 := h 0 (by decide)
  have h1 := h 1 (by decide)
  have h2 := h 2 (by decide)
  have h3 := h 3 (by decide)
  simp only [dg0, dg1, dg2, dg3] at h0 h1 h2 h3
  omega
theorem Wd_get (a i : Nat) (hi : i < 4) : (#[Value.int .u64 (dg a 0), .int .u64 (dg a 1), .int .u64 (dg a 2), .int .u64 (dg a 3)] : Array Value)[i]? = some (.int .u64 (dg a i)) := by
  have : i = 0 ∨ i = 1 ∨ i = 2 ∨ i = 3 := by omega
  rcases this with rfl | rfl | rfl | rfl <;> rfl
/-- Two words are equal where their numbers are. -/
theorem eq_word (a b : Nat) (ha : a < 2 ^ 256) (hb : b < 2 ^ 256) (w : World) : (binOp .eql 24 (.agg #[.int .u64 (dg a 0), .int .u64 (dg a 1), .int .u64 (dg a 2), .int .u64 (dg a 3)]) (.agg #[.int .u64 (dg b 0), .int .u64 (dg b 1), .int .u64 (dg b 2), .int .u64 (dg b 3)])).run Try.prog w = .ok (.bool (decide (a = b))) w := by
  rw [Sp.eql_array 24 22 4 .u64 Try.underlying24 Try.underlying22 (by kernel_rfl) (by kernel_rfl) (by kernel_rfl) _ _ (dg a) (dg b) w (fun i hi => ⟨Wd_get a i hi, Wd_get b i hi⟩)]
  congr 2
  rw [Bool.eq_iff_iff, Sp.same_iff, decide_eq_true_iff]
  exact ⟨dg_inj ha hb, fun h => by rw [h]; exact fun _ _ => rfl⟩
end Go.Proofs.Ytblodmjnhmfjeaa
