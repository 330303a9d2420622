/- lampbearerref.WCmp: the document's own order of words. -/
import Derived.Test.YtcoljaogemgnnabWLess
import Derived.Test.YtcoljaogemgnnabCmp
import Derived.Test.YtcoljaogemgnnabLawKit
import Derived.Test.YtcoljaogemgnnabSpEq
namespace Go.Proofs.Ytcoljaogemgnnab
open Go.RowKit Go.Shelf
theorem dg_inj {a b : Nat} (ha : a < 2 ^ 256) (hb : b < 2 ^ 256) (h : ∀ o, o < 4 → dg a o = dg b o) : a = b := by
  have h0 := h 0 (by decide)
  have h1 := h 1 (by decide)
  have h2 := h 2 (by decide)
  have h3 := h 3 (by decide)
  simp only [dg0, dg1, dg2, dg3] at h0 h1 h2 h3
  omega
theorem Wd_get (a i : Nat) (hi : i < 4) : (#[Value.int .u64 (dg a 0), .int .u64 (dg a 1), .int .u64 (dg a 2), .int .u64 (dg a 3)] : Array Value)[i]? = some (.int .u64 (dg a i)) := by
  have : i = 0 ∨ i = 1 ∨ i = 2 ∨ i = 3 := by omega
  rcases this with rfl | rfl | rfl | rfl <;> rfl
/-- Two words are equal where their numbers are. -/
theorem eq_word (a b : Nat) (ha : a < 2 ^ 256) (hb : b < 2 ^ 256) (w : World) : (binOp .eql 24 (.agg #[.int .u64 (dg a 0), .int .u64 (dg a 1), .int .u64 (dg a 2), .int .u64 (dg a 3)]) (.agg #[.int .u64 (dg b 0), .int .u64 (dg b 1), .int .u64 (dg b 2), .int .u64 (dg b 3)])).run Try.prog w = .ok (.bool (decide (a = b))) w := by
  rw [Sp.eql_array 24 22 4 .u64 Try.underlying24 Try.underlying22 (by kernel_rfl) (by kernel_rfl) (by kernel_rfl) _ _ (dg a) (dg b) w (fun i hi => ⟨Wd_get a i hi, Wd_get b i hi⟩)]
  congr 2
  rw [Bool.eq_iff_iff, Sp.same_iff, decide_eq_true_iff]
  exact ⟨dg_inj ha hb, fun h => by rw [h]; exact fun _ _ => rfl⟩
set_option maxHeartbeats 1000000 in
set_option maxRecDepth 100000 in
theorem wcmp_any (a b : Nat) (ha : a < 2 ^ 256) (hb : b < 2 ^ 256) (w : World) :
    Calls Try.prog 45 #[Wd a, Wd b] w fun e w' => e = .returned (.int .i64 (cm (a : Int) (b : Int))) ∧ Below w.heap.size w w' := by
  have q1 := eq_guard2
  have e1 := eq_word a b ha hb
  have K : Hid (∀ w : World, Calls Try.prog 35 #[Wd a, Wd b] w fun e w' => e = .returned (.bool (decide (a < b))) ∧ Below w.heap.size w w') := fun w => wless_any a b ha hb w
  have m0 := S2_start w a b
  conv => arg 3; unfold Wd
  by_cases h : a = b
  · rw [decide_eq_true h] at e1
    rw [show cm (a : Int) (b : Int) = 0 by unfold cm; rw [if_neg (by omega), if_neg (by omega)]]
    clear ha hb h K
    have HM : Hid (Below w.heap.size w ((w.alloc (.cells #[.int .u64 (dg a 0), .int .u64 (dg a 1), .int .u64 (dg a 2), .int .u64 (dg a 3)] 24)).alloc (.cells #[.int .u64 (dg b 0), .int .u64 (dg b 1), .int .u64 (dg b 2), .int .u64 (dg b 3)] 24))) := m0.bel
    clear m0
    go_enter Try.func45, Try.ntmps45
    go_wp2_with fail
    go_ret
    exact ⟨rfl, HM.out⟩
  · rw [decide_eq_false h] at e1
    by_cases h2 : a < b
    · rw [decide_eq_true h2] at K
      rw [show cm (a : Int) (b : Int) = -1 by unfold cm; rw [if_pos (by omega)]]
      clear ha hb h h2
      go_enter Try.func45, Try.ntmps45
      go_wp2_with fail
      refine (K.out _).mono ?_
      rintro e w1 ⟨rfl, hb1⟩
      replace m0 := S2_below m0 hb1
      clear hb1
      go_wp2_with fail
      go_ret
      exact ⟨rfl, m0.bel⟩
    · rw [decide_eq_false h2] at K
      rw [show cm (a : Int) (b : Int) = 1 by unfold cm; rw [if_neg (by omega), if_pos (by omega)]]
      clear ha hb h h2
      go_enter Try.func45, Try.ntmps45
      go_wp2_with fail
      refine (K.out _).mono ?_
      rintro e w1 ⟨rfl, hb1⟩
      replace m0 := S2_below m0 hb1
      clear hb1
      go_wp2_with fail
      go_ret
      exact ⟨rfl, m0.bel⟩
end Go.Proofs.Ytcoljaogemgnnab
