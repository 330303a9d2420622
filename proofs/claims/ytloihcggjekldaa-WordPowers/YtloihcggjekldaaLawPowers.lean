/- lampbearerlaw.WordPowers: word.Exp answers as the document's own power does. -/
import Derived.Test.YtloihcggjekldaaWExp
import Derived.Test.YtloihcggjekldaaOpen
namespace Go.Proofs.Ytloihcggjekldaa
open Go.RowKit Go.Shelf
attribute [local go_sem ↓] Go.wp_at_zero Go.wp_at_succ
set_option maxHeartbeats 4000000 in
set_option maxRecDepth 100000 in
theorem law_powers (a b : Nat) (_ : a < 2 ^ 256) (hb : b < 2 ^ 256) (w : World) :
    Calls Try.prog 6 #[Wd a, Wd b] w fun e w' => e = .returned (.bool true) ∧ Below w.heap.size w w' := by
  obtain ⟨N, hN⟩ : ∃ r, r = a ^ b := ⟨_, rfl⟩
  have K1 : Hid (∀ w : World, Calls Try.prog 21 #[Wd a, Wd b] w fun e w' => e = .returned (Wd N) ∧ Below w.heap.size w w') := fun w => by rw [hN]; exact exp_any a b hb w
  have K2 : Hid (∀ w : World, Calls Try.prog 22 #[Wd a, Wd b] w fun e w' => e = .returned (Wd N) ∧ Below w.heap.size w w') := fun w => by rw [hN]; exact wexp_any a b hb w
  clear hb hN
  conv => arg 3; unfold Wd
  have eN := eq_self N
  have gN := fun op x y => eq_guard op x y N N
  have s0 : C4 w.heap.size a ((w.alloc (.cells #[.int .u64 (dg a 0), .int .u64 (dg a 1), .int .u64 (dg a 2), .int .u64 (dg a 3)] 24)).alloc (.cells #[.int .u64 (dg b 0), .int .u64 (dg b 1), .int .u64 (dg b 2), .int .u64 (dg b 3)] 24)).drew ∧ C4 (w.heap.size + 1) b ((w.alloc (.cells #[.int .u64 (dg a 0), .int .u64 (dg a 1), .int .u64 (dg a 2), .int .u64 (dg a 3)] 24)).alloc (.cells #[.int .u64 (dg b 0), .int .u64 (dg b 1), .int .u64 (dg b 2), .int .u64 (dg b 3)] 24)).drew := by
    refine ⟨fun o ho => ?_, fun o ho => ?_⟩ <;> (have : o = 0 ∨ o = 1 ∨ o = 2 ∨ o = 3 := (by omega)) <;> rcases this with rfl | rfl | rfl | rfl <;> simp [go_sem]
  have z0 : w.heap.size + 1 < ((w.alloc (.cells #[.int .u64 (dg a 0), .int .u64 (dg a 1), .int .u64 (dg a 2), .int .u64 (dg a 3)] 24)).alloc (.cells #[.int .u64 (dg b 0), .int .u64 (dg b 1), .int .u64 (dg b 2), .int .u64 (dg b 3)] 24)).drew.heap.size := by simp
  have b0 : Below w.heap.size w ((w.alloc (.cells #[.int .u64 (dg a 0), .int .u64 (dg a 1), .int .u64 (dg a 2), .int .u64 (dg a 3)] 24)).alloc (.cells #[.int .u64 (dg b 0), .int .u64 (dg b 1), .int .u64 (dg b 2), .int .u64 (dg b 3)] 24)).drew := (((Below.refl _ _).alloc (Nat.le_refl _) _).alloc (by simp) _).drew
  go_enter Try.func6, Try.ntmps6
  go_wp2
  go_region_held3 (fun w' => (∀ o, o < 4 → w'.cell? ⟨w.heap.size, o, none⟩ = some (.int .u64 (dg a o))) ∧ (∀ o, o < 4 → w'.cell? ⟨w.heap.size + 1, o, none⟩ = some (.int .u64 (dg b o)))) (first | exact s2 | exact s1 | exact s0)
    (first
      | (go_at_call 21; refine (K1.out _).mono ?_; rintro e w1 ⟨rfl, hb1⟩; have z1 : w.heap.size + 1 < w1.heap.size := Nat.lt_of_lt_of_le z0 hb1.size; have s1 := And.intro (C4_below s0.1 hb1 (Nat.lt_of_succ_lt z0)) (C4_below s0.2 hb1 z0); have b1 := b0.trans (hb1.mono (Nat.le_of_lt (Nat.lt_of_succ_lt z0))); clear hb1 z0 b0)
      | (go_at_call 22; refine (K2.out _).mono ?_; rintro e w2 ⟨rfl, hb2⟩; have z2 : w.heap.size + 1 < w2.heap.size := Nat.lt_of_lt_of_le z1 hb2.size; have s2 := And.intro (C4_below s1.1 hb2 (Nat.lt_of_succ_lt z1)) (C4_below s1.2 hb2 z1); have b2 := b1.trans (hb2.mono (Nat.le_of_lt (Nat.lt_of_succ_lt z1))); clear hb2 z1 b1))
  go_wp2
  go_ret
  exact ⟨rfl, b2⟩
end Go.Proofs.Ytloihcggjekldaa
