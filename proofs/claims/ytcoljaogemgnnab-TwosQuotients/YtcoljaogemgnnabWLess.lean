/- lampbearerref.WLess: the order of words, by their bytes. -/
import Derived.Test.YtcoljaogemgnnabLArith
import Derived.Test.YtcoljaogemgnnabLawSums
namespace Go.Proofs.Ytcoljaogemgnnab
open Go.RowKit Go.Shelf
attribute [local go_sem ↓] Go.wp_at_zero Go.wp_at_succ
theorem conv_bytes {g cap : Nat} {a : Nat} {w : World} (h : R32 g (bt a) w) : (convert 37 9 (.slice (some ⟨g, 0, none⟩) 32 cap)).run Try.prog w = .ok (.string (wstr a)) w :=
  run_convert_bytes_arg w 37 5 Try.underlying37 Try.underlying5 g 0 32 cap ((List.range 32).map (bt a)) (by simp) (fun i hi => by rw [Nat.zero_add, bt_getD a i hi]; exact h i hi) 9 Try.underlying9
set_option maxHeartbeats 1000000 in
set_option maxRecDepth 100000 in
theorem wless_any (a b : Nat) (ha : a < 2 ^ 256) (hb : b < 2 ^ 256) (w : World) :
    Calls Try.prog 35 #[Wd a, Wd b] w fun e w' => e = .returned (.bool (decide (a < b))) ∧ Below w.heap.size w w' := by
  rw [← wstr_less a b ha hb]
  clear ha hb
  conv => arg 3; unfold Wd
  go_enter Try.func35, Try.ntmps35
  have s0 : C4 w.heap.size a ((w.alloc (.cells #[.int .u64 (dg a 0), .int .u64 (dg a 1), .int .u64 (dg a 2), .int .u64 (dg a 3)] 24)).alloc (.cells #[.int .u64 (dg b 0), .int .u64 (dg b 1), .int .u64 (dg b 2), .int .u64 (dg b 3)] 24)).drew ∧ C4 (w.heap.size + 1) b ((w.alloc (.cells #[.int .u64 (dg a 0), .int .u64 (dg a 1), .int .u64 (dg a 2), .int .u64 (dg a 3)] 24)).alloc (.cells #[.int .u64 (dg b 0), .int .u64 (dg b 1), .int .u64 (dg b 2), .int .u64 (dg b 3)] 24)).drew := by
    refine ⟨fun o ho => ?_, fun o ho => ?_⟩ <;> (have : o = 0 ∨ o = 1 ∨ o = 2 ∨ o = 3 := (by omega)) <;> rcases this with rfl | rfl | rfl | rfl <;> simp [go_sem]
  have z0 : w.heap.size + 1 < ((w.alloc (.cells #[.int .u64 (dg a 0), .int .u64 (dg a 1), .int .u64 (dg a 2), .int .u64 (dg a 3)] 24)).alloc (.cells #[.int .u64 (dg b 0), .int .u64 (dg b 1), .int .u64 (dg b 2), .int .u64 (dg b 3)] 24)).drew.heap.size := by simp
  have b0 : Below w.heap.size w ((w.alloc (.cells #[.int .u64 (dg a 0), .int .u64 (dg a 1), .int .u64 (dg a 2), .int .u64 (dg a 3)] 24)).alloc (.cells #[.int .u64 (dg b 0), .int .u64 (dg b 1), .int .u64 (dg b 2), .int .u64 (dg b 3)] 24)).drew := (((Below.refl _ _).alloc (Nat.le_refl _) _).alloc (by simp) _).drew
  go_wp2
  go_region_with
    (first
      | (go_at_call_of 37 (dg a 0); refine (wbytes_any a _).mono ?_; rintro e w1 ⟨g1, cap1, rfl, own1, hb1⟩; have z1 : w.heap.size + 1 < w1.heap.size := Nat.lt_of_lt_of_le z0 hb1.size; have s1 := And.intro (C4_below s0.1 hb1 (Nat.lt_of_succ_lt z0)) (C4_below s0.2 hb1 z0); have b1 := b0.trans (hb1.mono (Nat.le_of_lt (Nat.lt_of_succ_lt z0))); have c1 : ∀ o, o < 4 → w1.cell? ⟨w.heap.size + 1, o, none⟩ = some (.int .u64 (dg b o)) := s1.2; have q1 := R32_own own1; have l1 := (own1.lt g1 rfl).2; have v1 := conv_bytes (cap := cap1) q1; clear own1 hb1)
      | (go_at_call_of 37 (dg b 0); refine (wbytes_any b _).mono ?_; rintro e w2 ⟨g2, cap2, rfl, own2, hb2⟩; have s2 := And.intro (C4_below s1.1 hb2 (Nat.lt_of_succ_lt z1)) (C4_below s1.2 hb2 z1); have b2 := b1.trans (hb2.mono (Nat.le_of_lt (Nat.lt_of_succ_lt z1))); have q2 := R32_own own2; have v2 := conv_bytes (cap := cap2) q2; have v3 := conv_bytes (cap := cap1) (R32_below q1 hb2 l1); clear own2 hb2))
  all_goals
    go_wp2
    go_ret
    exact ⟨rfl, b2⟩
end Go.Proofs.Ytcoljaogemgnnab
