/- lampbearerlaw.SpongeMixes: sponge.Mix and Unmix answer as the document's own do. -/
import Derived.Test.YtjikibeacbkkjaaSpUnmix
import Derived.Test.YtjikibeacbkkjaaSpSMix
import Derived.Test.YtjikibeacbkkjaaSpSUnmix
import Derived.ChangeKeysEq
namespace Go.Proofs.Ytjikibeacbkkjaa
namespace Sp
open Go.RowKit
attribute [local go_sem ↓] Go.wp_at_zero Go.wp_at_succ
theorem infoU64 : ∃ i, Try.prog.info? 22 = some i := by
  have h : (Try.prog.info? 22).isSome = true := by kernel_rfl
  exact Option.isSome_iff_exists.1 h
theorem cellsU64 : Try.prog.cellsOf 22 = 1 := by kernel_rfl
theorem eq_self (F : Nat → Int) (w : World) : (binOp .eql 24 (Sv F) (Sv F)).run Try.prog w = .ok (.bool true) w := by
  obtain ⟨i, hi⟩ := infoU64
  unfold Sv
  rw [run_eql_struct, run_equalIn_array w 9999 _ _ Try.underlying24 hi, cellsU64]
  simp [Op.eqItems, go_sem, List.range, List.range.loop]
theorem eqGuardState : Try.prog.eqGuardType Try.prog.depth 24 = false := by kernel_rfl
theorem eq_guard (op : BinOp) (x y : Operand) (F G : Nat → Int) (w : World) : (eqGuard op 24 x y (Sv F) (Sv G)).run Try.prog w = .ok () w := by
  unfold Sv
  exact run_eqGuard_agg w op _ x y _ _ eqGuardState
/-- One state handed in, in a block of its own. -/
structure S1 (w : World) (F : Nat → Int) (wx : World) : Prop where
  hi : w.heap.size < wx.heap.size
  c0 : ∀ o, o < 8 → wx.cell? ⟨w.heap.size, o, none⟩ = some (.int .u64 (F o))
  bel : Below w.heap.size w wx
theorem S1_below {w : World} {F : Nat → Int} {w1 w2 : World} (h : S1 w F w1) (k : Below w1.heap.size w1 w2) : S1 w F w2 := by
  have hi := h.hi
  have := k.size
  exact ⟨by omega, CK_below h.c0 k (by omega), h.bel.trans (k.mono (by omega))⟩
theorem S1_drew {w : World} {F : Nat → Int} {w1 : World} (h : S1 w F w1) : S1 w F w1.drew := ⟨h.hi, h.c0, h.bel.drew⟩
theorem S1_start (w : World) (F : Nat → Int) : S1 w F (w.alloc (.cells #[.int .u64 (F 0), .int .u64 (F 1), .int .u64 (F 2), .int .u64 (F 3), .int .u64 (F 4), .int .u64 (F 5), .int .u64 (F 6), .int .u64 (F 7)] 24)) :=
  ⟨by simp, (Vb_new8 w.heap.size F w 24 (Nat.le_refl _)).c, (Below.refl _ _).alloc (Nat.le_refl _) _⟩
set_option maxHeartbeats 4000000 in
set_option maxRecDepth 100000 in
theorem law_mixes (F : Nat → Int) (hF : UF F) (w : World) :
    Calls Try.prog 3 #[Sv F] w fun e w' => e = .returned (.bool true) ∧ Below w.heap.size w w' := by
  have K1 : Hid (∀ w : World, Calls Try.prog 9 #[Sv F] w fun e w' => e = .returned (Sv (mix F)) ∧ Below w.heap.size w w') := fun w => by exact mix_any F hF w
  have K2 : Hid (∀ w : World, Calls Try.prog 10 #[Sv F] w fun e w' => e = .returned (Sv (mix F)) ∧ Below w.heap.size w w') := fun w => by exact smix_any F hF w
  have K3 : Hid (∀ w : World, Calls Try.prog 11 #[Sv F] w fun e w' => e = .returned (Sv (umix F)) ∧ Below w.heap.size w w') := fun w => by exact unmix_any F hF w
  have K4 : Hid (∀ w : World, Calls Try.prog 12 #[Sv F] w fun e w' => e = .returned (Sv (umix F)) ∧ Below w.heap.size w w') := fun w => by exact sunmix_any F hF w
  clear hF
  conv => arg 3; unfold Sv
  have e1 := eq_self (mix F)
  have e2 := eq_self (umix F)
  have g1 := fun op x y => eq_guard op x y (mix F) (mix F)
  have g2 := fun op x y => eq_guard op x y (umix F) (umix F)
  have m0 := S1_start w F
  go_enter Try.func3, Try.ntmps3
  go_wp2
  generalize w.alloc (.cells #[.int .u64 (F 0), .int .u64 (F 1), .int .u64 (F 2), .int .u64 (F 3), .int .u64 (F 4), .int .u64 (F 5), .int .u64 (F 6), .int .u64 (F 7)] 24) = W0 at m0 ⊢
  have q0 := S1_drew m0
  clear m0
  have s0 := q0.c0
  go_region_held3 (fun w' => (∀ o, o < 8 → w'.cell? ⟨w.heap.size, o, none⟩ = some (.int .u64 (F o)))) (first | with_reducible exact s0 | with_reducible exact s1 | with_reducible exact s2 | with_reducible exact s3 | with_reducible exact s4)
    (first
      | (go_at_call 9; refine (K1.out _).mono ?_; rintro e w1 ⟨rfl, hb1⟩; have q1 := S1_below q0 hb1; have s1 := q1.c0; clear hb1 q0 s0)
      | (go_at_call 10; refine (K2.out _).mono ?_; rintro e w2 ⟨rfl, hb2⟩; have q2 := S1_below q1 hb2; have s2 := q2.c0; clear hb2 q1 s1)
      | (go_at_call 11; refine (K3.out _).mono ?_; rintro e w3 ⟨rfl, hb3⟩; have q3 := S1_below q2 hb3; have s3 := q3.c0; clear hb3 q2 s2)
      | (go_at_call 12; refine (K4.out _).mono ?_; rintro e w4 ⟨rfl, hb4⟩; have q4 := S1_below q3 hb4; have s4 := q4.c0; clear hb4 q3 s3))
  go_wp2
  go_ret
  exact ⟨rfl, q4.bel⟩
end Sp
end Go.Proofs.Ytjikibeacbkkjaa
