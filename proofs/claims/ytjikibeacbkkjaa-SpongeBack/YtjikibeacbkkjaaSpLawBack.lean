/- lampbearerkeep.SpongeBack: nothing is lost in mixing. -/
import Derived.Test.YtjikibeacbkkjaaSpAlive
namespace Go.Proofs.Ytjikibeacbkkjaa
namespace Sp
open Go.RowKit
attribute [local go_sem ↓] Go.wp_at_zero Go.wp_at_succ
/-- The first eight parts are the same. -/
def E8 (F G : Nat → Int) : Prop := ∀ i, i < 8 → F i = G i
theorem E8_upd {F G : Nat → Int} (h : E8 F G) (k : Nat) {v v' : Int} (hv : v = v') : E8 (upd F k v) (upd G k v') := fun i hi => by
  unfold upd; rw [hv]; split; rfl; exact h i hi
theorem tn_E8 {F G : Nat → Int} (h : E8 F G) (i : Nat) : tn F i = tn G i := by
  unfold tn; rw [h _ (Nat.mod_lt _ (by decide)), h ((i + 5) % 8) (Nat.mod_lt _ (by decide))]
theorem E8_st {F G : Nat → Int} (h : E8 F G) (i : Nat) (hi : i < 8) : E8 (st F i) (st G i) := E8_upd h i (by rw [h i hi, tn_E8 h])
theorem E8_ts {F G : Nat → Int} (h : E8 F G) (i : Nat) (hi : i < 8) : E8 (ts F i) (ts G i) := E8_upd h i (by rw [h i hi, tn_E8 h])
theorem E8_sts {F G : Nat → Int} (h : E8 F G) : ∀ k, k ≤ 8 → E8 (sts F k) (sts G k)
  | 0, _ => h
  | k + 1, hk => E8_st (E8_sts h k (by omega)) k (by omega)
theorem E8_tss {F G : Nat → Int} (h : E8 F G) : ∀ k, k ≤ 8 → E8 (tss F k) (tss G k)
  | 0, _ => h
  | k + 1, hk => E8_ts (E8_tss h k (by omega)) (7 - k) (by omega)
theorem E8_sx {F G : Nat → Int} (h : E8 F G) (r : Nat) : E8 (sx F r) (sx G r) := E8_upd h 0 (by rw [h 0 (by decide)])
theorem E8_mixs {F G : Nat → Int} (h : E8 F G) : ∀ k, E8 (mixs F k) (mixs G k)
  | 0 => h
  | k + 1 => E8_sts (E8_sx (E8_mixs h k) _) 8 (by decide)
theorem E8_umixs {F G : Nat → Int} (h : E8 F G) : ∀ k, E8 (umixs F k) (umixs G k)
  | 0 => h
  | k + 1 => E8_sx (E8_tss (E8_umixs h k) 8 (by decide)) _
theorem same_mix (F G : Nat → Int) (hF : UF F) (hG : UF G) : same 8 (mix F) (mix G) = same 8 F G := by
  rw [Bool.eq_iff_iff, same_iff, same_iff]
  constructor
  · intro h
    have k := E8_umixs (F := mix F) (G := mix G) h 12
    have k' : E8 (umix (mix F)) (umix (mix G)) := k
    rw [umix_mix hF, umix_mix hG] at k'
    exact k'
  · intro h; exact E8_mixs (F := F) (G := G) h 12
/-- Two states handed in, each in a block of its own. -/
structure S2 (w : World) (F G : Nat → Int) (wx : World) : Prop where
  hi : w.heap.size + 1 < wx.heap.size
  c0 : ∀ o, o < 8 → wx.cell? ⟨w.heap.size, o, none⟩ = some (.int .u64 (F o))
  c1 : ∀ o, o < 8 → wx.cell? ⟨w.heap.size + 1, o, none⟩ = some (.int .u64 (G o))
  bel : Below w.heap.size w wx
theorem S2_below {w : World} {F G : Nat → Int} {w1 w2 : World} (h : S2 w F G w1) (k : Below w1.heap.size w1 w2) : S2 w F G w2 := by
  have hi := h.hi
  have := k.size
  exact ⟨by omega, CK_below h.c0 k (by omega), CK_below h.c1 k (by omega), h.bel.trans (k.mono (by omega))⟩
theorem S2_drew {w : World} {F G : Nat → Int} {w1 : World} (h : S2 w F G w1) : S2 w F G w1.drew := ⟨h.hi, h.c0, h.c1, h.bel.drew⟩
theorem S2_start (w : World) (F G : Nat → Int) : S2 w F G ((w.alloc (.cells #[.int .u64 (F 0), .int .u64 (F 1), .int .u64 (F 2), .int .u64 (F 3), .int .u64 (F 4), .int .u64 (F 5), .int .u64 (F 6), .int .u64 (F 7)] 24)).alloc (.cells #[.int .u64 (G 0), .int .u64 (G 1), .int .u64 (G 2), .int .u64 (G 3), .int .u64 (G 4), .int .u64 (G 5), .int .u64 (G 6), .int .u64 (G 7)] 24)) := by
  have k := (Vb_new8 w.heap.size G (w.alloc (.cells #[.int .u64 (F 0), .int .u64 (F 1), .int .u64 (F 2), .int .u64 (F 3), .int .u64 (F 4), .int .u64 (F 5), .int .u64 (F 6), .int .u64 (F 7)] 24)) 24 (by simp)).c
  simp only [World.size_alloc] at k
  exact ⟨by simp, CK_al (Vb_new8 w.heap.size F w 24 (Nat.le_refl _)).c (by simp) _, k, ((Below.refl _ _).alloc (Nat.le_refl _) _).alloc (by simp) _⟩
theorem guard_lit (op : BinOp) (x y : Operand) (xs ys : Array Value) (w : World) : (eqGuard op 24 x y (.agg xs) (.agg ys)).run Try.prog w = .ok () w :=
  run_eqGuard_agg w op _ x y _ _ eqGuardState
set_option maxHeartbeats 4000000 in
set_option maxRecDepth 100000 in
theorem law_back (F G : Nat → Int) (hF : UF F) (hG : UF G) (w : World) :
    Calls Try.prog 7 #[Sv F, Sv G] w fun e w' => e = .returned (.bool true) ∧ Below w.heap.size w w' := by
  have K1 : Hid (∀ w : World, Calls Try.prog 9 #[Sv F] w fun e w' => e = .returned (Sv (mix F)) ∧ Below w.heap.size w w') := fun w => by exact mix_any F hF w
  have K2 : Hid (∀ w : World, Calls Try.prog 11 #[Sv (mix F)] w fun e w' => e = .returned (Sv F) ∧ Below w.heap.size w w') := fun w => by
    have k := unmix_any (mix F) (UF_mix hF) w
    rw [umix_mix hF] at k; exact k
  have K3 : Hid (∀ w : World, Calls Try.prog 11 #[Sv F] w fun e w' => e = .returned (Sv (umix F)) ∧ Below w.heap.size w w') := fun w => by exact unmix_any F hF w
  have K4 : Hid (∀ w : World, Calls Try.prog 9 #[Sv (umix F)] w fun e w' => e = .returned (Sv F) ∧ Below w.heap.size w w') := fun w => by
    have k := mix_any (umix F) (UF_umix hF) w
    rw [mix_umix hF] at k; exact k
  have K5 : Hid (∀ w : World, Calls Try.prog 9 #[Sv G] w fun e w' => e = .returned (Sv (mix G)) ∧ Below w.heap.size w w') := fun w => by exact mix_any G hG w
  have l1 : ∀ w, (binOp .eql 24 (.agg #[.int .u64 (F 0), .int .u64 (F 1), .int .u64 (F 2), .int .u64 (F 3), .int .u64 (F 4), .int .u64 (F 5), .int .u64 (F 6), .int .u64 (F 7)]) (.agg #[.int .u64 (G 0), .int .u64 (G 1), .int .u64 (G 2), .int .u64 (G 3), .int .u64 (G 4), .int .u64 (G 5), .int .u64 (G 6), .int .u64 (G 7)])).run Try.prog w = .ok (.bool (same 8 F G)) w := fun w => eq8 F G w
  have l2 : ∀ w, (binOp .eql 24 (Sv F) (.agg #[.int .u64 (F 0), .int .u64 (F 1), .int .u64 (F 2), .int .u64 (F 3), .int .u64 (F 4), .int .u64 (F 5), .int .u64 (F 6), .int .u64 (F 7)])).run Try.prog w = .ok (.bool true) w := fun w => by
    have k := eq8 F F w
    rw [same_self] at k; exact k
  have l3 : ∀ w, (binOp .eql 24 (Sv (mix F)) (Sv (mix G))).run Try.prog w = .ok (.bool (same 8 F G)) w := fun w => by rw [eq8, same_mix F G hF hG]
  have g1 : ∀ op x y w, (eqGuard op 24 x y (Sv F) (.agg #[.int .u64 (F 0), .int .u64 (F 1), .int .u64 (F 2), .int .u64 (F 3), .int .u64 (F 4), .int .u64 (F 5), .int .u64 (F 6), .int .u64 (F 7)])).run Try.prog w = .ok () w := fun op x y w => eq_guard op x y F F w
  have g2 := fun op x y => eq_guard op x y (mix F) (mix G)
  have g3 := guard_lit
  clear hF hG
  generalize same 8 F G = b at l1 l3
  conv => arg 3; unfold Sv
  have m0 := S2_start w F G
  go_enter Try.func7, Try.ntmps7
  go_wp2_with fail
  generalize (w.alloc (.cells #[.int .u64 (F 0), .int .u64 (F 1), .int .u64 (F 2), .int .u64 (F 3), .int .u64 (F 4), .int .u64 (F 5), .int .u64 (F 6), .int .u64 (F 7)] 24)).alloc (.cells #[.int .u64 (G 0), .int .u64 (G 1), .int .u64 (G 2), .int .u64 (G 3), .int .u64 (G 4), .int .u64 (G 5), .int .u64 (G 6), .int .u64 (G 7)] 24) = W0 at m0 ⊢
  refine (alive3_any W0).mono ?_
  rintro e w0 ⟨rfl, hb0⟩
  have q := S2_drew (S2_below m0 hb0)
  clear m0 hb0
  have s0 := q.c0
  have s1 := q.c1
  go_wp2_with fail
  go_region_held3 (fun w' => (∀ o, o < 8 → w'.cell? ⟨w.heap.size, o, none⟩ = some (.int .u64 (F o))) ∧ (∀ o, o < 8 → w'.cell? ⟨w.heap.size + 1, o, none⟩ = some (.int .u64 (G o)))) (with_reducible exact ⟨s0, s1⟩)
    (first
      | (go_at_call_of 9 (F 0); refine (K1.out _).mono ?_; rintro e w1 ⟨rfl, hb1⟩; replace q := S2_below q hb1; replace s0 := q.c0; replace s1 := q.c1; clear hb1)
      | (go_at_call_of 9 (G 0); refine (K5.out _).mono ?_; rintro e w1 ⟨rfl, hb1⟩; replace q := S2_below q hb1; replace s0 := q.c0; replace s1 := q.c1; clear hb1)
      | (go_at_call_of 9 (umix F); refine (K4.out _).mono ?_; rintro e w1 ⟨rfl, hb1⟩; replace q := S2_below q hb1; replace s0 := q.c0; replace s1 := q.c1; clear hb1)
      | (go_at_call_of 11 (F 0); refine (K3.out _).mono ?_; rintro e w1 ⟨rfl, hb1⟩; replace q := S2_below q hb1; replace s0 := q.c0; replace s1 := q.c1; clear hb1)
      | (go_at_call_of 11 (mix F); refine (K2.out _).mono ?_; rintro e w1 ⟨rfl, hb1⟩; replace q := S2_below q hb1; replace s0 := q.c0; replace s1 := q.c1; clear hb1))
  go_wp2
  go_ret
  exact ⟨by simp, q.bel⟩
end Sp
end Go.Proofs.Ytjikibeacbkkjaa
