/- lampbearerlaw.WordRests: word.AddMod and MulMod answer as the document's own do. -/
import Derived.Test.YtcoljaogemgnnaaWMulMod
import Derived.Test.YtcoljaogemgnnaaAddMod
namespace Go.Proofs.Ytcoljaogemgnnaa
open Go.RowKit Go.Shelf
attribute [local go_sem ↓] Go.wp_at_zero Go.wp_at_succ
set_option maxHeartbeats 4000000 in
set_option maxRecDepth 100000 in
theorem law_rests (a b c : Nat) (ha : a < 2 ^ 256) (hb : b < 2 ^ 256) (hc : c < 2 ^ 256) (w : World) :
    Calls Try.prog 3 #[Wd a, Wd b, Wd c] w fun e w' => e = .returned (.bool true) ∧ Below w.heap.size w w' := by
  obtain ⟨R, hR⟩ : ∃ r, r = md (a + b) c := ⟨_, rfl⟩
  obtain ⟨Q, hQ⟩ : ∃ r, r = md (a * b) c := ⟨_, rfl⟩
  have K1 : Hid (∀ w : World, Calls Try.prog 9 #[Wd a, Wd b, Wd c] w fun e w' => e = .returned (Wd R) ∧ Below w.heap.size w w') := fun w => by rw [hR]; exact addmod_any a b c ha hb hc w
  have K2 : Hid (∀ w : World, Calls Try.prog 10 #[Wd a, Wd b, Wd c] w fun e w' => e = .returned (Wd R) ∧ Below w.heap.size w w') := fun w => by rw [hR]; exact waddmod_any a b c ha hb hc w
  have K3 : Hid (∀ w : World, Calls Try.prog 11 #[Wd a, Wd b, Wd c] w fun e w' => e = .returned (Wd Q) ∧ Below w.heap.size w w') := fun w => by rw [hQ]; exact mulmod_any a b c ha hb hc w
  have K4 : Hid (∀ w : World, Calls Try.prog 12 #[Wd a, Wd b, Wd c] w fun e w' => e = .returned (Wd Q) ∧ Below w.heap.size w w') := fun w => by rw [hQ]; exact wmulmod_any a b c ha hb hc w
  clear ha hb hc hR hQ
  have e1 := eq_self R
  have g1 := fun op x y => eq_guard op x y R R
  have e2 := eq_self Q
  have g2 := fun op x y => eq_guard op x y Q Q
  have m := S3_start w a b c
  conv => arg 3; unfold Wd
  go_enter Try.func3, Try.ntmps3
  go_wp2_with fail
  replace m := S3_drew m
  go_region_held3 (fun w' => (∀ o, o < 4 → w'.cell? ⟨w.heap.size, o, none⟩ = some (.int .u64 (dg a o))) ∧ (∀ o, o < 4 → w'.cell? ⟨w.heap.size + 1, o, none⟩ = some (.int .u64 (dg b o))) ∧ (∀ o, o < 4 → w'.cell? ⟨w.heap.size + 1 + 1, o, none⟩ = some (.int .u64 (dg c o)))) (exact ⟨m.c0, m.c1, m.c2⟩)
    (first
      | (go_at_call 9; refine (K1.out _).mono ?_; rintro e w1 ⟨rfl, hb1⟩; replace m := S3_below m hb1; clear hb1)
      | (go_at_call 10; refine (K2.out _).mono ?_; rintro e w1 ⟨rfl, hb1⟩; replace m := S3_below m hb1; clear hb1)
      | (go_at_call 11; refine (K3.out _).mono ?_; rintro e w1 ⟨rfl, hb1⟩; replace m := S3_below m hb1; clear hb1)
      | (go_at_call 12; refine (K4.out _).mono ?_; rintro e w1 ⟨rfl, hb1⟩; replace m := S3_below m hb1; clear hb1))
  all_goals
    go_wp2_with fail
    go_ret
    exact ⟨rfl, m.bel⟩
end Go.Proofs.Ytcoljaogemgnnaa
