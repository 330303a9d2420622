/- word.Add: the sum of two words, rest 2^256. -/
import Derived.Test.YtblodmjnhmfjeaaSum
namespace Go.Proofs.Ytblodmjnhmfjeaa
open Go.RowKit Go.Shelf
theorem bcell {W w1 : World} (hb : Below W.heap.size W w1) : (∀ b o, b < W.heap.size → w1.cell? ⟨b, o, none⟩ = W.cell? ⟨b, o, none⟩) ∧ (∀ b o, b < W.heap.size → w1.frozen? ⟨b, o, none⟩ = W.frozen? ⟨b, o, none⟩) :=
  ⟨fun b o h => hb.cell (p := ⟨b, o, none⟩) h, fun b o h => hb.frozen (p := ⟨b, o, none⟩) h⟩
set_option maxHeartbeats 400000 in
theorem add_any (a b : Nat) (ha : a < 2 ^ 256) (hb : b < 2 ^ 256) (w : World) :
    Calls Try.prog 14 #[Wd a, Wd b] w fun e w' => e = .returned (Wd (a + b)) ∧ Below w.heap.size w w' := by
  have Ha : Hid (a < 2 ^ 256) := ha
  have Hb : Hid (b < 2 ^ 256) := hb
  clear ha hb
  conv => arg 3; unfold Wd
  go_enter Try.func14, Try.ntmps14
  go_wp2_with fail
  refine (sum_any a b Ha.out Hb.out _).mono ?_
  rintro e w1 ⟨rfl, h1⟩
  have hz : w.heap.size + 1 + 1 < w1.heap.size := by have := h1.size; simp at this; omega
  obtain ⟨hc, hf⟩ := bcell h1
  have H1 : Hid (Below _ _ w1) := h1
  clear h1
  simp only [Wd]
  go_wp2_with fail
  refine bodyPost_ret (v := Wd (a + b)) (by simp [Wd, results, Try.results14, go_sem, hc, hz]) rfl ⟨rfl, ?_⟩
  repeat (first | exact Below.refl _ _ | refine Below.drew ?_ | refine Below.setCell ?_ (by simp <;> omega) _ | refine Below.alloc ?_ (by simp <;> omega) _ | refine Below.trans ?_ (H1.out.mono (by simp <;> omega)))
end Go.Proofs.Ytblodmjnhmfjeaa
