/- lampbearerlaw.SpongePads: sponge.Pad answers as the document's own does. -/
import Derived.Test.YtjikibeacbkkjaaSpSPad
namespace Go.Proofs.Ytjikibeacbkkjaa
namespace Sp
open Go.RowKit
theorem Vb_str {l : List UInt8} {B g : Nat} {w : World} (h : Vb .u8 B g l.length (bz l) w) : (convert 27 9 (.slice (some ⟨g, 0, none⟩) l.length l.length)).run Try.prog w = .ok (.string (str l)) w := conv_str h.c
set_option maxHeartbeats 1000000 in
set_option maxRecDepth 100000 in
theorem law_pads (l : List UInt8) (ao : Option Addr) (cap : Nat) (w : World) (hl : (l.length : Int) ≤ 140737488355328) (hv : Vw l ao w) :
    Calls Try.prog 4 #[.slice ao l.length cap] w fun e w' => e = .returned (.bool true) ∧ Below w.heap.size w w' := by
  have K1 : Hid (∀ w : World, Vw l ao w → Calls Try.prog 13 #[.slice ao l.length cap] w fun e w' => ∃ g, e = .returned (.slice (some ⟨g, 0, none⟩) (pad l).length (pad l).length) ∧ Vb .u8 w.heap.size g (pad l).length (bz (pad l)) w' ∧ Below w.heap.size w w') := fun w hv => pad_any l ao cap w hl hv
  have K2 : Hid (∀ w : World, Vw l ao w → Calls Try.prog 14 #[.slice ao l.length cap] w fun e w' => ∃ g, e = .returned (.slice (some ⟨g, 0, none⟩) (pad l).length (pad l).length) ∧ Vb .u8 w.heap.size g (pad l).length (bz (pad l)) w' ∧ Below w.heap.size w w') := fun w hv => spad_any l ao cap w hl hv
  have v0 : Vw l ao w.drew := Vw_drew hv
  have b0 : Below w.heap.size w w.drew := (Below.refl _ _).drew
  have z0 : w.heap.size ≤ w.drew.heap.size := Nat.le_refl _
  clear hl hv
  generalize pad l = p at *
  go_enter Try.func4, Try.ntmps4
  go_wp2_with fail
  go_region_with
    (first
      | (go_at_call 13; refine (K1.out _ v0).mono ?_; rintro e w1 ⟨g1, rfl, q1, hb1⟩; have v1 := Vw_below v0 hb1; have b1 := b0.trans (hb1.mono z0); have z1 : w.heap.size ≤ w1.heap.size := Nat.le_trans z0 hb1.size; have r1 := Vb_str q1; clear hb1 v0 b0 z0)
      | (go_at_call 14; refine (K2.out _ v1).mono ?_; rintro e w2 ⟨g2, rfl, q2, hb2⟩; have b2 := b1.trans (hb2.mono z1); have r2 := Vb_str q2; have r3 := Vb_str (Vb_below q1 hb2); clear hb2))
  all_goals
    go_wp2
    go_ret
    exact ⟨rfl, b2⟩
end Sp
end Go.Proofs.Ytjikibeacbkkjaa
