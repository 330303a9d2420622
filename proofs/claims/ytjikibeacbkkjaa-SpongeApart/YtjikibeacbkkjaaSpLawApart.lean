/- lampbearerkeep.SpongeApart: unlike texts are filled up to unlike ones. -/
import Derived.Test.YtjikibeacbkkjaaSpEqual
import Derived.Test.YtjikibeacbkkjaaSpAlive
namespace Go.Proofs.Ytjikibeacbkkjaa
namespace Sp
open Go.RowKit
theorem rep_inj : ∀ (y z : Nat) (s t : List UInt8), List.replicate y 0 ++ 1 :: s = List.replicate z 0 ++ 1 :: t → s = t
  | 0, 0, s, t, h => by simpa using h
  | 0, z + 1, s, t, h => by simp [List.replicate_succ] at h
  | y + 1, 0, s, t, h => by simp [List.replicate_succ] at h
  | y + 1, z + 1, s, t, h => by
    rw [List.replicate_succ, List.replicate_succ, List.cons_append, List.cons_append, List.cons.injEq] at h
    exact rep_inj y z s t h.2
theorem pad_rev (l : List UInt8) : (pad l).reverse = 128 :: (List.replicate ((l.length + 33) / 32 * 32 - l.length - 2) 0 ++ 1 :: l.reverse) := by
  simp [pad]
theorem pad_inj {l m : List UInt8} (h : pad l = pad m) : l = m := by
  have k := congrArg List.reverse h
  rw [pad_rev, pad_rev, List.cons.injEq] at k
  exact List.reverse_inj.1 (rep_inj _ _ _ _ k.2)
theorem dec_pad (l m : List UInt8) : decide (pad l = pad m) = decide (l = m) := by
  rw [decide_eq_decide]
  exact ⟨pad_inj, fun h => by rw [h]⟩
theorem Vb_vw {l : List UInt8} {B g : Nat} {w : World} (h : Vb .u8 B g l.length (bz l) w) : Vw l (some ⟨g, 0, none⟩) w := fun _ => ⟨g, 0, rfl, h.hi, fun j hj => by rw [Nat.zero_add]; exact h.c j hj⟩
theorem Vb_ahead {l : List UInt8} {B g : Nat} {w : World} (h : Vb .u8 B g (pad l).length (bz (pad l)) w) : Vw l (some ⟨g, 0, none⟩) w := fun _ => ⟨g, 0, rfl, h.hi, fun j hj => by
  rw [Nat.zero_add, h.c j (by rw [pad_length]; omega), pad_bz, if_pos hj]⟩
set_option maxHeartbeats 1000000 in
set_option maxRecDepth 100000 in
theorem law_apart (l m : List UInt8) (ao bo : Option Addr) (cap dap : Nat) (w : World) (hl : (l.length : Int) ≤ 140737488355328) (hm : (m.length : Int) ≤ 140737488355328) (hv : Vw l ao w) (hu : Vw m bo w) :
    Calls Try.prog 8 #[.slice ao l.length cap, .slice bo m.length dap] w fun e w' => e = .returned (.bool true) ∧ Below w.heap.size w w' := by
  have HP : Hid ((pad l).length = (l.length + 33) / 32 * 32) := pad_length l
  have p1 : (((pad l).length : Int) % 32 == 0) = true := by rw [pad_length, beq_iff_eq]; omega
  have p2 : (l.length : Int) < ((pad l).length : Int) := by rw [pad_length]; omega
  have p3 : ((pad l).length : Int) - (l.length : Int) < 34 := by rw [pad_length]; omega
  have p4 : ((pad l).length : Int) ≤ 140737488355400 := by rw [pad_length]; omega
  go_enter Try.func8, Try.ntmps8
  go_wp2_with fail
  refine (alive3_any w).mono ?_
  rintro e w0 ⟨rfl, hb0⟩
  have v0 := Vw_below hv hb0
  have u0 := Vw_below hu hb0
  go_wp2_with fail
  refine (pad_any l ao cap w0 hl v0).mono ?_
  rintro e w1 ⟨g1, rfl, q1, hb1⟩
  have v1 := Vw_below v0 hb1
  have u1 := Vw_below u0 hb1
  go_wp2_with fail
  refine (pad_any m bo dap w1 hm u1).mono ?_
  rintro e w2 ⟨g2, rfl, q2, hb2⟩
  have v2 := Vw_below v1 hb2
  have u2 := Vw_below u1 hb2
  have r1 := Vb_below q1 hb2
  have b2 : Below w.heap.size w w2 := hb0.trans ((hb1.trans (hb2.mono hb1.size)).mono hb0.size)
  clear v0 u0 v1 u1 q1 hb0 hb1 hb2 hv hu
  go_wp2_with fail
  refine (equal_any l l (some ⟨g1, 0, none⟩) ao (pad l).length cap w2 (by omega) (Vb_ahead r1) v2).mono ?_
  rintro e w3 ⟨rfl, hb3⟩
  have v3 := Vw_below v2 hb3
  have u3 := Vw_below u2 hb3
  have r3 := Vb_below r1 hb3
  have q3 := Vb_below q2 hb3
  have b3 : Below w.heap.size w w3 := b2.trans (hb3.mono b2.size)
  clear v2 u2 r1 q2 b2 hb3
  rw [decide_eq_true (rfl : l = l)]
  go_wp2_with fail
  refine (equal_any l m ao bo cap dap w3 (by omega) v3 u3).mono ?_
  rintro e w4 ⟨rfl, hb4⟩
  have r4 := Vb_vw (Vb_below r3 hb4)
  have q4 := Vb_vw (Vb_below q3 hb4)
  have b4 : Below w.heap.size w w4 := b3.trans (hb4.mono b3.size)
  clear v3 u3 r3 q3 b3 hb4
  go_wp2_with fail
  refine (equal_any (pad l) (pad m) _ _ _ _ w4 p4 r4 q4).mono ?_
  rintro e w5 ⟨rfl, hb5⟩
  have b5 : Below w.heap.size w w5 := b4.trans (hb5.mono b4.size)
  rw [dec_pad]
  clear r4 q4 b4 hb5 p4
  generalize decide (l = m) = b
  go_wp2_with fail
  go_ret
  exact ⟨by simp, b5⟩
end Sp
end Go.Proofs.Ytjikibeacbkkjaa
