/- sponge.Sum: what a text comes to. -/
import Derived.Test.YtjikibeacbkkjaaSpEach
import Derived.Test.YtjikibeacbkkjaaSpSqueeze
import Derived.Test.YtjikibeacbkkjaaSpPad
namespace Go.Proofs.Ytjikibeacbkkjaa
namespace Sp
open Go.RowKit
/-- A new soaker. -/
theorem Sk_new (w : World) (R : Value) (T : TypeId) : Sk w.heap.size (fun _ => 0) R (w.alloc (.cells #[.int .u64 0, .int .u64 0, .int .u64 0, .int .u64 0, .int .u64 0, .int .u64 0, .int .u64 0, .int .u64 0, R] T)) := by
  refine ⟨by simp, fun o ho => ?_, by simp, Fz_new w _ T⟩
  have : o = 0 ∨ o = 1 ∨ o = 2 ∨ o = 3 ∨ o = 4 ∨ o = 5 ∨ o = 6 ∨ o = 7 := by omega
  rcases this with rfl | rfl | rfl | rfl | rfl | rfl | rfl | rfl <;> simp
theorem pad_32 (l : List UInt8) : (pad l).length % 32 = 0 := by rw [pad_length]; omega
set_option maxHeartbeats 2000000 in
set_option maxRecDepth 100000 in
theorem sum_any (l : List UInt8) (ao : Option Addr) (cap : Nat) (w : World) (hl : (l.length : Int) ≤ 140737488355328) (hv : Vw l ao w) :
    Calls Try.prog 15 #[.slice ao l.length cap] w fun e w' => e = .returned (Hv (sumf l)) ∧ Below w.heap.size w w' := by
  have K1 : Hid (∀ w : World, Vw l ao w → Calls Try.prog 13 #[.slice ao l.length cap] w fun e w' => ∃ g, e = .returned (.slice (some ⟨g, 0, none⟩) (pad l).length (pad l).length) ∧ Vb .u8 w.heap.size g (pad l).length (bz (pad l)) w' ∧ Below w.heap.size w w') := fun w hv => pad_any l ao cap w hl hv
  have hp : ((pad l).length : Int) ≤ 9223372036854775807 := by rw [pad_length]; omega
  have HS : Hid (sumf l = hb (ab (fun _ => 0) (bz (pad l)) ((pad l).length / 32))) := rfl
  clear hl
  generalize pad l = p at *
  go_enter Try.func15, Try.ntmps15
  go_wp2_with fail
  have v1 := Vb_zero32 w.heap.size w 31 (Nat.le_refl _)
  have b1 : Below w.heap.size w (w.alloc (.cells #[.int .u8 0, .int .u8 0, .int .u8 0, .int .u8 0, .int .u8 0, .int .u8 0, .int .u8 0, .int .u8 0, .int .u8 0, .int .u8 0, .int .u8 0, .int .u8 0, .int .u8 0, .int .u8 0, .int .u8 0, .int .u8 0, .int .u8 0, .int .u8 0, .int .u8 0, .int .u8 0, .int .u8 0, .int .u8 0, .int .u8 0, .int .u8 0, .int .u8 0, .int .u8 0, .int .u8 0, .int .u8 0, .int .u8 0, .int .u8 0, .int .u8 0, .int .u8 0] 31)) := (Below.refl _ _).alloc (Nat.le_refl _) _
  have z1 : (w.alloc (.cells #[.int .u8 0, .int .u8 0, .int .u8 0, .int .u8 0, .int .u8 0, .int .u8 0, .int .u8 0, .int .u8 0, .int .u8 0, .int .u8 0, .int .u8 0, .int .u8 0, .int .u8 0, .int .u8 0, .int .u8 0, .int .u8 0, .int .u8 0, .int .u8 0, .int .u8 0, .int .u8 0, .int .u8 0, .int .u8 0, .int .u8 0, .int .u8 0, .int .u8 0, .int .u8 0, .int .u8 0, .int .u8 0, .int .u8 0, .int .u8 0, .int .u8 0, .int .u8 0] 31)).heap.size = w.heap.size + 1 := by simp
  have w1 := Vw_below hv b1
  generalize w.alloc (.cells #[.int .u8 0, .int .u8 0, .int .u8 0, .int .u8 0, .int .u8 0, .int .u8 0, .int .u8 0, .int .u8 0, .int .u8 0, .int .u8 0, .int .u8 0, .int .u8 0, .int .u8 0, .int .u8 0, .int .u8 0, .int .u8 0, .int .u8 0, .int .u8 0, .int .u8 0, .int .u8 0, .int .u8 0, .int .u8 0, .int .u8 0, .int .u8 0, .int .u8 0, .int .u8 0, .int .u8 0, .int .u8 0, .int .u8 0, .int .u8 0, .int .u8 0, .int .u8 0] 31) = W1 at v1 b1 z1 w1 ⊢
  have s2 := Sk_new W1 (.slice none 0 0) 47
  rw [z1] at s2
  have v2 := Vb_al v1 (.cells #[.int .u64 0, .int .u64 0, .int .u64 0, .int .u64 0, .int .u64 0, .int .u64 0, .int .u64 0, .int .u64 0, .slice none 0 0] 47)
  have b2 := b1.alloc (o := .cells #[.int .u64 0, .int .u64 0, .int .u64 0, .int .u64 0, .int .u64 0, .int .u64 0, .int .u64 0, .int .u64 0, .slice none 0 0] 47) (by omega)
  have w2 := Vw_al w1 (.cells #[.int .u64 0, .int .u64 0, .int .u64 0, .int .u64 0, .int .u64 0, .int .u64 0, .int .u64 0, .int .u64 0, .slice none 0 0] 47)
  generalize W1.alloc (.cells #[.int .u64 0, .int .u64 0, .int .u64 0, .int .u64 0, .int .u64 0, .int .u64 0, .int .u64 0, .int .u64 0, .slice none 0 0] 47) = W2 at s2 v2 b2 w2 ⊢
  clear v1 b1 w1 hv z1
  refine (K1.out _ w2).mono ?_
  rintro e w3 ⟨h, rfl, q3, hb3⟩
  have s3 := Sk_below s2 hb3
  have v3 := Vb_below v2 hb3
  have lo := q3.lo
  have b3 := b2.trans (hb3.mono (by have := s2.hi; omega))
  have hne : h ≠ w.heap.size + 1 := by have := s2.hi; omega
  clear hb3 s2 v2 b2 w2
  go_wp2_with fail
  refine (eachBlock_any (w.heap.size + 1) h 0 p.length p.length (some ⟨h, 0, none⟩) (fun _ => 0) (bz p) (.slice none 0 0) w3 UF_zero (fun j => ⟨bz_nn p j, bz_lt p j⟩) s3 hne q3.hi (Nat.le_refl _) hp (fun _ => rfl) (fun j hj => by rw [Nat.zero_add]; exact q3.c j hj)).mono ?_
  rintro e w4 ⟨a4, rfl, _, s4, gb4⟩
  have v4 := Vb_gb v3 gb4 (by omega)
  have b4 := below_gb b3 gb4 (by omega) (Nat.le_of_lt v3.hi)
  have u4 := UF_ab (f := bz p) UF_zero (p.length / 32)
  clear s3 v3 q3 b3 gb4 lo
  go_wp2_with fail
  refine (squeeze_any (w.heap.size + 1) _ (.slice none 0 0) w4 u4 s4).mono ?_
  rintro e w5 ⟨rfl, hb5⟩
  have v5 := Vb_below v4 hb5
  have b5 := b4.trans (hb5.mono (Nat.le_of_lt v4.hi))
  rw [← HS.out]
  clear s4 v4 b4 hb5 u4
  dsimp only
  go_step
  have t1 : w5.there w.heap.size 0 (h32 (sumf l)).toArray.size := there32a v5.c v5.f
  have C0 : Hid (CK .u8 w.heap.size 32 (sumf l) (w5.setCells w.heap.size 0 (h32 (sumf l)).toArray.toList)) := CK_set32 v5.c v5.f
  have HB : Hid (Below w.heap.size w (w5.setCells w.heap.size 0 (h32 (sumf l)).toArray.toList)) := Bel_sets (Nat.le_refl _) _ _ _ b5
  clear v5 b5
  refine wpList_store_mid rfl 31 (.tmp 2) (.tmp 8) rfl w.heap.size 0 (h32 (sumf l)).toArray rfl rfl t1 info32a (all_oneCell_toArray (h32_one (sumf l))) ?_
  refine wpList_nil ?_
  clear t1
  generalize w5.setCells w.heap.size 0 (h32 (sumf l)).toArray.toList = W6 at C0 HB ⊢
  go_wp2_with fail
  exact bodyPost_ret (v := Hv (sumf l)) (result32 _ _ _ w.heap.size 2 _ rfl rfl C0.out) rfl ⟨rfl, HB.out⟩
end Sp
end Go.Proofs.Ytjikibeacbkkjaa
