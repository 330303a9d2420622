/- word.Bytes: the 32 bytes of a word, the greatest first. -/
import Derived.Test.YtblodmjnhmfjeaaBRArith
import Derived.Test.YtblodmjnhmfjeaaSpSqueeze
import Derived.Test.YtblodmjnhmfjeaaProduct
namespace Go.Proofs.Ytblodmjnhmfjeaa
open Go.RowKit Go.Shelf
theorem bt_out (a k p : Nat) (h : k + p = 31) : dg a (p / 8) / 2 ^ (8 * (p % 8)) % 256 = bt a k := by
  rw [byte_out]; unfold bt; rw [show 31 - k = p by omega]
theorem Vb_bt {B g k p a : Nat} {w1 : World} (h : Sp.Vb .u8 B g 32 (Sp.upto (bt a) k) w1) (hk : k < 32) (hp : k + p = 31) : Sp.Vb .u8 B g 32 (Sp.upto (bt a) (k + 1)) (w1.setCell ⟨g, k, none⟩ (.int .u8 (IntKind.u8.wrap (dg a (p / 8) / 2 ^ (8 * (p % 8)))))) := by
  rw [IntKind.wrap_u8', bt_out a k p hp, ← Sp.upto_step]; exact Sp.Vb_set h hk
theorem Vb_bt' {B g k p a : Nat} {w1 : World} (h : Sp.Vb .u8 B g 32 (Sp.upto (bt a) k) w1) (hk : k < 32) (hp : k + p = 31) : Sp.Vb .u8 B g 32 (Sp.upto (bt a) (k + 1)) (w1.setCell ⟨g, k, none⟩ (.int .u8 (dg a (p / 8) / 2 ^ (8 * (p % 8)) % 256))) := by
  rw [bt_out a k p hp, ← Sp.upto_step]; exact Sp.Vb_set h hk
set_option maxHeartbeats 2000000 in
set_option maxRecDepth 100000 in
theorem bytes_any (a : Nat) (w : World) :
    Calls Try.prog 48 #[Wd a] w fun e w' => e = .returned (Sp.Hv (bt a)) ∧ Below w.heap.size w w' := by
  conv => arg 3; unfold Wd
  go_enter Try.func48, Try.ntmps48
  go_wp2_with fail
  go_loopw [6] (fun s wr => ∃ k : Nat, k ≤ 32 ∧ s = .int .i64 k ∧ C4 w.heap.size a wr ∧ Sp.Vb .u8 w.heap.size (w.heap.size + 1) 32 (fun _ => 0) wr ∧ Sp.Vb .u8 w.heap.size (w.heap.size + 1 + 1) 32 (Sp.upto (bt a) k) wr ∧ Below w.heap.size w wr) (fun s _ => (32 - intOf s).toNat)
  case atStart =>
    have v1 := Sp.Vb_zero32 w.heap.size (w.alloc (.cells #[.int .u64 (dg a 0), .int .u64 (dg a 1), .int .u64 (dg a 2), .int .u64 (dg a 3)] 24)) 55 (by simp)
    have v2 := Sp.Vb_zero32 w.heap.size ((w.alloc (.cells #[.int .u64 (dg a 0), .int .u64 (dg a 1), .int .u64 (dg a 2), .int .u64 (dg a 3)] 24)).alloc (.cells #[.int .u8 0, .int .u8 0, .int .u8 0, .int .u8 0, .int .u8 0, .int .u8 0, .int .u8 0, .int .u8 0, .int .u8 0, .int .u8 0, .int .u8 0, .int .u8 0, .int .u8 0, .int .u8 0, .int .u8 0, .int .u8 0, .int .u8 0, .int .u8 0, .int .u8 0, .int .u8 0, .int .u8 0, .int .u8 0, .int .u8 0, .int .u8 0, .int .u8 0, .int .u8 0, .int .u8 0, .int .u8 0, .int .u8 0, .int .u8 0, .int .u8 0, .int .u8 0] 55)) 55 (by simp; omega)
    have b1 : Below w.heap.size w (((w.alloc (.cells #[.int .u64 (dg a 0), .int .u64 (dg a 1), .int .u64 (dg a 2), .int .u64 (dg a 3)] 24)).alloc (.cells #[.int .u8 0, .int .u8 0, .int .u8 0, .int .u8 0, .int .u8 0, .int .u8 0, .int .u8 0, .int .u8 0, .int .u8 0, .int .u8 0, .int .u8 0, .int .u8 0, .int .u8 0, .int .u8 0, .int .u8 0, .int .u8 0, .int .u8 0, .int .u8 0, .int .u8 0, .int .u8 0, .int .u8 0, .int .u8 0, .int .u8 0, .int .u8 0, .int .u8 0, .int .u8 0, .int .u8 0, .int .u8 0, .int .u8 0, .int .u8 0, .int .u8 0, .int .u8 0] 55)).alloc (.cells #[.int .u8 0, .int .u8 0, .int .u8 0, .int .u8 0, .int .u8 0, .int .u8 0, .int .u8 0, .int .u8 0, .int .u8 0, .int .u8 0, .int .u8 0, .int .u8 0, .int .u8 0, .int .u8 0, .int .u8 0, .int .u8 0, .int .u8 0, .int .u8 0, .int .u8 0, .int .u8 0, .int .u8 0, .int .u8 0, .int .u8 0, .int .u8 0, .int .u8 0, .int .u8 0, .int .u8 0, .int .u8 0, .int .u8 0, .int .u8 0, .int .u8 0, .int .u8 0] 55)) := by
      repeat (first | exact Below.refl _ _ | refine Below.alloc ?_ (by simp <;> omega) _)
    have c1 : C4 w.heap.size a (((w.alloc (.cells #[.int .u64 (dg a 0), .int .u64 (dg a 1), .int .u64 (dg a 2), .int .u64 (dg a 3)] 24)).alloc (.cells #[.int .u8 0, .int .u8 0, .int .u8 0, .int .u8 0, .int .u8 0, .int .u8 0, .int .u8 0, .int .u8 0, .int .u8 0, .int .u8 0, .int .u8 0, .int .u8 0, .int .u8 0, .int .u8 0, .int .u8 0, .int .u8 0, .int .u8 0, .int .u8 0, .int .u8 0, .int .u8 0, .int .u8 0, .int .u8 0, .int .u8 0, .int .u8 0, .int .u8 0, .int .u8 0, .int .u8 0, .int .u8 0, .int .u8 0, .int .u8 0, .int .u8 0, .int .u8 0] 55)).alloc (.cells #[.int .u8 0, .int .u8 0, .int .u8 0, .int .u8 0, .int .u8 0, .int .u8 0, .int .u8 0, .int .u8 0, .int .u8 0, .int .u8 0, .int .u8 0, .int .u8 0, .int .u8 0, .int .u8 0, .int .u8 0, .int .u8 0, .int .u8 0, .int .u8 0, .int .u8 0, .int .u8 0, .int .u8 0, .int .u8 0, .int .u8 0, .int .u8 0, .int .u8 0, .int .u8 0, .int .u8 0, .int .u8 0, .int .u8 0, .int .u8 0, .int .u8 0, .int .u8 0] 55)) := C4_below (C4_below (C4_alloc a w 24) ((Below.refl _ _).alloc (Nat.le_refl _) _) (by simp)) ((Below.refl _ _).alloc (Nat.le_refl _) _) (by simp; omega)
    simp only [World.size_alloc] at v1 v2
    exact ⟨0, by omega, rfl, c1, Sp.Vb_al v1 _, v2, b1⟩
  case round =>
    obtain ⟨k, hk, rfl, ca, v0, v1, hb0⟩ := hrel
    by_cases hlt : k < 32
    · obtain ⟨p, hp⟩ : ∃ p, k + p = 31 := ⟨31 - k, by omega⟩
      have e1 : (31 : Int) - (k : Int) = (p : Int) := by omega
      have HP : Hid (k + p = 31) := hp
      have hp32 : p < 32 := by omega
      clear hp
      have c0 := ca (p / 8) (by omega)
      have c1 := v1.c k hlt
      have f1 := v1.f k
      have u1 := dg_nn a (p / 8)
      have d1 : (k : Int) < 32 := by omega
      have d2 : (0 : Int) ≤ (p : Int) / 8 := by omega
      have d3 : (p : Int) / 8 < 4 := by omega
      have t1 : ((p : Int) / 8).toNat = p / 8 := by omega
      have d4 : (0 : Int) ≤ 8 * ((p : Int) % 8) := by omega
      have d5 : 8 * ((p : Int) % 8) ≤ 64 := by omega
      have t2 : (8 * ((p : Int) % 8)).toNat = 8 * (p % 8) := by omega
      go_wp2_with fail
      go_roundw
      case rel => exact ⟨k + 1, by omega, by go_num, C4_other ca (by dsimp only; omega), Sp.Vb_other v0 (by dsimp only; omega), by first | exact Vb_bt v1 hlt HP.out | exact Vb_bt' v1 hlt HP.out, hb0.setCell (by dsimp only; omega) _⟩
      case measure => simp [intOf]; omega
    · have hk32 : k = 32 := by omega
      subst hk32
      have r1 := Sp.range32 (Sp.CK_upto v1.c)
      have t1 := Sp.there32a (G := bt a) v0.c v0.f
      have C0 : Hid (Sp.CK .u8 (w.heap.size + 1) 32 (bt a) (wr.setCells (w.heap.size + 1) 0 (Sp.h32 (bt a)).toArray.toList)) := Sp.CK_set32 v0.c v0.f
      have HB : Hid (Below w.heap.size w (wr.setCells (w.heap.size + 1) 0 (Sp.h32 (bt a)).toArray.toList)) := Sp.Bel_sets (by omega) _ _ _ hb0
      clear v0 v1 hb0 ca
      go_upto_region 8 with fail
      refine wp_region_lit ?_
      refine wpList_load_mid rfl 55 (.tmp 3) rfl (w.heap.size + 1 + 1) 0 rfl (Sp.h32 (bt a)) _ r1 Try.underlying55 rfl Sp.info32 ?_
      refine wpList_store_mid rfl 55 (.tmp 2) (.tmp 23) rfl (w.heap.size + 1) 0 (Sp.h32 (bt a)).toArray rfl rfl t1 Sp.info32a (all_oneCell_toArray (Sp.h32_one (bt a))) ?_
      refine wpList_nil ?_
      clear r1 t1
      generalize wr.setCells (w.heap.size + 1) 0 (Sp.h32 (bt a)).toArray.toList = W2 at C0 HB ⊢
      generalize (Sp.h32 (bt a)).toArray = cs
      go_wp2_with fail
      exact bodyPost_ret (v := Sp.Hv (bt a)) (Sp.result32 _ _ _ (w.heap.size + 1) 2 _ rfl rfl C0.out) rfl ⟨rfl, HB.out⟩
end Go.Proofs.Ytblodmjnhmfjeaa
