/- (*sponge.soaker).soak: a block stirred in. -/
import Derived.Test.YtjikibeacbkkjaaSpSumA
import Derived.Test.YtjikibeacbkkjaaSpMix
namespace Go.Proofs.Ytjikibeacbkkjaa
namespace Sp
open Go.RowKit
theorem Sk_skb {g i : Nat} {F f : Nat → Int} {R : Value} {w : World} (h : Sk g (skb F f i) R w) (hi : i < 32) : Sk g (skb F f (i + 1)) R (w.setCell ⟨g, i / 8, none⟩ (.int .u64 (bits .xor .u64 (skb F f i (i / 8)) (IntKind.u64.wrap (f i * 2 ^ (8 * (i % 8))))))) := by
  rw [IntKind.wrap_u64]; exact Sk_set h (by omega)
theorem Sk_set8 {g : Nat} {F G : Nat → Int} {R : Value} {w : World} (h : Sk g F R w) : Sk g G R ((((((((w.setCell ⟨g, 0, none⟩ (.int .u64 (G 0))).setCell ⟨g, 1, none⟩ (.int .u64 (G 1))).setCell ⟨g, 2, none⟩ (.int .u64 (G 2))).setCell ⟨g, 3, none⟩ (.int .u64 (G 3))).setCell ⟨g, 4, none⟩ (.int .u64 (G 4))).setCell ⟨g, 5, none⟩ (.int .u64 (G 5))).setCell ⟨g, 6, none⟩ (.int .u64 (G 6))).setCell ⟨g, 7, none⟩ (.int .u64 (G 7))) := by
  have k := Sk_set (v := G 7) (Sk_set (v := G 6) (Sk_set (v := G 5) (Sk_set (v := G 4) (Sk_set (v := G 3) (Sk_set (v := G 2) (Sk_set (v := G 1) (Sk_set (v := G 0) h (show 0 < 8 by decide)) (show 1 < 8 by decide)) (show 2 < 8 by decide)) (show 3 < 8 by decide)) (show 4 < 8 by decide)) (show 5 < 8 by decide)) (show 6 < 8 by decide)) (show 7 < 8 by decide)
  refine ⟨k.hi, CK_ext k.c fun o ho => ?_, k.r, k.f⟩
  have : o = 0 ∨ o = 1 ∨ o = 2 ∨ o = 3 ∨ o = 4 ∨ o = 5 ∨ o = 6 ∨ o = 7 := by omega
  rcases this with rfl | rfl | rfl | rfl | rfl | rfl | rfl | rfl <;> simp [upd]
theorem gb_set8 {g : Nat} {G : Nat → Int} {w0 w : World} (h : w0.grownBy w (some g)) : w0.grownBy ((((((((w.setCell ⟨g, 0, none⟩ (.int .u64 (G 0))).setCell ⟨g, 1, none⟩ (.int .u64 (G 1))).setCell ⟨g, 2, none⟩ (.int .u64 (G 2))).setCell ⟨g, 3, none⟩ (.int .u64 (G 3))).setCell ⟨g, 4, none⟩ (.int .u64 (G 4))).setCell ⟨g, 5, none⟩ (.int .u64 (G 5))).setCell ⟨g, 6, none⟩ (.int .u64 (G 6))).setCell ⟨g, 7, none⟩ (.int .u64 (G 7))) (some g) :=
  gb_trans (gb_trans (gb_trans (gb_trans (gb_trans (gb_trans (gb_trans (gb_trans h (gb_set _ _ _ _)) (gb_set _ _ _ _)) (gb_set _ _ _ _)) (gb_set _ _ _ _)) (gb_set _ _ _ _)) (gb_set _ _ _ _)) (gb_set _ _ _ _)) (gb_set _ _ _ _)
set_option maxHeartbeats 2000000 in
set_option maxRecDepth 100000 in
theorem soak_any (g h off cap : Nat) (F f : Nat → Int) (R : Value) (w : World) (hF : UF F) (hf : ∀ j, 0 ≤ f j ∧ f j < 256) (hs : Sk g F R w) (hne : h ≠ g) (hlt : h < w.heap.size)
    (hc : ∀ j, j < 32 → w.cell? ⟨h, off + j, none⟩ = some (.int .u8 (f j))) :
    Calls Try.prog 26 #[.pointer (some ⟨g, 0, none⟩), .slice (some ⟨h, off, none⟩) 32 cap] w fun e w' => e = .returned (.tuple #[]) ∧ Sk g (sk F f) R w' ∧ w.grownBy w' (some g) := by
  go_enter Try.func26, Try.ntmps26
  go_wp2_with fail
  go_loopw [8] (fun s wr => ∃ i : Nat, i ≤ 32 ∧ s = .int .i64 i ∧ Sk g (skb F f i) R wr ∧ w.grownBy wr (some g)) (fun s _ => (32 - intOf s).toNat)
  case atStart => exact ⟨0, by omega, rfl, hs, gb_refl _ _⟩
  case round =>
    obtain ⟨i, hi, rfl, s0, b0⟩ := hrel
    by_cases hlt : i < 32
    · have c1 := cell_gb (hc i hlt) b0 hne ‹_›
      have c0 := s0.c (i / 8) (by omega)
      have f0 := s0.f (i / 8)
      have d1 : (i : Int) < 32 := by omega
      have d2 : (0 : Int) ≤ (i : Int) / 8 := by omega
      have d3 : (i : Int) / 8 < 8 := by omega
      have t1 : ((i : Int) / 8).toNat = i / 8 := by omega
      have d4 : (0 : Int) ≤ 8 * ((i : Int) % 8) := by omega
      have d5 : 8 * ((i : Int) % 8) ≤ 64 := by omega
      have t2 : (8 * ((i : Int) % 8)).toNat = 8 * (i % 8) := by omega
      have y1 : IntKind.u64.wrap (f i) = f i := by rw [IntKind.wrap_u64]; have := hf i; omega
      have y2 : IntKind.i64.wrap (8 * ((i : Int) % 8)) = 8 * ((i : Int) % 8) := by rw [IntKind.wrap_i64]; omega
      go_wp2_with fail
      go_region
      go_wp2_with fail
      go_roundw
      case rel =>
        first | exact ⟨i + 1, by omega, by go_num, Sk_drew (Sk_skb s0 hlt), gb_trans (gb_trans b0 (gb_set _ _ _ _)) (gb_drew _ _)⟩ | ((repeat apply Exists.intro); exact ⟨⟨i + 1, by omega, by go_num, Sk_drew (Sk_skb s0 hlt), gb_trans (gb_trans b0 (gb_set _ _ _ _)) (gb_drew _ _)⟩, rfl⟩)
      case measure => simp [intOf]; omega
    · have hi32 : i = 32 := by omega
      subst hi32
      have c0 : ∀ o, o < 8 → wr.cell? ⟨g, o, none⟩ = some (.int .u64 (skb F f 32 o)) := s0.c
      have uk := UF_skb (f := f) hF 32
      have S0 : Hid (Sk g (skb F f 32) R wr) := s0
      have B0 : Hid (w.grownBy wr (some g)) := b0
      clear s0 b0 hs hc hf
      go_wp2_with fail
      refine (mix_any (skb F f 32) uk _).mono ?_
      rintro e w1 ⟨rfl, hb1⟩
      have s1 := Sk_below S0.out hb1
      have B1 : Hid (w.grownBy w1 (some g)) := gb_trans B0.out (gb_below hb1)
      have c1 : ∀ o, o < 8 → w1.cell? ⟨g, o, none⟩ = some (.int .u64 (skb F f 32 o)) := s1.c
      have f1 : ∀ o, w1.frozen? ⟨g, o, none⟩ = false := s1.f
      have S1 : Hid (Sk g (skb F f 32) R w1) := s1
      clear s1 c0 hb1 S0 B0
      unfold Sv
      go_wp2_with fail
      go_end0
      exact ⟨rfl, Sk_set8 S1.out, gb_set8 B1.out⟩
end Sp
end Go.Proofs.Ytjikibeacbkkjaa
