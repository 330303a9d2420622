/- (*word.rest).putBack: a word is added to a row of parts. -/
import Derived.Test.YtblodmjnhmfjeaaInt
import Derived.Test.YtblodmjnhmfjeaaRArith
import Derived.Test.YtblodmjnhmfjeaaWExpA
import Derived.Deep.RegionWith
import Derived.BigRegion
namespace Go.Proofs.Ytblodmjnhmfjeaa
open Go.RowKit Go.Shelf
attribute [local go_sem ↓] Go.wp_at_zero Go.wp_at_succ
theorem gb_refl (w : World) (r : Option Nat) : w.grownBy w r := ⟨rfl, rfl, rfl, Nat.le_refl _, fun _ _ _ => rfl⟩
theorem gb_trans {a b c : World} {r : Option Nat} (h : a.grownBy b r) (k : b.grownBy c r) : a.grownBy c r := ⟨k.os.trans h.os, k.tape.trans h.tape, k.output.trans h.output, Nat.le_trans h.size k.size, fun i hi hne => (k.block i (Nat.lt_of_lt_of_le hi h.size) hne).trans (h.block i hi hne)⟩
theorem gb_below {a b : World} {r : Option Nat} (h : Below a.heap.size a b) : a.grownBy b r := ⟨h.os, h.tape, h.output, h.size, fun k hk _ => h.block k hk⟩
theorem gb_alloc (a : World) (r : Option Nat) (o : Obj) : a.grownBy (a.alloc o) r := gb_below ((Below.refl _ _).alloc (Nat.le_refl _) o)
theorem gb_drew (a : World) (r : Option Nat) : a.grownBy a.drew r := gb_below (Below.refl _ _).drew
theorem gb_set (a : World) (g o : Nat) (v : Value) : a.grownBy (a.setCell ⟨g, o, none⟩ v) (some g) := ⟨rfl, rfl, rfl, by simp [World.setCell], fun k _ hne => Below.heap_setCell _ _ _ _ (fun e => hne (by rw [e]))⟩
theorem C4_gb {g h n : Nat} {w w' : World} (c : C4 h n w) (k : w.grownBy w' (some g)) (hne : h ≠ g) (hlt : h < w.heap.size) : C4 h n w' := fun o ho => (World.cell?_of_block (a := ⟨h, o, none⟩) (k.block h hlt (fun e => hne (by simpa using e)))).trans (c o ho)
set_option maxHeartbeats 4000000 in
set_option maxRecDepth 100000 in
theorem putback_any (g bn n j : Nat) (F : Nat → Int) (w : World) (hn : n ≤ 4) (hj : j + n ≤ 8) (hg : g < w.heap.size) (hU : ∀ o, U (F o)) (hF : CF g 9 F w) (hz : Fz g w) :
    Calls Try.prog 59 #[.pointer (some ⟨g, 0, none⟩), Wd bn, .int .i64 n, .int .i64 j] w fun e w' => ∃ (G : Nat → Int) (c : Int), e = .returned (.int .u64 c) ∧ (∀ o, U (G o)) ∧ (c = 0 ∨ c = 1) ∧ (∀ o, o < j ∨ j + n < o → G o = F o) ∧ vr G j (n + 1) + c * Mp (n + 1) = vr F j (n + 1) + vr (dg bn) 0 n ∧ CF g 9 G w' ∧ Fz g w' ∧ w.grownBy w' (some g) := by
  conv => arg 3; unfold Wd
  go_enter Try.func59, Try.ntmps59
  go_wp2_with fail
  go_loopw [8, 11] (fun cv s wr => ∃ (i : Nat) (G : Nat → Int) (c : Int), i ≤ n ∧ s = .int .i64 i ∧ cv = .int .u64 c ∧ AI F (dg bn) j i G c ∧ C4 w.heap.size bn wr ∧ CF g 9 G wr ∧ Fz g wr ∧ w.heap.size < wr.heap.size ∧ w.grownBy wr (some g)) (fun _ s _ => (n - intOf s).toNat)
  case atStart =>
    refine ⟨0, F, 0, by omega, rfl, rfl, AI_start hU, C4_alloc bn w _, CF_below hF ((Below.refl _ _).alloc (Nat.le_refl _) _) hg, Fz_al hz hg _, by simp, gb_alloc _ _ _⟩
  case round =>
    obtain ⟨i, G, c, hi, rfl, rfl, hA, cB, cF, fF, hs, hk⟩ := hrel
    by_cases hlt : i < n
    · have hcf := cF (j + i) (by omega)
      have hcb := cB i (by omega)
      have hff := fF (j + i)
      have wji : IntKind.i64.wrap ((j : Int) + i) = (j : Int) + i := by rw [IntKind.wrap_i64]; omega
      have tji : ((j : Int) + i).toNat = j + i := by omega
      have b1 : (0 : Int) ≤ (j : Int) + i := by omega
      have b2 : (j : Int) + i < 9 := by omega
      have i1 : (i : Int) < 4 := by omega
      have x0 : 0 ≤ G (j + i) := (hA.1 _).1
      have y0 := dg_nn bn i
      have c0 : 0 ≤ c := by have := hA.2.1; omega
      have c1 : c ≤ 1 := by have := hA.2.1; omega
      go_wp2_with fail
      go_region_with (simp only [add64 (G (j + i)) (dg bn i) c x0 y0 c0 c1])
      all_goals
        have hA' := AI_step hA (U_dg bn i) rfl
        have hs' : w.heap.size < (wr.setCell ⟨g, j + i, none⟩ (.int .u64 (sm (G (j + i)) (dg bn i) c))).drew.heap.size := by simp; omega
        have hk' := gb_trans hk (gb_trans (gb_set wr g (j + i) (.int .u64 (sm (G (j + i)) (dg bn i) c))) (gb_drew _ _))
        go_wp2_with fail
        go_roundw
        case rel => first | exact ⟨i + 1, upd G (j + i) (sm (G (j + i)) (dg bn i) c), cy (G (j + i)) (dg bn i) c, by omega, by go_num, rfl, hA', C4_drew (C4_other cB (by dsimp only; omega)), CF_drew (CF_set cF (by omega)), Fz_drew (Fz_set fF), hs', hk'⟩ | ((repeat apply Exists.intro); exact ⟨⟨i + 1, upd G (j + i) (sm (G (j + i)) (dg bn i) c), cy (G (j + i)) (dg bn i) c, by omega, by go_num, rfl, hA', C4_drew (C4_other cB (by dsimp only; omega)), CF_drew (CF_set cF (by omega)), Fz_drew (Fz_set fF), hs', hk'⟩, rfl⟩)
        case measure => simp [intOf]; omega
    · have hin : i = n := by omega
      subst hin
      have hcf := cF (j + i) (by omega)
      have hff := fF (j + i)
      have wji : IntKind.i64.wrap ((j : Int) + i) = (j : Int) + i := by rw [IntKind.wrap_i64]; omega
      have tji : ((j : Int) + i).toNat = j + i := by omega
      have b1 : (0 : Int) ≤ (j : Int) + i := by omega
      have b2 : (j : Int) + i < 9 := by omega
      have x0 : 0 ≤ G (j + i) := (hA.1 _).1
      have c0 : 0 ≤ c := by have := hA.2.1; omega
      have c1 : c ≤ 1 := by have := hA.2.1; omega
      go_wp2_with fail
      go_region_with (simp only [add64 (G (j + i)) 0 c x0 (Int.le_refl 0) c0 c1])
      all_goals
        obtain ⟨l1, l2, l3, l4⟩ := AI_last hA
        have hk' := gb_trans hk (gb_trans (gb_set wr g (j + i) (.int .u64 (sm (G (j + i)) 0 c))) (gb_drew _ _))
        have L4 : Hid (vr (upd G (j + i) (sm (G (j + i)) 0 c)) j (i + 1) + cy (G (j + i)) 0 c * Mp (i + 1) = vr F j (i + 1) + vr (dg bn) 0 i) := l4
        clear l4
        go_wp2_with fail
        go_ret
        exact ⟨_, _, rfl, l1, l2, l3, L4.out, CF_drew (CF_set cF (by omega)), Fz_drew (Fz_set fF), hk'⟩
end Go.Proofs.Ytblodmjnhmfjeaa
