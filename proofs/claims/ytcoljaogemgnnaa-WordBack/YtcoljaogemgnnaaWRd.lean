/- word.Read: the word of the last 32 bytes. -/
import Derived.Test.YtcoljaogemgnnaaRdArith
import Derived.Test.YtcoljaogemgnnaaMem
import Derived.BigRegion
namespace Go.Proofs.Ytcoljaogemgnnaa
open Go.RowKit Go.Shelf
theorem Vb_byte_in {B g N x k : Nat} {w1 : World} (h : Vb B g 4 (dg N) w1) (hk : k < 32) (hN : N < 2 ^ (8 * k)) (hx : x < 256) : Vb B g 4 (dg (N + x * 2 ^ (8 * k))) (w1.setCell ⟨g, k / 8, none⟩ (.int .u64 (bits .or .u64 (dg N (k / 8)) (IntKind.u64.wrap ((x : Int) * 2 ^ (8 * (k % 8))))))) := by
  rw [byte_in_at N x k hN hx]
  have v := Vb_set (v := dg (N + x * 2 ^ (8 * k)) (k / 8)) h (show k / 8 < 4 by omega)
  refine ⟨v.lo, v.hi, CF_ext v.c fun o ho => ?_, v.f⟩
  unfold upd
  split
  · rename_i e; rw [e]
  · rename_i e
    rcases Nat.lt_or_gt_of_ne e with h1 | h1
    · rw [byte_in_below N x k o h1]
    · rw [byte_in_above N x k o hN hx h1]
theorem res4 (f : Func) (tm : Array Value) (W : World) (g y s : Nat) (hf : f.results = #[.cell s 24]) (h : tm.getD s undef = .pointer (some ⟨g, 0, none⟩)) (c : CF g 4 (dg y) W) : (results f tm).run Try.prog W = .ok (Wd y) W := by
  have c2 : ∀ o, o < 4 → W.cell? ⟨g, o, none⟩ = some (.int .u64 (dg y o)) := c
  simp at h
  simp [Wd, results, hf, go_sem, h, c2]
set_option maxHeartbeats 2000000 in
set_option maxRecDepth 100000 in
theorem read_any (g off L cap : Nat) (f : Nat → Nat) (w : World) (hL : (L : Int) ≤ 9223372036854775807) (h1 : 1 ≤ L) (hg : g < w.heap.size) (hf : ∀ j, f j < 256)
    (hc : ∀ j, j < L → w.cell? ⟨g, off + j, none⟩ = some (.int .u8 (f j))) :
    Calls Try.prog 19 #[.slice (some ⟨g, off, none⟩) L cap] w fun e w' => e = .returned (Wd (le f L (min L 32))) ∧ Below w.heap.size w w' := by
  obtain ⟨M, hM⟩ : ∃ M, M = min L 32 := ⟨_, rfl⟩
  have m1 : M ≤ 32 := by omega
  have m2 : M ≤ L := by omega
  have hmn : min (L : Int) 32 = (M : Int) := by omega
  rw [← hM]
  have HC : Hid (∀ j, j < L → w.cell? ⟨g, off + j, none⟩ = some (.int .u8 (f j))) := hc
  have HF : Hid (∀ j, f j < 256) := hf
  clear hM hc hf
  go_enter Try.func19, Try.ntmps19
  go_wp2_with fail
  go_loopw [8] (fun s wr => ∃ k : Nat, k ≤ M ∧ s = .int .i64 k ∧ Vb w.heap.size w.heap.size 4 (dg 0) wr ∧ Vb w.heap.size (w.heap.size + 1) 4 (dg (le f L k)) wr ∧ Below w.heap.size w wr) (fun s _ => (M - intOf s).toNat)
  case atStart =>
    refine ⟨0, Nat.zero_le _, rfl, Vb_al (Vb_new0 _ w _ (Nat.le_refl _)) _, ?_, ?_⟩
    · exact Vb_new0e (by simp) (by omega)
    · repeat (first | exact Below.refl _ _ | refine Below.alloc ?_ (by simp <;> omega) _)
  case round =>
    obtain ⟨k, hk, rfl, v0, v1, hb0⟩ := hrel
    by_cases hlt : k < M
    · obtain ⟨q, hq⟩ : ∃ q, q + k + 1 = L := ⟨L - k - 1, by omega⟩
      have E : Hid (L - 1 - k = q) := by show L - 1 - k = q; omega
      have c1 := (hb0.cell (p := ⟨g, off + q, none⟩) hg).trans (HC.out q (by omega))
      have c0 := v1.c (k / 8) (by omega)
      have f0 := v1.f (k / 8)
      have hx := HF.out q
      have y1 : IntKind.i64.wrap ((L : Int) - 1) = (L : Int) - 1 := by rw [IntKind.wrap_i64]; omega
      have y2 : IntKind.i64.wrap ((L : Int) - 1 - (k : Int)) = (q : Int) := by rw [IntKind.wrap_i64]; omega
      have y3 : IntKind.i64.wrap (8 * ((k : Int) % 8)) = 8 * ((k : Int) % 8) := by rw [IntKind.wrap_i64]; omega
      have y4 : IntKind.u64.wrap ((f q : Nat) : Int) = ((f q : Nat) : Int) := by rw [IntKind.wrap_u64]; omega
      have d0 : (q : Int) < (L : Int) := by omega
      have d1 : (k : Int) < 32 := by omega
      have d2 : (0 : Int) ≤ (k : Int) / 8 := by omega
      have d3 : (k : Int) / 8 < 4 := by omega
      have t1 : ((k : Int) / 8).toNat = k / 8 := by omega
      have d4 : (0 : Int) ≤ 8 * ((k : Int) % 8) := by omega
      have d5 : 8 * ((k : Int) % 8) ≤ 64 := by omega
      have t2 : (8 * ((k : Int) % 8)).toNat = 8 * (k % 8) := by omega
      have V : Hid (Vb w.heap.size (w.heap.size + 1) 4 (dg (le f L (k + 1))) (wr.setCell ⟨w.heap.size + 1, k / 8, none⟩ (.int .u64 (bits .or .u64 (dg (le f L k) (k / 8)) (IntKind.u64.wrap ((f q : Int) * 2 ^ (8 * (k % 8)))))))) := by
        show Vb _ _ _ _ _
        rw [le, E.out]
        exact Vb_byte_in v1 (by omega) (le_lt f HF.out L k) hx
      clear hq hx
      go_wp2_with fail
      go_region
      all_goals
        go_wp2_with fail
        go_roundw
        case rel => first | exact ⟨k + 1, by omega, by go_num, Vb_drew (Vb_other v0 (by dsimp only; omega)), Vb_drew V.out, (hb0.setCell (by dsimp only; omega) _).drew⟩ | ((repeat apply Exists.intro); exact ⟨⟨k + 1, by omega, by go_num, Vb_drew (Vb_other v0 (by dsimp only; omega)), Vb_drew V.out, (hb0.setCell (by dsimp only; omega) _).drew⟩, rfl⟩)
        case measure => simp [intOf]; omega
    · have hkM : k = M := by omega
      subst hkM
      have c1 : ∀ o, o < 4 → wr.cell? ⟨w.heap.size + 1, o, none⟩ = some (.int .u64 (dg (le f L k) o)) := v1.c
      have c0 : ∀ o, o < 4 → wr.cell? ⟨w.heap.size, o, none⟩ = some (.int .u64 (dg 0 o)) := v0.c
      have f0 : ∀ o, wr.frozen? ⟨w.heap.size, o, none⟩ = false := v0.f
      have V := Vb_set4 (m := le f L k) v0
      have HV : Hid (CF w.heap.size 4 (dg (le f L k)) ((((wr.setCell ⟨w.heap.size, 0, none⟩ (.int .u64 (dg (le f L k) 0))).setCell ⟨w.heap.size, 1, none⟩ (.int .u64 (dg (le f L k) 1))).setCell ⟨w.heap.size, 2, none⟩ (.int .u64 (dg (le f L k) 2))).setCell ⟨w.heap.size, 3, none⟩ (.int .u64 (dg (le f L k) 3)))) := V.c
      have HB : Hid (Below w.heap.size w wr) := hb0
      clear v0 v1 V hb0 HC HF
      go_wp2_with fail
      exact bodyPost_ret (v := Wd (le f L k)) (res4 _ _ _ w.heap.size _ 2 rfl rfl HV.out) rfl ⟨rfl, Bel_set4 HB.out (Nat.le_refl _)⟩
set_option maxHeartbeats 1000000 in
set_option maxRecDepth 100000 in
/-- No bytes: 0. -/
theorem read_none (ao : Option Addr) (cap : Nat) (w : World) :
    Calls Try.prog 19 #[.slice ao 0 cap] w fun e w' => e = .returned (Wd 0) ∧ Below w.heap.size w w' := by
  go_enter Try.func19, Try.ntmps19
  go_wp2_with fail
  refine wp_loop_rounds 1 ?_
  rw [rounds_succ]
  go_wp2_with fail
  refine bodyPost_ret (v := Wd 0) (by simp [Wd, dg, results, Try.results19, go_sem]) rfl ⟨rfl, ?_⟩
  repeat (first | exact Below.refl _ _ | refine Below.drew ?_ | refine Below.setCell ?_ (by simp <;> omega) _ | refine Below.alloc ?_ (by simp <;> omega) _)
end Go.Proofs.Ytcoljaogemgnnaa
