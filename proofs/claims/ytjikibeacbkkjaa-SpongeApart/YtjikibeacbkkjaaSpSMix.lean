/- lampbearerref.SMix: the document's own mixing. -/
import Derived.Test.YtjikibeacbkkjaaSpMix
namespace Go.Proofs.Ytjikibeacbkkjaa
namespace Sp
open Go.RowKit
theorem Vb_st0 {B g i : Nat} {F : Nat → Int} {w1 : World} (h : Vb .u64 B g 8 F w1) (hi : i < 8) : Vb .u64 B g 8 (st F i) (w1.setCell ⟨g, i, none⟩ (.int .u64 (IntKind.u64.wrap (F i + tn F i)))) := by
  rw [IntKind.wrap_u64]; exact Vb_set h hi
theorem Vb_ts0 {B g i : Nat} {F : Nat → Int} {w1 : World} (h : Vb .u64 B g 8 F w1) (hi : i < 8) : Vb .u64 B g 8 (ts F i) (w1.setCell ⟨g, i, none⟩ (.int .u64 (IntKind.u64.wrap (F i - tn F i)))) := by
  rw [IntKind.wrap_u64]; exact Vb_set h hi
theorem turnUp_at (x : Int) (i : Nat) (hi : i < 8) (hx : U x) (w : World) :
    Calls Try.prog 23 #[.int .u64 x, .int .i64 (5 * i + 3)] w fun e w' => e = .returned (.int .u64 (tun (5 * i + 3) x)) ∧ w = w' := by
  have e : (5 * (i : Int) + 3) = ((5 * i + 3 : Nat) : Int) := by omega
  rw [e]
  exact turnUp_any x (5 * i + 3) hx (by omega) w
theorem and7 (i c : Nat) (hi : i < 8) (hc : c = 1 ∨ c = 5) : bits .and .i64 ((i : Int) + c) 7 = ((i : Int) + c) % 8 := by
  have : i = 0 ∨ i = 1 ∨ i = 2 ∨ i = 3 ∨ i = 4 ∨ i = 5 ∨ i = 6 ∨ i = 7 := by omega
  rcases hc with rfl | rfl <;> rcases this with rfl | rfl | rfl | rfl | rfl | rfl | rfl | rfl <;> decide +kernel
set_option maxHeartbeats 4000000 in
set_option maxRecDepth 100000 in
theorem smix_any (F : Nat → Int) (hF : UF F) (w : World) :
    Calls Try.prog 10 #[Sv F] w fun e w' => e = .returned (Sv (mix F)) ∧ Below w.heap.size w w' := by
  conv => arg 3; unfold Sv
  go_enter Try.func10, Try.ntmps10
  go_wp2_with fail
  go_loopw [4] (fun s wr => ∃ k : Nat, k ≤ 12 ∧ s = .int .u64 (k + 1) ∧ Vb .u64 w.heap.size w.heap.size 8 (mixs F k) wr ∧ Vb .u64 w.heap.size (w.heap.size + 1) 8 (fun _ => 0) wr ∧ Below w.heap.size w wr) (fun s _ => (13 - intOf s).toNat)
  case atStart =>
    refine ⟨0, by omega, rfl, ?_, ?_, ?_⟩
    · exact Vb_al (Vb_new8 w.heap.size F w 24 (Nat.le_refl _)) _
    · have k := Vb_new8 w.heap.size (fun _ => 0) (w.alloc (.cells #[.int .u64 (F 0), .int .u64 (F 1), .int .u64 (F 2), .int .u64 (F 3), .int .u64 (F 4), .int .u64 (F 5), .int .u64 (F 6), .int .u64 (F 7)] 24)) 24 (by simp)
      simp only [World.size_alloc] at k
      exact k
    · repeat (first | exact Below.refl _ _ | refine Below.alloc ?_ (by simp <;> omega) _)
  case round =>
    obtain ⟨k, hk, rfl, v0, v1, hb⟩ := hrel
    by_cases hlt : k < 12
    · have hd : decide ((k : Int) + 1 ≤ 12) = true := by simp; omega
      have uk := UF_mixs hF k
      have c0 := v0.c 0 (by omega)
      have f0 := v0.f 0
      have ek : IntKind.u64.wrap (((k : Int) + 1) * 11400714819323198485) = kr (k + 1) := by rw [IntKind.wrap_u64]; unfold kr; omega
      go_wp2_with fail
      go_loopw [5, 6] (fun s t wr => ∃ i : Nat, i ≤ 8 ∧ s = .int .i64 i ∧ t = .int .i64 (5 * i + 3) ∧ Vb .u64 w.heap.size w.heap.size 8 (sts (sx (mixs F k) (k + 1)) i) wr ∧ Vb .u64 w.heap.size (w.heap.size + 1) 8 (fun _ => 0) wr ∧ Below w.heap.size w wr) (fun s _ _ => (8 - intOf s).toNat)
      case atStart =>
        refine ⟨0, by omega, rfl, rfl, ?_, ?_, ?_⟩
        · exact Vb_set v0 (by omega)
        · exact Vb_other v1 (by dsimp only; omega)
        · exact hb.setCell (by dsimp only; omega) _
      case round =>
        clear v0 v1 hb c0 f0
        obtain ⟨i, hi, rfl, rfl, v0, v1, hb⟩ := hrel
        have ui := UF_sts (UF_sx uk (k + 1)) i
        by_cases hli : i < 8
        · have c0 := v0.c i hli
          have f0 := v0.f i
          have b1 : (i : Int) < 8 := by omega
          have a1 : bits .and .i64 ((i : Int) + 1) 7 = ((i : Int) + 1) % 8 := and7 i 1 hli (.inl rfl)
          have a2 : bits .and .i64 ((i : Int) + 5) 7 = ((i : Int) + 5) % 8 := and7 i 5 hli (.inr rfl)
          have y1 : IntKind.i64.wrap ((i : Int) + 1) = (i : Int) + 1 := by rw [IntKind.wrap_i64]; omega
          have y5 : IntKind.i64.wrap ((i : Int) + 5) = (i : Int) + 5 := by rw [IntKind.wrap_i64]; omega
          have d1 : (0 : Int) ≤ ((i : Int) + 1) % 8 := by omega
          have d2 : ((i : Int) + 1) % 8 < 8 := by omega
          have d3 : (0 : Int) ≤ ((i : Int) + 5) % 8 := by omega
          have d4 : ((i : Int) + 5) % 8 < 8 := by omega
          have t1 : (((i : Int) + 1) % 8).toNat = (i + 1) % 8 := by omega
          have t2 : (((i : Int) + 5) % 8).toNat = (i + 5) % 8 := by omega
          have c1 := v0.c ((i + 1) % 8) (by omega)
          have c2 := v0.c ((i + 5) % 8) (by omega)
          have HU : Hid (U (bits .xor .u64 (sts (sx (mixs F k) (k + 1)) i ((i + 1) % 8)) (sts (sx (mixs F k) (k + 1)) i ((i + 5) % 8)))) := U_xor _ _ (ui _) (ui _)
          go_wp2_with fail
          go_region_with (go_at_call 23; refine (turnUp_at _ i hli HU.out _).mono ?_; rintro e w1 ⟨rfl, hw1⟩; subst hw1)
          all_goals
            clear a1 a2 y1 y5 d1 d2 d3 d4 t1 t2 c0 c1 c2 f0 HU
            go_wp2_with fail
            go_roundw
            case rel =>
              first | exact ⟨i + 1, by omega, by go_num, by go_num, Vb_drew (Vb_st0 v0 hli), Vb_drew (Vb_other v1 (by dsimp only; omega)), (hb.setCell (by dsimp only; omega) _).drew⟩ | ((repeat apply Exists.intro); exact ⟨⟨i + 1, by omega, by go_num, by go_num, Vb_drew (Vb_st0 v0 hli), Vb_drew (Vb_other v1 (by dsimp only; omega)), (hb.setCell (by dsimp only; omega) _).drew⟩, rfl⟩)
            case measure => simp [intOf]; omega
        · have hi8 : i = 8 := by omega
          subst hi8
          go_wp2_with fail
          go_roundw
          case rel => exact ⟨k + 1, by omega, by go_num, v0, v1, hb⟩
          case measure => simp [intOf]; omega
    · have hk12 : k = 12 := by omega
      subst hk12
      have c0 : ∀ o, o < 8 → wr.cell? ⟨w.heap.size, o, none⟩ = some (.int .u64 (mixs F 12 o)) := v0.c
      have c1 : ∀ o, o < 8 → wr.cell? ⟨w.heap.size + 1, o, none⟩ = some (.int .u64 0) := v1.c
      have f1 : ∀ o, wr.frozen? ⟨w.heap.size + 1, o, none⟩ = false := v1.f
      have HB : Hid (Below w.heap.size w wr) := hb
      have V1 : Hid (Vb .u64 w.heap.size (w.heap.size + 1) 8 (fun _ => 0) wr) := v1
      clear hb v0 v1
      have ka : ∀ wx : World, (Instr.arrayAt 24 (.slice (some ⟨w.heap.size, 0, none⟩) 8 8)).run Try.prog wx = .ok (.pointer (some ⟨w.heap.size, 0, none⟩)) wx := fun _ => by kernel_rfl
      go_wp2_with fail
      refine bodyPost_ret (v := Sv (mix F)) (result8 _ _ _ (w.heap.size + 1) 2 _ rfl rfl (CK_set8 V1.out.c)) rfl ⟨rfl, ?_⟩
      exact Bel_set8 HB.out (by omega)
end Sp
end Go.Proofs.Ytjikibeacbkkjaa
