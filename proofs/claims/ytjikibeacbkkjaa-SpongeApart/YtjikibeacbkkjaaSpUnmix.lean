/- sponge.Unmix: twelve rounds back. -/
import Derived.Test.YtjikibeacbkkjaaSpMix
namespace Go.Proofs.Ytjikibeacbkkjaa
namespace Sp
open Go.RowKit
set_option maxHeartbeats 4000000 in
set_option maxRecDepth 100000 in
theorem unmix_any (F : Nat → Int) (hF : UF F) (w : World) :
    Calls Try.prog 11 #[Sv F] w fun e w' => e = .returned (Sv (umix F)) ∧ Below w.heap.size w w' := by
  conv => arg 3; unfold Sv
  go_enter Try.func11, Try.ntmps11
  go_wp2_with fail
  go_loopw [3] (fun s wr => ∃ k r : Nat, Hid (k + r = 12) ∧ s = .int .u64 r ∧ Vb .u64 w.heap.size w.heap.size 8 (umixs F k) wr ∧ Vb .u64 w.heap.size (w.heap.size + 1) 8 (fun _ => 0) wr ∧ Below w.heap.size w wr) (fun s _ => (intOf s).toNat)
  case atStart =>
    refine ⟨0, 12, rfl, rfl, ?_, ?_, ?_⟩
    · exact Vb_al (Vb_new8 w.heap.size F w 24 (Nat.le_refl _)) _
    · have k := Vb_new8 w.heap.size (fun _ => 0) (w.alloc (.cells #[.int .u64 (F 0), .int .u64 (F 1), .int .u64 (F 2), .int .u64 (F 3), .int .u64 (F 4), .int .u64 (F 5), .int .u64 (F 6), .int .u64 (F 7)] 24)) 24 (by simp)
      simp only [World.size_alloc] at k
      exact k
    · repeat (first | exact Below.refl _ _ | refine Below.alloc ?_ (by simp <;> omega) _)
  case round =>
    obtain ⟨k, r, hk, rfl, v0, v1, hb⟩ := hrel
    by_cases hlt : 1 ≤ r
    · have hd : decide ((1 : Int) ≤ (r : Int)) = true := by simp; omega
      have uk := UF_umixs hF k
      go_wp2_with fail
      go_loopw [4] (fun s wr => ∃ j i : Nat, Hid (j + i = 8) ∧ s = .int .i64 ((i : Int) - 1) ∧ Vb .u64 w.heap.size w.heap.size 8 (tss (umixs F k) j) wr ∧ Vb .u64 w.heap.size (w.heap.size + 1) 8 (fun _ => 0) wr ∧ Below w.heap.size w wr) (fun s _ => (intOf s + 1).toNat)
      case atStart => exact ⟨0, 8, rfl, rfl, v0, v1, hb⟩
      case round =>
        clear v0 v1 hb
        obtain ⟨j, i, hi, hs, v0, v1, hb⟩ := hrel
        have ui := UF_tss uk j
        cases i with
        | succ p =>
          have e : ((p + 1 : Nat) : Int) - 1 = (p : Int) := by omega
          rw [e] at hs
          subst hs
          have hp : p < 8 := by have := hi.out; omega
          have hj : Hid (7 - j = p) := by show 7 - j = p; have := hi.out; omega
          clear e
          have c0 := v0.c p hp
          have f0 := v0.f p
          have b1 : (p : Int) < 8 := by omega
          go_wp2_with fail
          go_region_with (go_at_call 22; refine (turned_any w.heap.size p (tss (umixs F k) j) hp ui _ ?_).mono ?_; (first | exact v0.c | exact CK_drew v0.c); rintro e w1 ⟨rfl, n1, rfl⟩)
          all_goals
            have V := Vb_ts (m := 1 + n1) v0 hp
            have hV : tss (umixs F k) (j + 1) = ts (tss (umixs F k) j) p := by rw [tss, hj.out]
            rw [← hV] at V
            clear hV
            go_wp2_with fail
            go_roundw
            case rel =>
              have H : Hid (j + 1 + p = 8) := by show j + 1 + p = 8; have := hi.out; omega
              first | exact ⟨j + 1, p, H, rfl, V, Vb_od v1 (by omega), Bel_ds hb (Nat.le_refl _)⟩ | ((repeat apply Exists.intro); exact ⟨⟨j + 1, p, H, rfl, V, Vb_od v1 (by omega), Bel_ds hb (Nat.le_refl _)⟩, rfl⟩)
            case measure => simp [intOf]
        | zero =>
          subst hs
          have hj8 : j = 8 := by have := hi.out; omega
          subst hj8
          have c0 := v0.c 0 (by omega)
          have f0 := v0.f 0
          have ek : IntKind.u64.wrap ((r : Int) * 11400714819323198485) = kr r := by rw [IntKind.wrap_u64]; unfold kr; omega
          have hr12 : r ≤ 12 := by have := hk.out; omega
          have ew : IntKind.u64.wrap ((r : Int) - 1) = (r : Int) - 1 := by rw [IntKind.wrap_u64]; omega
          go_wp2_with fail
          go_roundw
          case rel =>
            have hr : 12 - k = r := by have := hk.out; omega
            have V : Vb .u64 w.heap.size w.heap.size 8 (umixs F (k + 1)) (wr.setCell ⟨w.heap.size, 0, none⟩ (.int .u64 (bits .xor .u64 (tss (umixs F k) 8 0) (kr r)))) := by
              rw [umixs, hr]; exact Vb_set v0 (by omega)
            exact ⟨k + 1, r - 1, (by show k + 1 + (r - 1) = 12; have := hk.out; omega), int_of (by omega), V, Vb_other v1 (by dsimp only; omega), hb.setCell (by dsimp only; omega) _⟩
          case measure => simp [intOf]; omega
    · have hr0 : r = 0 := by omega
      have hk12 : k = 12 := by have := hk.out; omega
      subst hr0 hk12
      have c0 : ∀ o, o < 8 → wr.cell? ⟨w.heap.size, o, none⟩ = some (.int .u64 (umixs F 12 o)) := v0.c
      have c1 : ∀ o, o < 8 → wr.cell? ⟨w.heap.size + 1, o, none⟩ = some (.int .u64 0) := v1.c
      have f1 : ∀ o, wr.frozen? ⟨w.heap.size + 1, o, none⟩ = false := v1.f
      have HB : Hid (Below w.heap.size w wr) := hb
      have V1 : Hid (Vb .u64 w.heap.size (w.heap.size + 1) 8 (fun _ => 0) wr) := v1
      clear hb v0 v1
      go_wp2_with fail
      refine bodyPost_ret (v := Sv (umix F)) (result8 _ _ _ (w.heap.size + 1) 2 _ rfl rfl (CK_set8 V1.out.c)) rfl ⟨rfl, ?_⟩
      exact Bel_set8 HB.out (by omega)
end Sp
end Go.Proofs.Ytjikibeacbkkjaa
