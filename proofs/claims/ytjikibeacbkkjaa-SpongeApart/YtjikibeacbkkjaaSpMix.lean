/- sponge.Mix: twelve rounds. -/
import Derived.Test.YtjikibeacbkkjaaSpTurned
namespace Go.Proofs.Ytjikibeacbkkjaa
namespace Sp
open Go.RowKit
theorem result8 (f : Func) (tm : Array Value) (W : World) (g s : Nat) (F : Nat → Int) (hf : f.results = #[.cell s 24]) (htm : tm.getD s undef = .pointer (some ⟨g, 0, none⟩)) (h : CK .u64 g 8 F W) : (results f tm).run Try.prog W = .ok (Sv F) W := by
  have h' : ∀ o, o < 8 → W.cell? ⟨g, o, none⟩ = some (.int .u64 (F o)) := h
  simp at htm
  simp [Sv, results, hf, go_sem, htm, h']
theorem Vb_drewN {k : IntKind} {B g n m : Nat} {F : Nat → Int} {w1 : World} (h : Vb k B g n F w1) : Vb k B g n F (w1.drewN m) := ⟨h.lo, by simpa using h.hi, CK_drewN h.c, Fz_drewN h.f⟩
theorem Vb_st {B g i m : Nat} {F : Nat → Int} {w1 : World} (h : Vb .u64 B g 8 F w1) (hi : i < 8) : Vb .u64 B g 8 (st F i) ((w1.drewN m).setCell ⟨g, i, none⟩ (.int .u64 (IntKind.u64.wrap (F i + tn F i)))) := by
  rw [IntKind.wrap_u64]; exact Vb_set (Vb_drewN h) hi
theorem Vb_ts {B g i m : Nat} {F : Nat → Int} {w1 : World} (h : Vb .u64 B g 8 F w1) (hi : i < 8) : Vb .u64 B g 8 (ts F i) ((w1.drewN m).setCell ⟨g, i, none⟩ (.int .u64 (IntKind.u64.wrap (F i - tn F i)))) := by
  rw [IntKind.wrap_u64]; exact Vb_set (Vb_drewN h) hi
theorem Vb_od {k : IntKind} {B g h n i m : Nat} {F : Nat → Int} {w1 : World} {v : Value} (c : Vb k B g n F w1) (hne : h ≠ g) : Vb k B g n F ((w1.drewN m).setCell ⟨h, i, none⟩ v) := Vb_other (Vb_drewN c) hne
theorem Bel_ds {B g i m : Nat} {w w1 : World} {v : Value} (h : Below B w w1) (hB : B ≤ g) : Below B w ((w1.drewN m).setCell ⟨g, i, none⟩ v) := (below_drewN h m).setCell (p := ⟨g, i, none⟩) hB v
set_option maxHeartbeats 4000000 in
set_option maxRecDepth 100000 in
theorem mix_any (F : Nat → Int) (hF : UF F) (w : World) :
    Calls Try.prog 9 #[Sv F] w fun e w' => e = .returned (Sv (mix F)) ∧ Below w.heap.size w w' := by
  conv => arg 3; unfold Sv
  go_enter Try.func9, Try.ntmps9
  go_wp2_with fail
  go_loopw [3] (fun s wr => ∃ k : Nat, k ≤ 12 ∧ s = .int .u64 (k + 1) ∧ Vb .u64 w.heap.size w.heap.size 8 (mixs F k) wr ∧ Vb .u64 w.heap.size (w.heap.size + 1) 8 (fun _ => 0) wr ∧ Below w.heap.size w wr) (fun s _ => (13 - intOf s).toNat)
  case atStart =>
    refine ⟨0, by omega, rfl, ?_, ?_, ?_⟩
    · exact Vb_al (Vb_new8 w.heap.size F w 24 (Nat.le_refl _)) _
    · have k := Vb_new8 w.heap.size (fun _ => 0) (w.alloc (.cells #[.int .u64 (F 0), .int .u64 (F 1), .int .u64 (F 2), .int .u64 (F 3), .int .u64 (F 4), .int .u64 (F 5), .int .u64 (F 6), .int .u64 (F 7)] 24)) 24 (by simp)
      simp only [World.size_alloc] at k
      exact k
    · repeat (first | exact Below.refl _ _ | refine Below.alloc ?_ (by simp <;> omega) _)
  case round =>
    obtain ⟨k, hk, rfl, v0, v1, hb⟩ := hrel
    by_cases hlt : k < 12
    · have hd : decide ((k : Int) + 1 ≤ 12) = true := by simp; omega
      have uk := UF_mixs hF k
      have c0 := v0.c 0 (by omega)
      have f0 := v0.f 0
      have ek : IntKind.u64.wrap (((k : Int) + 1) * 11400714819323198485) = kr (k + 1) := by rw [IntKind.wrap_u64]; unfold kr; omega
      go_wp2_with fail
      go_loopw [15] (fun s wr => ∃ i : Nat, i ≤ 8 ∧ s = .int .i64 i ∧ Vb .u64 w.heap.size w.heap.size 8 (sts (sx (mixs F k) (k + 1)) i) wr ∧ Vb .u64 w.heap.size (w.heap.size + 1) 8 (fun _ => 0) wr ∧ Below w.heap.size w wr) (fun s _ => (8 - intOf s).toNat)
      case atStart =>
        refine ⟨0, by omega, rfl, ?_, ?_, ?_⟩
        · exact Vb_set v0 (by omega)
        · exact Vb_other v1 (by dsimp only; omega)
        · exact hb.setCell (by dsimp only; omega) _
      case round =>
        clear v0 v1 hb c0 f0
        obtain ⟨i, hi, rfl, v0, v1, hb⟩ := hrel
        have ui := UF_sts (UF_sx uk (k + 1)) i
        by_cases hli : i < 8
        · have c0 := v0.c i hli
          have f0 := v0.f i
          have b1 : (i : Int) < 8 := by omega
          go_wp2_with fail
          go_region_with (go_at_call 22; refine (turned_any w.heap.size i (sts (sx (mixs F k) (k + 1)) i) hli ui _ ?_).mono ?_; (first | exact v0.c | exact CK_drew v0.c); rintro e w1 ⟨rfl, n1, rfl⟩)
          all_goals
            go_wp2_with fail
            go_roundw
            case rel =>
              first | exact ⟨i + 1, by omega, by go_num, Vb_st v0 hli, Vb_od v1 (by omega), Bel_ds hb (Nat.le_refl _)⟩ | ((repeat apply Exists.intro); exact ⟨⟨i + 1, by omega, by go_num, Vb_st v0 hli, Vb_od v1 (by omega), Bel_ds hb (Nat.le_refl _)⟩, rfl⟩)
            case measure => simp [intOf]; omega
        · have hi8 : i = 8 := by omega
          subst hi8
          go_wp2_with fail
          go_roundw
          case rel => exact ⟨k + 1, by omega, by go_num, v0, v1, hb⟩
          case measure => simp [intOf]; omega
    · have hk12 : k = 12 := by omega
      subst hk12
      have c0 : ∀ o, o < 8 → wr.cell? ⟨w.heap.size, o, none⟩ = some (.int .u64 (mixs F 12 o)) := v0.c
      have c1 : ∀ o, o < 8 → wr.cell? ⟨w.heap.size + 1, o, none⟩ = some (.int .u64 0) := v1.c
      have f1 : ∀ o, wr.frozen? ⟨w.heap.size + 1, o, none⟩ = false := v1.f
      have HB : Hid (Below w.heap.size w wr) := hb
      have V1 : Hid (Vb .u64 w.heap.size (w.heap.size + 1) 8 (fun _ => 0) wr) := v1
      clear hb v0 v1
      go_wp2_with fail
      refine bodyPost_ret (v := Sv (mix F)) (result8 _ _ _ (w.heap.size + 1) 2 _ rfl rfl (CK_set8 V1.out.c)) rfl ⟨rfl, ?_⟩
      exact Bel_set8 HB.out (by omega)
end Sp
end Go.Proofs.Ytjikibeacbkkjaa
