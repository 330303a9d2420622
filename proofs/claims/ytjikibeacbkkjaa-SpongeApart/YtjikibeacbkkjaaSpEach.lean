/- sponge.eachBlock, with soak: the whole blocks of a text soaked up. -/
import Derived.Test.YtjikibeacbkkjaaSpSoak
namespace Go.Proofs.Ytjikibeacbkkjaa
namespace Sp
open Go.RowKit
set_option maxHeartbeats 2000000 in
set_option maxRecDepth 100000 in
theorem eachBlock_any (g h off n cap : Nat) (ao : Option Addr) (F f : Nat → Int) (R : Value) (w : World) (hF : UF F) (hf : ∀ j, 0 ≤ f j ∧ f j < 256) (hs : Sk g F R w) (hne : h ≠ g) (hlt : h < w.heap.size)
    (hn : n ≤ cap) (hcap : (cap : Int) ≤ 9223372036854775807) (hao : 0 < n → ao = some ⟨h, off, none⟩) (hc : ∀ j, j < n → w.cell? ⟨h, off + j, none⟩ = some (.int .u8 (f j))) :
    Calls Try.prog 25 #[.slice ao n cap, .func (Fn.func 26) #[.pointer (some ⟨g, 0, none⟩)] #[]] w fun e w' => ∃ a', e = .returned (.slice a' (n % 32) (cap - 32 * (n / 32))) ∧ (0 < n % 32 → a' = some ⟨h, off + 32 * (n / 32), none⟩) ∧ Sk g (ab F f (n / 32)) R w' ∧ w.grownBy w' (some g) := by
  have HC : Hid (∀ j, j < n → w.cell? ⟨h, off + j, none⟩ = some (.int .u8 (f j))) := hc
  have HF : Hid (∀ j, 0 ≤ f j ∧ f j < 256) := hf
  clear hc hf
  go_enter Try.func25, Try.ntmps25
  go_wp2_with fail
  go_loopw [0] (fun s wr => ∃ (k m c : Nat) (ax : Option Addr), Hid (32 * k + m = n) ∧ Hid (32 * k + c = cap) ∧ m ≤ c ∧ s = .slice ax m c ∧ (0 < m → ax = some ⟨h, off + 32 * k, none⟩) ∧ Sk g (ab F f k) R wr ∧ w.grownBy wr (some g)) (fun s _ => match s with | .slice _ m _ => m | _ => 0)
  case atStart => exact ⟨0, n, cap, ao, Nat.zero_add _, Nat.zero_add _, hn, rfl, hao, hs, gb_refl _ _⟩
  case round =>
    obtain ⟨k, m, c, ax, e1, e2, hmc, rfl, hax, s0, b0⟩ := hrel
    have uk := UF_ab (f := f) hF k
    have hc63 : (c : Int) ≤ 9223372036854775807 := by have := e2.out; omega
    by_cases hlt : 32 ≤ m
    · obtain rfl := hax (by omega)
      have hd : decide ((32 : Int) ≤ (m : Int)) = true := by simp; omega
      have hcc : (32 : Int) ≤ (c : Int) := by omega
      have cx : ∀ j, j < 32 → wr.cell? ⟨h, off + 32 * k + j, none⟩ = some (.int .u8 (f (32 * k + j))) := fun j hj => by
        rw [Nat.add_assoc]; exact cell_gb (HC.out (32 * k + j) (by have := e1.out; omega)) b0 hne ‹_›
      go_wp2_with fail
      refine (soak_any g h (off + 32 * k) c (ab F f k) (fun j => f (32 * k + j)) R _ uk (fun j => HF.out _) s0 hne (Nat.lt_of_lt_of_le ‹_› b0.size) cx).mono ?_
      rintro e w1 ⟨rfl, s1, b1⟩
      have B1 : Hid (w.grownBy w1 (some g)) := gb_trans b0 b1
      have S1 : Hid (Sk g (ab F f (k + 1)) R w1) := s1
      have E1 : Hid (32 * (k + 1) + (m - 32) = n) := by show _ = _; have := e1.out; omega
      have E2 : Hid (32 * (k + 1) + (c - 32) = cap) := by show _ = _; have := e2.out; omega
      clear s0 b0 s1 b1 cx uk
      by_cases hc32 : c = 32
      · subst hc32
        go_wp2_with fail
        go_roundw
        case rel => exact ⟨k + 1, 0, 0, _, (by show _ = _; have := E1.out; omega), (by show _ = _; have := E2.out; omega), Nat.le_refl _, rfl, fun h => absurd h (by omega), S1.out, B1.out⟩
        case measure => dsimp only; omega
      · go_wp2_with fail
        go_roundw
        case rel => exact ⟨k + 1, m - 32, c - 32, _, E1, E2, by omega, rfl, fun _ => rfl, S1.out, B1.out⟩
        case measure => dsimp only; omega
    · have hd : decide ((32 : Int) ≤ (m : Int)) = false := by simp; omega
      have ek : Hid (n / 32 = k) := by show n / 32 = k; have := e1.out; omega
      have em : Hid (n % 32 = m) := by show n % 32 = m; have := e1.out; omega
      have ec : Hid (cap - 32 * k = c) := by show _ = _; have := e2.out; omega
      have S0 : Hid (Sk g (ab F f k) R wr) := s0
      have HA : Hid (0 < m → ax = some ⟨h, off + 32 * k, none⟩) := hax
      clear s0 hax uk
      go_wp2_with fail
      go_ret
      refine ⟨ax, ?_, ?_, ?_, b0⟩
      · rw [ek.out, em.out, ec.out]; rfl
      · rw [ek.out, em.out]; exact HA.out
      · rw [ek.out]; exact S0.out
end Sp
end Go.Proofs.Ytjikibeacbkkjaa
