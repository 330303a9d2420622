/- slices.Equal of two texts. -/
import Derived.Test.YtjikibeacbkkjaaSpBytes
namespace Go.Proofs.Ytjikibeacbkkjaa
namespace Sp
open Go.RowKit
theorem bz_ext {l m : List UInt8} (hl : l.length = m.length) (h : ∀ j, j < l.length → bz l j = bz m j) : l = m := by
  apply List.ext_getElem hl
  intro i h1 h2
  have := h i h1
  unfold bz at this
  rw [List.getD_eq_getElem?_getD, List.getD_eq_getElem?_getD, List.getElem?_eq_getElem h1, List.getElem?_eq_getElem h2] at this
  simp only [Option.getD_some] at this
  exact UInt8.toNat_inj.1 (by omega)
set_option maxHeartbeats 1000000 in
set_option maxRecDepth 100000 in
theorem equal_any (l m : List UInt8) (ao bo : Option Addr) (cap dap : Nat) (w : World) (hl : (l.length : Int) ≤ 140737488355400) (hv : Vw l ao w) (hu : Vw m bo w) :
    Calls Try.prog 21 #[.slice ao l.length cap, .slice bo m.length dap] w fun e w' => e = .returned (.bool (decide (l = m))) ∧ Below w.heap.size w w' := by
  by_cases hlm : l.length = m.length
  · by_cases h0 : l.length = 0
    · have e : decide (l = m) = true := by
        rw [decide_eq_true_iff, List.eq_nil_of_length_eq_zero h0, List.eq_nil_of_length_eq_zero (l := m) (by omega)]
      rw [e, ← hlm, h0]
      clear hl hlm h0 e hv hu
      go_enter Try.func21, Try.ntmps21
      go_wp2_with fail
      refine wp_loop_rounds 1 ?_
      rw [rounds_succ]
      go_wp2_with fail
      go_ret
      exact ⟨rfl, Below.refl _ _⟩
    · obtain ⟨g, off, rfl, hg, hc⟩ := hv (by omega)
      obtain ⟨h, ofh, rfl, hh, hd⟩ := hu (by omega)
      rw [← hlm]
      have HC : Hid (∀ j, j < l.length → w.cell? ⟨g, off + j, none⟩ = some (.int .u8 (bz l j))) := hc
      have HD : Hid (∀ j, j < l.length → w.cell? ⟨h, ofh + j, none⟩ = some (.int .u8 (bz m j))) := fun j hj => hd j (by omega)
      have HL : Hid (l.length = m.length) := hlm
      have hlm' : ((l.length : Int) != (l.length : Int)) = false := by simp
      clear hc hd hlm hv hu h0
      go_enter Try.func21, Try.ntmps21
      go_wp2_with fail
      go_loopw [13] (fun s wr => ∃ k : Nat, k ≤ l.length ∧ s = .int .i64 k ∧ Hid (∀ j, j < k → bz l j = bz m j) ∧ Below w.heap.size w wr) (fun s _ => l.length - (intOf s).toNat)
      case atStart => exact ⟨0, Nat.zero_le _, rfl, fun j hj => absurd hj (by omega), Below.refl _ _⟩
      case round =>
        obtain ⟨k, hk, rfl, hp, hb⟩ := hrel
        by_cases hlt : k < l.length
        · have c0 := (hb.cell (p := ⟨g, off + k, none⟩) hg).trans (HC.out k hlt)
          have c1 := (hb.cell (p := ⟨h, ofh + k, none⟩) hh).trans (HD.out k hlt)
          by_cases hbk : bz l k = bz m k
          · have t1 : (bz l k != bz m k) = false := by simp [hbk]
            have H1 : Hid (∀ j, j < k + 1 → bz l j = bz m j) := fun j hj => by
              by_cases e : j = k
              · subst e; exact hbk
              · exact hp.out j (by omega)
            clear hbk hp
            go_wp2_with fail
            go_quiet (fail)
            go_wp2_with fail
            go_roundw
            case rel => first | exact ⟨k + 1, by omega, by go_num, H1, below_drewN hb _⟩ | ((repeat apply Exists.intro); exact ⟨⟨k + 1, by omega, by go_num, H1, below_drewN hb _⟩, rfl⟩)
            case measure => simp [intOf]; omega
          · have t1 : (bz l k != bz m k) = true := by simp [hbk]
            have H1 : Hid (decide (l = m) = false) := by
              show _ = _
              rw [decide_eq_false_iff_not]
              intro e; subst e; exact hbk rfl
            clear hbk hp
            go_wp2_with fail
            go_quiet (fail)
            go_wp2_with fail
            go_ret
            exact ⟨by rw [H1.out]; rfl, below_drewN hb _⟩
        · have hkl : k = l.length := by omega
          subst hkl
          have H1 : Hid (decide (l = m) = true) := by
            show _ = _
            rw [decide_eq_true_iff]
            exact bz_ext HL.out hp.out
          go_wp2_with fail
          go_ret
          exact ⟨by rw [H1.out]; rfl, hb⟩
  · have e : decide (l = m) = false := by
      rw [decide_eq_false_iff_not]
      intro e; subst e; exact hlm rfl
    have t1 : ((l.length : Int) != (m.length : Int)) = true := by simp; omega
    rw [e]
    clear hl hlm e hv hu
    go_enter Try.func21, Try.ntmps21
    go_wp2_with fail
    go_ret
    exact ⟨rfl, Below.refl _ _⟩
end Sp
end Go.Proofs.Ytjikibeacbkkjaa
