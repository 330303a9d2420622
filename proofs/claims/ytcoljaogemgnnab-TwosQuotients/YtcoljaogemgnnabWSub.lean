/- lampbearerref.WSub: the difference of two words, byte by byte. -/
import Derived.Test.YtcoljaogemgnnabWAdd
namespace Go.Proofs.Ytcoljaogemgnnab
open Go.RowKit Go.Shelf
attribute [local go_sem ↓] Go.wp_at_zero Go.wp_at_succ
set_option maxHeartbeats 1000000 in
set_option maxRecDepth 100000 in
theorem wsub_any (a b : Nat) (hb0 : b < 2 ^ 256) (w : World) :
    Calls Try.prog 62 #[Wd a, Wd b] w fun e w' => e = .returned (Wd (a + 2 ^ 256 - b)) ∧ Below w.heap.size w w' := by
  have Hb0 : Hid (b < 2 ^ 256) := hb0
  clear hb0
  generalize hN : a + 2 ^ 256 - b = N
  have HN : Hid (a + 2 ^ 256 - b = N) := hN
  clear hN
  conv => arg 3; unfold Wd
  go_enter Try.func62, Try.ntmps62
  go_wp2
  go_region_held3 (fun w' => w'.cell? ⟨w.heap.size, 0, none⟩ = some (.int .u64 (dg a 0)) ∧ w'.cell? ⟨w.heap.size, 1, none⟩ = some (.int .u64 (dg a 1)) ∧ w'.cell? ⟨w.heap.size, 2, none⟩ = some (.int .u64 (dg a 2)) ∧ w'.cell? ⟨w.heap.size, 3, none⟩ = some (.int .u64 (dg a 3)) ∧ w'.cell? ⟨w.heap.size + 1, 0, none⟩ = some (.int .u64 (dg b 0)) ∧ w'.cell? ⟨w.heap.size + 1, 1, none⟩ = some (.int .u64 (dg b 1)) ∧ w'.cell? ⟨w.heap.size + 1, 2, none⟩ = some (.int .u64 (dg b 2)) ∧ w'.cell? ⟨w.heap.size + 1, 3, none⟩ = some (.int .u64 (dg b 3))) (first | (simp [go_sem, World.cell?_alloc_past]; done) | (simp [hc1, go_sem, World.cell?_alloc_past]; done) | (simp [hc2, hz1, Nat.lt_of_succ_lt hz1, hc1, go_sem, World.cell?_alloc_past]; done))
    (first
      | (go_at_call_of 37 (dg a 0); refine (wbytes_any a _).mono ?_; rintro e w1 ⟨g1, cap1, rfl, own1, hb1⟩; obtain ⟨hc1, hf1⟩ := bcell hb1; have hz1 : w.heap.size + 1 < w1.heap.size := (by have := hb1.size; simp at this; omega))
      | (go_at_call_of 37 (dg b 0); refine (wbytes_any b _).mono ?_; rintro e w2 ⟨g2, cap2, rfl, own2, hb2⟩; obtain ⟨hc2, hf2⟩ := bcell hb2))
  have q1 := R32_own own1
  have q2 := R32_own own2
  have z1 := Fz_own own1
  have hcap1 := own_cap own1
  have l1 := own1.lt g1 rfl
  have l2 := own2.lt g2 rfl
  simp at l1 l2
  clear own1 own2 hc1 hf1 hc2 hf2
  have l1a := l1.1
  have l1b := l1.2
  have l2a := l2.1
  have hn12 : g2 ≠ g1 := by omega
  have hs12 := hb2.size
  have R1 := R32_below q1 hb2 l1b
  have Z1 := Fz_below z1 hb2 l1b
  have hB : Below w.heap.size w w2 := (((((Below.refl _ _).alloc (Nat.le_refl _) _).alloc (by simp) _).alloc (by simp <;> omega) _).drew.trans (hb1.mono (by simp <;> omega))).trans (hb2.mono (by omega))
  have cz : (∀ o, w2.cell? ⟨w.heap.size + 1 + 1, o, none⟩ = w1.cell? ⟨w.heap.size + 1 + 1, o, none⟩) ∧ (∀ o, w2.frozen? ⟨w.heap.size + 1 + 1, o, none⟩ = w1.frozen? ⟨w.heap.size + 1 + 1, o, none⟩) := ⟨fun o => hb2.cell (p := ⟨_, o, none⟩) (by dsimp only; omega), fun o => hb2.frozen (p := ⟨_, o, none⟩) (by dsimp only; omega)⟩
  have cy : ∀ o, o < 4 → w1.cell? ⟨w.heap.size + 1 + 1, o, none⟩ = some (.int .u64 0) := fun o ho => by
    rw [hb1.cell (p := ⟨_, o, none⟩) (by simp)]
    have : o = 0 ∨ o = 1 ∨ o = 2 ∨ o = 3 := by omega
    rcases this with rfl | rfl | rfl | rfl <;> simp [go_sem]
  have cf : ∀ o, w1.frozen? ⟨w.heap.size + 1 + 1, o, none⟩ = false := fun o => by
    rw [hb1.frozen (p := ⟨_, o, none⟩) (by simp)]
    simp [go_sem]
  have C0 : Hid (∀ o, o < 4 → w2.cell? ⟨w.heap.size + 1 + 1, o, none⟩ = some (.int .u64 0)) := fun o ho => (cz.1 o).trans (cy o ho)
  have C1 : Hid (∀ o, w2.frozen? ⟨w.heap.size + 1 + 1, o, none⟩ = false) := fun o => (cz.2 o).trans (cf o)
  have HB : Hid (Below w.heap.size w w2) := hB
  clear hb1 hb2 hB cz cy cf q1 z1 l1 l2 hz1
  rename_i hHeld
  clear hHeld
  go_wp2
  go_loopw [7, 8] (fun c i wr => ∃ k : Nat, k ≤ 32 ∧ i = .int .i64 ((k : Int) - 1) ∧ c = .int .i64 (bb a b k) ∧ R32 g1 (mixb a N k) wr ∧ R32 g2 (bt b) wr ∧ Fz g1 wr ∧ Below (w.heap.size + 3) w2 wr) (fun _ i _ => (intOf i + 1).toNat)
  case atStart => exact ⟨32, by omega, rfl, by rw [bb_top], fun j hj => by rw [mix_top _ _ _ hj]; exact R1 j hj, q2, Z1, Below.refl _ _⟩
  case round =>
    clear R1 q2 Z1
    obtain ⟨k, hk, hi, rfl, r1, r2, z1, hb⟩ := hrel
    cases k with
    | zero =>
      subst hi
      have hlt : g1 < wr.heap.size := by have := hb.size; omega
      have hz2 : w.heap.size + 1 + 1 < wr.heap.size := by omega
      go_wp2_with fail
      refine (wread_any g1 0 32 cap1 (fun j => N / 2 ^ (8 * (31 - j)) % 256) _ (by decide) (by decide) hcap1 hlt (fun j => Nat.mod_lt _ (by decide)) (fun j hj => by rw [Nat.zero_add, r1 j hj, mix_zero]; rfl)).mono ?_
      rintro e w3 ⟨rfl, hb3⟩
      have f0 : ∀ o, o < 4 → w3.cell? ⟨w.heap.size + 1 + 1, o, none⟩ = some (.int .u64 0) := fun o ho => (hb3.cell (p := ⟨_, o, none⟩) hz2).trans ((hb.cell (p := ⟨_, o, none⟩) (by dsimp only; omega)).trans (C0.out o ho))
      have f1 : ∀ o, w3.frozen? ⟨w.heap.size + 1 + 1, o, none⟩ = false := fun o => (hb3.frozen (p := ⟨_, o, none⟩) hz2).trans ((hb.frozen (p := ⟨_, o, none⟩) (by dsimp only; omega)).trans (C1.out o))
      have hz3 := hb3.size
      have HF : Hid (Below w.heap.size w w3) := (HB.out.trans (hb.mono (by omega))).trans (hb3.mono (by omega))
      clear hb hb3 r1 r2 z1
      rw [show (32 - 32 : Nat) = 0 by decide, show min 32 32 = 32 by decide, Wd_rv]
      simp only [Wd]
      go_wp2_with fail
      refine bodyPost_ret (v := Wd N) (by simp [Wd, results, Try.results62, go_sem, f0]) rfl ⟨rfl, ?_⟩
      repeat (first | exact HF.out | refine Below.drew ?_ | refine Below.setCell ?_ (by dsimp only; omega) _)
    | succ p =>
      have e : ((p + 1 : Nat) : Int) - 1 = (p : Int) := by omega
      rw [e] at hi
      subst hi
      have hx := r1 p (by omega)
      rw [mix_at] at hx
      have hy := r2 p (by omega)
      have hz := z1 p
      have n1 := bt_nn a p
      have n2 := bt_le a p
      have n3 := bt_nn b p
      have n4 := bt_le b p
      have n5 := bb_nn a b (p + 1)
      have n6 := bb_le a b (p + 1)
      go_wp2_with fail
      have sb := sub_byte a b p Hb0.out (by omega)
      rw [HN.out] at sb
      have SB : Hid ((bt a p - bt b p - bb a b (p + 1)) % 256 = bt N p) := sb.1
      have SC : Hid (bt a p - bt b p - bb a b (p + 1) < 0 ↔ bb a b p = 1) := sb.2
      clear sb
      have n7 := bb_nn a b p
      have n8 := bb_le a b p
      by_cases hneg : bt a p - bt b p - bb a b (p + 1) < 0
      · have e1 : Hid (bt a p - bt b p - bb a b (p + 1) + 256 = bt N p) := by rw [← SB.out]; show _ = _; omega
        have e2 : Hid (bb a b p = 1) := SC.out.1 hneg
        go_quiet (fail)
        go_wp2_with fail
        go_roundw
        case rel =>
          rw [e1.out]
          exact ⟨p, by omega, rfl, by rw [e2.out], R32_mix (R32_drewN r1) (by omega), R32_other (R32_drewN r2) (by dsimp only; omega), Fz_set (Fz_drewN z1), (below_drewN hb _).setCell (by dsimp only; omega) _⟩
        case measure => simp [intOf]
      · have e1 : Hid (bt a p - bt b p - bb a b (p + 1) = bt N p) := by rw [← SB.out]; show _ = _; omega
        have e2 : Hid (bb a b p = 0) := by
          have := SC.out
          show _ = _
          omega
        go_quiet (fail)
        go_wp2_with fail
        go_roundw
        case rel =>
          rw [e1.out]
          exact ⟨p, by omega, rfl, by rw [e2.out], R32_mix (R32_drewN r1) (by omega), R32_other (R32_drewN r2) (by dsimp only; omega), Fz_set (Fz_drewN z1), (below_drewN hb _).setCell (by dsimp only; omega) _⟩
        case measure => simp [intOf]
end Go.Proofs.Ytcoljaogemgnnab
