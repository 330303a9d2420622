import Derived.Test.YtefgamhnikeekaaDoorPackD
import Derived.Test.YtefgamhnikeekaaDoorPackC
import Derived.Deep.AppendLies
import Derived.Test.YtefgamhnikeekaaDoorPackA
import Derived.RangeFuncNested
import Derived.RangeFuncBound
import Derived.RangeFuncCalls
import Derived.RangeFuncLeaves
import Derived.RangeFuncBox
import Derived.Shelf.Abstract
import Derived.Shelf.RegionOpen
import Derived.WalkKit
import Derived.OwnWalkIn
import Derived.TacticsInMore
import Derived.LoopNIn
import Derived.LoopIn
import Derived.OrdersIn
import Derived.ControlIn
namespace Go.Proofs.YtefgamhnikeekaaDoor
namespace Rs
open Nb Sp Pk Go.RowKit
theorem pb_snoc (p : List UInt8) (k : Nat) (h : k < p.length) : pb (p.take (k + 1)) = (pb (p.take k) && decide (bz p k < 16)) := by
  unfold pb bz
  rw [List.take_add_one, List.getElem?_eq_getElem h, List.all_append, List.getD_eq_getElem?_getD, List.getElem?_eq_getElem h]
  have e : decide (((p[k]).toNat : Int) < 16) = decide ((p[k]).toNat < 16) := decide_eq_decide.2 (by omega)
  simp [e]
set_option maxHeartbeats 4000000 in
set_option maxRecDepth 100000 in
theorem si_none (a1 a2 a3 : Option Addr) (n c1 n2 c2 n3 c3 : Nat) (p : List UInt8) (w : World) (hn : Hid (n = p.length)) (hz : Hid (n ≤ 4194300)) (vp : Hid (∀ W, Below w.heap.size w W → Vw p a1 W)) (KT : Hid (∀ wx : World, Calls Tryd.prog 27 #[.slice none 0 0] wx fun e w' => e = .returned (.agg #[.bool false, .slice none 0 0, .slice none 0 0]) ∧ Below wx.heap.size wx w')) :
    Calls Tryd.prog 14 #[.agg #[.int .i64 0, .slice a1 n c1, .slice a2 n2 c2, .slice a3 n3 c3]] w fun e w' => ∃ v, e = .returned (.tuple #[v3 v, .bool true]) ∧ (true = true → Iv (fun _ => True) w' (.mk false [] []) v) ∧ Below w.heap.size w w' ∧ Fm v := by
  have l0 : Below w.heap.size w ((w.alloc (.cells #[.int .i64 0, .slice a1 n c1, .slice a2 n2 c2, .slice a3 n3 c3] 25)).alloc (.cells #[.bool false, .slice none 0 0, .slice none 0 0] 44)) := ((Below.refl _ _).alloc (Nat.le_refl _) _).alloc (by simp) _
  have hs1 : (w.alloc (.cells #[.int .i64 0, .slice a1 n c1, .slice a2 n2 c2, .slice a3 n3 c3] 25)).heap.size = w.heap.size + 1 := by simp
  have x0 : B3 (w.heap.size + 1) ((w.alloc (.cells #[.int .i64 0, .slice a1 n c1, .slice a2 n2 c2, .slice a3 n3 c3] 25)).alloc (.cells #[.bool false, .slice none 0 0, .slice none 0 0] 44)) := hs1 ▸ B3_new (w.alloc (.cells #[.int .i64 0, .slice a1 n c1, .slice a2 n2 c2, .slice a3 n3 c3] 25))
  have nb0 : NB (w.heap.size + 1) ((w.alloc (.cells #[.int .i64 0, .slice a1 n c1, .slice a2 n2 c2, .slice a3 n3 c3] 25)).alloc (.cells #[.bool false, .slice none 0 0, .slice none 0 0] 44)) := hs1 ▸ NB_new (w.alloc (.cells #[.int .i64 0, .slice a1 n c1, .slice a2 n2 c2, .slice a3 n3 c3] 25))
  have HA := heap_alloc_new w (.cells #[.int .i64 0, .slice a1 n c1, .slice a2 n2 c2, .slice a3 n3 c3] 25)
  have bB : Below (w.heap.size + 1) (w.alloc (.cells #[.int .i64 0, .slice a1 n c1, .slice a2 n2 c2, .slice a3 n3 c3] 25)) ((w.alloc (.cells #[.int .i64 0, .slice a1 n c1, .slice a2 n2 c2, .slice a3 n3 c3] 25)).alloc (.cells #[.bool false, .slice none 0 0, .slice none 0 0] 44)) := (Below.refl _ _).alloc (by omega) _
  have q0 : ((w.alloc (.cells #[.int .i64 0, .slice a1 n c1, .slice a2 n2 c2, .slice a3 n3 c3] 25)).alloc (.cells #[.bool false, .slice none 0 0, .slice none 0 0] 44)).cell? ⟨w.heap.size, 0, none⟩ = some (.int .i64 0) := (bB.cell (p := ⟨w.heap.size, 0, none⟩) (by show w.heap.size < _; omega)).trans (by simp only [World.cell?, HA]; rfl)
  have q1 : ((w.alloc (.cells #[.int .i64 0, .slice a1 n c1, .slice a2 n2 c2, .slice a3 n3 c3] 25)).alloc (.cells #[.bool false, .slice none 0 0, .slice none 0 0] 44)).cell? ⟨w.heap.size, 1, none⟩ = some (.slice a1 n c1) := (bB.cell (p := ⟨w.heap.size, 1, none⟩) (by show w.heap.size < _; omega)).trans (by simp only [World.cell?, HA]; rfl)
  have q2 : ((w.alloc (.cells #[.int .i64 0, .slice a1 n c1, .slice a2 n2 c2, .slice a3 n3 c3] 25)).alloc (.cells #[.bool false, .slice none 0 0, .slice none 0 0] 44)).cell? ⟨w.heap.size, 2, none⟩ = some (.slice a2 n2 c2) := (bB.cell (p := ⟨w.heap.size, 2, none⟩) (by show w.heap.size < _; omega)).trans (by simp only [World.cell?, HA]; rfl)
  have q3 : ((w.alloc (.cells #[.int .i64 0, .slice a1 n c1, .slice a2 n2 c2, .slice a3 n3 c3] 25)).alloc (.cells #[.bool false, .slice none 0 0, .slice none 0 0] 44)).cell? ⟨w.heap.size, 3, none⟩ = some (.slice a3 n3 c3) := (bB.cell (p := ⟨w.heap.size, 3, none⟩) (by show w.heap.size < _; omega)).trans (by simp only [World.cell?, HA]; rfl)
  have hsz : ((w.alloc (.cells #[.int .i64 0, .slice a1 n c1, .slice a2 n2 c2, .slice a3 n3 c3] 25)).alloc (.cells #[.bool false, .slice none 0 0, .slice none 0 0] 44)).heap.size = w.heap.size + 2 := by simp
  clear HA bB hs1
  go_enter Tryd.func14, Tryd.ntmps14
  go_wp2_with fail
  generalize ((w.alloc (.cells #[.int .i64 0, .slice a1 n c1, .slice a2 n2 c2, .slice a3 n3 c3] 25)).alloc (.cells #[.bool false, .slice none 0 0, .slice none 0 0] 44)) = W0 at *
  have VP : Hid (Vw p a1 W0) := vp.out W0 l0
  obtain ⟨h, eh⟩ : ∃ h, h = w.heap.size := ⟨_, rfl⟩
  have EH : Hid (h = w.heap.size) := eh
  have L0 : Hid (Below w.heap.size w W0) := l0
  have X0 : Hid (B3 (h + 1) W0) := eh ▸ x0
  have NB0 : Hid (NB (h + 1) W0) := eh ▸ nb0
  have HSZ : Hid (W0.heap.size = h + 2) := by show _ = _; rw [eh]; exact hsz
  rw [← eh] at q0 q1 q2 q3 ⊢
  clear eh l0 x0 nb0 vp hsz
  go_loopw [4, 20] (fun B s wr => ∃ k : Nat, k ≤ n ∧ s = .int .i64 (k : Int) ∧ B = .bool (pb (p.take k)) ∧ W0 = wr) (fun _ s _ => ((n : Int) - intOf s).toNat)
  case atStart => exact ⟨0, Nat.zero_le _, rfl, rfl, rfl⟩
  case round =>
    obtain ⟨k, hk, rfl, rfl, rfl⟩ := hrel
    by_cases h1 : k < n
    · have d1 : decide ((k : Int) < (n : Int)) = true := decide_eq_true (by omega)
      have d2 : decide (k < n) = true := decide_eq_true h1
      obtain ⟨g, off, rfl, hg, hc⟩ := VP.out (by have := hn.out; omega)
      have c0 := hc k (by have := hn.out; omega)
      have hw := Nb.stp k (by have := hz.out; show _ ≤ _; omega)
      have HP : Hid (pb (p.take (k + 1)) = (pb (p.take k) && decide (bz p k < 16))) := pb_snoc p k (by have := hn.out; omega)
      clear hc hg
      generalize bz p k = X at *
      obtain ⟨B1, hB1⟩ : ∃ B1, B1 = pb (p.take (k + 1)) := ⟨_, rfl⟩
      have HB1 : Hid (B1 = pb (p.take (k + 1))) := hB1
      rw [← hB1] at HP
      clear hB1
      generalize pb (p.take k) = B0 at *
      cases B0 with
      | false =>
        have e : Hid (B1 = false) := HP.out
        clear HP
        go_wp2_with fail
        have hw := hw.out
        go_roundw
        case rel => exact ⟨k + 1, h1, Nb.step_v k _ hw, by rw [← HB1.out, e.out], trivial⟩
        case measure => exact Nb.msr k n h1 _ hw
      | true =>
        by_cases hx : X < 16
        · have t1 : decide (X < 16) = true := decide_eq_true hx
          have e : Hid (B1 = true) := by have := HP.out; rwa [t1] at this
          clear HP hx
          go_wp2_with fail
          have hw := hw.out
          go_roundw
          case rel => exact ⟨k + 1, h1, Nb.step_v k _ hw, by rw [← HB1.out, e.out], trivial⟩
          case measure => exact Nb.msr k n h1 _ hw
        · have t1 : decide (X < 16) = false := decide_eq_false hx
          have e : Hid (B1 = false) := by have := HP.out; rwa [t1] at this
          clear HP hx
          go_wp2_with fail
          have hw := hw.out
          go_roundw
          case rel => exact ⟨k + 1, h1, Nb.step_v k _ hw, by rw [← HB1.out, e.out], trivial⟩
          case measure => exact Nb.msr k n h1 _ hw
    · have hkl : k = n := by omega
      subst hkl
      have ep : Hid (p.take k = p) := by show _ = _; rw [hn.out, List.take_length]
      rw [ep.out]
      clear ep h1 hk
      generalize pb p = B at *
      go_wp2_with fail
      refine (KT.out _).mono (fun e w1 he => ?_)
      obtain ⟨rfl, b1⟩ := he
      have l1 : Below w.heap.size w w1 := L0.out.trans (b1.mono L0.out.size)
      have x1 : B3 (h + 1) w1 := B3_gb (r := none) X0.out (gb_below b1) nofun
      clear b1 KT q0 q1 q2 q3
      go_wp2_with (refine wpList_st3b rfl rfl rfl rfl x1 ?_)
      intro w6 g6 b6 z0 z1 z2
      have l6 : Hid (Below w.heap.size w w6) := (l1).trans ⟨g6.os, g6.tape, g6.output, g6.size, fun j hj => g6.block j (by have := (l1).size; omega) (fun e => by injection e with e; have := EH.out; omega)⟩
      have IV : Hid (Iv (fun _ => True) w6 (.mk false [] []) (.bool false, .slice none 0 0, .slice none 0 0)) := .mk _ _ _ _ _ [] (Ty_nil _ _) rfl (Kx_nil _ _) (fun j hj => absurd hj (by simp))
      clear g6 b6 x1 l1
      go_wp2_with fail
      exact bodyPost_ret (v := .tuple #[.agg #[.bool false, .slice none 0 0, .slice none 0 0], .bool true]) (resI2 _ _ _ (h + 1) 2 3 _ _ _ _ rfl rfl rfl z0 z1 z2) rfl ⟨(.bool false, .slice none 0 0, .slice none 0 0), rfl, fun _ => IV.out, l6.out, ⟨_, _, _, _, _, _, _, rfl⟩⟩
set_option maxHeartbeats 4000000 in
set_option maxRecDepth 100000 in
theorem si_other (a1 a2 a3 : Option Addr) (n c1 n2 c2 n3 c3 : Nat) (p : List UInt8) (w : World) (hn : Hid (n = p.length)) (hz : Hid (n ≤ 4194300)) (vp : Hid (∀ W, Below w.heap.size w W → Vw p a1 W)) (kk : Int) (k0 : Hid (kk ≠ 0)) (k1 : Hid (kk ≠ 1)) (k2 : Hid (kk ≠ 2)) (k3 : Hid (kk ≠ 3)) :
    Calls Tryd.prog 14 #[.agg #[.int .i64 kk, .slice a1 n c1, .slice a2 n2 c2, .slice a3 n3 c3]] w fun e w' => ∃ v, e = .returned (.tuple #[v3 v, .bool false]) ∧ (false = true → Iv (fun _ => True) w' It.no v) ∧ Below w.heap.size w w' ∧ Fm v := by
  have l0 : Below w.heap.size w ((w.alloc (.cells #[.int .i64 kk, .slice a1 n c1, .slice a2 n2 c2, .slice a3 n3 c3] 25)).alloc (.cells #[.bool false, .slice none 0 0, .slice none 0 0] 44)) := ((Below.refl _ _).alloc (Nat.le_refl _) _).alloc (by simp) _
  have hs1 : (w.alloc (.cells #[.int .i64 kk, .slice a1 n c1, .slice a2 n2 c2, .slice a3 n3 c3] 25)).heap.size = w.heap.size + 1 := by simp
  have x0 : B3 (w.heap.size + 1) ((w.alloc (.cells #[.int .i64 kk, .slice a1 n c1, .slice a2 n2 c2, .slice a3 n3 c3] 25)).alloc (.cells #[.bool false, .slice none 0 0, .slice none 0 0] 44)) := hs1 ▸ B3_new (w.alloc (.cells #[.int .i64 kk, .slice a1 n c1, .slice a2 n2 c2, .slice a3 n3 c3] 25))
  have nb0 : NB (w.heap.size + 1) ((w.alloc (.cells #[.int .i64 kk, .slice a1 n c1, .slice a2 n2 c2, .slice a3 n3 c3] 25)).alloc (.cells #[.bool false, .slice none 0 0, .slice none 0 0] 44)) := hs1 ▸ NB_new (w.alloc (.cells #[.int .i64 kk, .slice a1 n c1, .slice a2 n2 c2, .slice a3 n3 c3] 25))
  have HA := heap_alloc_new w (.cells #[.int .i64 kk, .slice a1 n c1, .slice a2 n2 c2, .slice a3 n3 c3] 25)
  have bB : Below (w.heap.size + 1) (w.alloc (.cells #[.int .i64 kk, .slice a1 n c1, .slice a2 n2 c2, .slice a3 n3 c3] 25)) ((w.alloc (.cells #[.int .i64 kk, .slice a1 n c1, .slice a2 n2 c2, .slice a3 n3 c3] 25)).alloc (.cells #[.bool false, .slice none 0 0, .slice none 0 0] 44)) := (Below.refl _ _).alloc (by omega) _
  have q0 : ((w.alloc (.cells #[.int .i64 kk, .slice a1 n c1, .slice a2 n2 c2, .slice a3 n3 c3] 25)).alloc (.cells #[.bool false, .slice none 0 0, .slice none 0 0] 44)).cell? ⟨w.heap.size, 0, none⟩ = some (.int .i64 kk) := (bB.cell (p := ⟨w.heap.size, 0, none⟩) (by show w.heap.size < _; omega)).trans (by simp only [World.cell?, HA]; rfl)
  have q1 : ((w.alloc (.cells #[.int .i64 kk, .slice a1 n c1, .slice a2 n2 c2, .slice a3 n3 c3] 25)).alloc (.cells #[.bool false, .slice none 0 0, .slice none 0 0] 44)).cell? ⟨w.heap.size, 1, none⟩ = some (.slice a1 n c1) := (bB.cell (p := ⟨w.heap.size, 1, none⟩) (by show w.heap.size < _; omega)).trans (by simp only [World.cell?, HA]; rfl)
  have q2 : ((w.alloc (.cells #[.int .i64 kk, .slice a1 n c1, .slice a2 n2 c2, .slice a3 n3 c3] 25)).alloc (.cells #[.bool false, .slice none 0 0, .slice none 0 0] 44)).cell? ⟨w.heap.size, 2, none⟩ = some (.slice a2 n2 c2) := (bB.cell (p := ⟨w.heap.size, 2, none⟩) (by show w.heap.size < _; omega)).trans (by simp only [World.cell?, HA]; rfl)
  have q3 : ((w.alloc (.cells #[.int .i64 kk, .slice a1 n c1, .slice a2 n2 c2, .slice a3 n3 c3] 25)).alloc (.cells #[.bool false, .slice none 0 0, .slice none 0 0] 44)).cell? ⟨w.heap.size, 3, none⟩ = some (.slice a3 n3 c3) := (bB.cell (p := ⟨w.heap.size, 3, none⟩) (by show w.heap.size < _; omega)).trans (by simp only [World.cell?, HA]; rfl)
  have hsz : ((w.alloc (.cells #[.int .i64 kk, .slice a1 n c1, .slice a2 n2 c2, .slice a3 n3 c3] 25)).alloc (.cells #[.bool false, .slice none 0 0, .slice none 0 0] 44)).heap.size = w.heap.size + 2 := by simp
  clear HA bB hs1
  go_enter Tryd.func14, Tryd.ntmps14
  go_wp2_with fail
  generalize ((w.alloc (.cells #[.int .i64 kk, .slice a1 n c1, .slice a2 n2 c2, .slice a3 n3 c3] 25)).alloc (.cells #[.bool false, .slice none 0 0, .slice none 0 0] 44)) = W0 at *
  have VP : Hid (Vw p a1 W0) := vp.out W0 l0
  obtain ⟨h, eh⟩ : ∃ h, h = w.heap.size := ⟨_, rfl⟩
  have EH : Hid (h = w.heap.size) := eh
  have L0 : Hid (Below w.heap.size w W0) := l0
  have X0 : Hid (B3 (h + 1) W0) := eh ▸ x0
  have NB0 : Hid (NB (h + 1) W0) := eh ▸ nb0
  have HSZ : Hid (W0.heap.size = h + 2) := by show _ = _; rw [eh]; exact hsz
  rw [← eh] at q0 q1 q2 q3 ⊢
  clear eh l0 x0 nb0 vp hsz
  go_loopw [4, 20] (fun B s wr => ∃ k : Nat, k ≤ n ∧ s = .int .i64 (k : Int) ∧ B = .bool (pb (p.take k)) ∧ W0 = wr) (fun _ s _ => ((n : Int) - intOf s).toNat)
  case atStart => exact ⟨0, Nat.zero_le _, rfl, rfl, rfl⟩
  case round =>
    obtain ⟨k, hk, rfl, rfl, rfl⟩ := hrel
    by_cases h1 : k < n
    · have d1 : decide ((k : Int) < (n : Int)) = true := decide_eq_true (by omega)
      have d2 : decide (k < n) = true := decide_eq_true h1
      obtain ⟨g, off, rfl, hg, hc⟩ := VP.out (by have := hn.out; omega)
      have c0 := hc k (by have := hn.out; omega)
      have hw := Nb.stp k (by have := hz.out; show _ ≤ _; omega)
      have HP : Hid (pb (p.take (k + 1)) = (pb (p.take k) && decide (bz p k < 16))) := pb_snoc p k (by have := hn.out; omega)
      clear hc hg
      generalize bz p k = X at *
      obtain ⟨B1, hB1⟩ : ∃ B1, B1 = pb (p.take (k + 1)) := ⟨_, rfl⟩
      have HB1 : Hid (B1 = pb (p.take (k + 1))) := hB1
      rw [← hB1] at HP
      clear hB1
      generalize pb (p.take k) = B0 at *
      cases B0 with
      | false =>
        have e : Hid (B1 = false) := HP.out
        clear HP
        go_wp2_with fail
        have hw := hw.out
        go_roundw
        case rel => exact ⟨k + 1, h1, Nb.step_v k _ hw, by rw [← HB1.out, e.out], trivial⟩
        case measure => exact Nb.msr k n h1 _ hw
      | true =>
        by_cases hx : X < 16
        · have t1 : decide (X < 16) = true := decide_eq_true hx
          have e : Hid (B1 = true) := by have := HP.out; rwa [t1] at this
          clear HP hx
          go_wp2_with fail
          have hw := hw.out
          go_roundw
          case rel => exact ⟨k + 1, h1, Nb.step_v k _ hw, by rw [← HB1.out, e.out], trivial⟩
          case measure => exact Nb.msr k n h1 _ hw
        · have t1 : decide (X < 16) = false := decide_eq_false hx
          have e : Hid (B1 = false) := by have := HP.out; rwa [t1] at this
          clear HP hx
          go_wp2_with fail
          have hw := hw.out
          go_roundw
          case rel => exact ⟨k + 1, h1, Nb.step_v k _ hw, by rw [← HB1.out, e.out], trivial⟩
          case measure => exact Nb.msr k n h1 _ hw
    · have hkl : k = n := by omega
      subst hkl
      have ep : Hid (p.take k = p) := by show _ = _; rw [hn.out, List.take_length]
      rw [ep.out]
      clear ep h1 hk
      generalize pb p = B at *
      have e0 : (kk == 0) = false := beq_eq_false_iff_ne.2 k0.out
      have e1 : (kk == 1) = false := beq_eq_false_iff_ne.2 k1.out
      have e2 : (kk == 2) = false := beq_eq_false_iff_ne.2 k2.out
      have e3 : (kk == 3) = false := beq_eq_false_iff_ne.2 k3.out
      have l1 := L0.out
      go_upto_region 31 with fail
      go_wp2_with (refine wpList_st3b rfl rfl rfl rfl X0.out ?_)
      intro w6 g6 b6 z0 z1 z2
      have l6 : Hid (Below w.heap.size w w6) := l1.trans ⟨g6.os, g6.tape, g6.output, g6.size, fun j hj => g6.block j (by have := l1.size; omega) (fun e => by injection e with e; have := EH.out; omega)⟩
      clear g6 b6 l1
      go_wp2_with fail
      exact bodyPost_ret (v := .tuple #[.agg #[.bool false, .slice none 0 0, .slice none 0 0], .bool false]) (resI2 _ _ _ (h + 1) 2 3 _ _ _ _ rfl rfl rfl z0 z1 z2) rfl ⟨(.bool false, .slice none 0 0, .slice none 0 0), rfl, nofun, l6.out, ⟨_, _, _, _, _, _, _, rfl⟩⟩
set_option maxHeartbeats 4000000 in
set_option maxRecDepth 100000 in
theorem si_leaf_b (a1 a2 a3 : Option Addr) (n c1 n2 c2 n3 c3 : Nat) (p : List UInt8) (w : World) (hn : Hid (n = p.length)) (hz : Hid (n ≤ 4194300)) (vp : Hid (∀ W, Below w.heap.size w W → Vw p a1 W)) (HB : Hid (pb p = false)) :
    Calls Tryd.prog 14 #[.agg #[.int .i64 1, .slice a1 n c1, .slice a2 n2 c2, .slice a3 n3 c3]] w fun e w' => ∃ v, e = .returned (.tuple #[v3 v, .bool false]) ∧ (false = true → Iv (fun _ => True) w' It.no v) ∧ Below w.heap.size w w' ∧ Fm v := by
  have l0 : Below w.heap.size w ((w.alloc (.cells #[.int .i64 1, .slice a1 n c1, .slice a2 n2 c2, .slice a3 n3 c3] 25)).alloc (.cells #[.bool false, .slice none 0 0, .slice none 0 0] 44)) := ((Below.refl _ _).alloc (Nat.le_refl _) _).alloc (by simp) _
  have hs1 : (w.alloc (.cells #[.int .i64 1, .slice a1 n c1, .slice a2 n2 c2, .slice a3 n3 c3] 25)).heap.size = w.heap.size + 1 := by simp
  have x0 : B3 (w.heap.size + 1) ((w.alloc (.cells #[.int .i64 1, .slice a1 n c1, .slice a2 n2 c2, .slice a3 n3 c3] 25)).alloc (.cells #[.bool false, .slice none 0 0, .slice none 0 0] 44)) := hs1 ▸ B3_new (w.alloc (.cells #[.int .i64 1, .slice a1 n c1, .slice a2 n2 c2, .slice a3 n3 c3] 25))
  have nb0 : NB (w.heap.size + 1) ((w.alloc (.cells #[.int .i64 1, .slice a1 n c1, .slice a2 n2 c2, .slice a3 n3 c3] 25)).alloc (.cells #[.bool false, .slice none 0 0, .slice none 0 0] 44)) := hs1 ▸ NB_new (w.alloc (.cells #[.int .i64 1, .slice a1 n c1, .slice a2 n2 c2, .slice a3 n3 c3] 25))
  have HA := heap_alloc_new w (.cells #[.int .i64 1, .slice a1 n c1, .slice a2 n2 c2, .slice a3 n3 c3] 25)
  have bB : Below (w.heap.size + 1) (w.alloc (.cells #[.int .i64 1, .slice a1 n c1, .slice a2 n2 c2, .slice a3 n3 c3] 25)) ((w.alloc (.cells #[.int .i64 1, .slice a1 n c1, .slice a2 n2 c2, .slice a3 n3 c3] 25)).alloc (.cells #[.bool false, .slice none 0 0, .slice none 0 0] 44)) := (Below.refl _ _).alloc (by omega) _
  have q0 : ((w.alloc (.cells #[.int .i64 1, .slice a1 n c1, .slice a2 n2 c2, .slice a3 n3 c3] 25)).alloc (.cells #[.bool false, .slice none 0 0, .slice none 0 0] 44)).cell? ⟨w.heap.size, 0, none⟩ = some (.int .i64 1) := (bB.cell (p := ⟨w.heap.size, 0, none⟩) (by show w.heap.size < _; omega)).trans (by simp only [World.cell?, HA]; rfl)
  have q1 : ((w.alloc (.cells #[.int .i64 1, .slice a1 n c1, .slice a2 n2 c2, .slice a3 n3 c3] 25)).alloc (.cells #[.bool false, .slice none 0 0, .slice none 0 0] 44)).cell? ⟨w.heap.size, 1, none⟩ = some (.slice a1 n c1) := (bB.cell (p := ⟨w.heap.size, 1, none⟩) (by show w.heap.size < _; omega)).trans (by simp only [World.cell?, HA]; rfl)
  have q2 : ((w.alloc (.cells #[.int .i64 1, .slice a1 n c1, .slice a2 n2 c2, .slice a3 n3 c3] 25)).alloc (.cells #[.bool false, .slice none 0 0, .slice none 0 0] 44)).cell? ⟨w.heap.size, 2, none⟩ = some (.slice a2 n2 c2) := (bB.cell (p := ⟨w.heap.size, 2, none⟩) (by show w.heap.size < _; omega)).trans (by simp only [World.cell?, HA]; rfl)
  have q3 : ((w.alloc (.cells #[.int .i64 1, .slice a1 n c1, .slice a2 n2 c2, .slice a3 n3 c3] 25)).alloc (.cells #[.bool false, .slice none 0 0, .slice none 0 0] 44)).cell? ⟨w.heap.size, 3, none⟩ = some (.slice a3 n3 c3) := (bB.cell (p := ⟨w.heap.size, 3, none⟩) (by show w.heap.size < _; omega)).trans (by simp only [World.cell?, HA]; rfl)
  have hsz : ((w.alloc (.cells #[.int .i64 1, .slice a1 n c1, .slice a2 n2 c2, .slice a3 n3 c3] 25)).alloc (.cells #[.bool false, .slice none 0 0, .slice none 0 0] 44)).heap.size = w.heap.size + 2 := by simp
  clear HA bB hs1
  go_enter Tryd.func14, Tryd.ntmps14
  go_wp2_with fail
  generalize ((w.alloc (.cells #[.int .i64 1, .slice a1 n c1, .slice a2 n2 c2, .slice a3 n3 c3] 25)).alloc (.cells #[.bool false, .slice none 0 0, .slice none 0 0] 44)) = W0 at *
  have VP : Hid (Vw p a1 W0) := vp.out W0 l0
  obtain ⟨h, eh⟩ : ∃ h, h = w.heap.size := ⟨_, rfl⟩
  have EH : Hid (h = w.heap.size) := eh
  have L0 : Hid (Below w.heap.size w W0) := l0
  have X0 : Hid (B3 (h + 1) W0) := eh ▸ x0
  have NB0 : Hid (NB (h + 1) W0) := eh ▸ nb0
  have HSZ : Hid (W0.heap.size = h + 2) := by show _ = _; rw [eh]; exact hsz
  rw [← eh] at q0 q1 q2 q3 ⊢
  clear eh l0 x0 nb0 vp hsz
  go_loopw [4, 20] (fun B s wr => ∃ k : Nat, k ≤ n ∧ s = .int .i64 (k : Int) ∧ B = .bool (pb (p.take k)) ∧ W0 = wr) (fun _ s _ => ((n : Int) - intOf s).toNat)
  case atStart => exact ⟨0, Nat.zero_le _, rfl, rfl, rfl⟩
  case round =>
    obtain ⟨k, hk, rfl, rfl, rfl⟩ := hrel
    by_cases h1 : k < n
    · have d1 : decide ((k : Int) < (n : Int)) = true := decide_eq_true (by omega)
      have d2 : decide (k < n) = true := decide_eq_true h1
      obtain ⟨g, off, rfl, hg, hc⟩ := VP.out (by have := hn.out; omega)
      have c0 := hc k (by have := hn.out; omega)
      have hw := Nb.stp k (by have := hz.out; show _ ≤ _; omega)
      have HP : Hid (pb (p.take (k + 1)) = (pb (p.take k) && decide (bz p k < 16))) := pb_snoc p k (by have := hn.out; omega)
      clear hc hg
      generalize bz p k = X at *
      obtain ⟨B1, hB1⟩ : ∃ B1, B1 = pb (p.take (k + 1)) := ⟨_, rfl⟩
      have HB1 : Hid (B1 = pb (p.take (k + 1))) := hB1
      rw [← hB1] at HP
      clear hB1
      generalize pb (p.take k) = B0 at *
      cases B0 with
      | false =>
        have e : Hid (B1 = false) := HP.out
        clear HP
        go_wp2_with fail
        have hw := hw.out
        go_roundw
        case rel => exact ⟨k + 1, h1, Nb.step_v k _ hw, by rw [← HB1.out, e.out], trivial⟩
        case measure => exact Nb.msr k n h1 _ hw
      | true =>
        by_cases hx : X < 16
        · have t1 : decide (X < 16) = true := decide_eq_true hx
          have e : Hid (B1 = true) := by have := HP.out; rwa [t1] at this
          clear HP hx
          go_wp2_with fail
          have hw := hw.out
          go_roundw
          case rel => exact ⟨k + 1, h1, Nb.step_v k _ hw, by rw [← HB1.out, e.out], trivial⟩
          case measure => exact Nb.msr k n h1 _ hw
        · have t1 : decide (X < 16) = false := decide_eq_false hx
          have e : Hid (B1 = false) := by have := HP.out; rwa [t1] at this
          clear HP hx
          go_wp2_with fail
          have hw := hw.out
          go_roundw
          case rel => exact ⟨k + 1, h1, Nb.step_v k _ hw, by rw [← HB1.out, e.out], trivial⟩
          case measure => exact Nb.msr k n h1 _ hw
    · have hkl : k = n := by omega
      subst hkl
      have ep : Hid (p.take k = p) := by show _ = _; rw [hn.out, List.take_length]
      rw [ep.out]
      clear ep h1 hk
      rw [HB.out]
      have l1 := L0.out
      go_upto_region 31 with fail
      go_wp2_with (refine wpList_st3b rfl rfl rfl rfl X0.out ?_)
      intro w6 g6 b6 z0 z1 z2
      have l6 : Hid (Below w.heap.size w w6) := l1.trans ⟨g6.os, g6.tape, g6.output, g6.size, fun j hj => g6.block j (by have := l1.size; omega) (fun e => by injection e with e; have := EH.out; omega)⟩
      clear g6 b6 l1
      go_wp2_with fail
      exact bodyPost_ret (v := .tuple #[.agg #[.bool false, .slice none 0 0, .slice none 0 0], .bool false]) (resI2 _ _ _ (h + 1) 2 3 _ _ _ _ rfl rfl rfl z0 z1 z2) rfl ⟨(.bool false, .slice none 0 0, .slice none 0 0), rfl, nofun, l6.out, ⟨_, _, _, _, _, _, _, rfl⟩⟩
set_option maxHeartbeats 4000000 in
set_option maxRecDepth 100000 in
theorem si_leaf_0 (a1 a2 a3 : Option Addr) (n c1 n2 c2 n3 c3 : Nat) (p : List UInt8) (w : World) (hn : Hid (n = p.length)) (hz : Hid (n ≤ 4194300)) (vp : Hid (∀ W, Below w.heap.size w W → Vw p a1 W)) (HB : Hid (pb p = true)) (h2 : Hid (n2 = 0)) :
    Calls Tryd.prog 14 #[.agg #[.int .i64 1, .slice a1 n c1, .slice a2 n2 c2, .slice a3 n3 c3]] w fun e w' => ∃ v, e = .returned (.tuple #[v3 v, .bool false]) ∧ (false = true → Iv (fun _ => True) w' It.no v) ∧ Below w.heap.size w w' ∧ Fm v := by
  have l0 : Below w.heap.size w ((w.alloc (.cells #[.int .i64 1, .slice a1 n c1, .slice a2 n2 c2, .slice a3 n3 c3] 25)).alloc (.cells #[.bool false, .slice none 0 0, .slice none 0 0] 44)) := ((Below.refl _ _).alloc (Nat.le_refl _) _).alloc (by simp) _
  have hs1 : (w.alloc (.cells #[.int .i64 1, .slice a1 n c1, .slice a2 n2 c2, .slice a3 n3 c3] 25)).heap.size = w.heap.size + 1 := by simp
  have x0 : B3 (w.heap.size + 1) ((w.alloc (.cells #[.int .i64 1, .slice a1 n c1, .slice a2 n2 c2, .slice a3 n3 c3] 25)).alloc (.cells #[.bool false, .slice none 0 0, .slice none 0 0] 44)) := hs1 ▸ B3_new (w.alloc (.cells #[.int .i64 1, .slice a1 n c1, .slice a2 n2 c2, .slice a3 n3 c3] 25))
  have nb0 : NB (w.heap.size + 1) ((w.alloc (.cells #[.int .i64 1, .slice a1 n c1, .slice a2 n2 c2, .slice a3 n3 c3] 25)).alloc (.cells #[.bool false, .slice none 0 0, .slice none 0 0] 44)) := hs1 ▸ NB_new (w.alloc (.cells #[.int .i64 1, .slice a1 n c1, .slice a2 n2 c2, .slice a3 n3 c3] 25))
  have HA := heap_alloc_new w (.cells #[.int .i64 1, .slice a1 n c1, .slice a2 n2 c2, .slice a3 n3 c3] 25)
  have bB : Below (w.heap.size + 1) (w.alloc (.cells #[.int .i64 1, .slice a1 n c1, .slice a2 n2 c2, .slice a3 n3 c3] 25)) ((w.alloc (.cells #[.int .i64 1, .slice a1 n c1, .slice a2 n2 c2, .slice a3 n3 c3] 25)).alloc (.cells #[.bool false, .slice none 0 0, .slice none 0 0] 44)) := (Below.refl _ _).alloc (by omega) _
  have q0 : ((w.alloc (.cells #[.int .i64 1, .slice a1 n c1, .slice a2 n2 c2, .slice a3 n3 c3] 25)).alloc (.cells #[.bool false, .slice none 0 0, .slice none 0 0] 44)).cell? ⟨w.heap.size, 0, none⟩ = some (.int .i64 1) := (bB.cell (p := ⟨w.heap.size, 0, none⟩) (by show w.heap.size < _; omega)).trans (by simp only [World.cell?, HA]; rfl)
  have q1 : ((w.alloc (.cells #[.int .i64 1, .slice a1 n c1, .slice a2 n2 c2, .slice a3 n3 c3] 25)).alloc (.cells #[.bool false, .slice none 0 0, .slice none 0 0] 44)).cell? ⟨w.heap.size, 1, none⟩ = some (.slice a1 n c1) := (bB.cell (p := ⟨w.heap.size, 1, none⟩) (by show w.heap.size < _; omega)).trans (by simp only [World.cell?, HA]; rfl)
  have q2 : ((w.alloc (.cells #[.int .i64 1, .slice a1 n c1, .slice a2 n2 c2, .slice a3 n3 c3] 25)).alloc (.cells #[.bool false, .slice none 0 0, .slice none 0 0] 44)).cell? ⟨w.heap.size, 2, none⟩ = some (.slice a2 n2 c2) := (bB.cell (p := ⟨w.heap.size, 2, none⟩) (by show w.heap.size < _; omega)).trans (by simp only [World.cell?, HA]; rfl)
  have q3 : ((w.alloc (.cells #[.int .i64 1, .slice a1 n c1, .slice a2 n2 c2, .slice a3 n3 c3] 25)).alloc (.cells #[.bool false, .slice none 0 0, .slice none 0 0] 44)).cell? ⟨w.heap.size, 3, none⟩ = some (.slice a3 n3 c3) := (bB.cell (p := ⟨w.heap.size, 3, none⟩) (by show w.heap.size < _; omega)).trans (by simp only [World.cell?, HA]; rfl)
  have hsz : ((w.alloc (.cells #[.int .i64 1, .slice a1 n c1, .slice a2 n2 c2, .slice a3 n3 c3] 25)).alloc (.cells #[.bool false, .slice none 0 0, .slice none 0 0] 44)).heap.size = w.heap.size + 2 := by simp
  clear HA bB hs1
  go_enter Tryd.func14, Tryd.ntmps14
  go_wp2_with fail
  generalize ((w.alloc (.cells #[.int .i64 1, .slice a1 n c1, .slice a2 n2 c2, .slice a3 n3 c3] 25)).alloc (.cells #[.bool false, .slice none 0 0, .slice none 0 0] 44)) = W0 at *
  have VP : Hid (Vw p a1 W0) := vp.out W0 l0
  obtain ⟨h, eh⟩ : ∃ h, h = w.heap.size := ⟨_, rfl⟩
  have EH : Hid (h = w.heap.size) := eh
  have L0 : Hid (Below w.heap.size w W0) := l0
  have X0 : Hid (B3 (h + 1) W0) := eh ▸ x0
  have NB0 : Hid (NB (h + 1) W0) := eh ▸ nb0
  have HSZ : Hid (W0.heap.size = h + 2) := by show _ = _; rw [eh]; exact hsz
  rw [← eh] at q0 q1 q2 q3 ⊢
  clear eh l0 x0 nb0 vp hsz
  go_loopw [4, 20] (fun B s wr => ∃ k : Nat, k ≤ n ∧ s = .int .i64 (k : Int) ∧ B = .bool (pb (p.take k)) ∧ W0 = wr) (fun _ s _ => ((n : Int) - intOf s).toNat)
  case atStart => exact ⟨0, Nat.zero_le _, rfl, rfl, rfl⟩
  case round =>
    obtain ⟨k, hk, rfl, rfl, rfl⟩ := hrel
    by_cases h1 : k < n
    · have d1 : decide ((k : Int) < (n : Int)) = true := decide_eq_true (by omega)
      have d2 : decide (k < n) = true := decide_eq_true h1
      obtain ⟨g, off, rfl, hg, hc⟩ := VP.out (by have := hn.out; omega)
      have c0 := hc k (by have := hn.out; omega)
      have hw := Nb.stp k (by have := hz.out; show _ ≤ _; omega)
      have HP : Hid (pb (p.take (k + 1)) = (pb (p.take k) && decide (bz p k < 16))) := pb_snoc p k (by have := hn.out; omega)
      clear hc hg
      generalize bz p k = X at *
      obtain ⟨B1, hB1⟩ : ∃ B1, B1 = pb (p.take (k + 1)) := ⟨_, rfl⟩
      have HB1 : Hid (B1 = pb (p.take (k + 1))) := hB1
      rw [← hB1] at HP
      clear hB1
      generalize pb (p.take k) = B0 at *
      cases B0 with
      | false =>
        have e : Hid (B1 = false) := HP.out
        clear HP
        go_wp2_with fail
        have hw := hw.out
        go_roundw
        case rel => exact ⟨k + 1, h1, Nb.step_v k _ hw, by rw [← HB1.out, e.out], trivial⟩
        case measure => exact Nb.msr k n h1 _ hw
      | true =>
        by_cases hx : X < 16
        · have t1 : decide (X < 16) = true := decide_eq_true hx
          have e : Hid (B1 = true) := by have := HP.out; rwa [t1] at this
          clear HP hx
          go_wp2_with fail
          have hw := hw.out
          go_roundw
          case rel => exact ⟨k + 1, h1, Nb.step_v k _ hw, by rw [← HB1.out, e.out], trivial⟩
          case measure => exact Nb.msr k n h1 _ hw
        · have t1 : decide (X < 16) = false := decide_eq_false hx
          have e : Hid (B1 = false) := by have := HP.out; rwa [t1] at this
          clear HP hx
          go_wp2_with fail
          have hw := hw.out
          go_roundw
          case rel => exact ⟨k + 1, h1, Nb.step_v k _ hw, by rw [← HB1.out, e.out], trivial⟩
          case measure => exact Nb.msr k n h1 _ hw
    · have hkl : k = n := by omega
      subst hkl
      have ep : Hid (p.take k = p) := by show _ = _; rw [hn.out, List.take_length]
      rw [ep.out]
      clear ep h1 hk
      rw [HB.out]
      obtain rfl := h2.out
      have l1 := L0.out
      go_upto_region 31 with fail
      go_wp2_with (refine wpList_st3b rfl rfl rfl rfl X0.out ?_)
      intro w6 g6 b6 z0 z1 z2
      have l6 : Hid (Below w.heap.size w w6) := l1.trans ⟨g6.os, g6.tape, g6.output, g6.size, fun j hj => g6.block j (by have := l1.size; omega) (fun e => by injection e with e; have := EH.out; omega)⟩
      clear g6 b6 l1
      go_wp2_with fail
      exact bodyPost_ret (v := .tuple #[.agg #[.bool false, .slice none 0 0, .slice none 0 0], .bool false]) (resI2 _ _ _ (h + 1) 2 3 _ _ _ _ rfl rfl rfl z0 z1 z2) rfl ⟨(.bool false, .slice none 0 0, .slice none 0 0), rfl, nofun, l6.out, ⟨_, _, _, _, _, _, _, rfl⟩⟩
set_option maxHeartbeats 4000000 in
set_option maxRecDepth 100000 in
theorem si_leaf_m (a1 a2 a3 : Option Addr) (n c1 n2 c2 n3 c3 : Nat) (p : List UInt8) (w : World) (hn : Hid (n = p.length)) (hz : Hid (n ≤ 4194300)) (vp : Hid (∀ W, Below w.heap.size w W → Vw p a1 W)) (HB : Hid (pb p = true)) (h2 : Hid (1024 < n2)) :
    Calls Tryd.prog 14 #[.agg #[.int .i64 1, .slice a1 n c1, .slice a2 n2 c2, .slice a3 n3 c3]] w fun e w' => ∃ v, e = .returned (.tuple #[v3 v, .bool false]) ∧ (false = true → Iv (fun _ => True) w' It.no v) ∧ Below w.heap.size w w' ∧ Fm v := by
  have l0 : Below w.heap.size w ((w.alloc (.cells #[.int .i64 1, .slice a1 n c1, .slice a2 n2 c2, .slice a3 n3 c3] 25)).alloc (.cells #[.bool false, .slice none 0 0, .slice none 0 0] 44)) := ((Below.refl _ _).alloc (Nat.le_refl _) _).alloc (by simp) _
  have hs1 : (w.alloc (.cells #[.int .i64 1, .slice a1 n c1, .slice a2 n2 c2, .slice a3 n3 c3] 25)).heap.size = w.heap.size + 1 := by simp
  have x0 : B3 (w.heap.size + 1) ((w.alloc (.cells #[.int .i64 1, .slice a1 n c1, .slice a2 n2 c2, .slice a3 n3 c3] 25)).alloc (.cells #[.bool false, .slice none 0 0, .slice none 0 0] 44)) := hs1 ▸ B3_new (w.alloc (.cells #[.int .i64 1, .slice a1 n c1, .slice a2 n2 c2, .slice a3 n3 c3] 25))
  have nb0 : NB (w.heap.size + 1) ((w.alloc (.cells #[.int .i64 1, .slice a1 n c1, .slice a2 n2 c2, .slice a3 n3 c3] 25)).alloc (.cells #[.bool false, .slice none 0 0, .slice none 0 0] 44)) := hs1 ▸ NB_new (w.alloc (.cells #[.int .i64 1, .slice a1 n c1, .slice a2 n2 c2, .slice a3 n3 c3] 25))
  have HA := heap_alloc_new w (.cells #[.int .i64 1, .slice a1 n c1, .slice a2 n2 c2, .slice a3 n3 c3] 25)
  have bB : Below (w.heap.size + 1) (w.alloc (.cells #[.int .i64 1, .slice a1 n c1, .slice a2 n2 c2, .slice a3 n3 c3] 25)) ((w.alloc (.cells #[.int .i64 1, .slice a1 n c1, .slice a2 n2 c2, .slice a3 n3 c3] 25)).alloc (.cells #[.bool false, .slice none 0 0, .slice none 0 0] 44)) := (Below.refl _ _).alloc (by omega) _
  have q0 : ((w.alloc (.cells #[.int .i64 1, .slice a1 n c1, .slice a2 n2 c2, .slice a3 n3 c3] 25)).alloc (.cells #[.bool false, .slice none 0 0, .slice none 0 0] 44)).cell? ⟨w.heap.size, 0, none⟩ = some (.int .i64 1) := (bB.cell (p := ⟨w.heap.size, 0, none⟩) (by show w.heap.size < _; omega)).trans (by simp only [World.cell?, HA]; rfl)
  have q1 : ((w.alloc (.cells #[.int .i64 1, .slice a1 n c1, .slice a2 n2 c2, .slice a3 n3 c3] 25)).alloc (.cells #[.bool false, .slice none 0 0, .slice none 0 0] 44)).cell? ⟨w.heap.size, 1, none⟩ = some (.slice a1 n c1) := (bB.cell (p := ⟨w.heap.size, 1, none⟩) (by show w.heap.size < _; omega)).trans (by simp only [World.cell?, HA]; rfl)
  have q2 : ((w.alloc (.cells #[.int .i64 1, .slice a1 n c1, .slice a2 n2 c2, .slice a3 n3 c3] 25)).alloc (.cells #[.bool false, .slice none 0 0, .slice none 0 0] 44)).cell? ⟨w.heap.size, 2, none⟩ = some (.slice a2 n2 c2) := (bB.cell (p := ⟨w.heap.size, 2, none⟩) (by show w.heap.size < _; omega)).trans (by simp only [World.cell?, HA]; rfl)
  have q3 : ((w.alloc (.cells #[.int .i64 1, .slice a1 n c1, .slice a2 n2 c2, .slice a3 n3 c3] 25)).alloc (.cells #[.bool false, .slice none 0 0, .slice none 0 0] 44)).cell? ⟨w.heap.size, 3, none⟩ = some (.slice a3 n3 c3) := (bB.cell (p := ⟨w.heap.size, 3, none⟩) (by show w.heap.size < _; omega)).trans (by simp only [World.cell?, HA]; rfl)
  have hsz : ((w.alloc (.cells #[.int .i64 1, .slice a1 n c1, .slice a2 n2 c2, .slice a3 n3 c3] 25)).alloc (.cells #[.bool false, .slice none 0 0, .slice none 0 0] 44)).heap.size = w.heap.size + 2 := by simp
  clear HA bB hs1
  go_enter Tryd.func14, Tryd.ntmps14
  go_wp2_with fail
  generalize ((w.alloc (.cells #[.int .i64 1, .slice a1 n c1, .slice a2 n2 c2, .slice a3 n3 c3] 25)).alloc (.cells #[.bool false, .slice none 0 0, .slice none 0 0] 44)) = W0 at *
  have VP : Hid (Vw p a1 W0) := vp.out W0 l0
  obtain ⟨h, eh⟩ : ∃ h, h = w.heap.size := ⟨_, rfl⟩
  have EH : Hid (h = w.heap.size) := eh
  have L0 : Hid (Below w.heap.size w W0) := l0
  have X0 : Hid (B3 (h + 1) W0) := eh ▸ x0
  have NB0 : Hid (NB (h + 1) W0) := eh ▸ nb0
  have HSZ : Hid (W0.heap.size = h + 2) := by show _ = _; rw [eh]; exact hsz
  rw [← eh] at q0 q1 q2 q3 ⊢
  clear eh l0 x0 nb0 vp hsz
  go_loopw [4, 20] (fun B s wr => ∃ k : Nat, k ≤ n ∧ s = .int .i64 (k : Int) ∧ B = .bool (pb (p.take k)) ∧ W0 = wr) (fun _ s _ => ((n : Int) - intOf s).toNat)
  case atStart => exact ⟨0, Nat.zero_le _, rfl, rfl, rfl⟩
  case round =>
    obtain ⟨k, hk, rfl, rfl, rfl⟩ := hrel
    by_cases h1 : k < n
    · have d1 : decide ((k : Int) < (n : Int)) = true := decide_eq_true (by omega)
      have d2 : decide (k < n) = true := decide_eq_true h1
      obtain ⟨g, off, rfl, hg, hc⟩ := VP.out (by have := hn.out; omega)
      have c0 := hc k (by have := hn.out; omega)
      have hw := Nb.stp k (by have := hz.out; show _ ≤ _; omega)
      have HP : Hid (pb (p.take (k + 1)) = (pb (p.take k) && decide (bz p k < 16))) := pb_snoc p k (by have := hn.out; omega)
      clear hc hg
      generalize bz p k = X at *
      obtain ⟨B1, hB1⟩ : ∃ B1, B1 = pb (p.take (k + 1)) := ⟨_, rfl⟩
      have HB1 : Hid (B1 = pb (p.take (k + 1))) := hB1
      rw [← hB1] at HP
      clear hB1
      generalize pb (p.take k) = B0 at *
      cases B0 with
      | false =>
        have e : Hid (B1 = false) := HP.out
        clear HP
        go_wp2_with fail
        have hw := hw.out
        go_roundw
        case rel => exact ⟨k + 1, h1, Nb.step_v k _ hw, by rw [← HB1.out, e.out], trivial⟩
        case measure => exact Nb.msr k n h1 _ hw
      | true =>
        by_cases hx : X < 16
        · have t1 : decide (X < 16) = true := decide_eq_true hx
          have e : Hid (B1 = true) := by have := HP.out; rwa [t1] at this
          clear HP hx
          go_wp2_with fail
          have hw := hw.out
          go_roundw
          case rel => exact ⟨k + 1, h1, Nb.step_v k _ hw, by rw [← HB1.out, e.out], trivial⟩
          case measure => exact Nb.msr k n h1 _ hw
        · have t1 : decide (X < 16) = false := decide_eq_false hx
          have e : Hid (B1 = false) := by have := HP.out; rwa [t1] at this
          clear HP hx
          go_wp2_with fail
          have hw := hw.out
          go_roundw
          case rel => exact ⟨k + 1, h1, Nb.step_v k _ hw, by rw [← HB1.out, e.out], trivial⟩
          case measure => exact Nb.msr k n h1 _ hw
    · have hkl : k = n := by omega
      subst hkl
      have ep : Hid (p.take k = p) := by show _ = _; rw [hn.out, List.take_length]
      rw [ep.out]
      clear ep h1 hk
      rw [HB.out]
      have t0 : (1 : Int) ≤ (n2 : Int) := by have := h2.out; omega
      have t1 : ¬ (n2 : Int) ≤ 1024 := by have := h2.out; omega
      have t2 : decide ((n2 : Int) ≤ 1024) = false := decide_eq_false t1
      have t3 : decide ((n2 : Int) ≥ 1) = true := decide_eq_true t0
      have l1 := L0.out
      go_upto_region 31 with fail
      go_wp2_with (refine wpList_st3b rfl rfl rfl rfl X0.out ?_)
      intro w6 g6 b6 z0 z1 z2
      have l6 : Hid (Below w.heap.size w w6) := l1.trans ⟨g6.os, g6.tape, g6.output, g6.size, fun j hj => g6.block j (by have := l1.size; omega) (fun e => by injection e with e; have := EH.out; omega)⟩
      clear g6 b6 l1
      go_wp2_with fail
      exact bodyPost_ret (v := .tuple #[.agg #[.bool false, .slice none 0 0, .slice none 0 0], .bool false]) (resI2 _ _ _ (h + 1) 2 3 _ _ _ _ rfl rfl rfl z0 z1 z2) rfl ⟨(.bool false, .slice none 0 0, .slice none 0 0), rfl, nofun, l6.out, ⟨_, _, _, _, _, _, _, rfl⟩⟩
set_option maxHeartbeats 4000000 in
set_option maxRecDepth 100000 in
theorem si_road_b (a1 a2 a3 : Option Addr) (n c1 n2 c2 n3 c3 : Nat) (p : List UInt8) (w : World) (hn : Hid (n = p.length)) (hz : Hid (n ≤ 4194300)) (vp : Hid (∀ W, Below w.heap.size w W → Vw p a1 W)) (HB : Hid (pb p = false)) :
    Calls Tryd.prog 14 #[.agg #[.int .i64 2, .slice a1 n c1, .slice a2 n2 c2, .slice a3 n3 c3]] w fun e w' => ∃ v, e = .returned (.tuple #[v3 v, .bool false]) ∧ (false = true → Iv (fun _ => True) w' It.no v) ∧ Below w.heap.size w w' ∧ Fm v := by
  have l0 : Below w.heap.size w ((w.alloc (.cells #[.int .i64 2, .slice a1 n c1, .slice a2 n2 c2, .slice a3 n3 c3] 25)).alloc (.cells #[.bool false, .slice none 0 0, .slice none 0 0] 44)) := ((Below.refl _ _).alloc (Nat.le_refl _) _).alloc (by simp) _
  have hs1 : (w.alloc (.cells #[.int .i64 2, .slice a1 n c1, .slice a2 n2 c2, .slice a3 n3 c3] 25)).heap.size = w.heap.size + 1 := by simp
  have x0 : B3 (w.heap.size + 1) ((w.alloc (.cells #[.int .i64 2, .slice a1 n c1, .slice a2 n2 c2, .slice a3 n3 c3] 25)).alloc (.cells #[.bool false, .slice none 0 0, .slice none 0 0] 44)) := hs1 ▸ B3_new (w.alloc (.cells #[.int .i64 2, .slice a1 n c1, .slice a2 n2 c2, .slice a3 n3 c3] 25))
  have nb0 : NB (w.heap.size + 1) ((w.alloc (.cells #[.int .i64 2, .slice a1 n c1, .slice a2 n2 c2, .slice a3 n3 c3] 25)).alloc (.cells #[.bool false, .slice none 0 0, .slice none 0 0] 44)) := hs1 ▸ NB_new (w.alloc (.cells #[.int .i64 2, .slice a1 n c1, .slice a2 n2 c2, .slice a3 n3 c3] 25))
  have HA := heap_alloc_new w (.cells #[.int .i64 2, .slice a1 n c1, .slice a2 n2 c2, .slice a3 n3 c3] 25)
  have bB : Below (w.heap.size + 1) (w.alloc (.cells #[.int .i64 2, .slice a1 n c1, .slice a2 n2 c2, .slice a3 n3 c3] 25)) ((w.alloc (.cells #[.int .i64 2, .slice a1 n c1, .slice a2 n2 c2, .slice a3 n3 c3] 25)).alloc (.cells #[.bool false, .slice none 0 0, .slice none 0 0] 44)) := (Below.refl _ _).alloc (by omega) _
  have q0 : ((w.alloc (.cells #[.int .i64 2, .slice a1 n c1, .slice a2 n2 c2, .slice a3 n3 c3] 25)).alloc (.cells #[.bool false, .slice none 0 0, .slice none 0 0] 44)).cell? ⟨w.heap.size, 0, none⟩ = some (.int .i64 2) := (bB.cell (p := ⟨w.heap.size, 0, none⟩) (by show w.heap.size < _; omega)).trans (by simp only [World.cell?, HA]; rfl)
  have q1 : ((w.alloc (.cells #[.int .i64 2, .slice a1 n c1, .slice a2 n2 c2, .slice a3 n3 c3] 25)).alloc (.cells #[.bool false, .slice none 0 0, .slice none 0 0] 44)).cell? ⟨w.heap.size, 1, none⟩ = some (.slice a1 n c1) := (bB.cell (p := ⟨w.heap.size, 1, none⟩) (by show w.heap.size < _; omega)).trans (by simp only [World.cell?, HA]; rfl)
  have q2 : ((w.alloc (.cells #[.int .i64 2, .slice a1 n c1, .slice a2 n2 c2, .slice a3 n3 c3] 25)).alloc (.cells #[.bool false, .slice none 0 0, .slice none 0 0] 44)).cell? ⟨w.heap.size, 2, none⟩ = some (.slice a2 n2 c2) := (bB.cell (p := ⟨w.heap.size, 2, none⟩) (by show w.heap.size < _; omega)).trans (by simp only [World.cell?, HA]; rfl)
  have q3 : ((w.alloc (.cells #[.int .i64 2, .slice a1 n c1, .slice a2 n2 c2, .slice a3 n3 c3] 25)).alloc (.cells #[.bool false, .slice none 0 0, .slice none 0 0] 44)).cell? ⟨w.heap.size, 3, none⟩ = some (.slice a3 n3 c3) := (bB.cell (p := ⟨w.heap.size, 3, none⟩) (by show w.heap.size < _; omega)).trans (by simp only [World.cell?, HA]; rfl)
  have hsz : ((w.alloc (.cells #[.int .i64 2, .slice a1 n c1, .slice a2 n2 c2, .slice a3 n3 c3] 25)).alloc (.cells #[.bool false, .slice none 0 0, .slice none 0 0] 44)).heap.size = w.heap.size + 2 := by simp
  clear HA bB hs1
  go_enter Tryd.func14, Tryd.ntmps14
  go_wp2_with fail
  generalize ((w.alloc (.cells #[.int .i64 2, .slice a1 n c1, .slice a2 n2 c2, .slice a3 n3 c3] 25)).alloc (.cells #[.bool false, .slice none 0 0, .slice none 0 0] 44)) = W0 at *
  have VP : Hid (Vw p a1 W0) := vp.out W0 l0
  obtain ⟨h, eh⟩ : ∃ h, h = w.heap.size := ⟨_, rfl⟩
  have EH : Hid (h = w.heap.size) := eh
  have L0 : Hid (Below w.heap.size w W0) := l0
  have X0 : Hid (B3 (h + 1) W0) := eh ▸ x0
  have NB0 : Hid (NB (h + 1) W0) := eh ▸ nb0
  have HSZ : Hid (W0.heap.size = h + 2) := by show _ = _; rw [eh]; exact hsz
  rw [← eh] at q0 q1 q2 q3 ⊢
  clear eh l0 x0 nb0 vp hsz
  go_loopw [4, 20] (fun B s wr => ∃ k : Nat, k ≤ n ∧ s = .int .i64 (k : Int) ∧ B = .bool (pb (p.take k)) ∧ W0 = wr) (fun _ s _ => ((n : Int) - intOf s).toNat)
  case atStart => exact ⟨0, Nat.zero_le _, rfl, rfl, rfl⟩
  case round =>
    obtain ⟨k, hk, rfl, rfl, rfl⟩ := hrel
    by_cases h1 : k < n
    · have d1 : decide ((k : Int) < (n : Int)) = true := decide_eq_true (by omega)
      have d2 : decide (k < n) = true := decide_eq_true h1
      obtain ⟨g, off, rfl, hg, hc⟩ := VP.out (by have := hn.out; omega)
      have c0 := hc k (by have := hn.out; omega)
      have hw := Nb.stp k (by have := hz.out; show _ ≤ _; omega)
      have HP : Hid (pb (p.take (k + 1)) = (pb (p.take k) && decide (bz p k < 16))) := pb_snoc p k (by have := hn.out; omega)
      clear hc hg
      generalize bz p k = X at *
      obtain ⟨B1, hB1⟩ : ∃ B1, B1 = pb (p.take (k + 1)) := ⟨_, rfl⟩
      have HB1 : Hid (B1 = pb (p.take (k + 1))) := hB1
      rw [← hB1] at HP
      clear hB1
      generalize pb (p.take k) = B0 at *
      cases B0 with
      | false =>
        have e : Hid (B1 = false) := HP.out
        clear HP
        go_wp2_with fail
        have hw := hw.out
        go_roundw
        case rel => exact ⟨k + 1, h1, Nb.step_v k _ hw, by rw [← HB1.out, e.out], trivial⟩
        case measure => exact Nb.msr k n h1 _ hw
      | true =>
        by_cases hx : X < 16
        · have t1 : decide (X < 16) = true := decide_eq_true hx
          have e : Hid (B1 = true) := by have := HP.out; rwa [t1] at this
          clear HP hx
          go_wp2_with fail
          have hw := hw.out
          go_roundw
          case rel => exact ⟨k + 1, h1, Nb.step_v k _ hw, by rw [← HB1.out, e.out], trivial⟩
          case measure => exact Nb.msr k n h1 _ hw
        · have t1 : decide (X < 16) = false := decide_eq_false hx
          have e : Hid (B1 = false) := by have := HP.out; rwa [t1] at this
          clear HP hx
          go_wp2_with fail
          have hw := hw.out
          go_roundw
          case rel => exact ⟨k + 1, h1, Nb.step_v k _ hw, by rw [← HB1.out, e.out], trivial⟩
          case measure => exact Nb.msr k n h1 _ hw
    · have hkl : k = n := by omega
      subst hkl
      have ep : Hid (p.take k = p) := by show _ = _; rw [hn.out, List.take_length]
      rw [ep.out]
      clear ep h1 hk
      rw [HB.out]
      have l1 := L0.out
      go_upto_region 31 with fail
      go_wp2_with (refine wpList_st3b rfl rfl rfl rfl X0.out ?_)
      intro w6 g6 b6 z0 z1 z2
      have l6 : Hid (Below w.heap.size w w6) := l1.trans ⟨g6.os, g6.tape, g6.output, g6.size, fun j hj => g6.block j (by have := l1.size; omega) (fun e => by injection e with e; have := EH.out; omega)⟩
      clear g6 b6 l1
      go_wp2_with fail
      exact bodyPost_ret (v := .tuple #[.agg #[.bool false, .slice none 0 0, .slice none 0 0], .bool false]) (resI2 _ _ _ (h + 1) 2 3 _ _ _ _ rfl rfl rfl z0 z1 z2) rfl ⟨(.bool false, .slice none 0 0, .slice none 0 0), rfl, nofun, l6.out, ⟨_, _, _, _, _, _, _, rfl⟩⟩
set_option maxHeartbeats 4000000 in
set_option maxRecDepth 100000 in
theorem si_road_0 (a1 a2 a3 : Option Addr) (n c1 n2 c2 n3 c3 : Nat) (p : List UInt8) (w : World) (hn : Hid (n = p.length)) (hz : Hid (n ≤ 4194300)) (vp : Hid (∀ W, Below w.heap.size w W → Vw p a1 W)) (HB : Hid (pb p = true)) (h2 : Hid (n = 0)) :
    Calls Tryd.prog 14 #[.agg #[.int .i64 2, .slice a1 n c1, .slice a2 n2 c2, .slice a3 n3 c3]] w fun e w' => ∃ v, e = .returned (.tuple #[v3 v, .bool false]) ∧ (false = true → Iv (fun _ => True) w' It.no v) ∧ Below w.heap.size w w' ∧ Fm v := by
  have l0 : Below w.heap.size w ((w.alloc (.cells #[.int .i64 2, .slice a1 n c1, .slice a2 n2 c2, .slice a3 n3 c3] 25)).alloc (.cells #[.bool false, .slice none 0 0, .slice none 0 0] 44)) := ((Below.refl _ _).alloc (Nat.le_refl _) _).alloc (by simp) _
  have hs1 : (w.alloc (.cells #[.int .i64 2, .slice a1 n c1, .slice a2 n2 c2, .slice a3 n3 c3] 25)).heap.size = w.heap.size + 1 := by simp
  have x0 : B3 (w.heap.size + 1) ((w.alloc (.cells #[.int .i64 2, .slice a1 n c1, .slice a2 n2 c2, .slice a3 n3 c3] 25)).alloc (.cells #[.bool false, .slice none 0 0, .slice none 0 0] 44)) := hs1 ▸ B3_new (w.alloc (.cells #[.int .i64 2, .slice a1 n c1, .slice a2 n2 c2, .slice a3 n3 c3] 25))
  have nb0 : NB (w.heap.size + 1) ((w.alloc (.cells #[.int .i64 2, .slice a1 n c1, .slice a2 n2 c2, .slice a3 n3 c3] 25)).alloc (.cells #[.bool false, .slice none 0 0, .slice none 0 0] 44)) := hs1 ▸ NB_new (w.alloc (.cells #[.int .i64 2, .slice a1 n c1, .slice a2 n2 c2, .slice a3 n3 c3] 25))
  have HA := heap_alloc_new w (.cells #[.int .i64 2, .slice a1 n c1, .slice a2 n2 c2, .slice a3 n3 c3] 25)
  have bB : Below (w.heap.size + 1) (w.alloc (.cells #[.int .i64 2, .slice a1 n c1, .slice a2 n2 c2, .slice a3 n3 c3] 25)) ((w.alloc (.cells #[.int .i64 2, .slice a1 n c1, .slice a2 n2 c2, .slice a3 n3 c3] 25)).alloc (.cells #[.bool false, .slice none 0 0, .slice none 0 0] 44)) := (Below.refl _ _).alloc (by omega) _
  have q0 : ((w.alloc (.cells #[.int .i64 2, .slice a1 n c1, .slice a2 n2 c2, .slice a3 n3 c3] 25)).alloc (.cells #[.bool false, .slice none 0 0, .slice none 0 0] 44)).cell? ⟨w.heap.size, 0, none⟩ = some (.int .i64 2) := (bB.cell (p := ⟨w.heap.size, 0, none⟩) (by show w.heap.size < _; omega)).trans (by simp only [World.cell?, HA]; rfl)
  have q1 : ((w.alloc (.cells #[.int .i64 2, .slice a1 n c1, .slice a2 n2 c2, .slice a3 n3 c3] 25)).alloc (.cells #[.bool false, .slice none 0 0, .slice none 0 0] 44)).cell? ⟨w.heap.size, 1, none⟩ = some (.slice a1 n c1) := (bB.cell (p := ⟨w.heap.size, 1, none⟩) (by show w.heap.size < _; omega)).trans (by simp only [World.cell?, HA]; rfl)
  have q2 : ((w.alloc (.cells #[.int .i64 2, .slice a1 n c1, .slice a2 n2 c2, .slice a3 n3 c3] 25)).alloc (.cells #[.bool false, .slice none 0 0, .slice none 0 0] 44)).cell? ⟨w.heap.size, 2, none⟩ = some (.slice a2 n2 c2) := (bB.cell (p := ⟨w.heap.size, 2, none⟩) (by show w.heap.size < _; omega)).trans (by simp only [World.cell?, HA]; rfl)
  have q3 : ((w.alloc (.cells #[.int .i64 2, .slice a1 n c1, .slice a2 n2 c2, .slice a3 n3 c3] 25)).alloc (.cells #[.bool false, .slice none 0 0, .slice none 0 0] 44)).cell? ⟨w.heap.size, 3, none⟩ = some (.slice a3 n3 c3) := (bB.cell (p := ⟨w.heap.size, 3, none⟩) (by show w.heap.size < _; omega)).trans (by simp only [World.cell?, HA]; rfl)
  have hsz : ((w.alloc (.cells #[.int .i64 2, .slice a1 n c1, .slice a2 n2 c2, .slice a3 n3 c3] 25)).alloc (.cells #[.bool false, .slice none 0 0, .slice none 0 0] 44)).heap.size = w.heap.size + 2 := by simp
  clear HA bB hs1
  go_enter Tryd.func14, Tryd.ntmps14
  go_wp2_with fail
  generalize ((w.alloc (.cells #[.int .i64 2, .slice a1 n c1, .slice a2 n2 c2, .slice a3 n3 c3] 25)).alloc (.cells #[.bool false, .slice none 0 0, .slice none 0 0] 44)) = W0 at *
  have VP : Hid (Vw p a1 W0) := vp.out W0 l0
  obtain ⟨h, eh⟩ : ∃ h, h = w.heap.size := ⟨_, rfl⟩
  have EH : Hid (h = w.heap.size) := eh
  have L0 : Hid (Below w.heap.size w W0) := l0
  have X0 : Hid (B3 (h + 1) W0) := eh ▸ x0
  have NB0 : Hid (NB (h + 1) W0) := eh ▸ nb0
  have HSZ : Hid (W0.heap.size = h + 2) := by show _ = _; rw [eh]; exact hsz
  rw [← eh] at q0 q1 q2 q3 ⊢
  clear eh l0 x0 nb0 vp hsz
  go_loopw [4, 20] (fun B s wr => ∃ k : Nat, k ≤ n ∧ s = .int .i64 (k : Int) ∧ B = .bool (pb (p.take k)) ∧ W0 = wr) (fun _ s _ => ((n : Int) - intOf s).toNat)
  case atStart => exact ⟨0, Nat.zero_le _, rfl, rfl, rfl⟩
  case round =>
    obtain ⟨k, hk, rfl, rfl, rfl⟩ := hrel
    by_cases h1 : k < n
    · have d1 : decide ((k : Int) < (n : Int)) = true := decide_eq_true (by omega)
      have d2 : decide (k < n) = true := decide_eq_true h1
      obtain ⟨g, off, rfl, hg, hc⟩ := VP.out (by have := hn.out; omega)
      have c0 := hc k (by have := hn.out; omega)
      have hw := Nb.stp k (by have := hz.out; show _ ≤ _; omega)
      have HP : Hid (pb (p.take (k + 1)) = (pb (p.take k) && decide (bz p k < 16))) := pb_snoc p k (by have := hn.out; omega)
      clear hc hg
      generalize bz p k = X at *
      obtain ⟨B1, hB1⟩ : ∃ B1, B1 = pb (p.take (k + 1)) := ⟨_, rfl⟩
      have HB1 : Hid (B1 = pb (p.take (k + 1))) := hB1
      rw [← hB1] at HP
      clear hB1
      generalize pb (p.take k) = B0 at *
      cases B0 with
      | false =>
        have e : Hid (B1 = false) := HP.out
        clear HP
        go_wp2_with fail
        have hw := hw.out
        go_roundw
        case rel => exact ⟨k + 1, h1, Nb.step_v k _ hw, by rw [← HB1.out, e.out], trivial⟩
        case measure => exact Nb.msr k n h1 _ hw
      | true =>
        by_cases hx : X < 16
        · have t1 : decide (X < 16) = true := decide_eq_true hx
          have e : Hid (B1 = true) := by have := HP.out; rwa [t1] at this
          clear HP hx
          go_wp2_with fail
          have hw := hw.out
          go_roundw
          case rel => exact ⟨k + 1, h1, Nb.step_v k _ hw, by rw [← HB1.out, e.out], trivial⟩
          case measure => exact Nb.msr k n h1 _ hw
        · have t1 : decide (X < 16) = false := decide_eq_false hx
          have e : Hid (B1 = false) := by have := HP.out; rwa [t1] at this
          clear HP hx
          go_wp2_with fail
          have hw := hw.out
          go_roundw
          case rel => exact ⟨k + 1, h1, Nb.step_v k _ hw, by rw [← HB1.out, e.out], trivial⟩
          case measure => exact Nb.msr k n h1 _ hw
    · have hkl : k = n := by omega
      subst hkl
      have ep : Hid (p.take k = p) := by show _ = _; rw [hn.out, List.take_length]
      rw [ep.out]
      clear ep h1 hk
      rw [HB.out]
      have t1 : ¬ (1 : Int) ≤ (k : Int) := by have := h2.out; omega
      have t2 : decide ((k : Int) ≥ 1) = false := decide_eq_false t1
      have l1 := L0.out
      go_upto_region 31 with fail
      go_wp2_with (refine wpList_st3b rfl rfl rfl rfl X0.out ?_)
      intro w6 g6 b6 z0 z1 z2
      have l6 : Hid (Below w.heap.size w w6) := l1.trans ⟨g6.os, g6.tape, g6.output, g6.size, fun j hj => g6.block j (by have := l1.size; omega) (fun e => by injection e with e; have := EH.out; omega)⟩
      clear g6 b6 l1
      go_wp2_with fail
      exact bodyPost_ret (v := .tuple #[.agg #[.bool false, .slice none 0 0, .slice none 0 0], .bool false]) (resI2 _ _ _ (h + 1) 2 3 _ _ _ _ rfl rfl rfl z0 z1 z2) rfl ⟨(.bool false, .slice none 0 0, .slice none 0 0), rfl, nofun, l6.out, ⟨_, _, _, _, _, _, _, rfl⟩⟩
set_option maxHeartbeats 4000000 in
set_option maxRecDepth 100000 in
theorem si_road_k (a1 a2 a3 : Option Addr) (n c1 n2 c2 n3 c3 : Nat) (p : List UInt8) (w : World) (hn : Hid (n = p.length)) (hz : Hid (n ≤ 4194300)) (vp : Hid (∀ W, Below w.heap.size w W → Vw p a1 W)) (HB : Hid (pb p = true)) (h2 : Hid (0 < n)) (h3 : Hid (n3 ≠ 1)) :
    Calls Tryd.prog 14 #[.agg #[.int .i64 2, .slice a1 n c1, .slice a2 n2 c2, .slice a3 n3 c3]] w fun e w' => ∃ v, e = .returned (.tuple #[v3 v, .bool false]) ∧ (false = true → Iv (fun _ => True) w' It.no v) ∧ Below w.heap.size w w' ∧ Fm v := by
  have l0 : Below w.heap.size w ((w.alloc (.cells #[.int .i64 2, .slice a1 n c1, .slice a2 n2 c2, .slice a3 n3 c3] 25)).alloc (.cells #[.bool false, .slice none 0 0, .slice none 0 0] 44)) := ((Below.refl _ _).alloc (Nat.le_refl _) _).alloc (by simp) _
  have hs1 : (w.alloc (.cells #[.int .i64 2, .slice a1 n c1, .slice a2 n2 c2, .slice a3 n3 c3] 25)).heap.size = w.heap.size + 1 := by simp
  have x0 : B3 (w.heap.size + 1) ((w.alloc (.cells #[.int .i64 2, .slice a1 n c1, .slice a2 n2 c2, .slice a3 n3 c3] 25)).alloc (.cells #[.bool false, .slice none 0 0, .slice none 0 0] 44)) := hs1 ▸ B3_new (w.alloc (.cells #[.int .i64 2, .slice a1 n c1, .slice a2 n2 c2, .slice a3 n3 c3] 25))
  have nb0 : NB (w.heap.size + 1) ((w.alloc (.cells #[.int .i64 2, .slice a1 n c1, .slice a2 n2 c2, .slice a3 n3 c3] 25)).alloc (.cells #[.bool false, .slice none 0 0, .slice none 0 0] 44)) := hs1 ▸ NB_new (w.alloc (.cells #[.int .i64 2, .slice a1 n c1, .slice a2 n2 c2, .slice a3 n3 c3] 25))
  have HA := heap_alloc_new w (.cells #[.int .i64 2, .slice a1 n c1, .slice a2 n2 c2, .slice a3 n3 c3] 25)
  have bB : Below (w.heap.size + 1) (w.alloc (.cells #[.int .i64 2, .slice a1 n c1, .slice a2 n2 c2, .slice a3 n3 c3] 25)) ((w.alloc (.cells #[.int .i64 2, .slice a1 n c1, .slice a2 n2 c2, .slice a3 n3 c3] 25)).alloc (.cells #[.bool false, .slice none 0 0, .slice none 0 0] 44)) := (Below.refl _ _).alloc (by omega) _
  have q0 : ((w.alloc (.cells #[.int .i64 2, .slice a1 n c1, .slice a2 n2 c2, .slice a3 n3 c3] 25)).alloc (.cells #[.bool false, .slice none 0 0, .slice none 0 0] 44)).cell? ⟨w.heap.size, 0, none⟩ = some (.int .i64 2) := (bB.cell (p := ⟨w.heap.size, 0, none⟩) (by show w.heap.size < _; omega)).trans (by simp only [World.cell?, HA]; rfl)
  have q1 : ((w.alloc (.cells #[.int .i64 2, .slice a1 n c1, .slice a2 n2 c2, .slice a3 n3 c3] 25)).alloc (.cells #[.bool false, .slice none 0 0, .slice none 0 0] 44)).cell? ⟨w.heap.size, 1, none⟩ = some (.slice a1 n c1) := (bB.cell (p := ⟨w.heap.size, 1, none⟩) (by show w.heap.size < _; omega)).trans (by simp only [World.cell?, HA]; rfl)
  have q2 : ((w.alloc (.cells #[.int .i64 2, .slice a1 n c1, .slice a2 n2 c2, .slice a3 n3 c3] 25)).alloc (.cells #[.bool false, .slice none 0 0, .slice none 0 0] 44)).cell? ⟨w.heap.size, 2, none⟩ = some (.slice a2 n2 c2) := (bB.cell (p := ⟨w.heap.size, 2, none⟩) (by show w.heap.size < _; omega)).trans (by simp only [World.cell?, HA]; rfl)
  have q3 : ((w.alloc (.cells #[.int .i64 2, .slice a1 n c1, .slice a2 n2 c2, .slice a3 n3 c3] 25)).alloc (.cells #[.bool false, .slice none 0 0, .slice none 0 0] 44)).cell? ⟨w.heap.size, 3, none⟩ = some (.slice a3 n3 c3) := (bB.cell (p := ⟨w.heap.size, 3, none⟩) (by show w.heap.size < _; omega)).trans (by simp only [World.cell?, HA]; rfl)
  have hsz : ((w.alloc (.cells #[.int .i64 2, .slice a1 n c1, .slice a2 n2 c2, .slice a3 n3 c3] 25)).alloc (.cells #[.bool false, .slice none 0 0, .slice none 0 0] 44)).heap.size = w.heap.size + 2 := by simp
  clear HA bB hs1
  go_enter Tryd.func14, Tryd.ntmps14
  go_wp2_with fail
  generalize ((w.alloc (.cells #[.int .i64 2, .slice a1 n c1, .slice a2 n2 c2, .slice a3 n3 c3] 25)).alloc (.cells #[.bool false, .slice none 0 0, .slice none 0 0] 44)) = W0 at *
  have VP : Hid (Vw p a1 W0) := vp.out W0 l0
  obtain ⟨h, eh⟩ : ∃ h, h = w.heap.size := ⟨_, rfl⟩
  have EH : Hid (h = w.heap.size) := eh
  have L0 : Hid (Below w.heap.size w W0) := l0
  have X0 : Hid (B3 (h + 1) W0) := eh ▸ x0
  have NB0 : Hid (NB (h + 1) W0) := eh ▸ nb0
  have HSZ : Hid (W0.heap.size = h + 2) := by show _ = _; rw [eh]; exact hsz
  rw [← eh] at q0 q1 q2 q3 ⊢
  clear eh l0 x0 nb0 vp hsz
  go_loopw [4, 20] (fun B s wr => ∃ k : Nat, k ≤ n ∧ s = .int .i64 (k : Int) ∧ B = .bool (pb (p.take k)) ∧ W0 = wr) (fun _ s _ => ((n : Int) - intOf s).toNat)
  case atStart => exact ⟨0, Nat.zero_le _, rfl, rfl, rfl⟩
  case round =>
    obtain ⟨k, hk, rfl, rfl, rfl⟩ := hrel
    by_cases h1 : k < n
    · have d1 : decide ((k : Int) < (n : Int)) = true := decide_eq_true (by omega)
      have d2 : decide (k < n) = true := decide_eq_true h1
      obtain ⟨g, off, rfl, hg, hc⟩ := VP.out (by have := hn.out; omega)
      have c0 := hc k (by have := hn.out; omega)
      have hw := Nb.stp k (by have := hz.out; show _ ≤ _; omega)
      have HP : Hid (pb (p.take (k + 1)) = (pb (p.take k) && decide (bz p k < 16))) := pb_snoc p k (by have := hn.out; omega)
      clear hc hg
      generalize bz p k = X at *
      obtain ⟨B1, hB1⟩ : ∃ B1, B1 = pb (p.take (k + 1)) := ⟨_, rfl⟩
      have HB1 : Hid (B1 = pb (p.take (k + 1))) := hB1
      rw [← hB1] at HP
      clear hB1
      generalize pb (p.take k) = B0 at *
      cases B0 with
      | false =>
        have e : Hid (B1 = false) := HP.out
        clear HP
        go_wp2_with fail
        have hw := hw.out
        go_roundw
        case rel => exact ⟨k + 1, h1, Nb.step_v k _ hw, by rw [← HB1.out, e.out], trivial⟩
        case measure => exact Nb.msr k n h1 _ hw
      | true =>
        by_cases hx : X < 16
        · have t1 : decide (X < 16) = true := decide_eq_true hx
          have e : Hid (B1 = true) := by have := HP.out; rwa [t1] at this
          clear HP hx
          go_wp2_with fail
          have hw := hw.out
          go_roundw
          case rel => exact ⟨k + 1, h1, Nb.step_v k _ hw, by rw [← HB1.out, e.out], trivial⟩
          case measure => exact Nb.msr k n h1 _ hw
        · have t1 : decide (X < 16) = false := decide_eq_false hx
          have e : Hid (B1 = false) := by have := HP.out; rwa [t1] at this
          clear HP hx
          go_wp2_with fail
          have hw := hw.out
          go_roundw
          case rel => exact ⟨k + 1, h1, Nb.step_v k _ hw, by rw [← HB1.out, e.out], trivial⟩
          case measure => exact Nb.msr k n h1 _ hw
    · have hkl : k = n := by omega
      subst hkl
      have ep : Hid (p.take k = p) := by show _ = _; rw [hn.out, List.take_length]
      rw [ep.out]
      clear ep h1 hk
      rw [HB.out]
      have t1 : (1 : Int) ≤ (k : Int) := by have := h2.out; omega
      have t2 : decide ((k : Int) ≥ 1) = true := decide_eq_true t1
      have t3 : ((n3 : Int) == 1) = false := beq_eq_false_iff_ne.2 (by have := h3.out; omega)
      have l1 := L0.out
      go_upto_region 31 with fail
      go_wp2_with (refine wpList_st3b rfl rfl rfl rfl X0.out ?_)
      intro w6 g6 b6 z0 z1 z2
      have l6 : Hid (Below w.heap.size w w6) := l1.trans ⟨g6.os, g6.tape, g6.output, g6.size, fun j hj => g6.block j (by have := l1.size; omega) (fun e => by injection e with e; have := EH.out; omega)⟩
      clear g6 b6 l1
      go_wp2_with fail
      exact bodyPost_ret (v := .tuple #[.agg #[.bool false, .slice none 0 0, .slice none 0 0], .bool false]) (resI2 _ _ _ (h + 1) 2 3 _ _ _ _ rfl rfl rfl z0 z1 z2) rfl ⟨(.bool false, .slice none 0 0, .slice none 0 0), rfl, nofun, l6.out, ⟨_, _, _, _, _, _, _, rfl⟩⟩
set_option maxHeartbeats 4000000 in
set_option maxRecDepth 100000 in
theorem si_road_s (a1 a2 a3 : Option Addr) (n c1 n2 c2 n3 c3 : Nat) (p : List UInt8) (w : World) (hn : Hid (n = p.length)) (hz : Hid (n ≤ 4194300)) (vp : Hid (∀ W, Below w.heap.size w W → Vw p a1 W)) (HB : Hid (pb p = true)) (h2 : Hid (0 < n)) (h3 : Hid (n3 = 1)) (m : Nat) (hm : Hid (m ≠ 32)) (hk0 : Hid (∀ W, Below w.heap.size w W → ∃ g off ai ci, a3 = some ⟨g, off, none⟩ ∧ W.cell? ⟨g, off, none⟩ = some (.slice ai m ci))) :
    Calls Tryd.prog 14 #[.agg #[.int .i64 2, .slice a1 n c1, .slice a2 n2 c2, .slice a3 n3 c3]] w fun e w' => ∃ v, e = .returned (.tuple #[v3 v, .bool false]) ∧ (false = true → Iv (fun _ => True) w' It.no v) ∧ Below w.heap.size w w' ∧ Fm v := by
  have l0 : Below w.heap.size w ((w.alloc (.cells #[.int .i64 2, .slice a1 n c1, .slice a2 n2 c2, .slice a3 n3 c3] 25)).alloc (.cells #[.bool false, .slice none 0 0, .slice none 0 0] 44)) := ((Below.refl _ _).alloc (Nat.le_refl _) _).alloc (by simp) _
  have hs1 : (w.alloc (.cells #[.int .i64 2, .slice a1 n c1, .slice a2 n2 c2, .slice a3 n3 c3] 25)).heap.size = w.heap.size + 1 := by simp
  have x0 : B3 (w.heap.size + 1) ((w.alloc (.cells #[.int .i64 2, .slice a1 n c1, .slice a2 n2 c2, .slice a3 n3 c3] 25)).alloc (.cells #[.bool false, .slice none 0 0, .slice none 0 0] 44)) := hs1 ▸ B3_new (w.alloc (.cells #[.int .i64 2, .slice a1 n c1, .slice a2 n2 c2, .slice a3 n3 c3] 25))
  have nb0 : NB (w.heap.size + 1) ((w.alloc (.cells #[.int .i64 2, .slice a1 n c1, .slice a2 n2 c2, .slice a3 n3 c3] 25)).alloc (.cells #[.bool false, .slice none 0 0, .slice none 0 0] 44)) := hs1 ▸ NB_new (w.alloc (.cells #[.int .i64 2, .slice a1 n c1, .slice a2 n2 c2, .slice a3 n3 c3] 25))
  have HA := heap_alloc_new w (.cells #[.int .i64 2, .slice a1 n c1, .slice a2 n2 c2, .slice a3 n3 c3] 25)
  have bB : Below (w.heap.size + 1) (w.alloc (.cells #[.int .i64 2, .slice a1 n c1, .slice a2 n2 c2, .slice a3 n3 c3] 25)) ((w.alloc (.cells #[.int .i64 2, .slice a1 n c1, .slice a2 n2 c2, .slice a3 n3 c3] 25)).alloc (.cells #[.bool false, .slice none 0 0, .slice none 0 0] 44)) := (Below.refl _ _).alloc (by omega) _
  have q0 : ((w.alloc (.cells #[.int .i64 2, .slice a1 n c1, .slice a2 n2 c2, .slice a3 n3 c3] 25)).alloc (.cells #[.bool false, .slice none 0 0, .slice none 0 0] 44)).cell? ⟨w.heap.size, 0, none⟩ = some (.int .i64 2) := (bB.cell (p := ⟨w.heap.size, 0, none⟩) (by show w.heap.size < _; omega)).trans (by simp only [World.cell?, HA]; rfl)
  have q1 : ((w.alloc (.cells #[.int .i64 2, .slice a1 n c1, .slice a2 n2 c2, .slice a3 n3 c3] 25)).alloc (.cells #[.bool false, .slice none 0 0, .slice none 0 0] 44)).cell? ⟨w.heap.size, 1, none⟩ = some (.slice a1 n c1) := (bB.cell (p := ⟨w.heap.size, 1, none⟩) (by show w.heap.size < _; omega)).trans (by simp only [World.cell?, HA]; rfl)
  have q2 : ((w.alloc (.cells #[.int .i64 2, .slice a1 n c1, .slice a2 n2 c2, .slice a3 n3 c3] 25)).alloc (.cells #[.bool false, .slice none 0 0, .slice none 0 0] 44)).cell? ⟨w.heap.size, 2, none⟩ = some (.slice a2 n2 c2) := (bB.cell (p := ⟨w.heap.size, 2, none⟩) (by show w.heap.size < _; omega)).trans (by simp only [World.cell?, HA]; rfl)
  have q3 : ((w.alloc (.cells #[.int .i64 2, .slice a1 n c1, .slice a2 n2 c2, .slice a3 n3 c3] 25)).alloc (.cells #[.bool false, .slice none 0 0, .slice none 0 0] 44)).cell? ⟨w.heap.size, 3, none⟩ = some (.slice a3 n3 c3) := (bB.cell (p := ⟨w.heap.size, 3, none⟩) (by show w.heap.size < _; omega)).trans (by simp only [World.cell?, HA]; rfl)
  have hsz : ((w.alloc (.cells #[.int .i64 2, .slice a1 n c1, .slice a2 n2 c2, .slice a3 n3 c3] 25)).alloc (.cells #[.bool false, .slice none 0 0, .slice none 0 0] 44)).heap.size = w.heap.size + 2 := by simp
  clear HA bB hs1
  go_enter Tryd.func14, Tryd.ntmps14
  go_wp2_with fail
  generalize ((w.alloc (.cells #[.int .i64 2, .slice a1 n c1, .slice a2 n2 c2, .slice a3 n3 c3] 25)).alloc (.cells #[.bool false, .slice none 0 0, .slice none 0 0] 44)) = W0 at *
  have VP : Hid (Vw p a1 W0) := vp.out W0 l0
  obtain ⟨h, eh⟩ : ∃ h, h = w.heap.size := ⟨_, rfl⟩
  have EH : Hid (h = w.heap.size) := eh
  have L0 : Hid (Below w.heap.size w W0) := l0
  have X0 : Hid (B3 (h + 1) W0) := eh ▸ x0
  have NB0 : Hid (NB (h + 1) W0) := eh ▸ nb0
  have HSZ : Hid (W0.heap.size = h + 2) := by show _ = _; rw [eh]; exact hsz
  rw [← eh] at q0 q1 q2 q3 ⊢
  clear eh l0 x0 nb0 vp hsz
  go_loopw [4, 20] (fun B s wr => ∃ k : Nat, k ≤ n ∧ s = .int .i64 (k : Int) ∧ B = .bool (pb (p.take k)) ∧ W0 = wr) (fun _ s _ => ((n : Int) - intOf s).toNat)
  case atStart => exact ⟨0, Nat.zero_le _, rfl, rfl, rfl⟩
  case round =>
    obtain ⟨k, hk, rfl, rfl, rfl⟩ := hrel
    by_cases h1 : k < n
    · have d1 : decide ((k : Int) < (n : Int)) = true := decide_eq_true (by omega)
      have d2 : decide (k < n) = true := decide_eq_true h1
      obtain ⟨g, off, rfl, hg, hc⟩ := VP.out (by have := hn.out; omega)
      have c0 := hc k (by have := hn.out; omega)
      have hw := Nb.stp k (by have := hz.out; show _ ≤ _; omega)
      have HP : Hid (pb (p.take (k + 1)) = (pb (p.take k) && decide (bz p k < 16))) := pb_snoc p k (by have := hn.out; omega)
      clear hc hg
      generalize bz p k = X at *
      obtain ⟨B1, hB1⟩ : ∃ B1, B1 = pb (p.take (k + 1)) := ⟨_, rfl⟩
      have HB1 : Hid (B1 = pb (p.take (k + 1))) := hB1
      rw [← hB1] at HP
      clear hB1
      generalize pb (p.take k) = B0 at *
      cases B0 with
      | false =>
        have e : Hid (B1 = false) := HP.out
        clear HP
        go_wp2_with fail
        have hw := hw.out
        go_roundw
        case rel => exact ⟨k + 1, h1, Nb.step_v k _ hw, by rw [← HB1.out, e.out], trivial⟩
        case measure => exact Nb.msr k n h1 _ hw
      | true =>
        by_cases hx : X < 16
        · have t1 : decide (X < 16) = true := decide_eq_true hx
          have e : Hid (B1 = true) := by have := HP.out; rwa [t1] at this
          clear HP hx
          go_wp2_with fail
          have hw := hw.out
          go_roundw
          case rel => exact ⟨k + 1, h1, Nb.step_v k _ hw, by rw [← HB1.out, e.out], trivial⟩
          case measure => exact Nb.msr k n h1 _ hw
        · have t1 : decide (X < 16) = false := decide_eq_false hx
          have e : Hid (B1 = false) := by have := HP.out; rwa [t1] at this
          clear HP hx
          go_wp2_with fail
          have hw := hw.out
          go_roundw
          case rel => exact ⟨k + 1, h1, Nb.step_v k _ hw, by rw [← HB1.out, e.out], trivial⟩
          case measure => exact Nb.msr k n h1 _ hw
    · have hkl : k = n := by omega
      subst hkl
      have ep : Hid (p.take k = p) := by show _ = _; rw [hn.out, List.take_length]
      rw [ep.out]
      clear ep h1 hk
      rw [HB.out]
      obtain rfl := h3.out
      obtain ⟨g, off, ai, ci, rfl, hc0⟩ := hk0.out _ L0.out
      have t1 : (1 : Int) ≤ (k : Int) := by have := h2.out; omega
      have t2 : decide ((k : Int) ≥ 1) = true := decide_eq_true t1
      have t3 : ((m : Int) == 32) = false := beq_eq_false_iff_ne.2 (by have := hm.out; omega)
      have l1 := L0.out
      go_upto_region 31 with fail
      go_wp2_with (refine wpList_st3b rfl rfl rfl rfl X0.out ?_)
      intro w6 g6 b6 z0 z1 z2
      have l6 : Hid (Below w.heap.size w w6) := l1.trans ⟨g6.os, g6.tape, g6.output, g6.size, fun j hj => g6.block j (by have := l1.size; omega) (fun e => by injection e with e; have := EH.out; omega)⟩
      clear g6 b6 l1
      go_wp2_with fail
      exact bodyPost_ret (v := .tuple #[.agg #[.bool false, .slice none 0 0, .slice none 0 0], .bool false]) (resI2 _ _ _ (h + 1) 2 3 _ _ _ _ rfl rfl rfl z0 z1 z2) rfl ⟨(.bool false, .slice none 0 0, .slice none 0 0), rfl, nofun, l6.out, ⟨_, _, _, _, _, _, _, rfl⟩⟩
set_option maxHeartbeats 4000000 in
set_option maxRecDepth 100000 in
theorem si_fork_k (a1 a2 a3 : Option Addr) (n c1 n2 c2 n3 c3 : Nat) (p : List UInt8) (w : World) (hn : Hid (n = p.length)) (hz : Hid (n ≤ 4194300)) (vp : Hid (∀ W, Below w.heap.size w W → Vw p a1 W)) (h3 : Hid (n3 ≠ 16)) :
    Calls Tryd.prog 14 #[.agg #[.int .i64 3, .slice a1 n c1, .slice a2 n2 c2, .slice a3 n3 c3]] w fun e w' => ∃ v, e = .returned (.tuple #[v3 v, .bool false]) ∧ (false = true → Iv (fun _ => True) w' It.no v) ∧ Below w.heap.size w w' ∧ Fm v := by
  have l0 : Below w.heap.size w ((w.alloc (.cells #[.int .i64 3, .slice a1 n c1, .slice a2 n2 c2, .slice a3 n3 c3] 25)).alloc (.cells #[.bool false, .slice none 0 0, .slice none 0 0] 44)) := ((Below.refl _ _).alloc (Nat.le_refl _) _).alloc (by simp) _
  have hs1 : (w.alloc (.cells #[.int .i64 3, .slice a1 n c1, .slice a2 n2 c2, .slice a3 n3 c3] 25)).heap.size = w.heap.size + 1 := by simp
  have x0 : B3 (w.heap.size + 1) ((w.alloc (.cells #[.int .i64 3, .slice a1 n c1, .slice a2 n2 c2, .slice a3 n3 c3] 25)).alloc (.cells #[.bool false, .slice none 0 0, .slice none 0 0] 44)) := hs1 ▸ B3_new (w.alloc (.cells #[.int .i64 3, .slice a1 n c1, .slice a2 n2 c2, .slice a3 n3 c3] 25))
  have nb0 : NB (w.heap.size + 1) ((w.alloc (.cells #[.int .i64 3, .slice a1 n c1, .slice a2 n2 c2, .slice a3 n3 c3] 25)).alloc (.cells #[.bool false, .slice none 0 0, .slice none 0 0] 44)) := hs1 ▸ NB_new (w.alloc (.cells #[.int .i64 3, .slice a1 n c1, .slice a2 n2 c2, .slice a3 n3 c3] 25))
  have HA := heap_alloc_new w (.cells #[.int .i64 3, .slice a1 n c1, .slice a2 n2 c2, .slice a3 n3 c3] 25)
  have bB : Below (w.heap.size + 1) (w.alloc (.cells #[.int .i64 3, .slice a1 n c1, .slice a2 n2 c2, .slice a3 n3 c3] 25)) ((w.alloc (.cells #[.int .i64 3, .slice a1 n c1, .slice a2 n2 c2, .slice a3 n3 c3] 25)).alloc (.cells #[.bool false, .slice none 0 0, .slice none 0 0] 44)) := (Below.refl _ _).alloc (by omega) _
  have q0 : ((w.alloc (.cells #[.int .i64 3, .slice a1 n c1, .slice a2 n2 c2, .slice a3 n3 c3] 25)).alloc (.cells #[.bool false, .slice none 0 0, .slice none 0 0] 44)).cell? ⟨w.heap.size, 0, none⟩ = some (.int .i64 3) := (bB.cell (p := ⟨w.heap.size, 0, none⟩) (by show w.heap.size < _; omega)).trans (by simp only [World.cell?, HA]; rfl)
  have q1 : ((w.alloc (.cells #[.int .i64 3, .slice a1 n c1, .slice a2 n2 c2, .slice a3 n3 c3] 25)).alloc (.cells #[.bool false, .slice none 0 0, .slice none 0 0] 44)).cell? ⟨w.heap.size, 1, none⟩ = some (.slice a1 n c1) := (bB.cell (p := ⟨w.heap.size, 1, none⟩) (by show w.heap.size < _; omega)).trans (by simp only [World.cell?, HA]; rfl)
  have q2 : ((w.alloc (.cells #[.int .i64 3, .slice a1 n c1, .slice a2 n2 c2, .slice a3 n3 c3] 25)).alloc (.cells #[.bool false, .slice none 0 0, .slice none 0 0] 44)).cell? ⟨w.heap.size, 2, none⟩ = some (.slice a2 n2 c2) := (bB.cell (p := ⟨w.heap.size, 2, none⟩) (by show w.heap.size < _; omega)).trans (by simp only [World.cell?, HA]; rfl)
  have q3 : ((w.alloc (.cells #[.int .i64 3, .slice a1 n c1, .slice a2 n2 c2, .slice a3 n3 c3] 25)).alloc (.cells #[.bool false, .slice none 0 0, .slice none 0 0] 44)).cell? ⟨w.heap.size, 3, none⟩ = some (.slice a3 n3 c3) := (bB.cell (p := ⟨w.heap.size, 3, none⟩) (by show w.heap.size < _; omega)).trans (by simp only [World.cell?, HA]; rfl)
  have hsz : ((w.alloc (.cells #[.int .i64 3, .slice a1 n c1, .slice a2 n2 c2, .slice a3 n3 c3] 25)).alloc (.cells #[.bool false, .slice none 0 0, .slice none 0 0] 44)).heap.size = w.heap.size + 2 := by simp
  clear HA bB hs1
  go_enter Tryd.func14, Tryd.ntmps14
  go_wp2_with fail
  generalize ((w.alloc (.cells #[.int .i64 3, .slice a1 n c1, .slice a2 n2 c2, .slice a3 n3 c3] 25)).alloc (.cells #[.bool false, .slice none 0 0, .slice none 0 0] 44)) = W0 at *
  have VP : Hid (Vw p a1 W0) := vp.out W0 l0
  obtain ⟨h, eh⟩ : ∃ h, h = w.heap.size := ⟨_, rfl⟩
  have EH : Hid (h = w.heap.size) := eh
  have L0 : Hid (Below w.heap.size w W0) := l0
  have X0 : Hid (B3 (h + 1) W0) := eh ▸ x0
  have NB0 : Hid (NB (h + 1) W0) := eh ▸ nb0
  have HSZ : Hid (W0.heap.size = h + 2) := by show _ = _; rw [eh]; exact hsz
  rw [← eh] at q0 q1 q2 q3 ⊢
  clear eh l0 x0 nb0 vp hsz
  go_loopw [4, 20] (fun B s wr => ∃ k : Nat, k ≤ n ∧ s = .int .i64 (k : Int) ∧ B = .bool (pb (p.take k)) ∧ W0 = wr) (fun _ s _ => ((n : Int) - intOf s).toNat)
  case atStart => exact ⟨0, Nat.zero_le _, rfl, rfl, rfl⟩
  case round =>
    obtain ⟨k, hk, rfl, rfl, rfl⟩ := hrel
    by_cases h1 : k < n
    · have d1 : decide ((k : Int) < (n : Int)) = true := decide_eq_true (by omega)
      have d2 : decide (k < n) = true := decide_eq_true h1
      obtain ⟨g, off, rfl, hg, hc⟩ := VP.out (by have := hn.out; omega)
      have c0 := hc k (by have := hn.out; omega)
      have hw := Nb.stp k (by have := hz.out; show _ ≤ _; omega)
      have HP : Hid (pb (p.take (k + 1)) = (pb (p.take k) && decide (bz p k < 16))) := pb_snoc p k (by have := hn.out; omega)
      clear hc hg
      generalize bz p k = X at *
      obtain ⟨B1, hB1⟩ : ∃ B1, B1 = pb (p.take (k + 1)) := ⟨_, rfl⟩
      have HB1 : Hid (B1 = pb (p.take (k + 1))) := hB1
      rw [← hB1] at HP
      clear hB1
      generalize pb (p.take k) = B0 at *
      cases B0 with
      | false =>
        have e : Hid (B1 = false) := HP.out
        clear HP
        go_wp2_with fail
        have hw := hw.out
        go_roundw
        case rel => exact ⟨k + 1, h1, Nb.step_v k _ hw, by rw [← HB1.out, e.out], trivial⟩
        case measure => exact Nb.msr k n h1 _ hw
      | true =>
        by_cases hx : X < 16
        · have t1 : decide (X < 16) = true := decide_eq_true hx
          have e : Hid (B1 = true) := by have := HP.out; rwa [t1] at this
          clear HP hx
          go_wp2_with fail
          have hw := hw.out
          go_roundw
          case rel => exact ⟨k + 1, h1, Nb.step_v k _ hw, by rw [← HB1.out, e.out], trivial⟩
          case measure => exact Nb.msr k n h1 _ hw
        · have t1 : decide (X < 16) = false := decide_eq_false hx
          have e : Hid (B1 = false) := by have := HP.out; rwa [t1] at this
          clear HP hx
          go_wp2_with fail
          have hw := hw.out
          go_roundw
          case rel => exact ⟨k + 1, h1, Nb.step_v k _ hw, by rw [← HB1.out, e.out], trivial⟩
          case measure => exact Nb.msr k n h1 _ hw
    · have hkl : k = n := by omega
      subst hkl
      have ep : Hid (p.take k = p) := by show _ = _; rw [hn.out, List.take_length]
      rw [ep.out]
      clear ep h1 hk
      generalize pb p = B at *
      have t3 : ((n3 : Int) == 16) = false := beq_eq_false_iff_ne.2 (by have := h3.out; omega)
      have l1 := L0.out
      go_upto_region 31 with fail
      go_wp2_with (refine wpList_st3b rfl rfl rfl rfl X0.out ?_)
      intro w6 g6 b6 z0 z1 z2
      have l6 : Hid (Below w.heap.size w w6) := l1.trans ⟨g6.os, g6.tape, g6.output, g6.size, fun j hj => g6.block j (by have := l1.size; omega) (fun e => by injection e with e; have := EH.out; omega)⟩
      clear g6 b6 l1
      go_wp2_with fail
      exact bodyPost_ret (v := .tuple #[.agg #[.bool false, .slice none 0 0, .slice none 0 0], .bool false]) (resI2 _ _ _ (h + 1) 2 3 _ _ _ _ rfl rfl rfl z0 z1 z2) rfl ⟨(.bool false, .slice none 0 0, .slice none 0 0), rfl, nofun, l6.out, ⟨_, _, _, _, _, _, _, rfl⟩⟩
set_option maxHeartbeats 4000000 in
set_option maxRecDepth 100000 in
theorem si_fork_v (a1 a2 a3 : Option Addr) (n c1 n2 c2 n3 c3 : Nat) (p : List UInt8) (w : World) (hn : Hid (n = p.length)) (hz : Hid (n ≤ 4194300)) (vp : Hid (∀ W, Below w.heap.size w W → Vw p a1 W)) (h3 : Hid (n3 = 16)) (h2 : Hid (1024 < n2)) :
    Calls Tryd.prog 14 #[.agg #[.int .i64 3, .slice a1 n c1, .slice a2 n2 c2, .slice a3 n3 c3]] w fun e w' => ∃ v, e = .returned (.tuple #[v3 v, .bool false]) ∧ (false = true → Iv (fun _ => True) w' It.no v) ∧ Below w.heap.size w w' ∧ Fm v := by
  have l0 : Below w.heap.size w ((w.alloc (.cells #[.int .i64 3, .slice a1 n c1, .slice a2 n2 c2, .slice a3 n3 c3] 25)).alloc (.cells #[.bool false, .slice none 0 0, .slice none 0 0] 44)) := ((Below.refl _ _).alloc (Nat.le_refl _) _).alloc (by simp) _
  have hs1 : (w.alloc (.cells #[.int .i64 3, .slice a1 n c1, .slice a2 n2 c2, .slice a3 n3 c3] 25)).heap.size = w.heap.size + 1 := by simp
  have x0 : B3 (w.heap.size + 1) ((w.alloc (.cells #[.int .i64 3, .slice a1 n c1, .slice a2 n2 c2, .slice a3 n3 c3] 25)).alloc (.cells #[.bool false, .slice none 0 0, .slice none 0 0] 44)) := hs1 ▸ B3_new (w.alloc (.cells #[.int .i64 3, .slice a1 n c1, .slice a2 n2 c2, .slice a3 n3 c3] 25))
  have nb0 : NB (w.heap.size + 1) ((w.alloc (.cells #[.int .i64 3, .slice a1 n c1, .slice a2 n2 c2, .slice a3 n3 c3] 25)).alloc (.cells #[.bool false, .slice none 0 0, .slice none 0 0] 44)) := hs1 ▸ NB_new (w.alloc (.cells #[.int .i64 3, .slice a1 n c1, .slice a2 n2 c2, .slice a3 n3 c3] 25))
  have HA := heap_alloc_new w (.cells #[.int .i64 3, .slice a1 n c1, .slice a2 n2 c2, .slice a3 n3 c3] 25)
  have bB : Below (w.heap.size + 1) (w.alloc (.cells #[.int .i64 3, .slice a1 n c1, .slice a2 n2 c2, .slice a3 n3 c3] 25)) ((w.alloc (.cells #[.int .i64 3, .slice a1 n c1, .slice a2 n2 c2, .slice a3 n3 c3] 25)).alloc (.cells #[.bool false, .slice none 0 0, .slice none 0 0] 44)) := (Below.refl _ _).alloc (by omega) _
  have q0 : ((w.alloc (.cells #[.int .i64 3, .slice a1 n c1, .slice a2 n2 c2, .slice a3 n3 c3] 25)).alloc (.cells #[.bool false, .slice none 0 0, .slice none 0 0] 44)).cell? ⟨w.heap.size, 0, none⟩ = some (.int .i64 3) := (bB.cell (p := ⟨w.heap.size, 0, none⟩) (by show w.heap.size < _; omega)).trans (by simp only [World.cell?, HA]; rfl)
  have q1 : ((w.alloc (.cells #[.int .i64 3, .slice a1 n c1, .slice a2 n2 c2, .slice a3 n3 c3] 25)).alloc (.cells #[.bool false, .slice none 0 0, .slice none 0 0] 44)).cell? ⟨w.heap.size, 1, none⟩ = some (.slice a1 n c1) := (bB.cell (p := ⟨w.heap.size, 1, none⟩) (by show w.heap.size < _; omega)).trans (by simp only [World.cell?, HA]; rfl)
  have q2 : ((w.alloc (.cells #[.int .i64 3, .slice a1 n c1, .slice a2 n2 c2, .slice a3 n3 c3] 25)).alloc (.cells #[.bool false, .slice none 0 0, .slice none 0 0] 44)).cell? ⟨w.heap.size, 2, none⟩ = some (.slice a2 n2 c2) := (bB.cell (p := ⟨w.heap.size, 2, none⟩) (by show w.heap.size < _; omega)).trans (by simp only [World.cell?, HA]; rfl)
  have q3 : ((w.alloc (.cells #[.int .i64 3, .slice a1 n c1, .slice a2 n2 c2, .slice a3 n3 c3] 25)).alloc (.cells #[.bool false, .slice none 0 0, .slice none 0 0] 44)).cell? ⟨w.heap.size, 3, none⟩ = some (.slice a3 n3 c3) := (bB.cell (p := ⟨w.heap.size, 3, none⟩) (by show w.heap.size < _; omega)).trans (by simp only [World.cell?, HA]; rfl)
  have hsz : ((w.alloc (.cells #[.int .i64 3, .slice a1 n c1, .slice a2 n2 c2, .slice a3 n3 c3] 25)).alloc (.cells #[.bool false, .slice none 0 0, .slice none 0 0] 44)).heap.size = w.heap.size + 2 := by simp
  clear HA bB hs1
  go_enter Tryd.func14, Tryd.ntmps14
  go_wp2_with fail
  generalize ((w.alloc (.cells #[.int .i64 3, .slice a1 n c1, .slice a2 n2 c2, .slice a3 n3 c3] 25)).alloc (.cells #[.bool false, .slice none 0 0, .slice none 0 0] 44)) = W0 at *
  have VP : Hid (Vw p a1 W0) := vp.out W0 l0
  obtain ⟨h, eh⟩ : ∃ h, h = w.heap.size := ⟨_, rfl⟩
  have EH : Hid (h = w.heap.size) := eh
  have L0 : Hid (Below w.heap.size w W0) := l0
  have X0 : Hid (B3 (h + 1) W0) := eh ▸ x0
  have NB0 : Hid (NB (h + 1) W0) := eh ▸ nb0
  have HSZ : Hid (W0.heap.size = h + 2) := by show _ = _; rw [eh]; exact hsz
  rw [← eh] at q0 q1 q2 q3 ⊢
  clear eh l0 x0 nb0 vp hsz
  go_loopw [4, 20] (fun B s wr => ∃ k : Nat, k ≤ n ∧ s = .int .i64 (k : Int) ∧ B = .bool (pb (p.take k)) ∧ W0 = wr) (fun _ s _ => ((n : Int) - intOf s).toNat)
  case atStart => exact ⟨0, Nat.zero_le _, rfl, rfl, rfl⟩
  case round =>
    obtain ⟨k, hk, rfl, rfl, rfl⟩ := hrel
    by_cases h1 : k < n
    · have d1 : decide ((k : Int) < (n : Int)) = true := decide_eq_true (by omega)
      have d2 : decide (k < n) = true := decide_eq_true h1
      obtain ⟨g, off, rfl, hg, hc⟩ := VP.out (by have := hn.out; omega)
      have c0 := hc k (by have := hn.out; omega)
      have hw := Nb.stp k (by have := hz.out; show _ ≤ _; omega)
      have HP : Hid (pb (p.take (k + 1)) = (pb (p.take k) && decide (bz p k < 16))) := pb_snoc p k (by have := hn.out; omega)
      clear hc hg
      generalize bz p k = X at *
      obtain ⟨B1, hB1⟩ : ∃ B1, B1 = pb (p.take (k + 1)) := ⟨_, rfl⟩
      have HB1 : Hid (B1 = pb (p.take (k + 1))) := hB1
      rw [← hB1] at HP
      clear hB1
      generalize pb (p.take k) = B0 at *
      cases B0 with
      | false =>
        have e : Hid (B1 = false) := HP.out
        clear HP
        go_wp2_with fail
        have hw := hw.out
        go_roundw
        case rel => exact ⟨k + 1, h1, Nb.step_v k _ hw, by rw [← HB1.out, e.out], trivial⟩
        case measure => exact Nb.msr k n h1 _ hw
      | true =>
        by_cases hx : X < 16
        · have t1 : decide (X < 16) = true := decide_eq_true hx
          have e : Hid (B1 = true) := by have := HP.out; rwa [t1] at this
          clear HP hx
          go_wp2_with fail
          have hw := hw.out
          go_roundw
          case rel => exact ⟨k + 1, h1, Nb.step_v k _ hw, by rw [← HB1.out, e.out], trivial⟩
          case measure => exact Nb.msr k n h1 _ hw
        · have t1 : decide (X < 16) = false := decide_eq_false hx
          have e : Hid (B1 = false) := by have := HP.out; rwa [t1] at this
          clear HP hx
          go_wp2_with fail
          have hw := hw.out
          go_roundw
          case rel => exact ⟨k + 1, h1, Nb.step_v k _ hw, by rw [← HB1.out, e.out], trivial⟩
          case measure => exact Nb.msr k n h1 _ hw
    · have hkl : k = n := by omega
      subst hkl
      have ep : Hid (p.take k = p) := by show _ = _; rw [hn.out, List.take_length]
      rw [ep.out]
      clear ep h1 hk
      generalize pb p = B at *
      obtain rfl := h3.out
      have t1 : ¬ (n2 : Int) ≤ 1024 := by have := h2.out; omega
      have t2 : decide ((n2 : Int) ≤ 1024) = false := decide_eq_false t1
      have l1 := L0.out
      go_upto_region 31 with fail
      go_wp2_with (refine wpList_st3b rfl rfl rfl rfl X0.out ?_)
      intro w6 g6 b6 z0 z1 z2
      have l6 : Hid (Below w.heap.size w w6) := l1.trans ⟨g6.os, g6.tape, g6.output, g6.size, fun j hj => g6.block j (by have := l1.size; omega) (fun e => by injection e with e; have := EH.out; omega)⟩
      clear g6 b6 l1
      go_wp2_with fail
      exact bodyPost_ret (v := .tuple #[.agg #[.bool false, .slice none 0 0, .slice none 0 0], .bool false]) (resI2 _ _ _ (h + 1) 2 3 _ _ _ _ rfl rfl rfl z0 z1 z2) rfl ⟨(.bool false, .slice none 0 0, .slice none 0 0), rfl, nofun, l6.out, ⟨_, _, _, _, _, _, _, rfl⟩⟩
set_option maxHeartbeats 4000000 in
set_option maxRecDepth 100000 in
theorem si_leaf (a1 a2 a3 : Option Addr) (n c1 n2 c2 n3 c3 : Nat) (p : List UInt8) (w : World) (hn : Hid (n = p.length)) (hz : Hid (n ≤ 4194300)) (vp : Hid (∀ W, Below w.heap.size w W → Vw p a1 W)) (T : List UInt8) (HB : Hid (pb p = true)) (KT : Hid (∀ (a : Option Addr) (m c : Nat) (wx : World), Calls Tryd.prog 27 #[.slice a m c] wx fun e w' => e = .returned (.agg #[.bool false, .slice a m c, .slice none 0 0]) ∧ Below wx.heap.size wx w')) (KL : Hid (∀ (a : Option Addr) (m c : Nat) (wx : World), Calls Tryd.prog 29 #[.slice a m c] wx fun e w' => e = .returned (.agg #[.bool true, .slice none 0 0, .slice a m c]) ∧ Below wx.heap.size wx w')) (KN : Hid (∀ wx : World, Below w.heap.size w wx → Calls Tryd.prog 28 #[.slice a1 n c1, .bool true] wx fun e w' => ∃ v z, e = .returned (.tuple #[v, .int .i64 z]) ∧ Sl T v w' ∧ Below wx.heap.size wx w')) (u : List UInt8) (hu : Hid (∀ W, Below w.heap.size w W → Sl u (.slice a2 n2 c2) W)) (h2 : Hid (0 < n2)) (h3 : Hid (n2 ≤ 1024)) :
    Calls Tryd.prog 14 #[.agg #[.int .i64 1, .slice a1 n c1, .slice a2 n2 c2, .slice a3 n3 c3]] w fun e w' => ∃ v, e = .returned (.tuple #[v3 v, .bool true]) ∧ (true = true → Iv (fun _ => True) w' (.mk true [] [.mk false T [], .mk false u []]) v) ∧ Below w.heap.size w w' ∧ Fm v := by
  have l0 : Below w.heap.size w ((w.alloc (.cells #[.int .i64 1, .slice a1 n c1, .slice a2 n2 c2, .slice a3 n3 c3] 25)).alloc (.cells #[.bool false, .slice none 0 0, .slice none 0 0] 44)) := ((Below.refl _ _).alloc (Nat.le_refl _) _).alloc (by simp) _
  have hs1 : (w.alloc (.cells #[.int .i64 1, .slice a1 n c1, .slice a2 n2 c2, .slice a3 n3 c3] 25)).heap.size = w.heap.size + 1 := by simp
  have x0 : B3 (w.heap.size + 1) ((w.alloc (.cells #[.int .i64 1, .slice a1 n c1, .slice a2 n2 c2, .slice a3 n3 c3] 25)).alloc (.cells #[.bool false, .slice none 0 0, .slice none 0 0] 44)) := hs1 ▸ B3_new (w.alloc (.cells #[.int .i64 1, .slice a1 n c1, .slice a2 n2 c2, .slice a3 n3 c3] 25))
  have nb0 : NB (w.heap.size + 1) ((w.alloc (.cells #[.int .i64 1, .slice a1 n c1, .slice a2 n2 c2, .slice a3 n3 c3] 25)).alloc (.cells #[.bool false, .slice none 0 0, .slice none 0 0] 44)) := hs1 ▸ NB_new (w.alloc (.cells #[.int .i64 1, .slice a1 n c1, .slice a2 n2 c2, .slice a3 n3 c3] 25))
  have HA := heap_alloc_new w (.cells #[.int .i64 1, .slice a1 n c1, .slice a2 n2 c2, .slice a3 n3 c3] 25)
  have bB : Below (w.heap.size + 1) (w.alloc (.cells #[.int .i64 1, .slice a1 n c1, .slice a2 n2 c2, .slice a3 n3 c3] 25)) ((w.alloc (.cells #[.int .i64 1, .slice a1 n c1, .slice a2 n2 c2, .slice a3 n3 c3] 25)).alloc (.cells #[.bool false, .slice none 0 0, .slice none 0 0] 44)) := (Below.refl _ _).alloc (by omega) _
  have q0 : ((w.alloc (.cells #[.int .i64 1, .slice a1 n c1, .slice a2 n2 c2, .slice a3 n3 c3] 25)).alloc (.cells #[.bool false, .slice none 0 0, .slice none 0 0] 44)).cell? ⟨w.heap.size, 0, none⟩ = some (.int .i64 1) := (bB.cell (p := ⟨w.heap.size, 0, none⟩) (by show w.heap.size < _; omega)).trans (by simp only [World.cell?, HA]; rfl)
  have q1 : ((w.alloc (.cells #[.int .i64 1, .slice a1 n c1, .slice a2 n2 c2, .slice a3 n3 c3] 25)).alloc (.cells #[.bool false, .slice none 0 0, .slice none 0 0] 44)).cell? ⟨w.heap.size, 1, none⟩ = some (.slice a1 n c1) := (bB.cell (p := ⟨w.heap.size, 1, none⟩) (by show w.heap.size < _; omega)).trans (by simp only [World.cell?, HA]; rfl)
  have q2 : ((w.alloc (.cells #[.int .i64 1, .slice a1 n c1, .slice a2 n2 c2, .slice a3 n3 c3] 25)).alloc (.cells #[.bool false, .slice none 0 0, .slice none 0 0] 44)).cell? ⟨w.heap.size, 2, none⟩ = some (.slice a2 n2 c2) := (bB.cell (p := ⟨w.heap.size, 2, none⟩) (by show w.heap.size < _; omega)).trans (by simp only [World.cell?, HA]; rfl)
  have q3 : ((w.alloc (.cells #[.int .i64 1, .slice a1 n c1, .slice a2 n2 c2, .slice a3 n3 c3] 25)).alloc (.cells #[.bool false, .slice none 0 0, .slice none 0 0] 44)).cell? ⟨w.heap.size, 3, none⟩ = some (.slice a3 n3 c3) := (bB.cell (p := ⟨w.heap.size, 3, none⟩) (by show w.heap.size < _; omega)).trans (by simp only [World.cell?, HA]; rfl)
  have hsz : ((w.alloc (.cells #[.int .i64 1, .slice a1 n c1, .slice a2 n2 c2, .slice a3 n3 c3] 25)).alloc (.cells #[.bool false, .slice none 0 0, .slice none 0 0] 44)).heap.size = w.heap.size + 2 := by simp
  clear HA bB hs1
  go_enter Tryd.func14, Tryd.ntmps14
  go_wp2_with fail
  generalize ((w.alloc (.cells #[.int .i64 1, .slice a1 n c1, .slice a2 n2 c2, .slice a3 n3 c3] 25)).alloc (.cells #[.bool false, .slice none 0 0, .slice none 0 0] 44)) = W0 at *
  have VP : Hid (Vw p a1 W0) := vp.out W0 l0
  obtain ⟨h, eh⟩ : ∃ h, h = w.heap.size := ⟨_, rfl⟩
  have EH : Hid (h = w.heap.size) := eh
  have L0 : Hid (Below w.heap.size w W0) := l0
  have X0 : Hid (B3 (h + 1) W0) := eh ▸ x0
  have NB0 : Hid (NB (h + 1) W0) := eh ▸ nb0
  have HSZ : Hid (W0.heap.size = h + 2) := by show _ = _; rw [eh]; exact hsz
  rw [← eh] at q0 q1 q2 q3 ⊢
  clear eh l0 x0 nb0 vp hsz
  go_loopw [4, 20] (fun B s wr => ∃ k : Nat, k ≤ n ∧ s = .int .i64 (k : Int) ∧ B = .bool (pb (p.take k)) ∧ W0 = wr) (fun _ s _ => ((n : Int) - intOf s).toNat)
  case atStart => exact ⟨0, Nat.zero_le _, rfl, rfl, rfl⟩
  case round =>
    obtain ⟨k, hk, rfl, rfl, rfl⟩ := hrel
    by_cases h1 : k < n
    · have d1 : decide ((k : Int) < (n : Int)) = true := decide_eq_true (by omega)
      have d2 : decide (k < n) = true := decide_eq_true h1
      obtain ⟨g, off, rfl, hg, hc⟩ := VP.out (by have := hn.out; omega)
      have c0 := hc k (by have := hn.out; omega)
      have hw := Nb.stp k (by have := hz.out; show _ ≤ _; omega)
      have HP : Hid (pb (p.take (k + 1)) = (pb (p.take k) && decide (bz p k < 16))) := pb_snoc p k (by have := hn.out; omega)
      clear hc hg
      generalize bz p k = X at *
      obtain ⟨B1, hB1⟩ : ∃ B1, B1 = pb (p.take (k + 1)) := ⟨_, rfl⟩
      have HB1 : Hid (B1 = pb (p.take (k + 1))) := hB1
      rw [← hB1] at HP
      clear hB1
      generalize pb (p.take k) = B0 at *
      cases B0 with
      | false =>
        have e : Hid (B1 = false) := HP.out
        clear HP
        go_wp2_with fail
        have hw := hw.out
        go_roundw
        case rel => exact ⟨k + 1, h1, Nb.step_v k _ hw, by rw [← HB1.out, e.out], trivial⟩
        case measure => exact Nb.msr k n h1 _ hw
      | true =>
        by_cases hx : X < 16
        · have t1 : decide (X < 16) = true := decide_eq_true hx
          have e : Hid (B1 = true) := by have := HP.out; rwa [t1] at this
          clear HP hx
          go_wp2_with fail
          have hw := hw.out
          go_roundw
          case rel => exact ⟨k + 1, h1, Nb.step_v k _ hw, by rw [← HB1.out, e.out], trivial⟩
          case measure => exact Nb.msr k n h1 _ hw
        · have t1 : decide (X < 16) = false := decide_eq_false hx
          have e : Hid (B1 = false) := by have := HP.out; rwa [t1] at this
          clear HP hx
          go_wp2_with fail
          have hw := hw.out
          go_roundw
          case rel => exact ⟨k + 1, h1, Nb.step_v k _ hw, by rw [← HB1.out, e.out], trivial⟩
          case measure => exact Nb.msr k n h1 _ hw
    · have hkl : k = n := by omega
      subst hkl
      have ep : Hid (p.take k = p) := by show _ = _; rw [hn.out, List.take_length]
      rw [ep.out]
      clear ep h1 hk
      rw [HB.out]
      have t0 : (1 : Int) ≤ (n2 : Int) := by have := h2.out; omega
      have t1 : (n2 : Int) ≤ 1024 := by have := h3.out; omega
      have t2 : decide ((n2 : Int) ≤ 1024) = true := decide_eq_true t1
      have t3 : decide ((n2 : Int) ≥ 1) = true := decide_eq_true t0
      have L00 := L0.out
      go_wp2_with fail
      refine (KN.out _ L00).mono (fun e w1 he => ?_)
      obtain ⟨v, z, rfl, s1, b1⟩ := he
      have l1 : Below w.heap.size w w1 := L00.trans (b1.mono L00.size)
      have x1 : B3 (h + 1) w1 := B3_gb (r := none) X0.out (gb_below b1) nofun
      have l1b := b1
      obtain ⟨at1, ct1, rfl⟩ := Sl_fm s1
      have HS1 : Hid (Sl T (.slice at1 T.length ct1) w1) := s1
      have r2 := (b1.cell (p := ⟨h, 2, none⟩) (by have := HSZ.out; show h < _; omega)).trans q2
      have r3 := (b1.cell (p := ⟨h, 3, none⟩) (by have := HSZ.out; show h < _; omega)).trans q3
      have HW1 : Hid (h + 1 < w1.heap.size) := by have := HSZ.out; have := b1.size; show h + 1 < _; omega
      clear b1 KN q0 q1 q2 q3 s1 L00
      generalize T.length = tn at *
      have hL : RG.Lasts (fun wx => Below w1.heap.size w1 wx) (fun _ _ _ => True) := ⟨fun _ _ h hb => h.trans (hb.mono h.size), fun _ _ _ _ _ _ => trivial⟩
      have HC2 : Hid (w1.cell? ⟨h, 2, none⟩ = some (.slice a2 n2 c2)) := r2
      clear r2 r3
      go_wp2_with fail
      refine RG.wp_region_gen (fun wx => Below w1.heap.size w1 wx) (fun _ _ _ => True) (fun _ _ => True) [0, 0, 0, 0, 0, 2, 2, 2, 2] (by kernel_rfl) (by kernel_rfl) ((Below.refl _ _).drew) ?_
      dsimp only [List.toList_toArray]
      refine RG.go1 (v := ?_) (a' := ?_) hL (by decide) rfl ?_ ?_ ?_
      rotate_left 2
      · intro K wx hS hK
        go_simp
        exact hK _ (Below.refl _ _)
      · simp only [Act.put, List.setIfInBounds_toArray, List.set_cons_succ, List.set_cons_zero]
        rfl
      refine RG.go1 (v := ?_) (a' := ?_) hL (by decide) rfl ?_ ?_ ?_
      rotate_left 2
      · intro K wx hS hK
        go_simp
        refine (KT.out _ _ _ _).mono (fun e w2 he => ?_)
        refine ⟨_, he.1, ?_⟩
        exact hK _ he.2
      · simp only [Act.put, List.setIfInBounds_toArray, List.set_cons_succ, List.set_cons_zero]
        rfl
      refine RG.go1 (v := ?_) (a' := ?_) hL (by decide) rfl ?_ ?_ ?_
      rotate_left 2
      · intro K wx hS hK
        go_simp
        exact hK _ (Below.refl _ _)
      · simp only [Act.put, List.setIfInBounds_toArray, List.set_cons_succ, List.set_cons_zero]
        rfl
      refine RG.go1 (v := ?_) (a' := ?_) hL (by decide) rfl ?_ ?_ ?_
      rotate_left 2
      · intro K wx hS hK
        have y0 := (hS.cell (p := ⟨h, 2, none⟩) (by have := HW1.out; show h < _; omega)).trans HC2.out
        go_simp
        exact hK _ (Below.refl _ _)
      · simp only [Act.put, List.setIfInBounds_toArray, List.set_cons_succ, List.set_cons_zero]
        rfl
      refine RG.go1 (v := ?_) (a' := ?_) hL (by decide) rfl ?_ ?_ ?_
      rotate_left 2
      · intro K wx hS hK
        go_simp
        refine (KT.out _ _ _ _).mono (fun e w2 he => ?_)
        refine ⟨_, he.1, ?_⟩
        exact hK _ he.2
      · simp only [Act.put, List.setIfInBounds_toArray, List.set_cons_succ, List.set_cons_zero]
        rfl
      refine RG.goT ?_
      refine RG.goT ?_
      refine RG.goT ?_
      refine RG.goT ?_
      refine RG.go_end ?_
      intro U w9 m9 y9 x9
      simp +decide (maxSteps := 1000000) only [RG.tl, RG.putN, if_true, if_false, Act.put, List.setIfInBounds_toArray, List.set_cons_succ, List.set_cons_zero, Nat.reduceAdd]
      have IV0 := iv_twoS (W := w9) (NB_below (NB_below NB0.out l1b) m9) (Sl_below HS1.out m9) (hu.out _ (l1.trans (m9.mono l1.size))) 44
      have l9 := l1.trans (m9.mono l1.size)
      have x9' : B3 (h + 1) w9 := B3_gb (r := none) x1 (gb_below m9) nofun
      have lA := l9.alloc l9.size (.cells #[.bool false, .slice at1 tn ct1, .slice none 0 0, .bool false, .slice a2 n2 c2, .slice none 0 0] 44)
      have xA := B3_gb (r := none) x9' (World.grownBy_alloc w9 (.cells #[.bool false, .slice at1 tn ct1, .slice none 0 0, .bool false, .slice a2 n2 c2, .slice none 0 0] 44) none) nofun
      clear x9 y9 l9 x9' m9 hL HC2 x1 l1 l1b
      go_wp2_with fail
      refine (KL.out _ _ _ _).mono (fun e w2 he => ?_)
      obtain ⟨rfl, b2⟩ := he
      have IV2 := Iv_below IV0 b2
      have l2 := lA.trans (b2.mono lA.size)
      have x2 := B3_gb (r := none) xA (gb_below b2) nofun
      clear IV0 lA xA b2 KL
      go_wp2_with (refine wpList_st3b rfl rfl rfl rfl x2 ?_)
      intro w6 g6 b6 z0 z1 z2
      have l6 : Hid (Below w.heap.size w w6) := l2.trans ⟨g6.os, g6.tape, g6.output, g6.size, fun j hj => g6.block j (by have := l2.size; omega) (fun e => by injection e with e; have := EH.out; omega)⟩
      have IV6 : Hid (Iv (fun _ => True) w6 (.mk true [] [.mk false T [], .mk false u []]) (.bool true, .slice none 0 0, .slice (some ⟨w9.heap.size, 0, none⟩) 2 2)) := Iv_mono (Iv_gb IV2 g6 (fun k hk e => by injection e with e; exact hk e)) (fun _ _ _ => trivial)
      clear g6 b6 l2 x2 IV2
      go_wp2_with fail
      exact bodyPost_ret (v := .tuple #[.agg #[.bool true, .slice none 0 0, .slice (some ⟨w9.heap.size, 0, none⟩) 2 2], .bool true]) (resI2 _ _ _ (h + 1) 2 3 _ _ _ _ rfl rfl rfl z0 z1 z2) rfl ⟨(.bool true, .slice none 0 0, .slice (some ⟨w9.heap.size, 0, none⟩) 2 2), rfl, fun _ => IV6.out, l6.out, ⟨_, _, _, _, _, _, _, rfl⟩⟩
set_option maxHeartbeats 4000000 in
set_option maxRecDepth 100000 in
theorem si_road (a1 a2 a3 : Option Addr) (n c1 n2 c2 n3 c3 : Nat) (p : List UInt8) (w : World) (hn : Hid (n = p.length)) (hz : Hid (n ≤ 4194300)) (vp : Hid (∀ W, Below w.heap.size w W → Vw p a1 W)) (T : List UInt8) (HB : Hid (pb p = true)) (KT : Hid (∀ (a : Option Addr) (m c : Nat) (wx : World), Calls Tryd.prog 27 #[.slice a m c] wx fun e w' => e = .returned (.agg #[.bool false, .slice a m c, .slice none 0 0]) ∧ Below wx.heap.size wx w')) (KL : Hid (∀ (a : Option Addr) (m c : Nat) (wx : World), Calls Tryd.prog 29 #[.slice a m c] wx fun e w' => e = .returned (.agg #[.bool true, .slice none 0 0, .slice a m c]) ∧ Below wx.heap.size wx w')) (KN : Hid (∀ wx : World, Below w.heap.size w wx → Calls Tryd.prog 28 #[.slice a1 n c1, .bool false] wx fun e w' => ∃ v z, e = .returned (.tuple #[v, .int .i64 z]) ∧ Sl T v w' ∧ Below wx.heap.size wx w')) (u : List UInt8) (g off ci : Nat) (ai : Option Addr) (ha3 : Hid (a3 = some ⟨g, off, none⟩)) (hc0 : Hid (g < w.heap.size ∧ w.cell? ⟨g, off, none⟩ = some (.slice ai 32 ci))) (hu : Hid (∀ W, Below w.heap.size w W → Sl u (.slice ai 32 ci) W)) (h2 : Hid (0 < n)) (h3 : Hid (n3 = 1)) :
    Calls Tryd.prog 14 #[.agg #[.int .i64 2, .slice a1 n c1, .slice a2 n2 c2, .slice a3 n3 c3]] w fun e w' => ∃ v, e = .returned (.tuple #[v3 v, .bool true]) ∧ (true = true → Iv (fun _ => True) w' (.mk true [] [.mk false T [], .mk false u []]) v) ∧ Below w.heap.size w w' ∧ Fm v := by
  have l0 : Below w.heap.size w ((w.alloc (.cells #[.int .i64 2, .slice a1 n c1, .slice a2 n2 c2, .slice a3 n3 c3] 25)).alloc (.cells #[.bool false, .slice none 0 0, .slice none 0 0] 44)) := ((Below.refl _ _).alloc (Nat.le_refl _) _).alloc (by simp) _
  have hs1 : (w.alloc (.cells #[.int .i64 2, .slice a1 n c1, .slice a2 n2 c2, .slice a3 n3 c3] 25)).heap.size = w.heap.size + 1 := by simp
  have x0 : B3 (w.heap.size + 1) ((w.alloc (.cells #[.int .i64 2, .slice a1 n c1, .slice a2 n2 c2, .slice a3 n3 c3] 25)).alloc (.cells #[.bool false, .slice none 0 0, .slice none 0 0] 44)) := hs1 ▸ B3_new (w.alloc (.cells #[.int .i64 2, .slice a1 n c1, .slice a2 n2 c2, .slice a3 n3 c3] 25))
  have nb0 : NB (w.heap.size + 1) ((w.alloc (.cells #[.int .i64 2, .slice a1 n c1, .slice a2 n2 c2, .slice a3 n3 c3] 25)).alloc (.cells #[.bool false, .slice none 0 0, .slice none 0 0] 44)) := hs1 ▸ NB_new (w.alloc (.cells #[.int .i64 2, .slice a1 n c1, .slice a2 n2 c2, .slice a3 n3 c3] 25))
  have HA := heap_alloc_new w (.cells #[.int .i64 2, .slice a1 n c1, .slice a2 n2 c2, .slice a3 n3 c3] 25)
  have bB : Below (w.heap.size + 1) (w.alloc (.cells #[.int .i64 2, .slice a1 n c1, .slice a2 n2 c2, .slice a3 n3 c3] 25)) ((w.alloc (.cells #[.int .i64 2, .slice a1 n c1, .slice a2 n2 c2, .slice a3 n3 c3] 25)).alloc (.cells #[.bool false, .slice none 0 0, .slice none 0 0] 44)) := (Below.refl _ _).alloc (by omega) _
  have q0 : ((w.alloc (.cells #[.int .i64 2, .slice a1 n c1, .slice a2 n2 c2, .slice a3 n3 c3] 25)).alloc (.cells #[.bool false, .slice none 0 0, .slice none 0 0] 44)).cell? ⟨w.heap.size, 0, none⟩ = some (.int .i64 2) := (bB.cell (p := ⟨w.heap.size, 0, none⟩) (by show w.heap.size < _; omega)).trans (by simp only [World.cell?, HA]; rfl)
  have q1 : ((w.alloc (.cells #[.int .i64 2, .slice a1 n c1, .slice a2 n2 c2, .slice a3 n3 c3] 25)).alloc (.cells #[.bool false, .slice none 0 0, .slice none 0 0] 44)).cell? ⟨w.heap.size, 1, none⟩ = some (.slice a1 n c1) := (bB.cell (p := ⟨w.heap.size, 1, none⟩) (by show w.heap.size < _; omega)).trans (by simp only [World.cell?, HA]; rfl)
  have q2 : ((w.alloc (.cells #[.int .i64 2, .slice a1 n c1, .slice a2 n2 c2, .slice a3 n3 c3] 25)).alloc (.cells #[.bool false, .slice none 0 0, .slice none 0 0] 44)).cell? ⟨w.heap.size, 2, none⟩ = some (.slice a2 n2 c2) := (bB.cell (p := ⟨w.heap.size, 2, none⟩) (by show w.heap.size < _; omega)).trans (by simp only [World.cell?, HA]; rfl)
  have q3 : ((w.alloc (.cells #[.int .i64 2, .slice a1 n c1, .slice a2 n2 c2, .slice a3 n3 c3] 25)).alloc (.cells #[.bool false, .slice none 0 0, .slice none 0 0] 44)).cell? ⟨w.heap.size, 3, none⟩ = some (.slice a3 n3 c3) := (bB.cell (p := ⟨w.heap.size, 3, none⟩) (by show w.heap.size < _; omega)).trans (by simp only [World.cell?, HA]; rfl)
  have hsz : ((w.alloc (.cells #[.int .i64 2, .slice a1 n c1, .slice a2 n2 c2, .slice a3 n3 c3] 25)).alloc (.cells #[.bool false, .slice none 0 0, .slice none 0 0] 44)).heap.size = w.heap.size + 2 := by simp
  clear HA bB hs1
  go_enter Tryd.func14, Tryd.ntmps14
  go_wp2_with fail
  generalize ((w.alloc (.cells #[.int .i64 2, .slice a1 n c1, .slice a2 n2 c2, .slice a3 n3 c3] 25)).alloc (.cells #[.bool false, .slice none 0 0, .slice none 0 0] 44)) = W0 at *
  have VP : Hid (Vw p a1 W0) := vp.out W0 l0
  obtain ⟨h, eh⟩ : ∃ h, h = w.heap.size := ⟨_, rfl⟩
  have EH : Hid (h = w.heap.size) := eh
  have L0 : Hid (Below w.heap.size w W0) := l0
  have X0 : Hid (B3 (h + 1) W0) := eh ▸ x0
  have NB0 : Hid (NB (h + 1) W0) := eh ▸ nb0
  have HSZ : Hid (W0.heap.size = h + 2) := by show _ = _; rw [eh]; exact hsz
  rw [← eh] at q0 q1 q2 q3 ⊢
  clear eh l0 x0 nb0 vp hsz
  go_loopw [4, 20] (fun B s wr => ∃ k : Nat, k ≤ n ∧ s = .int .i64 (k : Int) ∧ B = .bool (pb (p.take k)) ∧ W0 = wr) (fun _ s _ => ((n : Int) - intOf s).toNat)
  case atStart => exact ⟨0, Nat.zero_le _, rfl, rfl, rfl⟩
  case round =>
    obtain ⟨k, hk, rfl, rfl, rfl⟩ := hrel
    by_cases h1 : k < n
    · have d1 : decide ((k : Int) < (n : Int)) = true := decide_eq_true (by omega)
      have d2 : decide (k < n) = true := decide_eq_true h1
      obtain ⟨g, off, rfl, hg, hc⟩ := VP.out (by have := hn.out; omega)
      have c0 := hc k (by have := hn.out; omega)
      have hw := Nb.stp k (by have := hz.out; show _ ≤ _; omega)
      have HP : Hid (pb (p.take (k + 1)) = (pb (p.take k) && decide (bz p k < 16))) := pb_snoc p k (by have := hn.out; omega)
      clear hc hg
      generalize bz p k = X at *
      obtain ⟨B1, hB1⟩ : ∃ B1, B1 = pb (p.take (k + 1)) := ⟨_, rfl⟩
      have HB1 : Hid (B1 = pb (p.take (k + 1))) := hB1
      rw [← hB1] at HP
      clear hB1
      generalize pb (p.take k) = B0 at *
      cases B0 with
      | false =>
        have e : Hid (B1 = false) := HP.out
        clear HP
        go_wp2_with fail
        have hw := hw.out
        go_roundw
        case rel => exact ⟨k + 1, h1, Nb.step_v k _ hw, by rw [← HB1.out, e.out], trivial⟩
        case measure => exact Nb.msr k n h1 _ hw
      | true =>
        by_cases hx : X < 16
        · have t1 : decide (X < 16) = true := decide_eq_true hx
          have e : Hid (B1 = true) := by have := HP.out; rwa [t1] at this
          clear HP hx
          go_wp2_with fail
          have hw := hw.out
          go_roundw
          case rel => exact ⟨k + 1, h1, Nb.step_v k _ hw, by rw [← HB1.out, e.out], trivial⟩
          case measure => exact Nb.msr k n h1 _ hw
        · have t1 : decide (X < 16) = false := decide_eq_false hx
          have e : Hid (B1 = false) := by have := HP.out; rwa [t1] at this
          clear HP hx
          go_wp2_with fail
          have hw := hw.out
          go_roundw
          case rel => exact ⟨k + 1, h1, Nb.step_v k _ hw, by rw [← HB1.out, e.out], trivial⟩
          case measure => exact Nb.msr k n h1 _ hw
    · have hkl : k = n := by omega
      subst hkl
      have ep : Hid (p.take k = p) := by show _ = _; rw [hn.out, List.take_length]
      rw [ep.out]
      clear ep h1 hk
      rw [HB.out]
      obtain rfl := h3.out
      obtain rfl := ha3.out
      have t1 : (1 : Int) ≤ (k : Int) := by have := h2.out; omega
      have t2 : decide ((k : Int) ≥ 1) = true := decide_eq_true t1
      have C0 := (L0.out.cell (p := ⟨g, off, none⟩) hc0.out.1).trans hc0.out.2
      have L00 := L0.out
      go_wp2_with fail
      refine (KN.out _ L00).mono (fun e w1 he => ?_)
      obtain ⟨v, z, rfl, s1, b1⟩ := he
      have l1 : Below w.heap.size w w1 := L00.trans (b1.mono L00.size)
      have x1 : B3 (h + 1) w1 := B3_gb (r := none) X0.out (gb_below b1) nofun
      have l1b := b1
      obtain ⟨at1, ct1, rfl⟩ := Sl_fm s1
      have HS1 : Hid (Sl T (.slice at1 T.length ct1) w1) := s1
      have r2 := (b1.cell (p := ⟨h, 2, none⟩) (by have := HSZ.out; show h < _; omega)).trans q2
      have r3 := (b1.cell (p := ⟨h, 3, none⟩) (by have := HSZ.out; show h < _; omega)).trans q3
      have HW1 : Hid (h + 1 < w1.heap.size) := by have := HSZ.out; have := b1.size; show h + 1 < _; omega
      clear b1 KN q0 q1 q2 q3 s1 L00
      generalize T.length = tn at *
      have hL : RG.Lasts (fun wx => Below w1.heap.size w1 wx) (fun _ _ _ => True) := ⟨fun _ _ h hb => h.trans (hb.mono h.size), fun _ _ _ _ _ _ => trivial⟩
      have HC2 : Hid (w1.cell? ⟨h, 3, none⟩ = some (.slice (some ⟨g, off, none⟩) 1 c3) ∧ g < w1.heap.size ∧ w1.cell? ⟨g, off, none⟩ = some (.slice ai 32 ci)) := ⟨r3, Nat.lt_of_lt_of_le hc0.out.1 l1.size, (l1.cell (p := ⟨g, off, none⟩) hc0.out.1).trans hc0.out.2⟩
      clear r2 r3
      go_wp2_with fail
      refine RG.wp_region_gen (fun wx => Below w1.heap.size w1 wx) (fun _ _ _ => True) (fun _ _ => True) [0, 0, 0, 0, 0, 0, 0, 2, 2, 2, 2] (by kernel_rfl) (by kernel_rfl) ((Below.refl _ _).drew) ?_
      dsimp only [List.toList_toArray]
      refine RG.go1 (v := ?_) (a' := ?_) hL (by decide) rfl ?_ ?_ ?_
      rotate_left 2
      · intro K wx hS hK
        go_simp
        exact hK _ (Below.refl _ _)
      · simp only [Act.put, List.setIfInBounds_toArray, List.set_cons_succ, List.set_cons_zero]
        rfl
      refine RG.go1 (v := ?_) (a' := ?_) hL (by decide) rfl ?_ ?_ ?_
      rotate_left 2
      · intro K wx hS hK
        go_simp
        refine (KT.out _ _ _ _).mono (fun e w2 he => ?_)
        refine ⟨_, he.1, ?_⟩
        exact hK _ he.2
      · simp only [Act.put, List.setIfInBounds_toArray, List.set_cons_succ, List.set_cons_zero]
        rfl
      refine RG.go1 (v := ?_) (a' := ?_) hL (by decide) rfl ?_ ?_ ?_
      rotate_left 2
      · intro K wx hS hK
        go_simp
        exact hK _ (Below.refl _ _)
      · simp only [Act.put, List.setIfInBounds_toArray, List.set_cons_succ, List.set_cons_zero]
        rfl
      refine RG.go1 (v := ?_) (a' := ?_) hL (by decide) rfl ?_ ?_ ?_
      rotate_left 2
      · intro K wx hS hK
        have y0 := (hS.cell (p := ⟨h, 3, none⟩) (by have := HW1.out; show h < _; omega)).trans HC2.out.1
        go_simp
        exact hK _ (Below.refl _ _)
      · simp only [Act.put, List.setIfInBounds_toArray, List.set_cons_succ, List.set_cons_zero]
        rfl
      refine RG.go1 (v := ?_) (a' := ?_) hL (by decide) rfl ?_ ?_ ?_
      rotate_left 2
      · intro K wx hS hK
        go_simp
        exact hK _ (Below.refl _ _)
      · simp only [Act.put, List.setIfInBounds_toArray, List.set_cons_succ, List.set_cons_zero]
        rfl
      refine RG.go1 (v := ?_) (a' := ?_) hL (by decide) rfl ?_ ?_ ?_
      rotate_left 2
      · intro K wx hS hK
        have y0 := (hS.cell (p := ⟨g, off, none⟩) HC2.out.2.1).trans HC2.out.2.2
        go_simp
        exact hK _ (Below.refl _ _)
      · simp only [Act.put, List.setIfInBounds_toArray, List.set_cons_succ, List.set_cons_zero]
        rfl
      refine RG.go1 (v := ?_) (a' := ?_) hL (by decide) rfl ?_ ?_ ?_
      rotate_left 2
      · intro K wx hS hK
        go_simp
        refine (KT.out _ _ _ _).mono (fun e w2 he => ?_)
        refine ⟨_, he.1, ?_⟩
        exact hK _ he.2
      · simp only [Act.put, List.setIfInBounds_toArray, List.set_cons_succ, List.set_cons_zero]
        rfl
      refine RG.goT ?_
      refine RG.goT ?_
      refine RG.goT ?_
      refine RG.goT ?_
      refine RG.go_end ?_
      intro U w9 m9 y9 x9
      simp +decide (maxSteps := 1000000) only [RG.tl, RG.putN, if_true, if_false, Act.put, List.setIfInBounds_toArray, List.set_cons_succ, List.set_cons_zero, Nat.reduceAdd]
      have IV0 := iv_twoS (W := w9) (NB_below (NB_below NB0.out l1b) m9) (Sl_below HS1.out m9) (hu.out _ (l1.trans (m9.mono l1.size))) 44
      have l9 := l1.trans (m9.mono l1.size)
      have x9' : B3 (h + 1) w9 := B3_gb (r := none) x1 (gb_below m9) nofun
      have lA := l9.alloc l9.size (.cells #[.bool false, .slice at1 tn ct1, .slice none 0 0, .bool false, .slice ai 32 ci, .slice none 0 0] 44)
      have xA := B3_gb (r := none) x9' (World.grownBy_alloc w9 (.cells #[.bool false, .slice at1 tn ct1, .slice none 0 0, .bool false, .slice ai 32 ci, .slice none 0 0] 44) none) nofun
      clear x9 y9 l9 x9' m9 hL HC2 x1 l1 l1b
      go_wp2_with fail
      refine (KL.out _ _ _ _).mono (fun e w2 he => ?_)
      obtain ⟨rfl, b2⟩ := he
      have IV2 := Iv_below IV0 b2
      have l2 := lA.trans (b2.mono lA.size)
      have x2 := B3_gb (r := none) xA (gb_below b2) nofun
      clear IV0 lA xA b2 KL
      go_wp2_with (refine wpList_st3b rfl rfl rfl rfl x2 ?_)
      intro w6 g6 b6 z0 z1 z2
      have l6 : Hid (Below w.heap.size w w6) := l2.trans ⟨g6.os, g6.tape, g6.output, g6.size, fun j hj => g6.block j (by have := l2.size; omega) (fun e => by injection e with e; have := EH.out; omega)⟩
      have IV6 : Hid (Iv (fun _ => True) w6 (.mk true [] [.mk false T [], .mk false u []]) (.bool true, .slice none 0 0, .slice (some ⟨w9.heap.size, 0, none⟩) 2 2)) := Iv_mono (Iv_gb IV2 g6 (fun k hk e => by injection e with e; exact hk e)) (fun _ _ _ => trivial)
      clear g6 b6 l2 x2 IV2
      go_wp2_with fail
      exact bodyPost_ret (v := .tuple #[.agg #[.bool true, .slice none 0 0, .slice (some ⟨w9.heap.size, 0, none⟩) 2 2], .bool true]) (resI2 _ _ _ (h + 1) 2 3 _ _ _ _ rfl rfl rfl z0 z1 z2) rfl ⟨(.bool true, .slice none 0 0, .slice (some ⟨w9.heap.size, 0, none⟩) 2 2), rfl, fun _ => IV6.out, l6.out, ⟨_, _, _, _, _, _, _, rfl⟩⟩
end Rs
end Go.Proofs.YtefgamhnikeekaaDoor
namespace Go.Proofs.YtefgamhnikeekaaDoor
namespace Rs
open Nb Sp Pk Go.RowKit RI RH
theorem upv_ap {P : Program} {K : Value → World → Prop} {a : Act} {o : Oper} {s x : Operand} {t : TypeId} {v v2 v' : Value} {w w' : World} (ho : o.op = .call { callee := .builtin .append, args := #[s, x], argTypes := #[t, t] }) (hs : a.eval s = v) (hx : a.eval x = v2)
    (hr : (Builtin.append_ #[t, t] o.type #[v, v2]).run P w = .ok v' w') (hK : K v' w') : RS.upv P K ((execOp a.eval o).run P w) := by
  unfold execOp
  simp only [ho, resolve, invoke, builtin, Sem.run_bind, Sem.run_pure, Result.andThen_ok, List.map_toArray, List.map_cons, List.map_nil, hs, hx, hr]
  exact hK
theorem uU_o (U : Nat → Value) {i j : Nat} (x : Value) (h : j ≠ i) : updU U i x j = U j := by unfold updU; rw [if_neg h]
theorem uU_s (U : Nat → Value) (i : Nat) (x : Value) : updU U i x i = x := by simp [updU]
structure F7 (B : Nat) (w2 : World) (hs : List Value) (y : Value) (d : Nat → Bool) (U : Nat → Value) (wx : World) : Prop where
  b : Below B w2 wx
  s : B ≤ wx.heap.size
  p0 : d 0 = true → d 3 = false → wx.ownsRow B 22 1 (U 0) 0 []
  p3 : d 3 = true → d 7 = false → wx.ownsRow B 22 1 (U 3) hs.length hs
  p6 : d 6 = true → d 7 = false → ∃ g, U 6 = .slice (some ⟨g, 0, none⟩) 1 1 ∧ g < wx.heap.size ∧ wx.cell? ⟨g, 0, none⟩ = some y ∧ (d 0 = true → d 3 = false → (U 0).ownBlock ≠ some g) ∧ (d 3 = true → (U 3).ownBlock ≠ some g)
  p7 : d 7 = true → wx.ownsRow B 22 1 (U 7) (hs ++ [y]).length (hs ++ [y])
  q : d 7 = true → d 3 = true ∧ d 6 = true
  r : d 3 = true → d 0 = true
  p8 : d 8 = true → U 8 = .int .i64 ((hs.length + 1 : Nat) : Int)
variable {B : Nat} {w2 : World} {hs : List Value} {y : Value} {d : Nat → Bool} {U : Nat → Value} {wx : World}
theorem F7.keep {i : Nat} (hi : i ≠ 0 ∧ i ≠ 3 ∧ i ≠ 6 ∧ i ≠ 7 ∧ i ≠ 8) (h : F7 B w2 hs y d U wx) : F7 B w2 hs y (don d i) U wx := by
  have e0 : don d i 0 = d 0 := don_other _ _ _ (fun e => hi.1 e.symm)
  have e3 : don d i 3 = d 3 := don_other _ _ _ (fun e => hi.2.1 e.symm)
  have e6 : don d i 6 = d 6 := don_other _ _ _ (fun e => hi.2.2.1 e.symm)
  have e7 : don d i 7 = d 7 := don_other _ _ _ (fun e => hi.2.2.2.1 e.symm)
  have e8 : don d i 8 = d 8 := don_other _ _ _ (fun e => hi.2.2.2.2 e.symm)
  refine ⟨h.b, h.s, ?_, ?_, ?_, ?_, ?_, ?_, ?_⟩
  · rw [e0, e3]; exact h.p0
  · rw [e3, e7]; exact h.p3
  · rw [e6, e7, e0, e3]; exact h.p6
  · rw [e7]; exact h.p7
  · rw [e7, e3, e6]; exact h.q
  · rw [e3, e0]; exact h.r
  · rw [e8]; exact h.p8
theorem own0 (w : World) (B : Nat) (hB : B ≤ w.heap.size) : (w.alloc (.cells #[] 22)).ownsRow B 22 1 (.slice (some ⟨w.heap.size, 0, none⟩) 0 0) 0 [] :=
  ⟨rfl, .inr ⟨w.heap.size, 0, #[], rfl, hB, heap_alloc_new _ _, Nat.le_refl _, Nat.zero_le _, rfl, rfl⟩⟩
theorem F7.step0 (h : F7 B w2 hs y d U wx) (h0 : d 0 = false) : F7 B w2 hs y (don d 0) (updU U 0 (.slice (some ⟨wx.heap.size, 0, none⟩) 0 0)) (wx.alloc (.cells #[] 22)) := by
  have h3 : d 3 = false := by
    cases h3 : d 3
    · rfl
    · have := h.r h3; rw [h0] at this; cases this
  have h7 : d 7 = false := by
    cases h7 : d 7
    · rfl
    · have := (h.q h7).1; rw [h3] at this; cases this
  have e3 : don d 0 3 = false := by rw [don_other _ _ _ (by decide)]; exact h3
  have e6 : don d 0 6 = d 6 := don_other _ _ _ (by decide)
  have e7 : don d 0 7 = false := by rw [don_other _ _ _ (by decide)]; exact h7
  have bA : Below wx.heap.size wx (wx.alloc (.cells #[] 22)) := (Below.refl _ _).alloc (Nat.le_refl _) _
  refine ⟨h.b.trans (bA.mono h.s), Nat.le_trans h.s bA.size, fun _ _ => ?_, fun k => ?_, fun k _ => ?_, fun k => ?_, fun k => ?_, fun k => ?_, by rw [don_other _ _ _ (by decide), uU_o _ _ (by decide)]; exact h.p8⟩
  · rw [uU_s]; exact own0 wx B h.s
  · rw [e3] at k; cases k
  · rw [e6] at k
    obtain ⟨g, g1, g2, g3, g4, g5⟩ := h.p6 k h7
    refine ⟨g, by rw [uU_o _ _ (by decide)]; exact g1, Nat.lt_of_lt_of_le g2 bA.size, (bA.cell (p := ⟨g, 0, none⟩) g2).trans g3, fun _ _ => ?_, fun k => ?_⟩
    · rw [uU_s]
      intro e
      have e : wx.heap.size = g := by simpa [Value.ownBlock] using e
      omega
    · rw [e3] at k; cases k
  · rw [e7] at k; cases k
  · rw [e7] at k; cases k
  · rw [e3] at k; cases k
theorem F7.step6 (h : F7 B w2 hs y d U wx) (h6 : d 6 = false) : F7 B w2 hs y (don d 6) (updU U 6 (.slice (some ⟨wx.heap.size, 0, none⟩) 1 1)) (wx.alloc (.cells #[y] 22)) := by
  have h7 : d 7 = false := by
    cases h7 : d 7
    · rfl
    · have := (h.q h7).2; rw [h6] at this; cases this
  have e0 : don d 6 0 = d 0 := don_other _ _ _ (by decide)
  have e3 : don d 6 3 = d 3 := don_other _ _ _ (by decide)
  have e7 : don d 6 7 = false := by rw [don_other _ _ _ (by decide)]; exact h7
  have bA : Below wx.heap.size wx (wx.alloc (.cells #[y] 22)) := (Below.refl _ _).alloc (Nat.le_refl _) _
  have hn := heap_alloc_new wx (.cells #[y] 22)
  refine ⟨h.b.trans (bA.mono h.s), Nat.le_trans h.s bA.size, ?_, ?_, fun _ _ => ?_, fun k => ?_, fun k => ?_, ?_, by rw [don_other _ _ _ (by decide), uU_o _ _ (by decide)]; exact h.p8⟩
  · rw [e0, e3, uU_o _ _ (by decide)]; exact fun k1 k2 => (h.p0 k1 k2).alloc _
  · rw [e3, e7, uU_o _ _ (by decide)]; exact fun k1 k2 => (h.p3 k1 h7).alloc _
  · refine ⟨wx.heap.size, uU_s _ _ _, by simp, by simp only [World.cell?, hn]; rfl, ?_, ?_⟩
    · rw [e0, e3, uU_o _ _ (by decide)]
      intro k1 k2 e
      have := ((h.p0 k1 k2).lt _ e).2
      omega
    · rw [e3, uU_o _ _ (by decide)]
      intro k1 e
      have := ((h.p3 k1 h7).lt _ e).2
      omega
  · rw [e7] at k; cases k
  · rw [e7] at k; cases k
  · rw [e3, e0]; exact h.r
theorem vl_cells {xs : List Value} {v : Value} {w : World} (h : Vl xs v w) (h0 : 0 < xs.length) : ∃ g off cap, v = .slice (some ⟨g, off, none⟩) xs.length cap ∧ ∀ j u, xs[j]? = some u → w.cell? ((⟨g, off, none⟩ : Addr).add j) = some u := by
  obtain ⟨ao, cap, rfl, hL⟩ := h
  obtain ⟨g, off, rfl, _, hc⟩ := hL h0
  refine ⟨g, off, cap, rfl, fun j u hj => ?_⟩
  rw [add_lit, hc j (List.getElem?_eq_some_iff.1 hj).1, hj]
set_option maxRecDepth 100000 in
theorem F7.step3 (ty : TypeId) {vb : Value} (h : F7 B w2 hs y d U wx) (h0 : d 0 = true) (h3 : d 3 = false) (hv : Vl hs vb wx) (h1 : ∀ u ∈ hs, u.oneCell' = true) (hl : 0 < hs.length) (hz : hs.length ≤ 1048576) :
    ∃ v' w', (Builtin.append_ #[23, 23] ty #[U 0, vb]).run Tryd.prog wx = .ok v' w' ∧ F7 B w2 hs y (don d 3) (updU U 3 v') w' := by
  obtain ⟨i0, hi, hz0, hz1, hz2⟩ := info_parts info_r
  obtain ⟨gv, off, cap, rfl, hc⟩ := vl_cells hv hl
  have ho := h.p0 h0 h3
  have hs' := h.s
  have h7 : d 7 = false := by
    cases h7 : d 7
    · rfl
    · have := (h.q h7).1; rw [h3] at this; cases this
  obtain ⟨G, cap', w', hr, h7', hgr, hG, _⟩ := run_append_lies (P := Tryd.prog) wx 23 ty B 22 i0 (.slice none 0 0) 1 24 Tryd.underlying23 hi hz0 hz1 hz2 rfl (by decide) (U 0) 0 [] ho ⟨gv, off, none⟩ hs.length cap hs (by rw [Nat.mul_one]) hc h1 hl (by unfold maxLen; omega) (by omega) hs' _ rfl
  rw [List.nil_append, Nat.zero_add] at h7'
  rw [Nat.zero_add] at hr
  have hlo := ho.lt
  have e0 : don d 3 0 = d 0 := don_other _ _ _ (by decide)
  have e3 : don d 3 3 = true := don_same _ _
  have e6 : don d 3 6 = d 6 := don_other _ _ _ (by decide)
  have e7 : don d 3 7 = false := by rw [don_other _ _ _ (by decide)]; exact h7
  refine ⟨_, w', hr, ⟨h.b.grown hgr hs' (fun k hk => (hlo k hk).1), Nat.le_trans hs' hgr.size, fun _ k => ?_, fun _ _ => ?_, fun k _ => ?_, fun k => ?_, fun k => ?_, fun _ => ?_, by rw [don_other _ _ _ (by decide), uU_o _ _ (by decide)]; exact h.p8⟩⟩
  · rw [e3] at k; cases k
  · rw [uU_s]; exact h7'
  · rw [e6] at k
    obtain ⟨g, g1, g2, g3, g4, g5⟩ := h.p6 k h7
    refine ⟨g, by rw [uU_o _ _ (by decide)]; exact g1, Nat.lt_of_lt_of_le g2 hgr.size, (World.cell?_of_block (a := ⟨g, 0, none⟩) (hgr.block g g2 (fun e => g4 h0 h3 e.symm))).trans g3, fun _ k => ?_, fun _ => ?_⟩
    · rw [e3] at k; cases k
    · rw [uU_s]
      intro e
      have e : G = g := by simpa [Value.ownBlock] using e
      subst e
      rcases hG with hG | hG
      · exact g4 h0 h3 hG
      · omega
  · rw [e7] at k; cases k
  · rw [e7] at k; cases k
  · rw [e0]; exact h0
set_option maxRecDepth 100000 in
theorem F7.step7 (ty : TypeId) (h : F7 B w2 hs y d U wx) (h3 : d 3 = true) (h6 : d 6 = true) (h7 : d 7 = false) (h1 : y.oneCell' = true) (hz : hs.length ≤ 1048576) :
    ∃ v' w', (Builtin.append_ #[23, 23] ty #[U 3, U 6]).run Tryd.prog wx = .ok v' w' ∧ F7 B w2 hs y (don d 7) (updU U 7 v') w' := by
  obtain ⟨i0, hi, hz0, hz1, hz2⟩ := info_parts info_r
  obtain ⟨g, g1, g2, g3, g4, g5⟩ := h.p6 h6 h7
  have ho := h.p3 h3 h7
  have hs' := h.s
  obtain ⟨G, cap', w', hr, h7', hgr, hG, _⟩ := run_append_lies (P := Tryd.prog) wx 23 ty B 22 i0 (.slice none 0 0) 1 24 Tryd.underlying23 hi hz0 hz1 hz2 rfl (by decide) (U 3) hs.length hs ho ⟨g, 0, none⟩ 1 1 [y] rfl (fun j u hj => by
    match j, hj with
    | 0, hj => simp at hj; rw [← hj, add_lit]; exact g3
    | n + 1, hj => simp at hj) (fun u hu => by rw [List.mem_singleton.1 hu]; exact h1) (by decide) (by unfold maxLen; omega) (by omega) hs' _ rfl
  have hlo := ho.lt
  have e0 : don d 7 0 = d 0 := don_other _ _ _ (by decide)
  have e3 : don d 7 3 = d 3 := don_other _ _ _ (by decide)
  have e6 : don d 7 6 = d 6 := don_other _ _ _ (by decide)
  have e7 : don d 7 7 = true := don_same _ _
  refine ⟨_, w', by rw [g1]; exact hr, ⟨h.b.grown hgr hs' (fun k hk => (hlo k hk).1), Nat.le_trans hs' hgr.size, fun _ k => ?_, fun _ k => ?_, fun _ k => ?_, fun _ => ?_, fun _ => ?_, ?_, by rw [don_other _ _ _ (by decide), uU_o _ _ (by decide)]; exact h.p8⟩⟩
  · rw [e3, h3] at k; cases k
  · rw [e7] at k; cases k
  · rw [e7] at k; cases k
  · rw [uU_s, List.length_append]; exact h7'
  · rw [e3, e6]; exact ⟨h3, h6⟩
  · rw [e3, e0]; exact h.r
theorem F7.step8 (h : F7 B w2 hs y d U wx) : F7 B w2 hs y (don d 8) (updU U 8 (.int .i64 ((hs.length + 1 : Nat) : Int))) wx := by
  have e0 : don d 8 0 = d 0 := don_other _ _ _ (by decide)
  have e3 : don d 8 3 = d 3 := don_other _ _ _ (by decide)
  have e6 : don d 8 6 = d 6 := don_other _ _ _ (by decide)
  have e7 : don d 8 7 = d 7 := don_other _ _ _ (by decide)
  have u0 := uU_o U (i := 8) (j := 0) (.int .i64 ((hs.length + 1 : Nat) : Int)) (by decide)
  have u3 := uU_o U (i := 8) (j := 3) (.int .i64 ((hs.length + 1 : Nat) : Int)) (by decide)
  have u6 := uU_o U (i := 8) (j := 6) (.int .i64 ((hs.length + 1 : Nat) : Int)) (by decide)
  have u7 := uU_o U (i := 8) (j := 7) (.int .i64 ((hs.length + 1 : Nat) : Int)) (by decide)
  refine ⟨h.b, h.s, ?_, ?_, ?_, ?_, ?_, ?_, fun _ => uU_s _ _ _⟩
  · rw [e0, e3, u0]; exact h.p0
  · rw [e3, e7, u3]; exact h.p3
  · rw [e6, e7, e0, e3, u0, u3, u6]; exact h.p6
  · rw [e7, u7]; exact h.p7
  · rw [e7, e3, e6]; exact h.q
  · rw [e3, e0]; exact h.r
end Rs
end Go.Proofs.YtefgamhnikeekaaDoor
namespace Go.Proofs.YtefgamhnikeekaaDoor
namespace Rs
open Nb Sp Pk Go.RowKit
def IA (w9 : World) (gi : Nat) (xs : List Value) (k : Nat) (wr : World) : Prop := ∃ kv, GL w9 gi kv ((xs.take k).map tv) wr
theorem own_form {B e z n : Nat} {v : Value} {xs : List Value} {w : World} (h : w.ownsRow B e z v n xs) : ∃ a m c, v = .slice a m c := by
  rcases h.2 with ⟨h3, _⟩ | ⟨g, cap, cur, h3, _⟩
  · exact ⟨_, _, _, h3⟩
  · exact ⟨_, _, _, h3⟩
theorem own_cells {B e n : Nat} {v : Value} {xs : List Value} {w : World} (h : w.ownsRow B e 1 v n xs) (h0 : 0 < n) : ∃ g cap, v = .slice (some ⟨g, 0, none⟩) n cap ∧ B ≤ g ∧ g < w.heap.size ∧ ∀ j u, xs[j]? = some u → w.cell? ⟨g, j, none⟩ = some u := by
  have hl := h.1
  rcases h.2 with ⟨h3, h4⟩ | ⟨g, cap, cur, h3, h4, h5, h6, h7, h8, h9⟩
  · omega
  · refine ⟨g, cap, h3, h4, Pk.lt_of_heap h5, fun j u hj => ?_⟩
    have hj' := (List.getElem?_eq_some_iff.1 hj).1
    have e : w.cell? ⟨g, j, none⟩ = cur[j]? := by
      simp only [World.cell?, h5]
      exact if_neg (by simp)
    rw [e, ← Array.getElem?_toList, ← hj, ← h9, List.getElem?_take]
    exact (if_pos (by omega)).symm
theorem own_len {B e z n : Nat} {v : Value} {xs : List Value} {w : World} (h : w.ownsRow B e z v n xs) : ∃ a c, v = .slice a n c := by
  rcases h.2 with ⟨h3, rfl⟩ | ⟨g, cap, cur, h3, _⟩
  · exact ⟨_, _, h3⟩
  · exact ⟨_, _, h3⟩
set_option maxHeartbeats 4000000 in
set_option maxRecDepth 100000 in
theorem si_fork (a1 a2 a3 : Option Addr) (n c1 n2 c2 n3 c3 : Nat) (p : List UInt8) (w : World) (hn : Hid (n = p.length)) (hz : Hid (n ≤ 4194300)) (vp : Hid (∀ W, Below w.heap.size w W → Vw p a1 W)) (KT : Hid (∀ (a : Option Addr) (m c : Nat) (wx : World), Calls Tryd.prog 27 #[.slice a m c] wx fun e w' => e = .returned (.agg #[.bool false, .slice a m c, .slice none 0 0]) ∧ Below wx.heap.size wx w')) (KL : Hid (∀ (a : Option Addr) (m c : Nat) (wx : World), Calls Tryd.prog 29 #[.slice a m c] wx fun e w' => e = .returned (.agg #[.bool true, .slice none 0 0, .slice a m c]) ∧ Below wx.heap.size wx w')) (ks : List (List UInt8)) (u : List UInt8) (hs : List Value) (hk : Hid (Hds ks hs w)) (hv : Hid (Vl hs (.slice a3 n3 c3) w)) (hu : Hid (Sl u (.slice a2 n2 c2) w)) (h3 : Hid (n3 = 16)) (h2 : Hid (n2 ≤ 1024)) :
    Calls Tryd.prog 14 #[.agg #[.int .i64 3, .slice a1 n c1, .slice a2 n2 c2, .slice a3 n3 c3]] w fun e w' => ∃ v, e = .returned (.tuple #[v3 v, .bool (ks.all sm && decide (2 ≤ np (ks ++ [u])))]) ∧ ((ks.all sm && decide (2 ≤ np (ks ++ [u]))) = true → Iv (fun _ => True) w' (.mk true [] ((ks ++ [u]).map fun b => .mk false b [])) v) ∧ Below w.heap.size w w' ∧ Fm v := by
  have l0 : Below w.heap.size w ((w.alloc (.cells #[.int .i64 3, .slice a1 n c1, .slice a2 n2 c2, .slice a3 n3 c3] 25)).alloc (.cells #[.bool false, .slice none 0 0, .slice none 0 0] 44)) := ((Below.refl _ _).alloc (Nat.le_refl _) _).alloc (by simp) _
  have hs1 : (w.alloc (.cells #[.int .i64 3, .slice a1 n c1, .slice a2 n2 c2, .slice a3 n3 c3] 25)).heap.size = w.heap.size + 1 := by simp
  have x0 : B3 (w.heap.size + 1) ((w.alloc (.cells #[.int .i64 3, .slice a1 n c1, .slice a2 n2 c2, .slice a3 n3 c3] 25)).alloc (.cells #[.bool false, .slice none 0 0, .slice none 0 0] 44)) := hs1 ▸ B3_new (w.alloc (.cells #[.int .i64 3, .slice a1 n c1, .slice a2 n2 c2, .slice a3 n3 c3] 25))
  have nb0 : NB (w.heap.size + 1) ((w.alloc (.cells #[.int .i64 3, .slice a1 n c1, .slice a2 n2 c2, .slice a3 n3 c3] 25)).alloc (.cells #[.bool false, .slice none 0 0, .slice none 0 0] 44)) := hs1 ▸ NB_new (w.alloc (.cells #[.int .i64 3, .slice a1 n c1, .slice a2 n2 c2, .slice a3 n3 c3] 25))
  have HA := heap_alloc_new w (.cells #[.int .i64 3, .slice a1 n c1, .slice a2 n2 c2, .slice a3 n3 c3] 25)
  have bB : Below (w.heap.size + 1) (w.alloc (.cells #[.int .i64 3, .slice a1 n c1, .slice a2 n2 c2, .slice a3 n3 c3] 25)) ((w.alloc (.cells #[.int .i64 3, .slice a1 n c1, .slice a2 n2 c2, .slice a3 n3 c3] 25)).alloc (.cells #[.bool false, .slice none 0 0, .slice none 0 0] 44)) := (Below.refl _ _).alloc (by omega) _
  have q0 : ((w.alloc (.cells #[.int .i64 3, .slice a1 n c1, .slice a2 n2 c2, .slice a3 n3 c3] 25)).alloc (.cells #[.bool false, .slice none 0 0, .slice none 0 0] 44)).cell? ⟨w.heap.size, 0, none⟩ = some (.int .i64 3) := (bB.cell (p := ⟨w.heap.size, 0, none⟩) (by show w.heap.size < _; omega)).trans (by simp only [World.cell?, HA]; rfl)
  have q1 : ((w.alloc (.cells #[.int .i64 3, .slice a1 n c1, .slice a2 n2 c2, .slice a3 n3 c3] 25)).alloc (.cells #[.bool false, .slice none 0 0, .slice none 0 0] 44)).cell? ⟨w.heap.size, 1, none⟩ = some (.slice a1 n c1) := (bB.cell (p := ⟨w.heap.size, 1, none⟩) (by show w.heap.size < _; omega)).trans (by simp only [World.cell?, HA]; rfl)
  have q2 : ((w.alloc (.cells #[.int .i64 3, .slice a1 n c1, .slice a2 n2 c2, .slice a3 n3 c3] 25)).alloc (.cells #[.bool false, .slice none 0 0, .slice none 0 0] 44)).cell? ⟨w.heap.size, 2, none⟩ = some (.slice a2 n2 c2) := (bB.cell (p := ⟨w.heap.size, 2, none⟩) (by show w.heap.size < _; omega)).trans (by simp only [World.cell?, HA]; rfl)
  have q3 : ((w.alloc (.cells #[.int .i64 3, .slice a1 n c1, .slice a2 n2 c2, .slice a3 n3 c3] 25)).alloc (.cells #[.bool false, .slice none 0 0, .slice none 0 0] 44)).cell? ⟨w.heap.size, 3, none⟩ = some (.slice a3 n3 c3) := (bB.cell (p := ⟨w.heap.size, 3, none⟩) (by show w.heap.size < _; omega)).trans (by simp only [World.cell?, HA]; rfl)
  have hsz : ((w.alloc (.cells #[.int .i64 3, .slice a1 n c1, .slice a2 n2 c2, .slice a3 n3 c3] 25)).alloc (.cells #[.bool false, .slice none 0 0, .slice none 0 0] 44)).heap.size = w.heap.size + 2 := by simp
  clear HA bB hs1
  go_enter Tryd.func14, Tryd.ntmps14
  go_wp2_with fail
  generalize ((w.alloc (.cells #[.int .i64 3, .slice a1 n c1, .slice a2 n2 c2, .slice a3 n3 c3] 25)).alloc (.cells #[.bool false, .slice none 0 0, .slice none 0 0] 44)) = W0 at *
  have VP : Hid (Vw p a1 W0) := vp.out W0 l0
  obtain ⟨h, eh⟩ : ∃ h, h = w.heap.size := ⟨_, rfl⟩
  have EH : Hid (h = w.heap.size) := eh
  have L0 : Hid (Below w.heap.size w W0) := l0
  have X0 : Hid (B3 (h + 1) W0) := eh ▸ x0
  have NB0 : Hid (NB (h + 1) W0) := eh ▸ nb0
  have HSZ : Hid (W0.heap.size = h + 2) := by show _ = _; rw [eh]; exact hsz
  rw [← eh] at q0 q1 q2 q3 ⊢
  clear eh l0 x0 nb0 vp hsz
  go_loopw [4, 20] (fun B s wr => ∃ k : Nat, k ≤ n ∧ s = .int .i64 (k : Int) ∧ B = .bool (pb (p.take k)) ∧ W0 = wr) (fun _ s _ => ((n : Int) - intOf s).toNat)
  case atStart => exact ⟨0, Nat.zero_le _, rfl, rfl, rfl⟩
  case round =>
    obtain ⟨k, hk, rfl, rfl, rfl⟩ := hrel
    by_cases h1 : k < n
    · have d1 : decide ((k : Int) < (n : Int)) = true := decide_eq_true (by omega)
      have d2 : decide (k < n) = true := decide_eq_true h1
      obtain ⟨g, off, rfl, hg, hc⟩ := VP.out (by have := hn.out; omega)
      have c0 := hc k (by have := hn.out; omega)
      have hw := Nb.stp k (by have := hz.out; show _ ≤ _; omega)
      have HP : Hid (pb (p.take (k + 1)) = (pb (p.take k) && decide (bz p k < 16))) := pb_snoc p k (by have := hn.out; omega)
      clear hc hg
      generalize bz p k = X at *
      obtain ⟨B1, hB1⟩ : ∃ B1, B1 = pb (p.take (k + 1)) := ⟨_, rfl⟩
      have HB1 : Hid (B1 = pb (p.take (k + 1))) := hB1
      rw [← hB1] at HP
      clear hB1
      generalize pb (p.take k) = B0 at *
      cases B0 with
      | false =>
        have e : Hid (B1 = false) := HP.out
        clear HP
        go_wp2_with fail
        have hw := hw.out
        go_roundw
        case rel => exact ⟨k + 1, h1, Nb.step_v k _ hw, by rw [← HB1.out, e.out], trivial⟩
        case measure => exact Nb.msr k n h1 _ hw
      | true =>
        by_cases hx : X < 16
        · have t1 : decide (X < 16) = true := decide_eq_true hx
          have e : Hid (B1 = true) := by have := HP.out; rwa [t1] at this
          clear HP hx
          go_wp2_with fail
          have hw := hw.out
          go_roundw
          case rel => exact ⟨k + 1, h1, Nb.step_v k _ hw, by rw [← HB1.out, e.out], trivial⟩
          case measure => exact Nb.msr k n h1 _ hw
        · have t1 : decide (X < 16) = false := decide_eq_false hx
          have e : Hid (B1 = false) := by have := HP.out; rwa [t1] at this
          clear HP hx
          go_wp2_with fail
          have hw := hw.out
          go_roundw
          case rel => exact ⟨k + 1, h1, Nb.step_v k _ hw, by rw [← HB1.out, e.out], trivial⟩
          case measure => exact Nb.msr k n h1 _ hw
    · have hkl : k = n := by omega
      subst hkl
      have ep : Hid (p.take k = p) := by show _ = _; rw [hn.out, List.take_length]
      rw [ep.out]
      clear ep h1 hk
      generalize pb p = B at *
      have HLEN : Hid (hs.length = 16) := by
        obtain ⟨_, _, e, _⟩ := hv.out
        injection e with _ e _
        show _ = _
        rw [← e]; exact h3.out
      obtain rfl := h3.out
      have t1 : (n2 : Int) ≤ 1024 := by have := h2.out; omega
      have t2 : decide ((n2 : Int) ≤ 1024) = true := decide_eq_true t1
      have L00 := L0.out
      go_wp2_with fail
      refine (KL.out _ _ _ _).mono (fun e w1 he => ?_)
      obtain ⟨rfl, b1⟩ := he
      have l1 : Below w.heap.size w w1 := L00.trans (b1.mono L00.size)
      have bA : Below w1.heap.size w1 (w1.alloc (.cells #[.bool true, .slice none 0 0, .slice none 0 0] 44)) := (Below.refl _ _).alloc (Nat.le_refl _) _
      have HL2 : Hid (Below w.heap.size w (w1.alloc (.cells #[.bool true, .slice none 0 0, .slice none 0 0] 44))) := l1.trans (bA.mono l1.size)
      have HX2 : Hid (B3 (h + 1) (w1.alloc (.cells #[.bool true, .slice none 0 0, .slice none 0 0] 44))) := B3_gb (r := none) (B3_gb (r := none) X0.out (gb_below b1) nofun) (gb_below bA) nofun
      have HNB : Hid (NB (h + 1) (w1.alloc (.cells #[.bool true, .slice none 0 0, .slice none 0 0] 44))) := NB_below (NB_below NB0.out b1) bA
      have HLN : Hid (LN w1.heap.size (w1.alloc (.cells #[.bool true, .slice none 0 0, .slice none 0 0] 44))) := LN_new w1
      have HNI : Hid (NB w1.heap.size (w1.alloc (.cells #[.bool true, .slice none 0 0, .slice none 0 0] 44))) := NB_newT w1
      have b2 := b1.trans (bA.mono b1.size)
      have hh : h < W0.heap.size := by have := HSZ.out; omega
      have R2 : Hid (_ = some _) := (b2.cell (p := ⟨h, 2, none⟩) hh).trans q2
      have R3 : Hid (_ = some _) := (b2.cell (p := ⟨h, 3, none⟩) hh).trans q3
      have HW1 : Hid (h + 1 < w1.heap.size) := by have := HSZ.out; have := b1.size; show h + 1 < _; omega
      have HW2 : Hid (h < (w1.alloc (.cells #[.bool true, .slice none 0 0, .slice none 0 0] 44)).heap.size) := by have := HW1.out; have := bA.size; show h < _; omega
      clear b1 l1 bA b2 hh q0 q1 q2 q3 L00 KL X0 NB0 HSZ VP L0 t1 t2 hn hz
      go_upto_region 17 with fail
      generalize w1.alloc (.cells #[.bool true, .slice none 0 0, .slice none 0 0] 44) = w2 at *
      generalize w1.heap.size = gi at *
      have HVL : Hid (∀ wx, Below w2.heap.size w2 wx → Vl hs (.slice a3 16 c3) wx) := fun wx hb => Vl_below (Vl_below hv.out HL2.out) hb
      have HL17 : Hid ((hs ++ [Value.slice a2 n2 c2]).length = 17) := by show _ = _; rw [List.length_append, HLEN.out]; rfl
      have HONE : Hid (∀ v ∈ hs, v.oneCell' = true) := Hds_one' hk.out
      refine RH.wp_region_genI (F7 w2.heap.size w2 hs (.slice a2 n2 c2)) [1, 0, 0, 1, 0, 0, 1, 1, 1, 0] (by kernel_rfl) (by kernel_rfl) (⟨(Below.refl _ _).drew, Nat.le_refl _, nofun, nofun, nofun, nofun, nofun, nofun, nofun⟩) ?_
      dsimp only [List.toList_toArray]
      refine RH.goN (f' := ?_) rfl ?_ ?_ ?_
      rotate_left 1
      · intro U K d wx hI hmay hK
        go_simp
        exact hK _ _ (F7.step0 hI hmay.1)
      · intro U
        simp only [Act.put, List.setIfInBounds_toArray, List.set_cons_succ, List.set_cons_zero]
        rfl
      refine RH.goD (v := ?_) (f' := ?_) rfl ?_ ?_ ?_
      rotate_left 2
      · intro U K d wx hI hmay hK
        go_simp
        exact hK _ (F7.keep (by decide) hI)
      · intro U
        simp only [Act.put, List.setIfInBounds_toArray, List.set_cons_succ, List.set_cons_zero]
        rfl
      refine RH.goD (v := ?_) (f' := ?_) rfl ?_ ?_ ?_
      rotate_left 2
      · intro U K d wx hI hmay hK
        have y0 := (hI.b.cell (p := ⟨h, 3, none⟩) (by have := HW2.out; show h < _; omega)).trans R3.out
        go_simp
        exact hK _ (F7.keep (by decide) hI)
      · intro U
        simp only [Act.put, List.setIfInBounds_toArray, List.set_cons_succ, List.set_cons_zero]
        rfl
      refine RH.goN (f' := ?_) rfl ?_ ?_ ?_
      rotate_left 1
      · intro U K d wx hI hmay hK
        have hd := hmay.2 _ rfl
        simp [Region.binds] at hd
        obtain ⟨v', w', hr, hI'⟩ := F7.step3 23 hI (by simp [hd]) hmay.1 (HVL.out _ hI.b) HONE.out (by rw [HLEN.out]; decide) (by rw [HLEN.out]; decide)
        exact upv_ap rfl rfl rfl hr (hK _ _ hI')
      · intro U
        simp only [Act.put, List.setIfInBounds_toArray, List.set_cons_succ, List.set_cons_zero]
        rfl
      refine RH.goD (v := ?_) (f' := ?_) rfl ?_ ?_ ?_
      rotate_left 2
      · intro U K d wx hI hmay hK
        go_simp
        exact hK _ (F7.keep (by decide) hI)
      · intro U
        simp only [Act.put, List.setIfInBounds_toArray, List.set_cons_succ, List.set_cons_zero]
        rfl
      refine RH.goD (v := ?_) (f' := ?_) rfl ?_ ?_ ?_
      rotate_left 2
      · intro U K d wx hI hmay hK
        have y0 := (hI.b.cell (p := ⟨h, 2, none⟩) (by have := HW2.out; show h < _; omega)).trans R2.out
        go_simp
        exact hK _ (F7.keep (by decide) hI)
      · intro U
        simp only [Act.put, List.setIfInBounds_toArray, List.set_cons_succ, List.set_cons_zero]
        rfl
      refine RH.goN (f' := ?_) rfl ?_ ?_ ?_
      rotate_left 1
      · intro U K d wx hI hmay hK
        go_simp
        exact hK _ _ (F7.step6 hI hmay.1)
      · intro U
        simp only [Act.put, List.setIfInBounds_toArray, List.set_cons_succ, List.set_cons_zero]
        rfl
      refine RH.goN (f' := ?_) rfl ?_ ?_ ?_
      rotate_left 1
      · intro U K d wx hI hmay hK
        have hd := hmay.2 _ rfl
        simp [Region.binds] at hd
        obtain ⟨v', w', hr, hI'⟩ := F7.step7 23 hI (by simp [hd]) (by simp [hd]) hmay.1 rfl (by rw [HLEN.out]; decide)
        exact upv_ap rfl rfl rfl hr (hK _ _ hI')
      · intro U
        simp only [Act.put, List.setIfInBounds_toArray, List.set_cons_succ, List.set_cons_zero]
        rfl
      refine RH.goN (f' := ?_) rfl ?_ ?_ ?_
      rotate_left 1
      · intro U K d wx hI hmay hK
        have hd := hmay.2 _ rfl
        simp [Region.binds] at hd
        obtain ⟨aU, cU, eU⟩ := own_len (hI.p7 (by simp [hd]))
        rw [List.length_append, List.length_singleton] at eU
        have hK2 := hK _ _ (F7.step8 hI)
        generalize hs.length + 1 = m17 at *
        go_simp
        exact hK2
      · intro U
        simp only [Act.put, List.setIfInBounds_toArray, List.set_cons_succ, List.set_cons_zero]
        rfl
      refine RH.goD (v := ?_) (f' := ?_) rfl ?_ ?_ ?_
      rotate_left 2
      · intro U K d wx hI hmay hK
        go_simp
        exact hK _ (F7.keep (by decide) hI)
      · intro U
        simp only [Act.put, List.setIfInBounds_toArray, List.set_cons_succ, List.set_cons_zero]
        rfl
      refine RH.go_end ?_
      intro d U w9 hI hall
      simp +decide only [RH.tl, if_false]
      have HB9 : Hid (Below w2.heap.size w2 w9) := hI.b
      have h7 := hI.p7 (by rw [hall 7 (by decide)]; rfl)
      have h8 := hI.p8 (by rw [hall 8 (by decide)]; rfl)
      rw [HLEN.out] at h8
      obtain ⟨gV, cV, eV, hgV, hgW, hcV⟩ := own_cells h7 (by rw [HL17.out]; decide)
      rw [HL17.out] at eV
      have HCV : Hid (w2.heap.size ≤ gV ∧ gV < w9.heap.size ∧ ∀ j u, (hs ++ [Value.slice a2 n2 c2])[j]? = some u → w9.cell? ⟨gV, j, none⟩ = some u) := ⟨hgV, hgW, hcV⟩
      have HHD : Hid (Hds (ks ++ [u]) (hs ++ [.slice a2 n2 c2]) w) := Hds_app hk.out (Hds_one hu.out)
      have HGI : Hid (gi < w2.heap.size) := HLN.out.y.hi
      have G0 : Hid (GL w9 gi (.slice none 0 0) [] w9) := GL_new (LN_below HLN.out HB9.out)
      have HNG : Hid (NB (h + 1) w9) := NB_below HNB.out HB9.out
      have HNI9 : Hid (NB gi w9) := NB_below HNI.out HB9.out
      have HL9 : Hid (Below w.heap.size w w9) := HL2.out.trans (HB9.out.mono HL2.out.size)
      have HX9 : Hid (B3 (h + 1) w9) := B3_gb (r := none) HX2.out (gb_below HB9.out) nofun
      have HLL : Hid ((ks ++ [u]).length = 17) := by show _ = _; rw [← HHD.out.l]; exact HL17.out
      have R39 : Hid (w9.cell? ⟨h, 3, none⟩ = some (.slice a3 16 c3)) := (HB9.out.cell (p := ⟨h, 3, none⟩) HW2.out).trans R3.out
      have HHI : Hid (h + 1 < gi) := HW1.out
      clear hI hall h7 hgV hgW hcV HNB HNI HL2 HX2 R2 R3 HVL HONE HLN
      obtain ⟨l, hl⟩ : ∃ l, l = ks ++ [u] := ⟨_, rfl⟩
      obtain ⟨xs, hxs⟩ : ∃ xs, xs = hs ++ [Value.slice a2 n2 c2] := ⟨_, rfl⟩
      rw [← hl, ← hxs] at HHD
      rw [← hxs] at HCV HL17
      rw [← hl] at HLL
      have EL : Hid (l = ks ++ [u]) := hl
      have EX : Hid (xs = hs ++ [Value.slice a2 n2 c2]) := hxs
      clear hl hxs
      rw [eV, h8]
      clear eV h8
      generalize U 0 = V0 at *
      generalize U 3 = V3 at *
      generalize U 6 = V6 at *
      clear HW2
      go_wp2_with fail
      go_loopw [12, 135] (fun m s wr => ∃ k : Nat, k ≤ 17 ∧ s = .int .i64 (k : Int) ∧ m = .int .i64 (np (l.take k) : Int) ∧ IA w9 gi xs k wr) (fun _ s _ => ((17 : Int) - intOf s).toNat)
      case atStart => exact ⟨0, Nat.zero_le _, rfl, by rw [List.take_zero]; rfl, ⟨_, G0.out⟩⟩
      case round =>
        clear G0
        obtain ⟨k, hk1, rfl, rfl, kv, hG⟩ := hrel
        have HG : Hid (GL w9 gi kv ((xs.take k).map tv) wr) := hG
        obtain ⟨ak, nk, ck, rfl⟩ := own_form hG.o
        clear hG
        by_cases h1 : k < 17
        · have hkl : k < l.length := by rw [HLL.out]; exact h1
          have d1 : decide ((k : Int) < 17) = true := decide_eq_true (by omega)
          have d2 : (k : Int) < 17 := by omega
          have d0 : (0 : Int) ≤ (k : Int) := by omega
          have hw := Nb.stp k (by show _ ≤ _; omega)
          have hsl := HHD.out.s k hkl
          obtain ⟨x, hx⟩ : ∃ x, x = xs.getD k undef := ⟨_, rfl⟩
          obtain ⟨tx, htx⟩ : ∃ tx, tx = l.getD k [] := ⟨_, rfl⟩
          rw [← hx, ← htx] at hsl
          obtain ⟨ax, cx, ex⟩ := Sl_fm hsl
          have hxk : xs[k]? = some x := by
            have : k < xs.length := by rw [HL17.out]; exact h1
            rw [hx, List.getD_eq_getElem?_getD, List.getElem?_eq_getElem this]
            rfl
          have c9 := HCV.out.2.2 k x hxk
          have cr : wr.cell? ⟨gV, k, none⟩ = some x := (World.cell?_of_block (a := ⟨gV, k, none⟩) (HG.out.b.block gV HCV.out.2.1 (fun e => by injection e with e; have := HCV.out.1; have := HGI.out; omega))).trans c9
          rw [ex] at cr
          have HTK : Hid ((xs.take (k + 1)).map tv = (xs.take k).map tv ++ [(.bool false, .slice ax tx.length cx, .slice none 0 0)]) := by
            show _ = _
            rw [List.take_add_one, hxk, List.map_append, ex]
            rfl
          have HNP : Hid (np (l.take (k + 1)) = np (l.take k) + if 0 < tx.length then 1 else 0) := by rw [htx]; exact np_snoc l k hkl
          have HNW : Hid (wrap64 ((np (l.take k) : Int) + 1) = (np (l.take k) : Int) + 1) := by
            show _ = _
            have := np_le (l.take k)
            rw [List.length_take] at this
            unfold wrap64
            omega
          have HZ : Hid (((xs.take k).map tv).length ≤ 4194304) := by show _ ≤ _; rw [List.length_map, List.length_take]; omega
          have HK1 : Hid (k < 17) := h1
          clear hsl hx htx ex hxk c9 hkl hk1 h1
          generalize np (l.take k) = q at *
          obtain ⟨q2, hq2⟩ : ∃ q2, q2 = np (l.take (k + 1)) := ⟨_, rfl⟩
          have HQ : Hid (q2 = np (l.take (k + 1))) := hq2
          rw [← hq2] at HNP
          clear hq2
          generalize tx.length = mk at *
          have c2r : Hid (wr.cell? ⟨gi, 2, none⟩ = some (.slice ak nk ck)) := HG.out.c2
          have HGR : Hid (gi < wr.heap.size) := HG.out.y.hi
          have hL : RG.Lasts (fun wx => Below wr.heap.size wr wx) (fun _ v wx => ∃ g, v = .slice (some ⟨g, 0, none⟩) 1 1 ∧ g < wx.heap.size ∧ wx.cell? ⟨g, 0, none⟩ = some (.bool false) ∧ wx.cell? ⟨g, 1, none⟩ = some (.slice ax mk cx) ∧ wx.cell? ⟨g, 2, none⟩ = some (.slice none 0 0)) := ⟨fun _ _ h hb => h.trans (hb.mono h.size), fun _ _ _ _ h hb => by
            obtain ⟨g, g1, g2, g3, g4, g5⟩ := h
            exact ⟨g, g1, Nat.lt_of_lt_of_le g2 hb.size, (hb.cell (p := ⟨g, 0, none⟩) g2).trans g3, (hb.cell (p := ⟨g, 1, none⟩) g2).trans g4, (hb.cell (p := ⟨g, 2, none⟩) g2).trans g5⟩⟩
          go_upto_region 20 with fail
          refine RG.wp_region_gen (fun wx => Below wr.heap.size wr wx) (fun _ v wx => ∃ g, v = .slice (some ⟨g, 0, none⟩) 1 1 ∧ g < wx.heap.size ∧ wx.cell? ⟨g, 0, none⟩ = some (.bool false) ∧ wx.cell? ⟨g, 1, none⟩ = some (.slice ax mk cx) ∧ wx.cell? ⟨g, 2, none⟩ = some (.slice none 0 0)) (fun _ _ => True) [0, 0, 0, 0, 1, 2, 2, 2] (by kernel_rfl) (by kernel_rfl) ((Below.refl _ _).drew) ?_
          dsimp only [List.toList_toArray]
          refine RG.go1 (v := ?_) (a' := ?_) hL (by decide) rfl ?_ ?_ ?_
          rotate_left 2
          · intro K wx hS hK
            go_simp
            exact hK _ (Below.refl _ _)
          · simp only [Act.put, List.setIfInBounds_toArray, List.set_cons_succ, List.set_cons_zero]
            rfl
          refine RG.go1 (v := ?_) (a' := ?_) hL (by decide) rfl ?_ ?_ ?_
          rotate_left 2
          · intro K wx hS hK
            have z0 := (hS.cell (p := ⟨gi, 2, none⟩) HGR.out).trans c2r.out
            go_simp
            exact hK _ (Below.refl _ _)
          · simp only [Act.put, List.setIfInBounds_toArray, List.set_cons_succ, List.set_cons_zero]
            rfl
          refine RG.go1 (v := ?_) (a' := ?_) hL (by decide) rfl ?_ ?_ ?_
          rotate_left 2
          · intro K wx hS hK
            go_simp
            exact hK _ (Below.refl _ _)
          · simp only [Act.put, List.setIfInBounds_toArray, List.set_cons_succ, List.set_cons_zero]
            rfl
          refine RG.go1 (v := ?_) (a' := ?_) hL (by decide) rfl ?_ ?_ ?_
          rotate_left 2
          · intro K wx hS hK
            go_simp
            refine (KT.out _ _ _ _).mono (fun e w2 he => ?_)
            refine ⟨_, he.1, ?_⟩
            exact hK _ he.2
          · simp only [Act.put, List.setIfInBounds_toArray, List.set_cons_succ, List.set_cons_zero]
            rfl
          refine RG.goN hL rfl ?_ ?_
          · intro K wx hS hK
            have hn := heap_alloc_new wx (.cells #[.bool false, .slice ax mk cx, .slice none 0 0] 44)
            go_simp
            exact hK _ _ ((Below.refl _ _).alloc (Nat.le_refl _) _) ⟨_, rfl, by simp, by simp only [World.cell?, hn]; rfl, by simp only [World.cell?, hn]; rfl, by simp only [World.cell?, hn]; rfl⟩ (fun _ _ _ => ⟨trivial, trivial⟩)
          refine RG.goT ?_
          refine RG.goT ?_
          refine RG.goT ?_
          refine RG.go_end ?_
          intro U w8 m8 y8 x8
          simp +decide (maxSteps := 1000000) only [RG.tl, RG.putN, if_true, if_false, Act.put, List.setIfInBounds_toArray, List.set_cons_succ, List.set_cons_zero, Nat.reduceAdd]
          obtain ⟨g4, e4, _, y0, y1, y2⟩ := y8 4 rfl
          obtain ⟨kv', w7, hap, ⟨ck7, fz7⟩, hI7⟩ := GL_step 42 HG.out m8 y0 y1 y2 HZ.out
          obtain ⟨ak2, nk2, ck2, rfl⟩ := own_form hI7.o
          rw [e4]
          have HI7 : Hid (GL w9 gi (.slice ak2 nk2 ck2) ((xs.take (k + 1)).map tv) (w7.setCell ⟨gi, 2, none⟩ (.slice ak2 nk2 ck2))) := by show GL _ _ _ _ _; rw [HTK.out]; exact hI7
          clear hI7 y0 y1 y2 y8 x8 m8 hL HG HTK c2r e4
          go_upto_region 21 with (at_builtin; refine wpList_apw rfl rfl rfl rfl hap ?_)
          generalize w7.setCell ⟨gi, 2, none⟩ (.slice ak2 nk2 ck2) = w8' at *
          by_cases m0 : mk = 0
          · subst m0
            have e : Hid (q2 = q) := by have := HNP.out; rwa [if_neg (by decide)] at this
            clear HNP HNW hap ck7 fz7
            go_wp2_with fail
            have hw := hw.out
            go_roundw
            case rel =>
              refine ⟨_, _, _, _, _, _, _, _, _, _, _, _, _, _, _, _, _, _, _, ?_, rfl⟩
              exact ⟨k + 1, HK1.out, Nb.step_v k _ rfl, by rw [← HQ.out, e.out], ⟨_, HI7.out⟩⟩
            case measure => exact Nb.msr k 17 HK1.out _ rfl
          · have e : Hid (q2 = q + 1) := by have := HNP.out; rwa [if_pos (by omega)] at this
            have t0 : (0 : Int) < (mk : Int) := by omega
            have t1 : 0 < mk := by omega
            clear HNP m0 hap ck7 fz7
            go_wp2_with fail
            have hw := hw.out
            go_roundw
            case rel =>
              refine ⟨_, _, _, _, _, _, _, _, _, _, _, _, _, _, _, _, _, _, _, ?_, rfl⟩
              exact ⟨k + 1, HK1.out, Nb.step_v k _ rfl, by rw [← HQ.out, e.out]; first | rfl | (rw [HNW.out]; rfl), ⟨_, HI7.out⟩⟩
            case measure => exact Nb.msr k 17 HK1.out _ rfl
        · have hkl : k = 17 := by omega
          subst hkl
          have el : Hid (l.take 17 = l) := by show _ = _; rw [← HLL.out, List.take_length]
          have ex : Hid (xs.take 17 = xs) := by show _ = _; rw [← HL17.out, List.take_length]
          rw [el.out]
          rw [ex.out] at HG
          clear el ex h1 hk1
          generalize hq : np l = q at *
          have HQ : Hid (np l = q) := hq
          clear hq
          have R3r : wr.cell? ⟨h, 3, none⟩ = some (.slice a3 16 c3) := (World.cell?_of_block (a := ⟨h, 3, none⟩) (HG.out.b.block h (by have := HHI.out; have := HG.out.g; omega) (fun e => by injection e with e; have := HHI.out; omega))).trans R39.out
          go_wp2_with fail
          have XR : Hid (B3 (h + 1) wr) := B3_gb HX9.out HG.out.b (fun e => by injection e with e; have := HHI.out; omega)
          have hgb := HG.out.b
          have hgb2 := HL9.out
          have LR : Hid (Below w.heap.size w wr) := ⟨hgb.os.trans hgb2.os, hgb.tape.trans hgb2.tape, hgb.output.trans hgb2.output, Nat.le_trans hgb2.size hgb.size, fun j hj => (hgb.block j (Nat.lt_of_lt_of_le hj hgb2.size) (fun e => by injection e with e; have := HHI.out; have := EH.out; omega)).trans (hgb2.block j hj)⟩
          obtain ⟨aK, cK, eK, hK0⟩ := hv.out
          obtain ⟨gK, offK, eK2, hgK, hcK⟩ := hK0 (by rw [HLEN.out]; decide)
          have eA : a3 = some ⟨gK, offK, none⟩ := by
            injection eK with e1 _ _
            rw [e1, eK2]
          clear hgb hgb2 hK0 eK eK2
          subst eA
          have HCK : Hid (gK < w.heap.size ∧ ∀ j, j < hs.length → w.cell? ⟨gK, offK + j, none⟩ = hs[j]?) := ⟨hgK, hcK⟩
          clear hgK hcK R3r
          go_loopw [155] (fun s w5 => ∃ j : Nat, j ≤ 16 ∧ s = .int .i64 (j : Int) ∧ Hid (∀ i, i < j → sm (ks.getD i []) = true) ∧ wr = w5) (fun s _ => ((16 : Int) - intOf s).toNat)
          case atStart => exact ⟨0, Nat.zero_le _, rfl, fun j hj => absurd hj (Nat.not_lt_zero _), rfl⟩
          case round =>
            obtain ⟨j, hj, rfl, hA, rfl⟩ := hrel
            have HKL : Hid (ks.length = 16) := by show _ = _; rw [← hk.out.l]; exact HLEN.out
            by_cases j1 : j < 16
            · have d1 : decide ((j : Int) < 16) = true := decide_eq_true (by omega)
              have hw := Nb.stp j (by show _ ≤ _; omega)
              have hsl := hk.out.s j (by rw [HKL.out]; exact j1)
              have hjl : j < hs.length := by rw [HLEN.out]; exact j1
              have cw := HCK.out.2 j hjl
              rw [List.getElem?_eq_getElem hjl] at cw
              have eg : hs.getD j undef = hs[j] := by rw [List.getD_eq_getElem?_getD, List.getElem?_eq_getElem hjl]; rfl
              rw [eg] at hsl
              obtain ⟨ax, cx, ex⟩ := Sl_fm hsl
              rw [ex] at cw
              have cr := (LR.out.cell (p := ⟨gK, offK + j, none⟩) HCK.out.1).trans cw
              clear cw hsl ex eg hjl
              have HS : Hid (sm (ks.getD j []) = (decide ((ks.getD j []).length = 0) || decide ((ks.getD j []).length = 32))) := by
                show _ = _
                unfold sm
                rw [Bool.eq_iff_iff]
                simp
              have HJ : Hid (j < ks.length) := by show _ < _; rw [HKL.out]; exact j1
              obtain ⟨x, hx⟩ : ∃ x, x = ks.getD j [] := ⟨_, rfl⟩
              rw [← hx] at HS cr
              have HX : Hid (x = ks.getD j []) := hx
              clear hx
              obtain ⟨m, hm⟩ : ∃ m, m = x.length := ⟨_, rfl⟩
              rw [← hm] at HS cr
              clear hm
              have HT : sm x = true → Hid (∀ i, i < j + 1 → sm (ks.getD i []) = true) := fun e i hi => by
                by_cases e2 : i = j
                · subst e2; rw [← HX.out]; exact e
                · exact hA.out i (by omega)
              by_cases m0 : m = 0
              · subst m0
                have H1 := HT (by rw [HS.out]; rfl)
                clear HS hA HT
                go_wp2_with fail
                have hw := hw.out
                go_roundw
                case rel => exact ⟨j + 1, j1, Nb.step_v j _ rfl, H1, trivial⟩
                case measure => exact Nb.msr j 16 j1 _ rfl
              · by_cases m1 : m = 32
                · subst m1
                  have H1 := HT (by rw [HS.out]; rfl)
                  clear HS hA HT m0
                  go_wp2_with fail
                  have hw := hw.out
                  go_roundw
                  case rel => exact ⟨j + 1, j1, Nb.step_v j _ rfl, H1, trivial⟩
                  case measure => exact Nb.msr j 16 j1 _ rfl
                · have H1 : Hid (ks.all sm = false) := by
                    show _ = _
                    rw [List.all_eq_false]
                    refine ⟨x, ?_, ?_⟩
                    · rw [HX.out, List.getD_eq_getElem?_getD, List.getElem?_eq_getElem HJ.out]
                      exact List.getElem_mem _
                    · rw [HS.out]
                      simp [m0, m1]
                  have t0 : ((m : Int) != 0) = true := bne_iff_ne.2 (by omega)
                  have t1 : ((m : Int) != 32) = true := bne_iff_ne.2 (by omega)
                  clear HS hA HT hw
                  go_upto_region 28 with fail
                  go_wp2_with (refine wpList_st3b rfl rfl rfl rfl XR.out ?_)
                  intro w6 g6 b6 z0 z1 z2
                  have l6 : Hid (Below w.heap.size w w6) := LR.out.trans ⟨g6.os, g6.tape, g6.output, g6.size, fun j hj => g6.block j (by have := LR.out.size; omega) (fun e => by injection e with e; have := EH.out; omega)⟩
                  clear g6 b6
                  go_wp2_with fail
                  exact bodyPost_ret (v := .tuple #[.agg #[.bool false, .slice none 0 0, .slice none 0 0], .bool false]) (resI2 _ _ _ (h + 1) 2 3 _ _ _ _ rfl rfl rfl z0 z1 z2) rfl ⟨(.bool false, .slice none 0 0, .slice none 0 0), by rw [H1.out]; rfl, by rw [H1.out]; nofun, l6.out, ⟨_, _, _, _, _, _, _, rfl⟩⟩
            · have hkl : j = 16 := by omega
              subst hkl
              have H1 : Hid (ks.all sm = true) := by
                show _ = _
                rw [List.all_eq_true]
                intro x hx
                obtain ⟨i, hi, rfl⟩ := List.mem_iff_getElem.1 hx
                have := hA.out i (by have := HKL.out; omega)
                rwa [List.getD_eq_getElem?_getD, List.getElem?_eq_getElem hi] at this
              have g0 := HG.out.c0
              have g1 := HG.out.c1
              have g2 := HG.out.c2
              have IV0 : Hid (Iv (· ≠ h + 1) wr (.mk true [] (l.map fun b => .mk false b [])) (.bool true, .slice none 0 0, .slice ak nk ck)) := GL_ivS HG.out ⟨HHD.out.l, fun i hi => Sl_below (HHD.out.s i hi) HL9.out⟩ HNG.out HNI9.out
              clear hA HG j1 hj
              obtain ⟨D, hD⟩ : ∃ D, D = decide (1 < q) := ⟨_, rfl⟩
              have HD : Hid (D = decide (2 ≤ np (ks ++ [u]))) := by
                show _ = _
                rw [hD, ← EL.out, HQ.out]
                exact decide_eq_decide.2 (by omega)
              have hD2 : decide ((1 : Int) < (q : Int)) = D := by rw [hD]; exact decide_eq_decide.2 (by omega)
              have hD3 : decide ((q : Int) > 1) = D := hD2
              clear hD
              go_upto_region 30 with fail
              go_wp2_with (refine wpList_st3b rfl rfl rfl rfl XR.out ?_)
              intro w6 g6 b6 z0 z1 z2
              have l6 : Hid (Below w.heap.size w w6) := LR.out.trans ⟨g6.os, g6.tape, g6.output, g6.size, fun j hj => g6.block j (by have := LR.out.size; omega) (fun e => by injection e with e; have := EH.out; omega)⟩
              have IV6 : Hid (Iv (fun _ => True) w6 (.mk true [] ((ks ++ [u]).map fun b => .mk false b [])) (.bool true, .slice none 0 0, .slice ak nk ck)) := by
                rw [← EL.out]
                exact Iv_mono (Iv_gb IV0.out g6 (fun k hk e => by injection e with e; exact hk e)) (fun _ _ _ => trivial)
              clear g6 b6 IV0
              go_wp2_with fail
              exact bodyPost_ret (v := .tuple #[.agg #[.bool true, .slice none 0 0, .slice ak nk ck], .bool D]) (resI2 _ _ _ (h + 1) 2 3 _ _ _ _ rfl rfl rfl z0 z1 z2) rfl ⟨(.bool true, .slice none 0 0, .slice ak nk ck), by rw [H1.out, ← HD.out]; rfl, fun _ => IV6.out, l6.out, ⟨_, _, _, _, _, _, _, rfl⟩⟩
end Rs
end Go.Proofs.YtefgamhnikeekaaDoor
namespace Go.Proofs.YtefgamhnikeekaaDoor
namespace Pk
open Go.RowKit Go.Shelf
attribute [local go_sem] Oper.semAt_some
def upto {α : Type} (f : Nat → α) (k : Nat) : List α := (List.range k).map f
theorem upto_succ {α : Type} (f : Nat → α) (k : Nat) : upto f (k + 1) = upto f k ++ [f k] := by simp [upto, List.range_succ]
theorem upto_length {α : Type} (f : Nat → α) (k : Nat) : (upto f k).length = k := by simp [upto]
def bwd (zs : List UInt8) (k : Nat) : Int × UInt8 := (((zs.length - 1 - k : Nat) : Int), zs.getD (zs.length - 1 - k) 0)
def Kp2 (Bs b : Nat) (W W' : World) : Prop := ∀ o, W'.cell? ⟨Bs, o, none⟩ = W.cell? ⟨Bs, o, none⟩ ∧ W'.cell? ⟨b, o, none⟩ = W.cell? ⟨b, o, none⟩
theorem Kp2_t {Bs b : Nat} {A B C : World} (h : Kp2 Bs b A B) (k : Kp2 Bs b B C) : Kp2 Bs b A C := fun o => ⟨(k o).1.trans (h o).1, (k o).2.trans (h o).2⟩
theorem bwd_wrap (a : Nat) (h : a ≤ 4194304) : Hid (wrap64 ((a : Int) - 1) = (a : Int) - 1) := by
  show _ = _
  unfold wrap64; omega
set_option maxRecDepth 100000 in
set_option maxHeartbeats 2000000 in
theorem bwd1_in (F : Fence) (n : Nat) (hf : F.fn 79) (hro : F.round = none) (hn : 1 ≤ n) (l Bs b off cap : Nat) (zs : List UInt8) (hreach : zs.length ≤ 4194304) (J Jx : List (Int × UInt8) → World → Prop)
    (hY : ∀ pre x W, J pre W → pre.length < zs.length → YieldAt F (n - 1) Tryd.prog l #[.int .i64 x.1, .int .u8 (x.2.toNat : Int)] W fun e W' =>
      (e = .returned (.bool true) ∧ J (pre ++ [x]) W' ∧ Kp2 Bs b W W') ∨ (e = .returned (.bool false) ∧ Jx (pre ++ [x]) W'))
    (W : World) (hBs : W.cell? ⟨Bs, 0, none⟩ = some (.slice (some ⟨b, off, none⟩) zs.length cap)) (hc : ∀ j, j < zs.length → W.cell? ⟨b, off + j, none⟩ = some (.int .u8 (Sp.bz zs j))) (h0 : J [] W) :
    CallsIn F n Tryd.prog 79 #[.func (.yield l) #[] #[], .pointer (some ⟨Bs, 0, none⟩)] W fun e W' => (∃ v, e = .returned v) ∧
      ((∃ ys, ys = upto (bwd zs) zs.length ∧ J ys W') ∨ (∃ pre, (∃ k, k ≤ zs.length ∧ pre = upto (bwd zs) k) ∧ Jx pre W')) := by
  refine callsIn_of_wp Tryd.func79 rfl hf ?_ hro
  simp only [Tryd.ntmps79, List.size_toArray, List.length_cons, List.length_nil, Nat.reduceAdd, Nat.reduceSub, Array.replicate_succ, Array.replicate_zero, List.push_toArray, List.append_toArray, List.nil_append, List.cons_append]
  have hw0 := (bwd_wrap zs.length hreach).out
  gi_wp2
  clear hw0
  gi_loopw [3] (fun i wr => ∃ k : Nat, k ≤ zs.length ∧ i = .int .i64 ((zs.length - k : Nat) - 1 : Int) ∧ J (upto (bwd zs) k) wr ∧ Kp2 Bs b W wr)
    (fun i _ => (intOf i + 1).toNat)
  case atStart => exact ⟨0, Nat.zero_le _, by simp, h0, fun o => ⟨rfl, rfl⟩⟩
  case round =>
    obtain ⟨k, hk, rfl, hJs, hkp⟩ := hrel
    have hBs' : wr.cell? ⟨Bs, 0, none⟩ = some (.slice (some ⟨b, off, none⟩) zs.length cap) := (hkp 0).1.trans hBs
    by_cases hlt : k < zs.length
    · obtain ⟨j, hj⟩ : ∃ j, zs.length - k = j + 1 := ⟨zs.length - k - 1, by omega⟩
      have ei : (((zs.length - k : Nat) : Int) - 1) = (j : Int) := by omega
      have HJ : Hid (zs.length - k = j + 1) := hj
      have hjl : (j : Int) < (zs.length : Int) := by omega
      have hj0 : (0 : Int) ≤ (j : Int) := by omega
      have hjd : decide ((0 : Int) ≤ (j : Int)) = true := decide_eq_true hj0
      obtain ⟨c, hcc⟩ : ∃ c, c = zs.getD j 0 := ⟨_, rfl⟩
      have hcx : wr.cell? ⟨b, off + j, none⟩ = some (.int .u8 (c.toNat : Int)) := by rw [hcc]; exact (hkp (off + j)).2.trans (hc j (by omega))
      have HB : Hid (upto (bwd zs) (k + 1) = upto (bwd zs) k ++ [((j : Int), c)]) := by
        show _ = _
        rw [upto_succ]
        unfold bwd
        rw [show zs.length - 1 - k = j by omega, hcc]
      obtain ⟨fn, tmps, assign, body, hy, hR⟩ := hY _ ((j : Int), c) wr hJs (by rw [upto_length]; exact hlt)
      dsimp only at hy
      have hw := (bwd_wrap j (by omega)).out
      rw [ei]
      clear hj hcc ei
      gi_wp2
      refine hR.mono ?_
      rintro e W3 (⟨rfl, hJ3, hk3⟩ | ⟨rfl, hJx3⟩)
      · gi_wp2
        go_roundw
        case rel => exact ⟨k + 1, hlt, by have := HJ.out; first | rfl | (congr 1; omega) | (rw [hw]; congr 1; omega), by rw [HB.out]; exact hJ3, Kp2_t hkp hk3⟩
        case measure => simp [intOf] <;> omega
      · gi_wp2
        refine bodyPost_ret (results_none rfl _ _ _) rfl ?_
        exact ⟨⟨_, rfl⟩, .inr ⟨_, ⟨k + 1, hlt, HB.out.symm⟩, hJx3⟩⟩
    · obtain rfl : k = zs.length := by omega
      have ei : (((zs.length - zs.length : Nat) : Int) - 1) = -1 := by omega
      rw [ei]
      gi_wp2
      go_end0
      exact ⟨⟨_, rfl⟩, .inl ⟨_, rfl, hJs⟩⟩
set_option maxRecDepth 100000 in
set_option maxHeartbeats 1000000 in
theorem bwd1_nil_in (F : Fence) (n : Nat) (hf : F.fn 79) (hro : F.round = none) (l Bs : Nat) (a : Option Addr) (cap : Nat) (J : List (Int × UInt8) → World → Prop) (W : World) (hBs : W.cell? ⟨Bs, 0, none⟩ = some (.slice a 0 cap)) (h0 : J [] W) :
    CallsIn F n Tryd.prog 79 #[.func (.yield l) #[] #[], .pointer (some ⟨Bs, 0, none⟩)] W fun e W' => (∃ v, e = .returned v) ∧ J [] W' := by
  refine callsIn_of_wp Tryd.func79 rfl hf ?_ hro
  simp only [Tryd.ntmps79, List.size_toArray, List.length_cons, List.length_nil, Nat.reduceAdd, Nat.reduceSub, Array.replicate_succ, Array.replicate_zero, List.push_toArray, List.append_toArray, List.nil_append, List.cons_append]
  gi_wp2
  gi_loopw [3] (fun i wr => i = .int .i64 (-1) ∧ J [] wr) (fun _ _ => 0)
  case atStart => exact ⟨rfl, h0⟩
  case round =>
    obtain ⟨rfl, hJs⟩ := hrel
    gi_wp2
    go_end0
    exact ⟨⟨_, rfl⟩, hJs⟩
set_option maxHeartbeats 1000000 in
theorem bwd_in (F : Fence) (n : Nat) (hf : F.fn 76) (hro : F.round = none) (a : Option Addr) (len cap : Nat) (w : World) :
    CallsIn F n Tryd.prog 76 #[.slice a len cap] w fun e w' => e = .returned (.func (.func 79) #[] #[.pointer (some ⟨w.heap.size, 0, none⟩)]) ∧ w' = w.alloc (.cells #[.slice a len cap] 22) := by
  refine callsIn_of_wp Tryd.func76 rfl hf ?_ hro
  simp only [Tryd.ntmps76, List.size_toArray, List.length_cons, List.length_nil, Nat.reduceAdd, Nat.reduceSub, Array.replicate_succ, Array.replicate_zero, List.push_toArray, List.append_toArray, List.nil_append, List.cons_append]
  gi_wp2
  go_ret
  exact ⟨rfl, rfl⟩
theorem upto_bwd (zs : List UInt8) : (upto (bwd zs) zs.length).map (·.2) = zs.reverse := by
  apply List.ext_getElem
  · simp [upto]
  · intro i h1 h2
    have hi : i < zs.length := by simpa [upto] using h1
    simp only [upto, List.map_map, List.getElem_map, List.getElem_range, Function.comp, bwd, List.getElem_reverse]
    rw [List.getD_eq_getElem?_getD, List.getElem?_eq_getElem (by omega)]
    rfl
theorem bwd_stops (F : Fence) (n : Nat) (hf : F.fn 79) (hro : F.round = none) (hn : 1 ≤ n) (Bs b cap : Nat) (ao : Option Addr) (zs : List UInt8) (hreach : zs.length ≤ 4194304) (w : World) (hBs : Bs < w.heap.size)
    (hc : w.cell? ⟨Bs, 0, none⟩ = some (.slice ao zs.length cap)) (hv : Sp.Vw zs ao w) (hb : 0 < zs.length → ∃ off, ao = some ⟨b, off, none⟩) :
    SeqStopsK F n Tryd.prog 79 #[.pointer (some ⟨Bs, 0, none⟩)] (fun x : Int × UInt8 => #[Value.int .i64 x.1, .int .u8 (x.2.toNat : Int)]) (Kp2 Bs b) (fun ys => ys.map (·.2) = zs.reverse) (fun _ => True) zs.length w := fun l J Jx W hW _ _ hY h0 => by
  have hc' := (hW.cell (p := ⟨Bs, 0, none⟩) hBs).trans hc
  by_cases h1 : 0 < zs.length
  · obtain ⟨g, off, e1, hg, hcs⟩ := hv h1
    obtain ⟨off', e2⟩ := hb h1
    rw [e1] at e2
    injection e2 with e2
    injection e2 with e3 e4 _
    subst e3 e4 e1
    refine (bwd1_in F n hf hro hn l Bs g off cap zs hreach J Jx hY W hc' (fun j hj => (hW.cell (p := ⟨g, off + j, none⟩) hg).trans (hcs j hj)) h0).mono ?_
    rintro e W' ⟨he, ⟨ys, rfl, hj⟩ | ⟨pre, _, hj⟩⟩
    · exact ⟨he, .inl ⟨_, upto_bwd zs, hj⟩⟩
    · exact ⟨he, .inr ⟨_, trivial, hj⟩⟩
  · have e : zs = [] := List.length_eq_zero_iff.1 (by omega)
    subst e
    exact (bwd1_nil_in F n hf hro l Bs ao cap J W hc' h0).mono fun e W' ⟨he, hj⟩ => ⟨he, .inl ⟨[], rfl, hj⟩⟩
end Pk
end Go.Proofs.YtefgamhnikeekaaDoor
namespace Go.Proofs.YtefgamhnikeekaaDoor
namespace RI
section
variable {F : Fence} {n : Nat} {P : Program} {ops : Array Oper} {Q : Exit → Act → World → Prop}
theorem wpAnyIn_inv (I : (Nat → Bool) → Act → World → Prop) (he : early ops = true)
    (hstep : ∀ d a w i, I d a w → i < ops.size → may ops d i → wpOpIn F n P ops Q i (I (don d i)) a w)
    (hend : ∀ d a w, I d a w → (∀ i, i < ops.size → d i = true) → Q .normal a w) :
    ∀ fuel l a w, l.size = ops.size → un (dof l) ops.size ≤ fuel → I (dof l) a w → wpAnyIn F n P .any ops Q fuel l a w
  | 0, l, a, w, hl, hu, hI => by
    have hd := un_zero (dof l) ops.size (by omega)
    refine ⟨?_, hend _ a w hI hd⟩
    rw [List.eq_nil_iff_forall_not_mem]
    intro i hi
    obtain ⟨h1, h2⟩ := (ready_iff ops l i hl).1 hi
    have := hd i h1
    rw [h2.1] at this; cases this
  | fuel + 1, l, a, w, hl, hu, hI => by
    refine ⟨fun hr => hend _ a w hI (all_done ops he _ fun i h1 h2 => ?_), fun i hi => ?_⟩
    · have := (ready_iff ops l i hl).2 ⟨h1, h2⟩
      rw [hr] at this; cases this
    · obtain ⟨h1, h2⟩ := (ready_iff ops l i hl).1 hi
      refine wpOpIn_mono (fun a' w' h => ?_) (hstep _ a w i hI h1 h2)
      have e := dof_set l i (by omega)
      refine wpAnyIn_inv I he hstep hend fuel _ a' w' (by simpa using hl) ?_ (by rw [e]; exact h)
      rw [e]
      have := (un_don (dof l) i ops.size).2 h1 h2.1
      omega
theorem wpIn_region_inv {id : Nat} {a : Act} {w : World} (I : (Nat → Bool) → Act → World → Prop) (hm : P.follows .mixedOrders = true) (he : early ops = true) (h0 : I (fun _ => false) a w.drew)
    (hstep : ∀ d a w i, I d a w → i < ops.size → may ops d i → wpOpIn F n P ops Q i (I (don d i)) a w)
    (hend : ∀ d a w, I d a w → (∀ i, i < ops.size → d i = true) → Q .normal a w) : (Code.region id ops true).wpIn F n P Q a w := by
  refine wpIn_region_any hm (wpAnyIn_inv I he hstep hend ops.size _ a _ (by simp) ?_ ?_)
  · have e : dof (Array.replicate ops.size false) = fun _ => false := by
      funext j
      unfold dof
      by_cases h : j < ops.size <;> simp [h]
    rw [e, un_all]; exact Nat.le_refl _
  · have e : dof (Array.replicate ops.size false) = fun _ => false := by
      funext j
      unfold dof
      by_cases h : j < ops.size <;> simp [h]
    rw [e]; exact h0
theorem wpOpIn_plain {i : Nat} {o : Oper} {K : Act → World → Prop} {a : Act} {w : World} (ho : ops[i]? = some o) (hg : o.guard = none) (h : o.wpIn F n P a w K Q) : wpOpIn F n P ops Q i K a w := by
  unfold wpOpIn
  rw [ho]
  have hw : Region.wanted o (yielded ops a.tmps) = true := by simp [Region.wanted, hg]
  simp only [hw, if_true]
  exact h
end
def upw (P : Program) (K : Value → World → Prop) : Result Next → Prop
  | .ok (.value v) w => K v w
  | .ok .skip w => K undef w
  | .ok (.enter f args) w => Calls P f args w fun e w' => ∃ v, e = .returned v ∧ K v w'
  | _ => False
@[simp] theorem upw_value (P : Program) (K : Value → World → Prop) (v : Value) (w : World) : upw P K (.ok (.value v) w) = K v w := rfl
@[simp] theorem upw_skip (P : Program) (K : Value → World → Prop) (w : World) : upw P K (.ok .skip w) = K undef w := rfl
@[simp] theorem upw_enter (P : Program) (K : Value → World → Prop) (f : FuncId) (args : Array Value) (w : World) : upw P K (.ok (.enter f args) w) = Calls P f args w fun e w' => ∃ v, e = .returned v ∧ K v w' := rfl
theorem wpIn_round {P : Program} {o : Oper} {a : Act} {w : World} {K : Act → World → Prop} {Q : Exit → Act → World → Prop} {l n : Nat} (hd : ∀ c, o.op ≠ .defer c) (h : upw P (fun v w => K (a.put o.dst v) w) ((execOp a.eval o).run P w)) : o.wpIn (Fence.wide.inRound l) n P a w K Q := by
  refine ⟨fun _ _ => trivial, ?_⟩
  rw [Oper.semAt_eq _ _ _ hd]
  generalize (execOp a.eval o).run P w = r at h
  match r, h with
  | .ok (.value _) _, h => exact h
  | .ok .skip _, h => exact h
  | .ok (.enter f args) w', h =>
    refine ⟨fun h2 => (by cases h2), CallsIn.inRound l (callsIn_wide.2 (Calls.mono h fun e w' he => ?_))⟩
    obtain ⟨v, rfl, hk⟩ := he
    exact hk
end RI
end Go.Proofs.YtefgamhnikeekaaDoor
namespace Go.Proofs.YtefgamhnikeekaaDoor
namespace Pk
open Go.RowKit Go.Shelf
attribute [local go_sem] Oper.semAt_some
def WS (WA WB WC WD : World) (d : Nat → Bool) (wx : World) : Prop :=
  (wx = WA ∧ d 6 = false ∧ d 7 = false ∧ d 10 = false) ∨ (wx = WB ∧ d 6 = true ∧ d 7 = false ∧ d 10 = false) ∨ (wx = WC ∧ d 6 = true ∧ d 7 = true ∧ d 10 = false) ∨ (wx = WD ∧ d 10 = true ∧ ∀ j, j < 8 → d j = true)
theorem WS_keep {WA WB WC WD : World} {d : Nat → Bool} {wx : World} (i : Nat) (h6 : 6 ≠ i) (h7 : 7 ≠ i) (h10 : 10 ≠ i) (h : WS WA WB WC WD d wx) : WS WA WB WC WD (RI.don d i) wx := by
  unfold WS
  rw [RI.don_other _ _ _ h6, RI.don_other _ _ _ h7, RI.don_other _ _ _ h10]
  rcases h with h | h | h | ⟨h1, h2, h3⟩
  · exact .inl h
  · exact .inr (.inl h)
  · exact .inr (.inr (.inl h))
  · refine .inr (.inr (.inr ⟨h1, h2, fun j hj => ?_⟩))
    unfold RI.don
    split
    · rfl
    · exact h3 j hj
theorem WS_rd {WA WB WC WD : World} {d : Nat → Bool} {wx : World} {p : Addr} {v : Value} {i : Nat} (h : WS WA WB WC WD d wx) (hi : d i = false) (h10 : i < 8) (hA : WA.cell? p = some v) (hB : WB.cell? p = some v) (hC : WC.cell? p = some v) : wx.cell? p = some v := by
  rcases h with ⟨rfl, _⟩ | ⟨rfl, _⟩ | ⟨rfl, _⟩ | ⟨_, _, h3⟩
  · exact hA
  · exact hB
  · exact hC
  · rw [h3 i h10] at hi; cases hi
theorem WS_A {WA WB WC WD : World} {d : Nat → Bool} {wx : World} (h : WS WA WB WC WD d wx) (h6 : d 6 = false) : wx = WA ∧ d 7 = false ∧ d 10 = false := by
  rcases h with ⟨rfl, _, h⟩ | ⟨_, h, _⟩ | ⟨_, h, _⟩ | ⟨_, _, h⟩
  · exact ⟨rfl, h⟩
  · rw [h6] at h; cases h
  · rw [h6] at h; cases h
  · rw [h 6 (by decide)] at h6; cases h6
theorem WS_B {WA WB WC WD : World} {d : Nat → Bool} {wx : World} (h : WS WA WB WC WD d wx) (h7 : d 7 = false) (h6 : d 6 = true) : wx = WB ∧ d 10 = false := by
  rcases h with ⟨_, h, _⟩ | ⟨rfl, _, _, h⟩ | ⟨_, _, h, _⟩ | ⟨_, _, h⟩
  · rw [h6] at h; cases h
  · exact ⟨rfl, h⟩
  · rw [h7] at h; cases h
  · rw [h 7 (by decide)] at h7; cases h7
theorem WS_C {WA WB WC WD : World} {d : Nat → Bool} {wx : World} (h : WS WA WB WC WD d wx) (h10 : d 10 = false) (h7 : d 7 = true) : wx = WC := by
  rcases h with ⟨_, _, h, _⟩ | ⟨_, _, h, _⟩ | ⟨rfl, _⟩ | ⟨_, h, _⟩
  · rw [h7] at h; cases h
  · rw [h7] at h; cases h
  · rfl
  · rw [h10] at h; cases h
theorem WS_D {WA WB WC WD : World} {d : Nat → Bool} {wx : World} (h : WS WA WB WC WD d wx) (h10 : d 10 = true) : wx = WD := by
  rcases h with ⟨_, _, _, h⟩ | ⟨_, _, _, h⟩ | ⟨_, _, _, h⟩ | ⟨rfl, _⟩
  · rw [h10] at h; cases h
  · rw [h10] at h; cases h
  · rw [h10] at h; cases h
  · rfl
theorem upw_app {P : Program} {o : Oper} {a : Act} {s x : Operand} {t u : TypeId} {v v2 v' : Value} {w w' : World} {K : Value → World → Prop} (ho : o.op = .call { callee := .builtin .append, args := #[s, x], argTypes := #[t, u] }) (hs : a.eval s = v) (hx : a.eval x = v2)
    (hr : (Builtin.append_ #[t, u] o.type #[v, v2]).run P w = .ok v' w') (h : K v' w') : RI.upw P K ((execOp a.eval o).run P w) := by
  unfold execOp
  simp only [ho, resolve, invoke, builtin, Sem.run_bind, Sem.run_pure, Result.andThen_ok, List.map_toArray, List.map_cons, List.map_nil, hs, hx, hr]
  exact h
def LB (h2 g GB : Nat) (c : Int) (a1 a2 : Option Addr) (n1 p1 n2 p2 : Nat) (c0 c1 c3 c4 c6 c7 c8 c9 : Value) (WA WB WC WD : World) (d : Nat → Bool) (x : Act) (wx : World) : Prop :=
  ∃ (u10 u11 u12 u13 u14 u15 u16 u17 u18 u19 : Value), x = { tmps := #[c0, c1, .pointer (some ⟨h2, 0, none⟩), c3, c4, .int .u8 c, c6, c7, c8, c9, u10, u11, u12, u13, u14, u15, u16, u17, u18, u19], defers := [] } ∧ WS WA WB WC WD d wx ∧ (d 0 = true → u10 = .pointer (some ⟨g, 0, none⟩)) ∧ (d 1 = true → u11 = .pointer (some ⟨g, 0, none⟩)) ∧ (d 2 = true → u12 = .pointer (some ⟨g, 0, none⟩)) ∧ (d 3 = true → u13 = .pointer (some ⟨g, 0, none⟩)) ∧ (d 4 = true → u14 = .slice a1 n1 p1) ∧ (d 5 = true → u15 = .int .u8 c) ∧ (d 6 = true → u16 = .slice (some ⟨GB, 0, none⟩) 1 1) ∧ (d 7 = true → u17 = .slice a2 n2 p2) ∧ (d 8 = true → u18 = .pointer (some ⟨g, 0, none⟩)) ∧ (d 9 = true → u19 = .pointer (some ⟨g, 0, none⟩))
end Pk
end Go.Proofs.YtefgamhnikeekaaDoor
namespace Go.Proofs.YtefgamhnikeekaaDoor
namespace Pk
open Go.RowKit Go.Shelf
structure Wt (g : Nat) (bs : List UInt8) (v : Value) (w : World) : Prop where
  hi : g < w.heap.size
  f : w.frozen? ⟨g, 0, none⟩ = false
  c : w.cell? ⟨g, 0, none⟩ = some v
  o : w.ownsRow (g + 1) 5 1 v bs.length (bcs bs)
structure Fw (g : Nat) (v v' : Value) (w W : World) : Prop where
  os : W.os = w.os
  tape : W.tape = w.tape
  output : W.output = w.output
  size : w.heap.size ≤ W.heap.size
  block : ∀ j, j < w.heap.size → j ≠ g → some j ≠ v.ownBlock → W.heap[j]? = w.heap[j]?
  own : v'.ownBlock = v.ownBlock ∨ ∀ k, v'.ownBlock = some k → w.heap.size ≤ k
theorem Fw_trans {g : Nat} {v v' v'' : Value} {a b c : World} (h : Fw g v v' a b) (k : Fw g v' v'' b c) : Fw g v v'' a c := by
  refine ⟨k.os.trans h.os, k.tape.trans h.tape, k.output.trans h.output, Nat.le_trans h.size k.size, fun j hj hg hv => ?_, ?_⟩
  · refine (k.block j (Nat.lt_of_lt_of_le hj h.size) hg (fun e => ?_)).trans (h.block j hj hg hv)
    rcases h.own with h1 | h1
    · rw [h1] at e; exact hv e
    · have := h1 j e.symm; omega
  · rcases k.own with h2 | h2
    · rcases h.own with h1 | h1
      · exact .inl (h2.trans h1)
      · exact .inr (fun x e => h1 x (by rw [← h2]; exact e))
    · exact .inr (fun x e => Nat.le_trans h.size (h2 x e))
theorem app_one {B : Nat} {bs : List UInt8} {v : Value} {w : World} (c : UInt8) (h : w.ownsRow B 5 1 v bs.length (bcs bs)) (hB : B ≤ w.heap.size) (hlen : bs.length + 1 ≤ 4398046511104) :
    ∃ G cap w', (Builtin.append_ #[22, 22] 22 #[v, .slice (some ⟨w.heap.size, 0, none⟩) 1 1]).run Tryd.prog (w.alloc (.cells #[.int .u8 (c.toNat : Int)] 5)) = .ok (.slice (some ⟨G, 0, none⟩) (bs.length + 1) cap) w' ∧ w'.ownsRow B 5 1 (.slice (some ⟨G, 0, none⟩) (bs.length + 1) cap) (bs ++ [c]).length (bcs (bs ++ [c])) ∧ (w.alloc (.cells #[.int .u8 (c.toNat : Int)] 5)).grownBy w' v.ownBlock ∧ (v.ownBlock = some G ∨ (w.alloc (.cells #[.int .u8 (c.toNat : Int)] 5)).heap.size ≤ G) := by
  obtain ⟨i0, hi0, hz0, hz1, hz2⟩ := info_parts Tryd.infoU8'
  have hnew := heap_alloc_new w (.cells #[.int .u8 (c.toNat : Int)] 5)
  have hsz : (w.alloc (.cells #[.int .u8 (c.toNat : Int)] 5)).heap.size = w.heap.size + 1 := by simp
  obtain ⟨G, cap, w', hr, h7, hgr, hG, _⟩ := run_append_lies (P := Tryd.prog) (w.alloc (.cells #[.int .u8 (c.toNat : Int)] 5)) 22 22 B 5 i0 (.int .u8 0) 1 1 Tryd.underlying22 hi0 hz0 hz1 hz2 rfl (by decide) v bs.length (bcs bs) (h.alloc _) ⟨w.heap.size, 0, none⟩ 1 1 [.int .u8 (c.toNat : Int)] rfl
    (fun j u hj => by
      have ea : (⟨w.heap.size, 0, none⟩ : Addr).add j = ⟨w.heap.size, j, none⟩ := by unfold Addr.add; split <;> simp_all
      rw [ea]
      simp only [World.cell?, hnew]
      simpa using hj) (fun u hu => by
        simp only [List.mem_cons, List.not_mem_nil, or_false] at hu
        subst hu; rfl) (by decide) (by unfold maxLen; omega) (by omega) (by omega) _ rfl
  refine ⟨G, cap, w', hr, ?_, hgr, hG.imp id (fun e => Nat.le_of_eq e.symm)⟩
  rw [List.length_append, bcs_app]
  exact h7
def Lw (w : World) (g : Nat) (v : Value) (h2 : Nat) (bs : List UInt8) (W : World) : Prop :=
  ∃ v', Wt g bs v' W ∧ W.cell? ⟨h2, 0, none⟩ = some (.pointer (some ⟨g, 0, none⟩)) ∧ w.heap.size + 2 ≤ W.heap.size ∧ Fw g v v' w W ∧ (∀ k, v'.ownBlock = some k → k < w.heap.size ∨ w.heap.size + 2 ≤ k)
theorem row_cells {B e z n : Nat} {v : Value} {xs : List Value} {W : World} {k : Nat} (h : W.ownsRow B e z v n xs) (hk : v.ownBlock = some k) : ∃ o, W.heap[k]? = some o ∧ o.isCells = true := by
  rcases h.2 with ⟨h3, _⟩ | ⟨g, cap, cur, h3, h5⟩
  · subst h3; cases hk
  · subst h3
    cases hk
    exact ⟨_, h5.2.1, rfl⟩
theorem Lw_own (w : World) (g : Nat) (v : Value) (h2 B : Nat) (hB : w.heap.size ≤ B) {β : Type} (f : β → List UInt8) : OwnFrom B (fun s W => Lw w g v h2 (f s) W) := by
  rintro s W W' row ⟨v', hw, hc, hh, hf, hx⟩ hg hr
  have hr' : ∀ r, row = some r → ∃ o : Obj, W.heap[r]? = some o ∧ o.isCells = false := fun r e => (hr r e).2
  refine ⟨v', ⟨Nat.lt_of_lt_of_le hw.hi hg.size, (frozen_kept hw.c hg hr').trans hw.f, cell_kept hw.c hg hr', hw.o.kept hg ?_⟩, cell_kept hc hg hr', Nat.le_trans hh hg.size, ⟨hg.os.trans hf.os, hg.tape.trans hf.tape, hg.output.trans hf.output, Nat.le_trans hf.size hg.size, fun j hj h1 h3 => (hg.block j (Nat.lt_of_lt_of_le hj hf.size) (fun e => ?_)).trans (hf.block j hj h1 h3), hf.own⟩, hx⟩
  · cases hv : v'.ownBlock with
    | none => exact .inl rfl
    | some k =>
      right
      intro e
      obtain ⟨o, h4, h5⟩ := row_cells hw.o hv
      obtain ⟨o', h6, h7⟩ := hr' k e.symm
      rw [h4] at h6
      injection h6 with h6
      subst h6
      rw [h5] at h7; cases h7
  · have := (hr j e.symm).1
    omega
theorem Lw_step {w W WC : World} {g b G pq n1 p1 : Nat} {v : Value} {a1 : Option Addr} {bs : List UInt8} (c : UInt8) (hw1 : Wt g bs (.slice a1 n1 p1) W) (hc1 : W.cell? ⟨w.heap.size, 0, none⟩ = some (.pointer (some ⟨g, 0, none⟩))) (hsz : w.heap.size + 2 ≤ W.heap.size) (hgw : g < w.heap.size) (hbw : b < w.heap.size) (hbg : b ≠ g) (hbv : some b ≠ v.ownBlock) (hf1 : Fw g v (.slice a1 n1 p1) w W) (hx1 : ∀ k, (Value.slice a1 n1 p1).ownBlock = some k → k < w.heap.size ∨ w.heap.size + 2 ≤ k)
    (own2 : WC.ownsRow (g + 1) 5 1 (.slice (some ⟨G, 0, none⟩) (bs.length + 1) pq) (bs ++ [c]).length (bcs (bs ++ [c]))) (hgr : (W.drew.alloc (.cells #[.int .u8 (c.toNat : Int)] 5)).grownBy WC (Value.slice a1 n1 p1).ownBlock) (hG : (Value.slice a1 n1 p1).ownBlock = some G ∨ (W.drew.alloc (.cells #[.int .u8 (c.toNat : Int)] 5)).heap.size ≤ G) :
    (W.drew.alloc (.cells #[.int .u8 (c.toNat : Int)] 5)).cell? ⟨w.heap.size, 0, none⟩ = some (.pointer (some ⟨g, 0, none⟩)) ∧ WC.cell? ⟨w.heap.size, 0, none⟩ = some (.pointer (some ⟨g, 0, none⟩)) ∧ (W.drew.alloc (.cells #[.int .u8 (c.toNat : Int)] 5)).cell? ⟨g, 0, none⟩ = some (.slice a1 n1 p1) ∧ WC.cell? ⟨g, 0, none⟩ = some (.slice a1 n1 p1) ∧ WC.frozen? ⟨g, 0, none⟩ = false ∧
    KeepsOthers W (WC.setCell ⟨g, 0, none⟩ (.slice (some ⟨G, 0, none⟩) (bs.length + 1) pq)) ∧ Kp2 (w.heap.size + 1) b W (WC.setCell ⟨g, 0, none⟩ (.slice (some ⟨G, 0, none⟩) (bs.length + 1) pq)) ∧ Lw w g v w.heap.size (bs ++ [c]) (WC.setCell ⟨g, 0, none⟩ (.slice (some ⟨G, 0, none⟩) (bs.length + 1) pq)) := by
  have hlo := hw1.o.lt
  have bB : Below W.heap.size W (W.drew.alloc (.cells #[.int .u8 (c.toNat : Int)] 5)) := ((Below.refl _ _).drew).alloc (Nat.le_refl _) _
  have kO : KeepsOthers W (W.drew.alloc (.cells #[.int .u8 (c.toNat : Int)] 5)) := (KeepsOthers.drew W).trans (KeepsOthers.alloc _ _)
  have hrc : ∀ (j : Nat) (o : Obj), (Value.slice a1 n1 p1).ownBlock = some j → (W.drew.alloc (.cells #[.int .u8 (c.toNat : Int)] 5)).heap[j]? = some o → o.isCells = true := fun j o hj ho => by
    obtain ⟨o', h4, h5⟩ := row_cells (ownb hw1.o bB) hj
    rw [h4] at ho
    injection ho with ho
    subst ho
    exact h5
  have hsB := bB.size
  generalize W.drew.alloc (.cells #[.int .u8 (c.toNat : Int)] 5) = WB at *
  have gs := gb_set WC g 0 (.slice (some ⟨G, 0, none⟩) (bs.length + 1) pq)
  have hgi := hw1.hi
  have ng : some g ≠ (Value.slice a1 n1 p1).ownBlock := fun e => by have := (hlo g e.symm).1; omega
  have nh : some w.heap.size ≠ (Value.slice a1 n1 p1).ownBlock := fun e => by have := hx1 _ e.symm; omega
  have nB : some (w.heap.size + 1) ≠ (Value.slice a1 n1 p1).ownBlock := fun e => by have := hx1 _ e.symm; omega
  have nb : some b ≠ (Value.slice a1 n1 p1).ownBlock := fun e => by
    rcases hf1.own with h | h
    · exact hbv (e.trans h)
    · have := h b e.symm; omega
  have cBg : WB.cell? ⟨g, 0, none⟩ = some (.slice a1 n1 p1) := (bB.cell (p := ⟨g, 0, none⟩) hgi).trans hw1.c
  have cBh : WB.cell? ⟨w.heap.size, 0, none⟩ = some (.pointer (some ⟨g, 0, none⟩)) := (bB.cell (p := ⟨w.heap.size, 0, none⟩) (by show w.heap.size < _; omega)).trans hc1
  have kp : ∀ j, j < W.heap.size → some j ≠ (Value.slice a1 n1 p1).ownBlock → ∀ o, WC.cell? ⟨j, o, none⟩ = W.cell? ⟨j, o, none⟩ := fun j hj hn o => (World.cell?_of_block (a := ⟨j, o, none⟩) (hgr.block j (by omega) hn)).trans (bB.cell (p := ⟨j, o, none⟩) hj)
  have cCg : WC.cell? ⟨g, 0, none⟩ = some (.slice a1 n1 p1) := (kp g hgi ng 0).trans hw1.c
  have cCh : WC.cell? ⟨w.heap.size, 0, none⟩ = some (.pointer (some ⟨g, 0, none⟩)) := (kp _ (by omega) nh 0).trans hc1
  have fCg : WC.frozen? ⟨g, 0, none⟩ = false := (World.frozen?_of_block (a := ⟨g, 0, none⟩) (hgr.block g (by omega) ng)).trans ((bB.frozen (p := ⟨g, 0, none⟩) hgi).trans hw1.f)
  have hGg : G ≠ g := by
    rcases hG with h | h
    · have := (hlo G h).1; omega
    · omega
  have sD : ∀ j, j ≠ g → ∀ o, (WC.setCell ⟨g, 0, none⟩ (.slice (some ⟨G, 0, none⟩) (bs.length + 1) pq)).cell? ⟨j, o, none⟩ = WC.cell? ⟨j, o, none⟩ := fun j hj o => World.cell?_setCell_other WC _ _ _ (fun e => hj (by injection e with e1 _ _; exact e1.symm))
  have szD : (WC.setCell ⟨g, 0, none⟩ (.slice (some ⟨G, 0, none⟩) (bs.length + 1) pq)).heap.size = WC.heap.size := by simp [World.setCell]
  have hsC := hgr.size
  refine ⟨cBh, cCh, cBg, cCg, fCg, (kO.trans (KeepsOthers.of_grownBy hgr hrc)).trans (KeepsOthers.setCell _ _ _), fun o => ⟨(sD _ (by omega) o).trans (kp _ (by omega) nB o), (sD b hbg o).trans (kp b (by omega) nb o)⟩, ⟨_, ⟨by rw [szD]; omega, by rw [World.frozen?_setCell]; exact fCg, World.cell?_setCell_same WC ⟨g, 0, none⟩ _ cCg, own2.kept gs (.inr (fun e => by
    have e2 : (some G : Option Nat) = some g := e
    injection e2 with e2
    exact hGg e2))⟩, (sD _ (by omega) 0).trans cCh, by rw [szD]; omega, Fw_trans hf1 ⟨gs.os.trans (hgr.os.trans bB.os), gs.tape.trans (hgr.tape.trans bB.tape), gs.output.trans (hgr.output.trans bB.output), by rw [szD]; omega, fun j hj h1 h2 => (gs.block j (by omega) (fun e => h1 (by injection e))).trans ((hgr.block j (by omega) h2).trans (bB.block j hj)), ?_⟩, fun k hk => ?_⟩⟩
  · rcases hG with h | h
    · exact .inl h.symm
    · right
      intro k hk
      have e2 : (some G : Option Nat) = some k := hk
      injection e2 with e2
      omega
  · have e2 : (some G : Option Nat) = some k := hk
    injection e2 with e2
    subst e2
    rcases hG with h | h
    · exact hx1 G h
    · right; omega
end Pk
end Go.Proofs.YtefgamhnikeekaaDoor
