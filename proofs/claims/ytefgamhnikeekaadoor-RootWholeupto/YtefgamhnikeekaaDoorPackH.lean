import Derived.Test.YtefgamhnikeekaaDoorPackG
import Derived.Deep.Cut
import Derived.Test.YtefgamhnikeekaaDoorPackA
import Derived.Deep.MidRow
namespace Go.Proofs.YtefgamhnikeekaaDoor
namespace Tr
open Nb Go.RowKit
theorem pt_bz {p : By} (h : Pt p) (j : Nat) (hj : j < p.length) : Sp.bz p j < 16 := by
  have := h (p.getD j 0) (by rw [List.getD_eq_getElem?_getD, List.getElem?_eq_getElem hj]; exact List.getElem_mem hj)
  show (((p.getD j 0).toNat : Nat) : Int) < 16
  omega
theorem not_pt {p : By} (h : ¬ Pt p) : ∃ i, i < p.length ∧ (16 : Int) ≤ Sp.bz p i ∧ ∀ j, j < i → Sp.bz p j < 16 := by
  induction p with
  | nil => exact absurd pt_nil h
  | cons c p ih =>
    by_cases hc : c.toNat < 16
    · obtain ⟨i, h1, h2, h3⟩ := ih (fun hp => h (pt_cons.2 ⟨hc, hp⟩))
      refine ⟨i + 1, by simpa using h1, h2, fun j hj => ?_⟩
      cases j with
      | zero => show ((c.toNat : Nat) : Int) < 16; omega
      | succ j => exact h3 j (by omega)
    · exact ⟨0, by simp, by show (16 : Int) ≤ ((c.toNat : Nat) : Int); omega, fun j hj => absurd hj (by omega)⟩
set_option maxHeartbeats 1000000 in
set_option maxRecDepth 100000 in
theorem rt_zero (a1 a2 a3 : Option Addr) (n1 c1 n2 c2 n3 c3 : Nat) (P : By) (w : World) (p : By) (hz : Hid (n1 ≤ 4194304)) (hp : Hid (Pk.Sl p (.slice a1 n1 c1) w)) :
    Calls Tryd.prog 32 #[.agg #[.int .i64 0, .slice a1 n1 c1, .slice a2 n2 c2, .slice a3 n3 c3], .string (st P)] w fun e w' => e = .returned (.tuple #[.slice none 0 0, .bool true]) ∧ Below w.heap.size w w' := by
  have B0 : Below w.heap.size w (w.alloc (.cells #[.int .i64 0, .slice a1 n1 c1, .slice a2 n2 c2, .slice a3 n3 c3] 32)) := (Below.refl _ _).alloc (Nat.le_refl _) _
  have HA := heap_alloc_new w (.cells #[.int .i64 0, .slice a1 n1 c1, .slice a2 n2 c2, .slice a3 n3 c3] 32)
  have q0 : (w.alloc (.cells #[.int .i64 0, .slice a1 n1 c1, .slice a2 n2 c2, .slice a3 n3 c3] 32)).cell? ⟨w.heap.size, 0, none⟩ = some (.int .i64 0) := by simp only [World.cell?, HA]; rfl
  have q1 : (w.alloc (.cells #[.int .i64 0, .slice a1 n1 c1, .slice a2 n2 c2, .slice a3 n3 c3] 32)).cell? ⟨w.heap.size, 1, none⟩ = some (.slice a1 n1 c1) := by simp only [World.cell?, HA]; rfl
  have q2 : (w.alloc (.cells #[.int .i64 0, .slice a1 n1 c1, .slice a2 n2 c2, .slice a3 n3 c3] 32)).cell? ⟨w.heap.size, 2, none⟩ = some (.slice a2 n2 c2) := by simp only [World.cell?, HA]; rfl
  have q3 : (w.alloc (.cells #[.int .i64 0, .slice a1 n1 c1, .slice a2 n2 c2, .slice a3 n3 c3] 32)).cell? ⟨w.heap.size, 3, none⟩ = some (.slice a3 n3 c3) := by simp only [World.cell?, HA]; rfl
  have hh : w.heap.size < (w.alloc (.cells #[.int .i64 0, .slice a1 n1 c1, .slice a2 n2 c2, .slice a3 n3 c3] 32)).heap.size := by simp
  have SP : Hid (Pk.Sl p (.slice a1 n1 c1) (w.alloc (.cells #[.int .i64 0, .slice a1 n1 c1, .slice a2 n2 c2, .slice a3 n3 c3] 32))) := Pk.Sl_below hp.out B0
  clear HA
  go_enter Tryd.func32, Tryd.ntmps32
  go_wp2_with fail
  generalize (w.alloc (.cells #[.int .i64 0, .slice a1 n1 c1, .slice a2 n2 c2, .slice a3 n3 c3] 32)) = W0 at *
  generalize hg0 : w.heap.size = g0 at *
  go_loopw [16] (fun i wr => ∃ j : Nat, j ≤ n1 ∧ i = .int .i64 (j : Int) ∧ wr = W0) (fun i _ => ((n1 : Int) - intOf i).toNat)
  case atStart => exact ⟨0, Nat.zero_le _, rfl, rfl⟩
  case round =>
    obtain ⟨j, hj, rfl, rfl⟩ := hrel
    by_cases hlt : j < n1
    · have d0 : decide ((j : Int) < (n1 : Int)) = true := decide_eq_true (by omega)
      have d1 : (0 : Int) ≤ (j : Int) := by omega
      have d2 : (j : Int) < (n1 : Int) := by omega
      obtain ⟨ao, cap, e2, -, hq⟩ := SP.out
      injection e2 with e2 e3 e4
      subst e2
      obtain ⟨gp, off, rfl, hgp, hcell⟩ := hq (by omega)
      have x0 := hcell j (by omega)
      have e5 : Hid (wrap64 ((j : Int) + 1) = ((j + 1 : Nat) : Int)) := by have := hz.out; show _ = _; unfold wrap64; omega
      clear hq hcell e3 e4
      go_wp2_with fail
      rw [e5.out]
      exact ⟨⟨j + 1, by omega, rfl, by trivial⟩, msr_up j n1 hlt⟩
    · have d0 : decide ((j : Int) < (n1 : Int)) = false := decide_eq_false (by omega)
      have BF : Hid (Below w.heap.size w wr) := hg0 ▸ B0
      go_wp2_with fail
      go_ret2
      exact ⟨rfl, BF.out⟩
set_option maxHeartbeats 1000000 in
set_option maxRecDepth 100000 in
theorem rt_other (a1 a2 a3 : Option Addr) (n1 c1 n2 c2 n3 c3 : Nat) (P : By) (w : World) (p : By) (hz : Hid (n1 ≤ 4194304)) (hp : Hid (Pk.Sl p (.slice a1 n1 c1) w)) (k : Int) (k0 : k ≠ 0) (k1 : k ≠ 1) (k2 : k ≠ 2) (k3 : k ≠ 3) :
    Calls Tryd.prog 32 #[.agg #[.int .i64 k, .slice a1 n1 c1, .slice a2 n2 c2, .slice a3 n3 c3], .string (st P)] w fun e w' => e = .returned (.tuple #[.slice none 0 0, .bool false]) ∧ Below w.heap.size w w' := by
  have f0 : (k == 0) = false := beq_eq_false_iff_ne.2 k0
  have f1 : (k == 1) = false := beq_eq_false_iff_ne.2 k1
  have f2 : (k == 2) = false := beq_eq_false_iff_ne.2 k2
  have f3 : (k == 3) = false := beq_eq_false_iff_ne.2 k3
  clear k0 k1 k2 k3
  have B0 : Below w.heap.size w (w.alloc (.cells #[.int .i64 k, .slice a1 n1 c1, .slice a2 n2 c2, .slice a3 n3 c3] 32)) := (Below.refl _ _).alloc (Nat.le_refl _) _
  have HA := heap_alloc_new w (.cells #[.int .i64 k, .slice a1 n1 c1, .slice a2 n2 c2, .slice a3 n3 c3] 32)
  have q0 : (w.alloc (.cells #[.int .i64 k, .slice a1 n1 c1, .slice a2 n2 c2, .slice a3 n3 c3] 32)).cell? ⟨w.heap.size, 0, none⟩ = some (.int .i64 k) := by simp only [World.cell?, HA]; rfl
  have q1 : (w.alloc (.cells #[.int .i64 k, .slice a1 n1 c1, .slice a2 n2 c2, .slice a3 n3 c3] 32)).cell? ⟨w.heap.size, 1, none⟩ = some (.slice a1 n1 c1) := by simp only [World.cell?, HA]; rfl
  have q2 : (w.alloc (.cells #[.int .i64 k, .slice a1 n1 c1, .slice a2 n2 c2, .slice a3 n3 c3] 32)).cell? ⟨w.heap.size, 2, none⟩ = some (.slice a2 n2 c2) := by simp only [World.cell?, HA]; rfl
  have q3 : (w.alloc (.cells #[.int .i64 k, .slice a1 n1 c1, .slice a2 n2 c2, .slice a3 n3 c3] 32)).cell? ⟨w.heap.size, 3, none⟩ = some (.slice a3 n3 c3) := by simp only [World.cell?, HA]; rfl
  have hh : w.heap.size < (w.alloc (.cells #[.int .i64 k, .slice a1 n1 c1, .slice a2 n2 c2, .slice a3 n3 c3] 32)).heap.size := by simp
  have SP : Hid (Pk.Sl p (.slice a1 n1 c1) (w.alloc (.cells #[.int .i64 k, .slice a1 n1 c1, .slice a2 n2 c2, .slice a3 n3 c3] 32))) := Pk.Sl_below hp.out B0
  clear HA
  go_enter Tryd.func32, Tryd.ntmps32
  go_wp2_with fail
  generalize (w.alloc (.cells #[.int .i64 k, .slice a1 n1 c1, .slice a2 n2 c2, .slice a3 n3 c3] 32)) = W0 at *
  generalize hg0 : w.heap.size = g0 at *
  go_loopw [16] (fun i wr => ∃ j : Nat, j ≤ n1 ∧ i = .int .i64 (j : Int) ∧ wr = W0) (fun i _ => ((n1 : Int) - intOf i).toNat)
  case atStart => exact ⟨0, Nat.zero_le _, rfl, rfl⟩
  case round =>
    obtain ⟨j, hj, rfl, rfl⟩ := hrel
    by_cases hlt : j < n1
    · have d0 : decide ((j : Int) < (n1 : Int)) = true := decide_eq_true (by omega)
      have d1 : (0 : Int) ≤ (j : Int) := by omega
      have d2 : (j : Int) < (n1 : Int) := by omega
      obtain ⟨ao, cap, e2, -, hq⟩ := SP.out
      injection e2 with e2 e3 e4
      subst e2
      obtain ⟨gp, off, rfl, hgp, hcell⟩ := hq (by omega)
      have x0 := hcell j (by omega)
      have e5 : Hid (wrap64 ((j : Int) + 1) = ((j + 1 : Nat) : Int)) := by have := hz.out; show _ = _; unfold wrap64; omega
      clear hq hcell e3 e4
      go_wp2_with fail
      rw [e5.out]
      exact ⟨⟨j + 1, by omega, rfl, by trivial⟩, msr_up j n1 hlt⟩
    · have d0 : decide ((j : Int) < (n1 : Int)) = false := decide_eq_false (by omega)
      have BF : Hid (Below w.heap.size w wr) := hg0 ▸ B0
      go_wp2_with fail
      go_ret2
      exact ⟨rfl, BF.out⟩
set_option maxHeartbeats 1000000 in
set_option maxRecDepth 100000 in
theorem rt_fork_no (a1 a2 a3 : Option Addr) (n1 c1 n2 c2 n3 c3 : Nat) (P : By) (w : World) (p : By) (hz : Hid (n1 ≤ 4194304)) (hp : Hid (Pk.Sl p (.slice a1 n1 c1) w)) (hl : n3 ≠ 16) :
    Calls Tryd.prog 32 #[.agg #[.int .i64 3, .slice a1 n1 c1, .slice a2 n2 c2, .slice a3 n3 c3], .string (st P)] w fun e w' => e = .returned (.tuple #[.slice none 0 0, .bool false]) ∧ Below w.heap.size w w' := by
  have f9 : ((n3 : Int) == 16) = false := beq_eq_false_iff_ne.2 (by omega)
  have B0 : Below w.heap.size w (w.alloc (.cells #[.int .i64 3, .slice a1 n1 c1, .slice a2 n2 c2, .slice a3 n3 c3] 32)) := (Below.refl _ _).alloc (Nat.le_refl _) _
  have HA := heap_alloc_new w (.cells #[.int .i64 3, .slice a1 n1 c1, .slice a2 n2 c2, .slice a3 n3 c3] 32)
  have q0 : (w.alloc (.cells #[.int .i64 3, .slice a1 n1 c1, .slice a2 n2 c2, .slice a3 n3 c3] 32)).cell? ⟨w.heap.size, 0, none⟩ = some (.int .i64 3) := by simp only [World.cell?, HA]; rfl
  have q1 : (w.alloc (.cells #[.int .i64 3, .slice a1 n1 c1, .slice a2 n2 c2, .slice a3 n3 c3] 32)).cell? ⟨w.heap.size, 1, none⟩ = some (.slice a1 n1 c1) := by simp only [World.cell?, HA]; rfl
  have q2 : (w.alloc (.cells #[.int .i64 3, .slice a1 n1 c1, .slice a2 n2 c2, .slice a3 n3 c3] 32)).cell? ⟨w.heap.size, 2, none⟩ = some (.slice a2 n2 c2) := by simp only [World.cell?, HA]; rfl
  have q3 : (w.alloc (.cells #[.int .i64 3, .slice a1 n1 c1, .slice a2 n2 c2, .slice a3 n3 c3] 32)).cell? ⟨w.heap.size, 3, none⟩ = some (.slice a3 n3 c3) := by simp only [World.cell?, HA]; rfl
  have hh : w.heap.size < (w.alloc (.cells #[.int .i64 3, .slice a1 n1 c1, .slice a2 n2 c2, .slice a3 n3 c3] 32)).heap.size := by simp
  have SP : Hid (Pk.Sl p (.slice a1 n1 c1) (w.alloc (.cells #[.int .i64 3, .slice a1 n1 c1, .slice a2 n2 c2, .slice a3 n3 c3] 32))) := Pk.Sl_below hp.out B0
  clear HA
  go_enter Tryd.func32, Tryd.ntmps32
  go_wp2_with fail
  generalize (w.alloc (.cells #[.int .i64 3, .slice a1 n1 c1, .slice a2 n2 c2, .slice a3 n3 c3] 32)) = W0 at *
  generalize hg0 : w.heap.size = g0 at *
  go_loopw [16] (fun i wr => ∃ j : Nat, j ≤ n1 ∧ i = .int .i64 (j : Int) ∧ wr = W0) (fun i _ => ((n1 : Int) - intOf i).toNat)
  case atStart => exact ⟨0, Nat.zero_le _, rfl, rfl⟩
  case round =>
    obtain ⟨j, hj, rfl, rfl⟩ := hrel
    by_cases hlt : j < n1
    · have d0 : decide ((j : Int) < (n1 : Int)) = true := decide_eq_true (by omega)
      have d1 : (0 : Int) ≤ (j : Int) := by omega
      have d2 : (j : Int) < (n1 : Int) := by omega
      obtain ⟨ao, cap, e2, -, hq⟩ := SP.out
      injection e2 with e2 e3 e4
      subst e2
      obtain ⟨gp, off, rfl, hgp, hcell⟩ := hq (by omega)
      have x0 := hcell j (by omega)
      have e5 : Hid (wrap64 ((j : Int) + 1) = ((j + 1 : Nat) : Int)) := by have := hz.out; show _ = _; unfold wrap64; omega
      clear hq hcell e3 e4
      go_wp2_with fail
      rw [e5.out]
      exact ⟨⟨j + 1, by omega, rfl, by trivial⟩, msr_up j n1 hlt⟩
    · have d0 : decide ((j : Int) < (n1 : Int)) = false := decide_eq_false (by omega)
      have BF : Hid (Below w.heap.size w wr) := hg0 ▸ B0
      go_wp2_with fail
      go_ret2
      exact ⟨rfl, BF.out⟩
set_option maxHeartbeats 1000000 in
set_option maxRecDepth 100000 in
theorem rt_road_no (a1 a2 a3 : Option Addr) (n1 c1 n2 c2 n3 c3 : Nat) (P : By) (w : World) (p : By) (hz : Hid (n1 ≤ 4194304)) (hp : Hid (Pk.Sl p (.slice a1 n1 c1) w)) (HP : Hid (∀ j, j < n1 → Sp.bz p j < 16)) (hl : n3 ≠ 1) :
    Calls Tryd.prog 32 #[.agg #[.int .i64 2, .slice a1 n1 c1, .slice a2 n2 c2, .slice a3 n3 c3], .string (st P)] w fun e w' => e = .returned (.tuple #[.slice none 0 0, .bool false]) ∧ Below w.heap.size w w' := by
  have f9 : ((n3 : Int) == 1) = false := beq_eq_false_iff_ne.2 (by omega)
  have B0 : Below w.heap.size w (w.alloc (.cells #[.int .i64 2, .slice a1 n1 c1, .slice a2 n2 c2, .slice a3 n3 c3] 32)) := (Below.refl _ _).alloc (Nat.le_refl _) _
  have HA := heap_alloc_new w (.cells #[.int .i64 2, .slice a1 n1 c1, .slice a2 n2 c2, .slice a3 n3 c3] 32)
  have q0 : (w.alloc (.cells #[.int .i64 2, .slice a1 n1 c1, .slice a2 n2 c2, .slice a3 n3 c3] 32)).cell? ⟨w.heap.size, 0, none⟩ = some (.int .i64 2) := by simp only [World.cell?, HA]; rfl
  have q1 : (w.alloc (.cells #[.int .i64 2, .slice a1 n1 c1, .slice a2 n2 c2, .slice a3 n3 c3] 32)).cell? ⟨w.heap.size, 1, none⟩ = some (.slice a1 n1 c1) := by simp only [World.cell?, HA]; rfl
  have q2 : (w.alloc (.cells #[.int .i64 2, .slice a1 n1 c1, .slice a2 n2 c2, .slice a3 n3 c3] 32)).cell? ⟨w.heap.size, 2, none⟩ = some (.slice a2 n2 c2) := by simp only [World.cell?, HA]; rfl
  have q3 : (w.alloc (.cells #[.int .i64 2, .slice a1 n1 c1, .slice a2 n2 c2, .slice a3 n3 c3] 32)).cell? ⟨w.heap.size, 3, none⟩ = some (.slice a3 n3 c3) := by simp only [World.cell?, HA]; rfl
  have hh : w.heap.size < (w.alloc (.cells #[.int .i64 2, .slice a1 n1 c1, .slice a2 n2 c2, .slice a3 n3 c3] 32)).heap.size := by simp
  have SP : Hid (Pk.Sl p (.slice a1 n1 c1) (w.alloc (.cells #[.int .i64 2, .slice a1 n1 c1, .slice a2 n2 c2, .slice a3 n3 c3] 32))) := Pk.Sl_below hp.out B0
  clear HA
  go_enter Tryd.func32, Tryd.ntmps32
  go_wp2_with fail
  generalize (w.alloc (.cells #[.int .i64 2, .slice a1 n1 c1, .slice a2 n2 c2, .slice a3 n3 c3] 32)) = W0 at *
  generalize hg0 : w.heap.size = g0 at *
  go_loopw [16] (fun i wr => ∃ j : Nat, j ≤ n1 ∧ i = .int .i64 (j : Int) ∧ wr = W0) (fun i _ => ((n1 : Int) - intOf i).toNat)
  case atStart => exact ⟨0, Nat.zero_le _, rfl, rfl⟩
  case round =>
    obtain ⟨j, hj, rfl, rfl⟩ := hrel
    by_cases hlt : j < n1
    · have d0 : decide ((j : Int) < (n1 : Int)) = true := decide_eq_true (by omega)
      have d1 : (0 : Int) ≤ (j : Int) := by omega
      have d2 : (j : Int) < (n1 : Int) := by omega
      obtain ⟨ao, cap, e2, -, hq⟩ := SP.out
      injection e2 with e2 e3 e4
      subst e2
      obtain ⟨gp, off, rfl, hgp, hcell⟩ := hq (by omega)
      have x0 := hcell j (by omega)
      have e5 : Hid (wrap64 ((j : Int) + 1) = ((j + 1 : Nat) : Int)) := by have := hz.out; show _ = _; unfold wrap64; omega
      have hx : Sp.bz p j < 16 := HP.out j (by omega)
      have t0 : decide ((15 : Int) < Sp.bz p j) = false := decide_eq_false (by omega)
      have t1 : ¬ (15 : Int) < Sp.bz p j := by omega
      generalize Sp.bz p j = y at *
      clear hq hcell e3 e4
      go_wp2_with fail
      rw [e5.out]
      exact ⟨⟨j + 1, by omega, rfl, by trivial⟩, msr_up j n1 hlt⟩
    · have d0 : decide ((j : Int) < (n1 : Int)) = false := decide_eq_false (by omega)
      have BF : Hid (Below w.heap.size w wr) := hg0 ▸ B0
      go_wp2_with fail
      go_ret2
      exact ⟨rfl, BF.out⟩
set_option maxHeartbeats 1000000 in
set_option maxRecDepth 100000 in
theorem rt_leaf (a1 a2 a3 : Option Addr) (n1 c1 n2 c2 n3 c3 : Nat) (P : By) (w : World) (p : By) (hz : Hid (n1 ≤ 4194304)) (hp : Hid (Pk.Sl p (.slice a1 n1 c1) w)) (HP : Hid (∀ j, j < n1 → Sp.bz p j < 16)) (hn : Hid (n1 = p.length)) (v : By) (hv : Hid (Pk.Sl v (.slice a2 n2 c2) w)) (hP : P.length ≤ 4194304) :
    Calls Tryd.prog 32 #[.agg #[.int .i64 1, .slice a1 n1 c1, .slice a2 n2 c2, .slice a3 n3 c3], .string (st P)] w fun e w' => (∃ x, e = .returned (.tuple #[x, .bool true]) ∧ Rv [(P ++ p, v)] x w') ∧ Below w.heap.size w w' := by
  have B0 : Below w.heap.size w (w.alloc (.cells #[.int .i64 1, .slice a1 n1 c1, .slice a2 n2 c2, .slice a3 n3 c3] 32)) := (Below.refl _ _).alloc (Nat.le_refl _) _
  have HA := heap_alloc_new w (.cells #[.int .i64 1, .slice a1 n1 c1, .slice a2 n2 c2, .slice a3 n3 c3] 32)
  have q0 : (w.alloc (.cells #[.int .i64 1, .slice a1 n1 c1, .slice a2 n2 c2, .slice a3 n3 c3] 32)).cell? ⟨w.heap.size, 0, none⟩ = some (.int .i64 1) := by simp only [World.cell?, HA]; rfl
  have q1 : (w.alloc (.cells #[.int .i64 1, .slice a1 n1 c1, .slice a2 n2 c2, .slice a3 n3 c3] 32)).cell? ⟨w.heap.size, 1, none⟩ = some (.slice a1 n1 c1) := by simp only [World.cell?, HA]; rfl
  have q2 : (w.alloc (.cells #[.int .i64 1, .slice a1 n1 c1, .slice a2 n2 c2, .slice a3 n3 c3] 32)).cell? ⟨w.heap.size, 2, none⟩ = some (.slice a2 n2 c2) := by simp only [World.cell?, HA]; rfl
  have q3 : (w.alloc (.cells #[.int .i64 1, .slice a1 n1 c1, .slice a2 n2 c2, .slice a3 n3 c3] 32)).cell? ⟨w.heap.size, 3, none⟩ = some (.slice a3 n3 c3) := by simp only [World.cell?, HA]; rfl
  have hh : w.heap.size < (w.alloc (.cells #[.int .i64 1, .slice a1 n1 c1, .slice a2 n2 c2, .slice a3 n3 c3] 32)).heap.size := by simp
  have SP : Hid (Pk.Sl p (.slice a1 n1 c1) (w.alloc (.cells #[.int .i64 1, .slice a1 n1 c1, .slice a2 n2 c2, .slice a3 n3 c3] 32))) := Pk.Sl_below hp.out B0
  clear HA
  have SV : Hid (Pk.Sl v (.slice a2 n2 c2) (w.alloc (.cells #[.int .i64 1, .slice a1 n1 c1, .slice a2 n2 c2, .slice a3 n3 c3] 32))) := Pk.Sl_below hv.out B0
  have HC : Hid (∀ W : World, (Op.stringOp .add (st P) (st p)).run Tryd.prog W = .ok (.string (st (P ++ p))) W) := fun W => cat_st P p (by have := hn.out; have := hz.out; omega) W
  go_enter Tryd.func32, Tryd.ntmps32
  go_wp2_with fail
  generalize (w.alloc (.cells #[.int .i64 1, .slice a1 n1 c1, .slice a2 n2 c2, .slice a3 n3 c3] 32)) = W0 at *
  generalize hg0 : w.heap.size = g0 at *
  go_loopw [16] (fun i wr => ∃ j : Nat, j ≤ n1 ∧ i = .int .i64 (j : Int) ∧ wr = W0) (fun i _ => ((n1 : Int) - intOf i).toNat)
  case atStart => exact ⟨0, Nat.zero_le _, rfl, rfl⟩
  case round =>
    obtain ⟨j, hj, rfl, rfl⟩ := hrel
    by_cases hlt : j < n1
    · have d0 : decide ((j : Int) < (n1 : Int)) = true := decide_eq_true (by omega)
      have d1 : (0 : Int) ≤ (j : Int) := by omega
      have d2 : (j : Int) < (n1 : Int) := by omega
      obtain ⟨ao, cap, e2, -, hq⟩ := SP.out
      injection e2 with e2 e3 e4
      subst e2
      obtain ⟨gp, off, rfl, hgp, hcell⟩ := hq (by omega)
      have x0 := hcell j (by omega)
      have e5 : Hid (wrap64 ((j : Int) + 1) = ((j + 1 : Nat) : Int)) := by have := hz.out; show _ = _; unfold wrap64; omega
      have hx : Sp.bz p j < 16 := HP.out j (by omega)
      have t0 : decide ((15 : Int) < Sp.bz p j) = false := decide_eq_false (by omega)
      have t1 : ¬ (15 : Int) < Sp.bz p j := by omega
      generalize Sp.bz p j = y at *
      clear hq hcell e3 e4
      go_wp2_with fail
      rw [e5.out]
      exact ⟨⟨j + 1, by omega, rfl, by trivial⟩, msr_up j n1 hlt⟩
    · have d0 : decide ((j : Int) < (n1 : Int)) = false := decide_eq_false (by omega)
      have BF : Hid (Below w.heap.size w (wr.alloc (.cells #[.string (st (P ++ p)), .string (st v)] 70))) := by
        show Below _ _ _
        rw [hg0]
        exact B0.trans (((Below.refl _ _).alloc (Nat.le_refl _) _).mono (by omega))
      have x1 := Sl_st SP.out
      have x2 := Sl_st SV.out
      have x3 := HC.out wr
      have HR : Hid (Rv [(P ++ p, v)] (.slice (some ⟨wr.heap.size, 0, none⟩) 1 1) (wr.alloc (.cells #[.string (st (P ++ p)), .string (st v)] 70))) := lit_rv (P ++ p, v) wr
      generalize st (P ++ p) = X at *
      generalize st p = Y at *
      generalize st v = Z at *
      go_wp2_with fail
      go_ret2
      exact ⟨⟨_, rfl, HR.out⟩, BF.out⟩
set_option maxHeartbeats 1000000 in
set_option maxRecDepth 100000 in
theorem rt_leaf_no (a1 a2 a3 : Option Addr) (n1 c1 n2 c2 n3 c3 : Nat) (P : By) (w : World) (p : By) (hz : Hid (n1 ≤ 4194304)) (hp : Hid (Pk.Sl p (.slice a1 n1 c1) w)) (i0 : Nat) (hi0 : i0 < n1) (HB : Hid ((16 : Int) ≤ Sp.bz p i0 ∧ ∀ j, j < i0 → Sp.bz p j < 16)) :
    Calls Tryd.prog 32 #[.agg #[.int .i64 1, .slice a1 n1 c1, .slice a2 n2 c2, .slice a3 n3 c3], .string (st P)] w fun e w' => e = .returned (.tuple #[.slice none 0 0, .bool false]) ∧ Below w.heap.size w w' := by
  have B0 : Below w.heap.size w (w.alloc (.cells #[.int .i64 1, .slice a1 n1 c1, .slice a2 n2 c2, .slice a3 n3 c3] 32)) := (Below.refl _ _).alloc (Nat.le_refl _) _
  have HA := heap_alloc_new w (.cells #[.int .i64 1, .slice a1 n1 c1, .slice a2 n2 c2, .slice a3 n3 c3] 32)
  have q0 : (w.alloc (.cells #[.int .i64 1, .slice a1 n1 c1, .slice a2 n2 c2, .slice a3 n3 c3] 32)).cell? ⟨w.heap.size, 0, none⟩ = some (.int .i64 1) := by simp only [World.cell?, HA]; rfl
  have q1 : (w.alloc (.cells #[.int .i64 1, .slice a1 n1 c1, .slice a2 n2 c2, .slice a3 n3 c3] 32)).cell? ⟨w.heap.size, 1, none⟩ = some (.slice a1 n1 c1) := by simp only [World.cell?, HA]; rfl
  have q2 : (w.alloc (.cells #[.int .i64 1, .slice a1 n1 c1, .slice a2 n2 c2, .slice a3 n3 c3] 32)).cell? ⟨w.heap.size, 2, none⟩ = some (.slice a2 n2 c2) := by simp only [World.cell?, HA]; rfl
  have q3 : (w.alloc (.cells #[.int .i64 1, .slice a1 n1 c1, .slice a2 n2 c2, .slice a3 n3 c3] 32)).cell? ⟨w.heap.size, 3, none⟩ = some (.slice a3 n3 c3) := by simp only [World.cell?, HA]; rfl
  have hh : w.heap.size < (w.alloc (.cells #[.int .i64 1, .slice a1 n1 c1, .slice a2 n2 c2, .slice a3 n3 c3] 32)).heap.size := by simp
  have SP : Hid (Pk.Sl p (.slice a1 n1 c1) (w.alloc (.cells #[.int .i64 1, .slice a1 n1 c1, .slice a2 n2 c2, .slice a3 n3 c3] 32))) := Pk.Sl_below hp.out B0
  clear HA
  go_enter Tryd.func32, Tryd.ntmps32
  go_wp2_with fail
  generalize (w.alloc (.cells #[.int .i64 1, .slice a1 n1 c1, .slice a2 n2 c2, .slice a3 n3 c3] 32)) = W0 at *
  generalize hg0 : w.heap.size = g0 at *
  go_loopw [16] (fun i wr => ∃ j : Nat, j ≤ i0 ∧ i = .int .i64 (j : Int) ∧ wr = W0) (fun i _ => ((n1 : Int) - intOf i).toNat)
  case atStart => exact ⟨0, Nat.zero_le _, rfl, rfl⟩
  case round =>
    obtain ⟨j, hj, rfl, rfl⟩ := hrel
    by_cases hlt : j < n1
    · have d0 : decide ((j : Int) < (n1 : Int)) = true := decide_eq_true (by omega)
      have d1 : (0 : Int) ≤ (j : Int) := by omega
      have d2 : (j : Int) < (n1 : Int) := by omega
      obtain ⟨ao, cap, e2, -, hq⟩ := SP.out
      injection e2 with e2 e3 e4
      subst e2
      obtain ⟨gp, off, rfl, hgp, hcell⟩ := hq (by omega)
      have x0 := hcell j (by omega)
      have e5 : Hid (wrap64 ((j : Int) + 1) = ((j + 1 : Nat) : Int)) := by have := hz.out; show _ = _; unfold wrap64; omega
      by_cases hb : j = i0
      · subst hb
        have hx := HB.out.1
        have t0 : decide ((15 : Int) < Sp.bz p j) = true := decide_eq_true (by omega)
        have t1 : (15 : Int) < Sp.bz p j := by omega
        have BF : Hid (Below w.heap.size w wr) := hg0 ▸ B0
        clear HB
        generalize Sp.bz p j = y at *
        clear hq hcell e3 e4
        go_wp2_with fail
        go_ret2
        exact ⟨rfl, BF.out⟩
      · have hx : Sp.bz p j < 16 := HB.out.2 j (by omega)
        have t0 : decide ((15 : Int) < Sp.bz p j) = false := decide_eq_false (by omega)
        have t1 : ¬ (15 : Int) < Sp.bz p j := by omega
        clear HB
        generalize Sp.bz p j = y at *
        clear hq hcell e3 e4
        go_wp2_with fail
        rw [e5.out]
        exact ⟨⟨j + 1, by omega, rfl, by trivial⟩, msr_up j n1 hlt⟩
    · exact absurd hlt (by omega)
set_option maxHeartbeats 1000000 in
set_option maxRecDepth 100000 in
theorem rt_road_bad (a1 a2 a3 : Option Addr) (n1 c1 n2 c2 n3 c3 : Nat) (P : By) (w : World) (p : By) (hz : Hid (n1 ≤ 4194304)) (hp : Hid (Pk.Sl p (.slice a1 n1 c1) w)) (i0 : Nat) (hi0 : i0 < n1) (HB : Hid ((16 : Int) ≤ Sp.bz p i0 ∧ ∀ j, j < i0 → Sp.bz p j < 16)) :
    Calls Tryd.prog 32 #[.agg #[.int .i64 2, .slice a1 n1 c1, .slice a2 n2 c2, .slice a3 n3 c3], .string (st P)] w fun e w' => e = .returned (.tuple #[.slice none 0 0, .bool false]) ∧ Below w.heap.size w w' := by
  have B0 : Below w.heap.size w (w.alloc (.cells #[.int .i64 2, .slice a1 n1 c1, .slice a2 n2 c2, .slice a3 n3 c3] 32)) := (Below.refl _ _).alloc (Nat.le_refl _) _
  have HA := heap_alloc_new w (.cells #[.int .i64 2, .slice a1 n1 c1, .slice a2 n2 c2, .slice a3 n3 c3] 32)
  have q0 : (w.alloc (.cells #[.int .i64 2, .slice a1 n1 c1, .slice a2 n2 c2, .slice a3 n3 c3] 32)).cell? ⟨w.heap.size, 0, none⟩ = some (.int .i64 2) := by simp only [World.cell?, HA]; rfl
  have q1 : (w.alloc (.cells #[.int .i64 2, .slice a1 n1 c1, .slice a2 n2 c2, .slice a3 n3 c3] 32)).cell? ⟨w.heap.size, 1, none⟩ = some (.slice a1 n1 c1) := by simp only [World.cell?, HA]; rfl
  have q2 : (w.alloc (.cells #[.int .i64 2, .slice a1 n1 c1, .slice a2 n2 c2, .slice a3 n3 c3] 32)).cell? ⟨w.heap.size, 2, none⟩ = some (.slice a2 n2 c2) := by simp only [World.cell?, HA]; rfl
  have q3 : (w.alloc (.cells #[.int .i64 2, .slice a1 n1 c1, .slice a2 n2 c2, .slice a3 n3 c3] 32)).cell? ⟨w.heap.size, 3, none⟩ = some (.slice a3 n3 c3) := by simp only [World.cell?, HA]; rfl
  have hh : w.heap.size < (w.alloc (.cells #[.int .i64 2, .slice a1 n1 c1, .slice a2 n2 c2, .slice a3 n3 c3] 32)).heap.size := by simp
  have SP : Hid (Pk.Sl p (.slice a1 n1 c1) (w.alloc (.cells #[.int .i64 2, .slice a1 n1 c1, .slice a2 n2 c2, .slice a3 n3 c3] 32))) := Pk.Sl_below hp.out B0
  clear HA
  go_enter Tryd.func32, Tryd.ntmps32
  go_wp2_with fail
  generalize (w.alloc (.cells #[.int .i64 2, .slice a1 n1 c1, .slice a2 n2 c2, .slice a3 n3 c3] 32)) = W0 at *
  generalize hg0 : w.heap.size = g0 at *
  go_loopw [16] (fun i wr => ∃ j : Nat, j ≤ i0 ∧ i = .int .i64 (j : Int) ∧ wr = W0) (fun i _ => ((n1 : Int) - intOf i).toNat)
  case atStart => exact ⟨0, Nat.zero_le _, rfl, rfl⟩
  case round =>
    obtain ⟨j, hj, rfl, rfl⟩ := hrel
    by_cases hlt : j < n1
    · have d0 : decide ((j : Int) < (n1 : Int)) = true := decide_eq_true (by omega)
      have d1 : (0 : Int) ≤ (j : Int) := by omega
      have d2 : (j : Int) < (n1 : Int) := by omega
      obtain ⟨ao, cap, e2, -, hq⟩ := SP.out
      injection e2 with e2 e3 e4
      subst e2
      obtain ⟨gp, off, rfl, hgp, hcell⟩ := hq (by omega)
      have x0 := hcell j (by omega)
      have e5 : Hid (wrap64 ((j : Int) + 1) = ((j + 1 : Nat) : Int)) := by have := hz.out; show _ = _; unfold wrap64; omega
      by_cases hb : j = i0
      · subst hb
        have hx := HB.out.1
        have t0 : decide ((15 : Int) < Sp.bz p j) = true := decide_eq_true (by omega)
        have t1 : (15 : Int) < Sp.bz p j := by omega
        have BF : Hid (Below w.heap.size w wr) := hg0 ▸ B0
        clear HB
        generalize Sp.bz p j = y at *
        clear hq hcell e3 e4
        go_wp2_with fail
        go_ret2
        exact ⟨rfl, BF.out⟩
      · have hx : Sp.bz p j < 16 := HB.out.2 j (by omega)
        have t0 : decide ((15 : Int) < Sp.bz p j) = false := decide_eq_false (by omega)
        have t1 : ¬ (15 : Int) < Sp.bz p j := by omega
        clear HB
        generalize Sp.bz p j = y at *
        clear hq hcell e3 e4
        go_wp2_with fail
        rw [e5.out]
        exact ⟨⟨j + 1, by omega, rfl, by trivial⟩, msr_up j n1 hlt⟩
    · exact absurd hlt (by omega)
end Tr
end Go.Proofs.YtefgamhnikeekaaDoor
namespace Go.Proofs.YtefgamhnikeekaaDoor
namespace Tr
open Nb Go.RowKit
inductive RDI (W0 : World) (G : Value → World → Prop) (ok : Bool) (a1 a2 : Option Addr) (n1 c1 n2 c2 c3 gk off g0 j : Nat) (q : Int) (b1 b2 b3 : Option Addr) (m1 d1 m2 d2 m3 d3 : Nat) (X Y Z : ByteArray) (v7 v18 v19 v20 v21 v22 v23 v24 v25 v26 v27 v28 v29 v30 v31 v32 : Value) (d : Nat → Bool) (x : Act) (wx : World) : Prop where
  | mk (u4 u5 u61 u62 u63 u64 u65 u66 u67 u68 u69 u70 u71 u72 : Value) (hx : x = { tmps := #[.agg #[.int .i64 2, .slice a1 n1 c1, .slice a2 n2 c2, .slice (some ⟨gk, off, none⟩) 1 c3], .string X, .pointer (some ⟨g0, 0, none⟩), undef, u4, u5, undef, v7, undef, undef, undef, undef, undef, .pointer (some ⟨g0, 1, none⟩), .slice a1 n1 c1, .int .i64 (n1 : Int), .int .i64 (j : Int), .bool false, v18, v19, v20, v21, v22, v23, v24, v25, v26, v27, v28, v29, v30, v31, v32, .bool false, .pointer (some ⟨g0, 0, none⟩), .int .i64 2, .bool false, .bool false, .pointer (some ⟨g0, 0, none⟩), .int .i64 2, .bool false, undef, undef, undef, undef, undef, undef, undef, undef, undef, undef, .bool true, .pointer (some ⟨g0, 0, none⟩), .int .i64 2, .bool true, .bool true, .pointer (some ⟨g0, 3, none⟩), .slice (some ⟨gk, off, none⟩) 1 c3, .int .i64 1, .bool true, .bool true, u61, u62, u63, u64, u65, u66, u67, u68, u69, u70, u71, u72, undef, undef, undef, undef, undef, undef, undef, undef, undef, undef, undef, undef, undef, undef, undef, undef, undef, undef, undef, undef, undef, undef, undef, undef, undef, undef, undef, undef, undef, undef, undef, undef, undef, undef, undef, undef, undef, undef, undef, undef, undef, undef, undef, undef, undef, undef, undef, undef], defers := [] }) (hw : Below W0.heap.size W0 wx) (p0 : d 0 = true → u61 = .pointer (some ⟨g0, 3, none⟩)) (p1 : d 1 = true → u62 = .slice (some ⟨gk, off, none⟩) 1 c3) (p2 : d 2 = true → u63 = .pointer (some ⟨gk, off, none⟩)) (p3 : d 3 = true → u64 = .agg #[.int .i64 q, .slice b1 m1 d1, .slice b2 m2 d2, .slice b3 m3 d3]) (p4 : d 4 = true → u65 = .string X) (p5 : d 5 = true → u66 = .pointer (some ⟨g0, 1, none⟩)) (p6 : d 6 = true → u67 = .slice a1 n1 c1) (p7 : d 7 = true → u68 = .string Y) (p8 : d 8 = true → u69 = .string Z) (p11 : d 11 = true → u72 = .bool ok) (p13 : d 13 = true → u5 = .bool ok) (z9 : d 9 = true → ∃ x, u70 = .tuple #[x, .bool ok] ∧ G x wx) (z10 : d 10 = true → G u71 wx) (z12 : d 12 = true → G u4 wx) : RDI W0 G ok a1 a2 n1 c1 n2 c2 c3 gk off g0 j q b1 b2 b3 m1 d1 m2 d2 m3 d3 X Y Z v7 v18 v19 v20 v21 v22 v23 v24 v25 v26 v27 v28 v29 v30 v31 v32 d x wx
set_option maxHeartbeats 1000000 in
set_option maxRecDepth 100000 in
theorem rt_road (a1 a2 : Option Addr) (n1 c1 n2 c2 c3 : Nat) (P : By) (w : World) (p : By) (hz : Hid (n1 ≤ 4194304)) (hp : Hid (Pk.Sl p (.slice a1 n1 c1) w)) (HP : Hid (∀ j, j < n1 → Sp.bz p j < 16)) (hn : Hid (n1 = p.length)) (hP : P.length ≤ 4194304) (G : Value → World → Prop) (ok : Bool) (GB : Hid (∀ x w w', G x w → Below w.heap.size w w' → G x w')) (q : Int) (b1 b2 b3 : Option Addr) (m1 d1 m2 d2 m3 d3 gk off : Nat) (hgk0 : gk < w.heap.size) (h0 : w.cell? ⟨gk, off, none⟩ = some (.int .i64 q)) (h1 : w.cell? ⟨gk, off + 1, none⟩ = some (.slice b1 m1 d1)) (h2 : w.cell? ⟨gk, off + 2, none⟩ = some (.slice b2 m2 d2)) (h3 : w.cell? ⟨gk, off + 3, none⟩ = some (.slice b3 m3 d3)) (KR0 : Hid (∀ wx : World, Below w.heap.size w wx → Calls Tryd.prog 32 #[.agg #[.int .i64 q, .slice b1 m1 d1, .slice b2 m2 d2, .slice b3 m3 d3], .string (st (P ++ p))] wx fun e w' => ∃ x, e = .returned (.tuple #[x, .bool ok]) ∧ G x w' ∧ Below wx.heap.size wx w')) :
    Calls Tryd.prog 32 #[.agg #[.int .i64 2, .slice a1 n1 c1, .slice a2 n2 c2, .slice (some ⟨gk, off, none⟩) 1 c3], .string (st P)] w fun e w' => (∃ x, e = .returned (.tuple #[x, .bool ok]) ∧ G x w') ∧ Below w.heap.size w w' := by
  have B0 : Below w.heap.size w (w.alloc (.cells #[.int .i64 2, .slice a1 n1 c1, .slice a2 n2 c2, .slice (some ⟨gk, off, none⟩) 1 c3] 32)) := (Below.refl _ _).alloc (Nat.le_refl _) _
  have HA := heap_alloc_new w (.cells #[.int .i64 2, .slice a1 n1 c1, .slice a2 n2 c2, .slice (some ⟨gk, off, none⟩) 1 c3] 32)
  have q0 : (w.alloc (.cells #[.int .i64 2, .slice a1 n1 c1, .slice a2 n2 c2, .slice (some ⟨gk, off, none⟩) 1 c3] 32)).cell? ⟨w.heap.size, 0, none⟩ = some (.int .i64 2) := by simp only [World.cell?, HA]; rfl
  have q1 : (w.alloc (.cells #[.int .i64 2, .slice a1 n1 c1, .slice a2 n2 c2, .slice (some ⟨gk, off, none⟩) 1 c3] 32)).cell? ⟨w.heap.size, 1, none⟩ = some (.slice a1 n1 c1) := by simp only [World.cell?, HA]; rfl
  have q2 : (w.alloc (.cells #[.int .i64 2, .slice a1 n1 c1, .slice a2 n2 c2, .slice (some ⟨gk, off, none⟩) 1 c3] 32)).cell? ⟨w.heap.size, 2, none⟩ = some (.slice a2 n2 c2) := by simp only [World.cell?, HA]; rfl
  have q3 : (w.alloc (.cells #[.int .i64 2, .slice a1 n1 c1, .slice a2 n2 c2, .slice (some ⟨gk, off, none⟩) 1 c3] 32)).cell? ⟨w.heap.size, 3, none⟩ = some (.slice (some ⟨gk, off, none⟩) 1 c3) := by simp only [World.cell?, HA]; rfl
  have hh : w.heap.size < (w.alloc (.cells #[.int .i64 2, .slice a1 n1 c1, .slice a2 n2 c2, .slice (some ⟨gk, off, none⟩) 1 c3] 32)).heap.size := by simp
  have SP : Hid (Pk.Sl p (.slice a1 n1 c1) (w.alloc (.cells #[.int .i64 2, .slice a1 n1 c1, .slice a2 n2 c2, .slice (some ⟨gk, off, none⟩) 1 c3] 32))) := Pk.Sl_below hp.out B0
  clear HA
  have HC : Hid (∀ W : World, (Op.stringOp .add (st P) (st p)).run Tryd.prog W = .ok (.string (st (P ++ p))) W) := fun W => cat_st P p (by have := hn.out; have := hz.out; omega) W
  have hgk : gk < (w.alloc (.cells #[.int .i64 2, .slice a1 n1 c1, .slice a2 n2 c2, .slice (some ⟨gk, off, none⟩) 1 c3] 32)).heap.size := Nat.lt_of_lt_of_le hgk0 B0.size
  have k0 := (B0.cell (p := ⟨gk, off, none⟩) hgk0).trans h0
  have k1 := (B0.cell (p := ⟨gk, off + 1, none⟩) hgk0).trans h1
  have k2 := (B0.cell (p := ⟨gk, off + 2, none⟩) hgk0).trans h2
  have k3 := (B0.cell (p := ⟨gk, off + 3, none⟩) hgk0).trans h3
  have KR : Hid (∀ wx : World, Below (w.alloc (.cells #[.int .i64 2, .slice a1 n1 c1, .slice a2 n2 c2, .slice (some ⟨gk, off, none⟩) 1 c3] 32)).heap.size (w.alloc (.cells #[.int .i64 2, .slice a1 n1 c1, .slice a2 n2 c2, .slice (some ⟨gk, off, none⟩) 1 c3] 32)) wx → Calls Tryd.prog 32 #[.agg #[.int .i64 q, .slice b1 m1 d1, .slice b2 m2 d2, .slice b3 m3 d3], .string (st (P ++ p))] wx fun e w' => ∃ x, e = .returned (.tuple #[x, .bool ok]) ∧ G x w' ∧ Below wx.heap.size wx w') := fun wx hb => KR0.out wx (B0.trans (hb.mono B0.size))
  have HV : Hid (∀ wx : World, Below (w.alloc (.cells #[.int .i64 2, .slice a1 n1 c1, .slice a2 n2 c2, .slice (some ⟨gk, off, none⟩) 1 c3] 32)).heap.size (w.alloc (.cells #[.int .i64 2, .slice a1 n1 c1, .slice a2 n2 c2, .slice (some ⟨gk, off, none⟩) 1 c3] 32)) wx → (convert 22 9 (.slice a1 n1 c1)).run Tryd.prog wx = .ok (.string (st p)) wx) := fun wx hb => Sl_st (Pk.Sl_below SP.out hb)
  clear h0 h1 h2 h3 KR0 hgk0 hP hn
  go_enter Tryd.func32, Tryd.ntmps32
  go_wp2_with fail
  generalize (w.alloc (.cells #[.int .i64 2, .slice a1 n1 c1, .slice a2 n2 c2, .slice (some ⟨gk, off, none⟩) 1 c3] 32)) = W0 at *
  generalize hg0 : w.heap.size = g0 at *
  go_loopw [16] (fun i wr => ∃ j : Nat, j ≤ n1 ∧ i = .int .i64 (j : Int) ∧ wr = W0) (fun i _ => ((n1 : Int) - intOf i).toNat)
  case atStart => exact ⟨0, Nat.zero_le _, rfl, rfl⟩
  case round =>
    obtain ⟨j, hj, rfl, rfl⟩ := hrel
    by_cases hlt : j < n1
    · have d0 : decide ((j : Int) < (n1 : Int)) = true := decide_eq_true (by omega)
      have d1 : (0 : Int) ≤ (j : Int) := by omega
      have d2 : (j : Int) < (n1 : Int) := by omega
      obtain ⟨ao, cap, e2, -, hq⟩ := SP.out
      injection e2 with e2 e3 e4
      subst e2
      obtain ⟨gp, off, rfl, hgp, hcell⟩ := hq (by omega)
      have x0 := hcell j (by omega)
      have e5 : Hid (wrap64 ((j : Int) + 1) = ((j + 1 : Nat) : Int)) := by have := hz.out; show _ = _; unfold wrap64; omega
      have hx : Sp.bz p j < 16 := HP.out j (by omega)
      have t0 : decide ((15 : Int) < Sp.bz p j) = false := decide_eq_false (by omega)
      have t1 : ¬ (15 : Int) < Sp.bz p j := by omega
      generalize Sp.bz p j = y at *
      clear hq hcell e3 e4
      go_wp2_with fail
      rw [e5.out]
      exact ⟨⟨j + 1, by omega, rfl, by trivial⟩, msr_up j n1 hlt⟩
    · have d0 : decide ((j : Int) < (n1 : Int)) = false := decide_eq_false (by omega)
      go_upto_region 12 with fail
      have hw0 : Below wr.heap.size wr wr.drew := (Below.refl _ _).drew
      generalize st (P ++ p) = Z at *
      generalize st p = Y at *
      generalize st P = X at *
      refine RI.wp_region_inv (RDI wr G ok a1 a2 n1 c1 n2 c2 c3 gk off g0 j q b1 b2 b3 m1 d1 m2 d2 m3 d3 X Y Z u7 u18 u19 u20 u21 u22 u23 u24 u25 u26 u27 u28 u29 u30 u31 u32) (by kernel_rfl) (by kernel_rfl) ?_ ?_ ?_
      · exact ⟨_, _, undef, undef, undef, undef, undef, undef, undef, undef, undef, undef, undef, undef, rfl, hw0, nofun, nofun, nofun, nofun, nofun, nofun, nofun, nofun, nofun, nofun, nofun, nofun, nofun, nofun⟩
      · skip
        intro d x wx i hI hi hm
        obtain ⟨u4, u5, u61, u62, u63, u64, u65, u66, u67, u68, u69, u70, u71, u72, rfl, hw, p0, p1, p2, p3, p4, p5, p6, p7, p8, p11, p13, z9, z10, z12⟩ := hI
        have hi' : i = 0 ∨ i = 1 ∨ i = 2 ∨ i = 3 ∨ i = 4 ∨ i = 5 ∨ i = 6 ∨ i = 7 ∨ i = 8 ∨ i = 9 ∨ i = 10 ∨ i = 11 ∨ i = 12 ∨ i = 13 := by simp at hi; omega
        have hd := hm.2
        have hf := hm.1
        clear hm hi
        rcases hi' with rfl | rfl | rfl | rfl | rfl | rfl | rfl | rfl | rfl | rfl | rfl | rfl | rfl | rfl
        · refine RI.wpOp_plain rfl rfl ?_
          go_simp
          exact ⟨u4, u5, _, u62, u63, u64, u65, u66, u67, u68, u69, u70, u71, u72, rfl, hw, fun _ => rfl, p1, p2, p3, p4, p5, p6, p7, p8, p11, p13, z9, z10, z12⟩
        · have hd := hd _ rfl
          simp [Region.binds] at hd
          obtain rfl := p0 (by simp [hd])
          refine RI.wpOp_plain rfl rfl ?_
          have x0 := (hw.cell (p := ⟨g0, 3, none⟩) hh).trans q3
          go_simp
          exact ⟨u4, u5, _, _, u63, u64, u65, u66, u67, u68, u69, u70, u71, u72, rfl, hw, p0, fun _ => rfl, p2, p3, p4, p5, p6, p7, p8, p11, p13, z9, z10, z12⟩
        · have hd := hd _ rfl
          simp [Region.binds] at hd
          obtain rfl := p1 (by simp [hd])
          refine RI.wpOp_plain rfl rfl ?_
          go_simp
          exact ⟨u4, u5, u61, _, _, u64, u65, u66, u67, u68, u69, u70, u71, u72, rfl, hw, p0, p1, fun _ => rfl, p3, p4, p5, p6, p7, p8, p11, p13, z9, z10, z12⟩
        · have hd := hd _ rfl
          simp [Region.binds] at hd
          obtain rfl := p2 (by simp [hd])
          refine RI.wpOp_plain rfl rfl ?_
          have x0 := (hw.cell (p := ⟨gk, off, none⟩) hgk).trans k0
          have x1 := (hw.cell (p := ⟨gk, off + 1, none⟩) hgk).trans k1
          have x2 := (hw.cell (p := ⟨gk, off + 2, none⟩) hgk).trans k2
          have x3 := (hw.cell (p := ⟨gk, off + 3, none⟩) hgk).trans k3
          go_simp
          exact ⟨u4, u5, u61, u62, _, _, u65, u66, u67, u68, u69, u70, u71, u72, rfl, hw, p0, p1, p2, fun _ => rfl, p4, p5, p6, p7, p8, p11, p13, z9, z10, z12⟩
        · refine RI.wpOp_plain rfl rfl ?_
          go_simp
          exact ⟨u4, u5, u61, u62, u63, u64, _, u66, u67, u68, u69, u70, u71, u72, rfl, hw, p0, p1, p2, p3, fun _ => rfl, p5, p6, p7, p8, p11, p13, z9, z10, z12⟩
        · refine RI.wpOp_plain rfl rfl ?_
          go_simp
          exact ⟨u4, u5, u61, u62, u63, u64, u65, _, u67, u68, u69, u70, u71, u72, rfl, hw, p0, p1, p2, p3, p4, fun _ => rfl, p6, p7, p8, p11, p13, z9, z10, z12⟩
        · have hd := hd _ rfl
          simp [Region.binds] at hd
          obtain rfl := p5 (by simp [hd])
          refine RI.wpOp_plain rfl rfl ?_
          have x0 := (hw.cell (p := ⟨g0, 1, none⟩) hh).trans q1
          go_simp
          exact ⟨u4, u5, u61, u62, u63, u64, u65, _, _, u68, u69, u70, u71, u72, rfl, hw, p0, p1, p2, p3, p4, p5, fun _ => rfl, p7, p8, p11, p13, z9, z10, z12⟩
        · have hd := hd _ rfl
          simp [Region.binds] at hd
          obtain rfl := p6 (by simp [hd])
          refine RI.wpOp_plain rfl rfl ?_
          have hcv := HV.out _ hw
          go_simp
          exact ⟨u4, u5, u61, u62, u63, u64, u65, u66, _, _, u69, u70, u71, u72, rfl, hw, p0, p1, p2, p3, p4, p5, p6, fun _ => rfl, p8, p11, p13, z9, z10, z12⟩
        · have hd := hd _ rfl
          simp [Region.binds] at hd
          obtain rfl := p4 (by simp [hd])
          obtain rfl := p7 (by simp [hd])
          refine RI.wpOp_plain rfl rfl ?_
          have hcc := HC.out wx
          go_simp
          exact ⟨u4, u5, u61, u62, u63, u64, _, u66, u67, _, _, u70, u71, u72, rfl, hw, p0, p1, p2, p3, p4, p5, p6, p7, fun _ => rfl, p11, p13, z9, z10, z12⟩
        · have hd := hd _ rfl
          simp [Region.binds] at hd
          obtain rfl := p3 (by simp [hd])
          obtain rfl := p8 (by simp [hd])
          refine RI.wpOp_plain rfl rfl ?_
          go_simp
          refine (KR.out _ hw).mono ?_
          rintro e w1 ⟨x9, rfl, g9, hb1⟩
          exact ⟨u4, u5, u61, u62, u63, _, u65, u66, u67, u68, _, _, u71, u72, rfl, hw.trans (hb1.mono hw.size), p0, p1, p2, p3, p4, p5, p6, p7, p8, p11, p13, fun _ => ⟨_, rfl, g9⟩, (fun h => GB.out _ _ _ (z10 h) hb1), (fun h => GB.out _ _ _ (z12 h) hb1)⟩
        · have hd := hd _ rfl
          simp [Region.binds] at hd
          refine RI.wpOp_plain rfl rfl ?_
          obtain ⟨x9, rfl, g9⟩ := z9 (by simp [hd])
          go_simp
          exact ⟨u4, u5, u61, u62, u63, u64, u65, u66, u67, u68, u69, _, _, u72, rfl, hw, p0, p1, p2, p3, p4, p5, p6, p7, p8, p11, p13, z9, fun _ => g9, z12⟩
        · have hd := hd _ rfl
          simp [Region.binds] at hd
          refine RI.wpOp_plain rfl rfl ?_
          obtain ⟨x9, rfl, g9⟩ := z9 (by simp [hd])
          go_simp
          exact ⟨u4, u5, u61, u62, u63, u64, u65, u66, u67, u68, u69, _, u71, _, rfl, hw, p0, p1, p2, p3, p4, p5, p6, p7, p8, fun _ => rfl, p13, z9, z10, z12⟩
        · have hd := hd _ rfl
          simp [Region.binds] at hd
          obtain rfl := p0 (by simp [hd])
          obtain rfl := p1 (by simp [hd])
          obtain rfl := p2 (by simp [hd])
          obtain rfl := p3 (by simp [hd])
          obtain rfl := p4 (by simp [hd])
          obtain rfl := p5 (by simp [hd])
          obtain rfl := p6 (by simp [hd])
          obtain rfl := p7 (by simp [hd])
          obtain rfl := p8 (by simp [hd])
          obtain rfl := p11 (by simp [hd])
          refine RI.wpOp_plain rfl rfl ?_
          go_simp
          exact ⟨_, u5, _, _, _, _, _, _, _, _, _, u70, u71, _, rfl, hw, p0, p1, p2, p3, p4, p5, p6, p7, p8, p11, p13, z9, z10, fun _ => z10 (by simp [hd])⟩
        · have hd := hd _ rfl
          simp [Region.binds] at hd
          obtain rfl := p0 (by simp [hd])
          obtain rfl := p1 (by simp [hd])
          obtain rfl := p2 (by simp [hd])
          obtain rfl := p3 (by simp [hd])
          obtain rfl := p4 (by simp [hd])
          obtain rfl := p5 (by simp [hd])
          obtain rfl := p6 (by simp [hd])
          obtain rfl := p7 (by simp [hd])
          obtain rfl := p8 (by simp [hd])
          obtain rfl := p11 (by simp [hd])
          refine RI.wpOp_plain rfl rfl ?_
          go_simp
          exact ⟨u4, _, _, _, _, _, _, _, _, _, _, u70, u71, _, rfl, hw, p0, p1, p2, p3, p4, p5, p6, p7, p8, p11, fun _ => rfl, z9, z10, z12⟩
      · skip
        intro d x wx hI hd
        obtain ⟨u4, u5, u61, u62, u63, u64, u65, u66, u67, u68, u69, u70, u71, u72, rfl, hw, p0, p1, p2, p3, p4, p5, p6, p7, p8, p11, p13, z9, z10, z12⟩ := hI
        have g4 := z12 (hd 12 (by decide))
        obtain rfl := p13 (hd 13 (by decide))
        clear p0 p1 p2 p3 p4 p5 p6 p7 p8 p11 z9 z10 z12
        have HB : Hid (Below w.heap.size w wx) := by
          show Below _ _ _
          rw [hg0]
          exact B0.trans (hw.mono (by omega))
        have HG : Hid (G u4 wx) := g4
        clear hw g4
        go_wp2_with fail
        go_ret2
        exact ⟨⟨_, rfl, HG.out⟩, by first | exact HB.out | (rw [← hg0]; exact HB.out)⟩
end Tr
end Go.Proofs.YtefgamhnikeekaaDoor
namespace Go.Proofs.YtefgamhnikeekaaDoor
namespace Tr
open Nb Go.RowKit
theorem wpList_apw {P : Program} {ops : Array Oper} {rest : List Oper} {o : Oper} {a : Act} {Q : Exit → Act → World → Prop} {s x : Operand} {t u : TypeId} {v v2 v' : Value} {w w' : World} (hgd : o.guard = none) (ho : o.op = .call { callee := .builtin .append, args := #[s, x], argTypes := #[t, u] }) (hs : a.eval s = v) (hx : a.eval x = v2)
    (hr : (Builtin.append_ #[t, u] o.type #[v, v2]).run P w = .ok v' w') (h : wpList P ops Q rest (a.put o.dst v') w') : wpList P ops Q (o :: rest) a w := by
  refine wpList_plain hgd fun _ hK => ?_
  unfold Oper.wp execOp
  simp only [ho, resolve, invoke, builtin, Sem.run_bind, Sem.run_pure, Result.andThen_ok, List.map_toArray, List.map_cons, List.map_nil, hs, hx, hr]
  exact hK _ _ h
theorem pre_pre (p q : By) (l : Rt) : pre p (pre q l) = pre (p ++ q) l := by
  unfold pre
  rw [List.map_map]
  apply List.map_congr_left
  intro r _
  show (p ++ (q ++ r.1), r.2) = (p ++ q ++ r.1, r.2)
  rw [List.append_assoc]
theorem pre_app (p : By) (a b : Rt) : pre p (a ++ b) = pre p a ++ pre p b := by simp [pre]
theorem pre_len' (p : By) (a : Rt) : (pre p a).length = a.length := by simp [pre]
theorem rtk_snoc (t : Nd) : ∀ (ks : List Nd) (i : Nat), rtk i (ks ++ [t]) = match rtk i ks, rt t with
    | some L, some a => some (L ++ pre [UInt8.ofNat (i + ks.length)] a)
    | _, _ => none
  | [], i => by
    show rtk i [t] = _
    unfold rtk
    cases h : rt t with
    | none => simp
    | some a => simp [rtk]
  | k :: ks, i => by
    rw [List.cons_append]
    unfold rtk
    rw [rtk_snoc t ks (i + 1)]
    cases rt k with
    | none => rfl
    | some a =>
      cases rtk (i + 1) ks with
      | none => rfl
      | some L =>
        cases rt t with
        | none => rfl
        | some b =>
          show some (pre [UInt8.ofNat i] a ++ (L ++ pre [UInt8.ofNat (i + 1 + ks.length)] b)) = some ((pre [UInt8.ofNat i] a ++ L) ++ pre [UInt8.ofNat (i + (k :: ks).length)] b)
          rw [List.append_assoc, List.length_cons, show i + 1 + ks.length = i + (ks.length + 1) by omega]
theorem rtk_bad : ∀ (ks : List Nd) (i k : Nat), k < ks.length → rt (ks.getD k Nd.no) = none → rtk i ks = none
  | [], _, k, h, _ => absurd h (by simp)
  | t :: r, i, 0, _, h => by
    rw [List.getD_cons_zero] at h
    unfold rtk
    rw [h]
  | t :: r, i, k + 1, hk, h => by
    rw [List.getD_cons_succ] at h
    have := rtk_bad r (i + 1) k (by simpa using hk) h
    unfold rtk
    rw [this]
    cases rt t <;> rfl
theorem rtk_take (ks : List Nd) (k : Nat) (hk : k < ks.length) (L a : Rt) (hL : rtk 0 (ks.take k) = some L) (ha : rt (ks.getD k Nd.no) = some a) : rtk 0 (ks.take (k + 1)) = some (L ++ pre [UInt8.ofNat k] a) := by
  have e : ks.take (k + 1) = ks.take k ++ [ks.getD k Nd.no] := by
    rw [List.take_add_one, List.getD_eq_getElem?_getD, List.getElem?_eq_getElem hk]
    rfl
  rw [e, rtk_snoc, hL, ha, List.length_take, show 0 + min k ks.length = k by omega]
theorem rt_three (p v : By) (ks : List Nd) (hl : ks.length = 16) : rt (.mk 3 p v ks) = (rtk 0 ks).map fun l => (if v = [] then [] else [([], v)]) ++ l := by
  rw [rt, if_neg (fun h => by rcases h.1 with h | h <;> exact absurd h (by decide)), if_neg (by decide), if_neg (by decide), if_neg (fun h => absurd h.1 (by decide)), if_pos ⟨rfl, hl⟩]
theorem lit_b (k : Nat) (h : k < 16) (w : World) : Pk.Sl [UInt8.ofNat k] (.slice (some ⟨w.heap.size, 0, none⟩) 1 1) (w.alloc (.cells #[.int .u8 (k : Int)] 5)) := by
  have HA := heap_alloc_new w (.cells #[.int .u8 (k : Int)] 5)
  refine ⟨_, _, rfl, Nat.le_refl _, fun _ => ⟨_, _, rfl, by simp, fun j hj => ?_⟩⟩
  have e : j = 0 := by simpa using hj
  subst e
  have e2 : Sp.bz [UInt8.ofNat k] 0 = (k : Int) := by
    show (((UInt8.ofNat k).toNat : Nat) : Int) = _
    rw [u8_toNat k h]
  rw [e2]
  simp only [World.cell?, HA]
  rfl
def RT (t : Nd) (P : By) (e : Ending) (w : World) : Prop := (∃ l x, rt t = some l ∧ e = .returned (.tuple #[x, .bool true]) ∧ Rv (pre P l) x w) ∨ (rt t = none ∧ e = .returned (.tuple #[.slice none 0 0, .bool false]))
set_option maxHeartbeats 1000000 in
set_option maxRecDepth 100000 in
theorem rt_fork_v (a1 a2 : Option Addr) (n1 c1 n2 c2 c3 : Nat) (P : By) (w : World) (p : By) (hz : Hid (n1 ≤ 4194304)) (hp : Hid (Pk.Sl p (.slice a1 n1 c1) w)) (v : By) (hv : Hid (Pk.Sl v (.slice a2 n2 c2) w)) (hv2 : Hid (n2 = v.length)) (hP : P.length ≤ 4194304) (S : Nat → Prop) (ks : List Nd) (vs : List V4) (gk off : Nat) (hl : Hid (ks.length = 16)) (hl2 : Hid (vs.length = 16)) (hk : Hid (Ks S vs (.slice (some ⟨gk, off, none⟩) 16 c3) w)) (hi : Hid (∀ j, j < 16 → Nv S w (ks.getD j Nd.no) (vs.getD j n4)))
    (KR : Hid (∀ j, j < 16 → ∀ (u : V4) (wx : World), Nv S wx (ks.getD j Nd.no) u → Calls Tryd.prog 32 #[v4 u, .string (st (P ++ [UInt8.ofNat j]))] wx fun e w' => RT (ks.getD j Nd.no) (P ++ [UInt8.ofNat j]) e w' ∧ Below wx.heap.size wx w')) (HN : Hid (∀ j L a, j < 16 → rtk 0 (ks.take j) = some L → rt (ks.getD j Nd.no) = some a → 1 + L.length + a.length ≤ 4194304)) (hne : Hid (v ≠ [])) :
    Calls Tryd.prog 32 #[.agg #[.int .i64 3, .slice a1 n1 c1, .slice a2 n2 c2, .slice (some ⟨gk, off, none⟩) 16 c3], .string (st P)] w fun e w' => RT (.mk 3 p v ks) P e w' ∧ Below w.heap.size w w' := by
  have B0 : Below w.heap.size w (w.alloc (.cells #[.int .i64 3, .slice a1 n1 c1, .slice a2 n2 c2, .slice (some ⟨gk, off, none⟩) 16 c3] 32)) := (Below.refl _ _).alloc (Nat.le_refl _) _
  have HA := heap_alloc_new w (.cells #[.int .i64 3, .slice a1 n1 c1, .slice a2 n2 c2, .slice (some ⟨gk, off, none⟩) 16 c3] 32)
  have q0 : (w.alloc (.cells #[.int .i64 3, .slice a1 n1 c1, .slice a2 n2 c2, .slice (some ⟨gk, off, none⟩) 16 c3] 32)).cell? ⟨w.heap.size, 0, none⟩ = some (.int .i64 3) := by simp only [World.cell?, HA]; rfl
  have q1 : (w.alloc (.cells #[.int .i64 3, .slice a1 n1 c1, .slice a2 n2 c2, .slice (some ⟨gk, off, none⟩) 16 c3] 32)).cell? ⟨w.heap.size, 1, none⟩ = some (.slice a1 n1 c1) := by simp only [World.cell?, HA]; rfl
  have q2 : (w.alloc (.cells #[.int .i64 3, .slice a1 n1 c1, .slice a2 n2 c2, .slice (some ⟨gk, off, none⟩) 16 c3] 32)).cell? ⟨w.heap.size, 2, none⟩ = some (.slice a2 n2 c2) := by simp only [World.cell?, HA]; rfl
  have q3 : (w.alloc (.cells #[.int .i64 3, .slice a1 n1 c1, .slice a2 n2 c2, .slice (some ⟨gk, off, none⟩) 16 c3] 32)).cell? ⟨w.heap.size, 3, none⟩ = some (.slice (some ⟨gk, off, none⟩) 16 c3) := by simp only [World.cell?, HA]; rfl
  have hh : w.heap.size < (w.alloc (.cells #[.int .i64 3, .slice a1 n1 c1, .slice a2 n2 c2, .slice (some ⟨gk, off, none⟩) 16 c3] 32)).heap.size := by simp
  have SP : Hid (Pk.Sl p (.slice a1 n1 c1) (w.alloc (.cells #[.int .i64 3, .slice a1 n1 c1, .slice a2 n2 c2, .slice (some ⟨gk, off, none⟩) 16 c3] 32))) := Pk.Sl_below hp.out B0
  clear HA
  have SV : Hid (Pk.Sl v (.slice a2 n2 c2) (w.alloc (.cells #[.int .i64 3, .slice a1 n1 c1, .slice a2 n2 c2, .slice (some ⟨gk, off, none⟩) 16 c3] 32))) := Pk.Sl_below hv.out B0
  have HCP : Hid (∀ (j : Nat) (W : World), (Op.stringOp .add (st P) (st [UInt8.ofNat j])).run Tryd.prog W = .ok (.string (st (P ++ [UInt8.ofNat j]))) W) := fun j W => cat_st P _ (by simp; omega) W
  have BW : Hid (Below w.heap.size w (w.alloc (.cells #[.int .i64 3, .slice a1 n1 c1, .slice a2 n2 c2, .slice (some ⟨gk, off, none⟩) 16 c3] 32))) := B0
  have f2 : (0 : Int) < (n2 : Int) := by have := List.length_pos_iff.2 hne.out; have := hv2.out; omega
  have f3 : decide ((0 : Int) < (n2 : Int)) = true := decide_eq_true f2
  go_enter Tryd.func32, Tryd.ntmps32
  go_wp2_with fail
  generalize (w.alloc (.cells #[.int .i64 3, .slice a1 n1 c1, .slice a2 n2 c2, .slice (some ⟨gk, off, none⟩) 16 c3] 32)) = W0 at *
  generalize hg0 : w.heap.size = g0 at *
  go_loopw [16] (fun i wr => ∃ j : Nat, j ≤ n1 ∧ i = .int .i64 (j : Int) ∧ wr = W0) (fun i _ => ((n1 : Int) - intOf i).toNat)
  case atStart => exact ⟨0, Nat.zero_le _, rfl, rfl⟩
  case round =>
    obtain ⟨j, hj, rfl, rfl⟩ := hrel
    by_cases hlt : j < n1
    · have d0 : decide ((j : Int) < (n1 : Int)) = true := decide_eq_true (by omega)
      have d1 : (0 : Int) ≤ (j : Int) := by omega
      have d2 : (j : Int) < (n1 : Int) := by omega
      obtain ⟨ao, cap, e2, -, hq⟩ := SP.out
      injection e2 with e2 e3 e4
      subst e2
      obtain ⟨gp, off, rfl, hgp, hcell⟩ := hq (by omega)
      have x0 := hcell j (by omega)
      have e5 : Hid (wrap64 ((j : Int) + 1) = ((j + 1 : Nat) : Int)) := by have := hz.out; show _ = _; unfold wrap64; omega
      clear hq hcell e3 e4
      go_wp2_with fail
      rw [e5.out]
      exact ⟨⟨j + 1, by omega, rfl, by trivial⟩, msr_up j n1 hlt⟩
    · have d0 : decide ((j : Int) < (n1 : Int)) = false := decide_eq_false (by omega)
      obtain ⟨v1, w1, hap, ho1, hb1, -⟩ := app_rv (lo := wr.heap.size) (x := []) 66 (World.ownsRow_nil _ _ _ _) (lit_rv (P, v) wr) (by simp) (by simp)
      have x2 := Sl_st SV.out
      have O1 : Hid (Ow wr.heap.size (pre P ([([], v)] ++ [])) v1 w1) := by
        have e : pre P ([([], v)] ++ []) = [] ++ [(P, v)] := by simp [pre]
        show Ow _ _ _ _
        rw [e]
        exact ho1
      have bA : Below wr.heap.size wr (wr.alloc (.cells #[.string (st P), .string (st v)] 70)) := (Below.refl _ _).alloc (Nat.le_refl _) _
      have B1 : Hid (Below wr.heap.size wr w1) := bA.trans hb1
      have q3' := (B1.out.cell (p := ⟨g0, 3, none⟩) hh).trans q3
      have hh' : g0 < w1.heap.size := Nat.lt_of_lt_of_le hh B1.out.size
      obtain ⟨oa, on, oc, rfl⟩ := own_slice ho1
      clear ho1 hb1 bA
      generalize st v = Z at *
      go_upto_region 16 with fail
      go_wp2_with (at_builtin; refine wpList_apw rfl rfl rfl rfl hap ?_)
      clear hap x2
      generalize hWa : wr = Wa at *
      go_loopw [8, 98] (fun o i w2 => ∃ (k : Nat) (L : Rt), k ≤ 16 ∧ i = .int .i64 (k : Int) ∧ rtk 0 (ks.take k) = some L ∧ Ow Wa.heap.size (pre P ([([], v)] ++ L)) o w2 ∧ Below Wa.heap.size Wa w2) (fun _ i _ => ((16 : Int) - intOf i).toNat)
      case atStart => exact ⟨0, [], by omega, rfl, by unfold rtk; rfl, O1.out, B1.out⟩
      case round =>
        obtain ⟨k, L, hk16, rfl, hL, ho, hB⟩ := hrel
        have RTS : Hid (rt (.mk 3 p v ks) = (rtk 0 ks).map fun l => [([], v)] ++ l) := by
          show _ = _
          rw [rt_three p v ks hl.out]
          rw [if_neg hne.out]
        by_cases hkl : k < 16
        · have t0 : decide ((k : Int) < 16) = true := decide_eq_true (by omega)
          have t1 : (0 : Int) ≤ (k : Int) := by omega
          have t2 : (k : Int) < 16 := by omega
          have BWw : Below w.heap.size w wr := (hg0 ▸ BW.out).trans (hB.mono (hg0 ▸ BW.out).size)
          obtain ⟨ao, cap, e2, -, hq⟩ := hk.out
          obtain ⟨gk', off', e3, -, hgk, hcell⟩ := hq (by have := hl2.out; omega)
          injection e2 with e2 e4 e5
          rw [e3] at e2
          injection e2 with e2
          injection e2 with e6 e7
          subst e6 e7
          clear e3 e4 e5
          obtain ⟨x0, x1, x2, x3⟩ := hcell k (by have := hl2.out; omega)
          have iv := hi.out k hkl
          obtain ⟨q, b1, m1, d1, b2, m2, d2, b3, m3, d3, ev⟩ := Nv_form iv
          rw [ev] at x0 x1 x2 x3 iv
          have z0 := (BWw.cell (p := ⟨gk, off + 4 * k, none⟩) hgk).trans x0
          have z1 := (BWw.cell (p := ⟨gk, off + 4 * k + 1, none⟩) hgk).trans x1
          have z2 := (BWw.cell (p := ⟨gk, off + 4 * k + 2, none⟩) hgk).trans x2
          have z3 := (BWw.cell (p := ⟨gk, off + 4 * k + 3, none⟩) hgk).trans x3
          have hgk2 : gk < wr.heap.size := Nat.lt_of_lt_of_le hgk BWw.size
          rw [Nat.mul_comm 4 k] at z0 z1 z2 z3
          have bA : Below wr.heap.size wr (wr.alloc (.cells #[.int .i64 q, .slice b1 m1 d1, .slice b2 m2 d2, .slice b3 m3 d3] 32)) := (Below.refl _ _).alloc (Nat.le_refl _) _
          have IV : Hid (Nv S (wr.alloc (.cells #[.int .i64 q, .slice b1 m1 d1, .slice b2 m2 d2, .slice b3 m3 d3] 32)) (ks.getD k Nd.no) (.int .i64 q, .slice b1 m1 d1, .slice b2 m2 d2, .slice b3 m3 d3)) := Nv_below (Nv_below iv BWw) bA
          have OW : Hid (Ow Wa.heap.size (pre P ([([], v)] ++ L)) _ (wr.alloc (.cells #[.int .i64 q, .slice b1 m1 d1, .slice b2 m2 d2, .slice b3 m3 d3] 32))) := Pk.ownb ho bA
          have BX : Hid (Bx wr.heap.size (.int .i64 q, .slice b1 m1 d1, .slice b2 m2 d2, .slice b3 m3 d3) (wr.alloc (.cells #[.int .i64 q, .slice b1 m1 d1, .slice b2 m2 d2, .slice b3 m3 d3] 32))) := Bx_new wr (.int .i64 q, .slice b1 m1 d1, .slice b2 m2 d2, .slice b3 m3 d3)
          have BB : Hid (Below Wa.heap.size Wa (wr.alloc (.cells #[.int .i64 q, .slice b1 m1 d1, .slice b2 m2 d2, .slice b3 m3 d3] 32))) := hB.trans (bA.mono hB.size)
          have KB : Hid (∀ wx : World, Nv S wx (ks.getD k Nd.no) (.int .i64 q, .slice b1 m1 d1, .slice b2 m2 d2, .slice b3 m3 d3) → Calls Tryd.prog 32 #[.agg #[.int .i64 q, .slice b1 m1 d1, .slice b2 m2 d2, .slice b3 m3 d3], .string (st (P ++ [UInt8.ofNat k]))] wx fun e w' => RT (ks.getD k Nd.no) (P ++ [UInt8.ofNat k]) e w' ∧ Below wx.heap.size wx w') := fun wx h => KR.out k hkl (.int .i64 q, .slice b1 m1 d1, .slice b2 m2 d2, .slice b3 m3 d3) wx h
          have e8 : IntKind.u8.wrap (k : Int) = (k : Int) := by rw [IntKind.wrap_u8]; omega
          have e9 : Hid (wrap64 ((k : Int) + 1) = ((k + 1 : Nat) : Int)) := by show _ = _; unfold wrap64; omega
          obtain ⟨oa2, on2, oc2, rfl⟩ := own_slice ho
          have HLK : Hid (rtk 0 (ks.take k) = some L) := hL
          clear hq hcell x0 x1 x2 x3 ev iv BWw bA ho hB hL
          go_upto_region 20 with fail
          generalize wr.alloc (.cells #[.int .i64 q, .slice b1 m1 d1, .slice b2 m2 d2, .slice b3 m3 d3] 32) = W1 at *
          generalize wr.heap.size = h10 at *
          obtain ⟨hx, y0, y1, y2, y3⟩ := BX.out
          dsimp only at y0 y1 y2 y3
          have bC : Below W1.heap.size W1 (W1.alloc (.cells #[.int .u8 (k : Int)] 5)) := (Below.refl _ _).alloc (Nat.le_refl _) _
          have hcs := Sl_st (lit_b k hkl W1)
          have hcc := HCP.out k (W1.alloc (.cells #[.int .u8 (k : Int)] 5))
          have KK : Hid _ := KB.out _ (Nv_below IV.out bC)
          have OW2 : Hid (Ow _ _ _ _) := Pk.ownb OW.out bC
          have BB2 : Hid (Below Wa.heap.size Wa _) := BB.out.trans (bC.mono BB.out.size)
          clear BX KB IV bC OW BB
          generalize st (P ++ [UInt8.ofNat k]) = Y at *
          generalize st [UInt8.ofNat k] = C at *
          go_wp2_with fail
          refine Calls.mono KK.out (fun e w5 he => ?_)
          obtain ⟨hr, b5⟩ := he
          rcases hr with ⟨l, x, hrt, rfl, hrv⟩ | ⟨hrt, rfl⟩
          · have o5 := Pk.ownb OW2.out b5
            obtain ⟨v6, w6, hap, ho6, hb6, -⟩ := app_rv 66 o5 hrv (Nat.le_trans BB2.out.size b5.size) (by
              have := HN.out k L l hkl HLK.out hrt
              rw [pre_len', pre_len', List.length_append]
              simp only [List.length_cons, List.length_nil]
              omega)
            have B6 : Hid (Below Wa.heap.size Wa w6) := (BB2.out.trans (b5.mono BB2.out.size)).trans hb6
            have O6 : Hid (Ow Wa.heap.size (pre P ([([], v)] ++ (L ++ pre [UInt8.ofNat k] l))) v6 w6) := by
              have e : pre P ([([], v)] ++ (L ++ pre [UInt8.ofNat k] l)) = pre P ([([], v)] ++ L) ++ pre (P ++ [UInt8.ofNat k]) l := by rw [← List.append_assoc, pre_app, pre_pre]
              show Ow _ _ _ _
              rw [e]
              exact ho6
            have R6 : Hid (rtk 0 (ks.take (k + 1)) = some (L ++ pre [UInt8.ofNat k] l)) := rtk_take ks k (by have := hl.out; omega) L l HLK.out hrt
            obtain ⟨ax, cx, rfl, -, -⟩ := hrv
            obtain ⟨oa6, on6, oc6, rfl⟩ := own_slice ho6
            generalize (pre (P ++ [UInt8.ofNat k]) l).length = nx at *
            clear KK OW2 BB2 o5 b5 ho6 hb6 hrt HLK
            go_wp2_with (at_builtin; refine wpList_apw rfl rfl rfl rfl hap ?_)
            first | rw [e9.out] | rw [show (k : Int) + 1 = ((k + 1 : Nat) : Int) from by omega]
            exact ⟨⟨k + 1, L ++ pre [UInt8.ofNat k] l, by omega, rfl, R6.out, O6.out, B6.out⟩, msr_up k 16 hkl⟩
          · have B6 : Hid (Below w.heap.size w w5) := by
              show Below _ _ _
              have h1 := BB2.out.trans (b5.mono BB2.out.size)
              exact (hg0 ▸ BW.out).trans (h1.mono (hg0 ▸ BW.out).size)
            have R6 : Hid (rt (.mk 3 p v ks) = none) := by
              show _ = _
              rw [RTS.out, rtk_bad ks 0 k (by have := hl.out; omega) hrt]
              rfl
            clear KK OW2 BB2 b5 hrt HLK
            go_wp2_with fail
            go_ret2
            exact ⟨.inr ⟨R6.out, rfl⟩, by first | exact B6.out | (rw [← hg0]; exact B6.out)⟩
        · have t0 : decide ((k : Int) < 16) = false := decide_eq_false (by omega)
          have ek : ks.take k = ks := List.take_of_length_le (by have := hl.out; omega)
          rw [ek] at hL
          have R6 : Hid (rt (.mk 3 p v ks) = some ([([], v)] ++ L)) := by
            show _ = _
            rw [RTS.out, hL]
            rfl
          have RV : Hid (Rv (pre P ([([], v)] ++ L)) _ wr) := own_rv ho
          have B6 : Hid (Below w.heap.size w wr) := (hg0 ▸ BW.out).trans (hB.mono (hg0 ▸ BW.out).size)
          obtain ⟨oa2, on2, oc2, rfl⟩ := own_slice ho
          clear ho hL hB
          go_wp2_with fail
          go_ret2
          exact ⟨.inl ⟨_, _, R6.out, rfl, RV.out⟩, by first | exact B6.out | (rw [← hg0]; exact B6.out)⟩
set_option maxHeartbeats 1000000 in
set_option maxRecDepth 100000 in
theorem rt_fork_e (a1 a2 : Option Addr) (n1 c1 n2 c2 c3 : Nat) (P : By) (w : World) (p : By) (hz : Hid (n1 ≤ 4194304)) (hp : Hid (Pk.Sl p (.slice a1 n1 c1) w)) (v : By) (hv : Hid (Pk.Sl v (.slice a2 n2 c2) w)) (hv2 : Hid (n2 = v.length)) (hP : P.length ≤ 4194304) (S : Nat → Prop) (ks : List Nd) (vs : List V4) (gk off : Nat) (hl : Hid (ks.length = 16)) (hl2 : Hid (vs.length = 16)) (hk : Hid (Ks S vs (.slice (some ⟨gk, off, none⟩) 16 c3) w)) (hi : Hid (∀ j, j < 16 → Nv S w (ks.getD j Nd.no) (vs.getD j n4)))
    (KR : Hid (∀ j, j < 16 → ∀ (u : V4) (wx : World), Nv S wx (ks.getD j Nd.no) u → Calls Tryd.prog 32 #[v4 u, .string (st (P ++ [UInt8.ofNat j]))] wx fun e w' => RT (ks.getD j Nd.no) (P ++ [UInt8.ofNat j]) e w' ∧ Below wx.heap.size wx w')) (HN : Hid (∀ j L a, j < 16 → rtk 0 (ks.take j) = some L → rt (ks.getD j Nd.no) = some a → 1 + L.length + a.length ≤ 4194304)) (he : Hid (v = [])) :
    Calls Tryd.prog 32 #[.agg #[.int .i64 3, .slice a1 n1 c1, .slice a2 n2 c2, .slice (some ⟨gk, off, none⟩) 16 c3], .string (st P)] w fun e w' => RT (.mk 3 p v ks) P e w' ∧ Below w.heap.size w w' := by
  have B0 : Below w.heap.size w (w.alloc (.cells #[.int .i64 3, .slice a1 n1 c1, .slice a2 n2 c2, .slice (some ⟨gk, off, none⟩) 16 c3] 32)) := (Below.refl _ _).alloc (Nat.le_refl _) _
  have HA := heap_alloc_new w (.cells #[.int .i64 3, .slice a1 n1 c1, .slice a2 n2 c2, .slice (some ⟨gk, off, none⟩) 16 c3] 32)
  have q0 : (w.alloc (.cells #[.int .i64 3, .slice a1 n1 c1, .slice a2 n2 c2, .slice (some ⟨gk, off, none⟩) 16 c3] 32)).cell? ⟨w.heap.size, 0, none⟩ = some (.int .i64 3) := by simp only [World.cell?, HA]; rfl
  have q1 : (w.alloc (.cells #[.int .i64 3, .slice a1 n1 c1, .slice a2 n2 c2, .slice (some ⟨gk, off, none⟩) 16 c3] 32)).cell? ⟨w.heap.size, 1, none⟩ = some (.slice a1 n1 c1) := by simp only [World.cell?, HA]; rfl
  have q2 : (w.alloc (.cells #[.int .i64 3, .slice a1 n1 c1, .slice a2 n2 c2, .slice (some ⟨gk, off, none⟩) 16 c3] 32)).cell? ⟨w.heap.size, 2, none⟩ = some (.slice a2 n2 c2) := by simp only [World.cell?, HA]; rfl
  have q3 : (w.alloc (.cells #[.int .i64 3, .slice a1 n1 c1, .slice a2 n2 c2, .slice (some ⟨gk, off, none⟩) 16 c3] 32)).cell? ⟨w.heap.size, 3, none⟩ = some (.slice (some ⟨gk, off, none⟩) 16 c3) := by simp only [World.cell?, HA]; rfl
  have hh : w.heap.size < (w.alloc (.cells #[.int .i64 3, .slice a1 n1 c1, .slice a2 n2 c2, .slice (some ⟨gk, off, none⟩) 16 c3] 32)).heap.size := by simp
  have SP : Hid (Pk.Sl p (.slice a1 n1 c1) (w.alloc (.cells #[.int .i64 3, .slice a1 n1 c1, .slice a2 n2 c2, .slice (some ⟨gk, off, none⟩) 16 c3] 32))) := Pk.Sl_below hp.out B0
  clear HA
  have SV : Hid (Pk.Sl v (.slice a2 n2 c2) (w.alloc (.cells #[.int .i64 3, .slice a1 n1 c1, .slice a2 n2 c2, .slice (some ⟨gk, off, none⟩) 16 c3] 32))) := Pk.Sl_below hv.out B0
  have HCP : Hid (∀ (j : Nat) (W : World), (Op.stringOp .add (st P) (st [UInt8.ofNat j])).run Tryd.prog W = .ok (.string (st (P ++ [UInt8.ofNat j]))) W) := fun j W => cat_st P _ (by simp; omega) W
  have BW : Hid (Below w.heap.size w (w.alloc (.cells #[.int .i64 3, .slice a1 n1 c1, .slice a2 n2 c2, .slice (some ⟨gk, off, none⟩) 16 c3] 32))) := B0
  have f1 : n2 = 0 := by rw [hv2.out, he.out]; rfl
  have f2 : ¬ (0 : Int) < (n2 : Int) := by omega
  have f3 : decide ((0 : Int) < (n2 : Int)) = false := decide_eq_false f2
  have f4 : decide (0 < n2) = false := decide_eq_false (by omega)
  clear f1
  go_enter Tryd.func32, Tryd.ntmps32
  go_wp2_with fail
  generalize (w.alloc (.cells #[.int .i64 3, .slice a1 n1 c1, .slice a2 n2 c2, .slice (some ⟨gk, off, none⟩) 16 c3] 32)) = W0 at *
  generalize hg0 : w.heap.size = g0 at *
  go_loopw [16] (fun i wr => ∃ j : Nat, j ≤ n1 ∧ i = .int .i64 (j : Int) ∧ wr = W0) (fun i _ => ((n1 : Int) - intOf i).toNat)
  case atStart => exact ⟨0, Nat.zero_le _, rfl, rfl⟩
  case round =>
    obtain ⟨j, hj, rfl, rfl⟩ := hrel
    by_cases hlt : j < n1
    · have d0 : decide ((j : Int) < (n1 : Int)) = true := decide_eq_true (by omega)
      have d1 : (0 : Int) ≤ (j : Int) := by omega
      have d2 : (j : Int) < (n1 : Int) := by omega
      obtain ⟨ao, cap, e2, -, hq⟩ := SP.out
      injection e2 with e2 e3 e4
      subst e2
      obtain ⟨gp, off, rfl, hgp, hcell⟩ := hq (by omega)
      have x0 := hcell j (by omega)
      have e5 : Hid (wrap64 ((j : Int) + 1) = ((j + 1 : Nat) : Int)) := by have := hz.out; show _ = _; unfold wrap64; omega
      clear hq hcell e3 e4
      go_wp2_with fail
      rw [e5.out]
      exact ⟨⟨j + 1, by omega, rfl, by trivial⟩, msr_up j n1 hlt⟩
    · have d0 : decide ((j : Int) < (n1 : Int)) = false := decide_eq_false (by omega)
      have O1 : Hid (Ow wr.heap.size (pre P (([] : Rt) ++ [])) (.slice none 0 0) wr) := World.ownsRow_nil _ _ _ _
      have B1 : Hid (Below wr.heap.size wr wr) := Below.refl _ _
      go_wp2_with fail
      clear f2 f3 f4
      generalize hWa : wr = Wa at *
      go_loopw [8, 98] (fun o i w2 => ∃ (k : Nat) (L : Rt), k ≤ 16 ∧ i = .int .i64 (k : Int) ∧ rtk 0 (ks.take k) = some L ∧ Ow Wa.heap.size (pre P (([] : Rt) ++ L)) o w2 ∧ Below Wa.heap.size Wa w2) (fun _ i _ => ((16 : Int) - intOf i).toNat)
      case atStart => exact ⟨0, [], by omega, rfl, by unfold rtk; rfl, O1.out, B1.out⟩
      case round =>
        obtain ⟨k, L, hk16, rfl, hL, ho, hB⟩ := hrel
        have RTS : Hid (rt (.mk 3 p v ks) = (rtk 0 ks).map fun l => ([] : Rt) ++ l) := by
          show _ = _
          rw [rt_three p v ks hl.out]
          rw [if_pos he.out]
        by_cases hkl : k < 16
        · have t0 : decide ((k : Int) < 16) = true := decide_eq_true (by omega)
          have t1 : (0 : Int) ≤ (k : Int) := by omega
          have t2 : (k : Int) < 16 := by omega
          have BWw : Below w.heap.size w wr := (hg0 ▸ BW.out).trans (hB.mono (hg0 ▸ BW.out).size)
          obtain ⟨ao, cap, e2, -, hq⟩ := hk.out
          obtain ⟨gk', off', e3, -, hgk, hcell⟩ := hq (by have := hl2.out; omega)
          injection e2 with e2 e4 e5
          rw [e3] at e2
          injection e2 with e2
          injection e2 with e6 e7
          subst e6 e7
          clear e3 e4 e5
          obtain ⟨x0, x1, x2, x3⟩ := hcell k (by have := hl2.out; omega)
          have iv := hi.out k hkl
          obtain ⟨q, b1, m1, d1, b2, m2, d2, b3, m3, d3, ev⟩ := Nv_form iv
          rw [ev] at x0 x1 x2 x3 iv
          have z0 := (BWw.cell (p := ⟨gk, off + 4 * k, none⟩) hgk).trans x0
          have z1 := (BWw.cell (p := ⟨gk, off + 4 * k + 1, none⟩) hgk).trans x1
          have z2 := (BWw.cell (p := ⟨gk, off + 4 * k + 2, none⟩) hgk).trans x2
          have z3 := (BWw.cell (p := ⟨gk, off + 4 * k + 3, none⟩) hgk).trans x3
          have hgk2 : gk < wr.heap.size := Nat.lt_of_lt_of_le hgk BWw.size
          rw [Nat.mul_comm 4 k] at z0 z1 z2 z3
          have bA : Below wr.heap.size wr (wr.alloc (.cells #[.int .i64 q, .slice b1 m1 d1, .slice b2 m2 d2, .slice b3 m3 d3] 32)) := (Below.refl _ _).alloc (Nat.le_refl _) _
          have IV : Hid (Nv S (wr.alloc (.cells #[.int .i64 q, .slice b1 m1 d1, .slice b2 m2 d2, .slice b3 m3 d3] 32)) (ks.getD k Nd.no) (.int .i64 q, .slice b1 m1 d1, .slice b2 m2 d2, .slice b3 m3 d3)) := Nv_below (Nv_below iv BWw) bA
          have OW : Hid (Ow Wa.heap.size (pre P (([] : Rt) ++ L)) _ (wr.alloc (.cells #[.int .i64 q, .slice b1 m1 d1, .slice b2 m2 d2, .slice b3 m3 d3] 32))) := Pk.ownb ho bA
          have BX : Hid (Bx wr.heap.size (.int .i64 q, .slice b1 m1 d1, .slice b2 m2 d2, .slice b3 m3 d3) (wr.alloc (.cells #[.int .i64 q, .slice b1 m1 d1, .slice b2 m2 d2, .slice b3 m3 d3] 32))) := Bx_new wr (.int .i64 q, .slice b1 m1 d1, .slice b2 m2 d2, .slice b3 m3 d3)
          have BB : Hid (Below Wa.heap.size Wa (wr.alloc (.cells #[.int .i64 q, .slice b1 m1 d1, .slice b2 m2 d2, .slice b3 m3 d3] 32))) := hB.trans (bA.mono hB.size)
          have KB : Hid (∀ wx : World, Nv S wx (ks.getD k Nd.no) (.int .i64 q, .slice b1 m1 d1, .slice b2 m2 d2, .slice b3 m3 d3) → Calls Tryd.prog 32 #[.agg #[.int .i64 q, .slice b1 m1 d1, .slice b2 m2 d2, .slice b3 m3 d3], .string (st (P ++ [UInt8.ofNat k]))] wx fun e w' => RT (ks.getD k Nd.no) (P ++ [UInt8.ofNat k]) e w' ∧ Below wx.heap.size wx w') := fun wx h => KR.out k hkl (.int .i64 q, .slice b1 m1 d1, .slice b2 m2 d2, .slice b3 m3 d3) wx h
          have e8 : IntKind.u8.wrap (k : Int) = (k : Int) := by rw [IntKind.wrap_u8]; omega
          have e9 : Hid (wrap64 ((k : Int) + 1) = ((k + 1 : Nat) : Int)) := by show _ = _; unfold wrap64; omega
          obtain ⟨oa2, on2, oc2, rfl⟩ := own_slice ho
          have HLK : Hid (rtk 0 (ks.take k) = some L) := hL
          clear hq hcell x0 x1 x2 x3 ev iv BWw bA ho hB hL
          go_upto_region 20 with fail
          generalize wr.alloc (.cells #[.int .i64 q, .slice b1 m1 d1, .slice b2 m2 d2, .slice b3 m3 d3] 32) = W1 at *
          generalize wr.heap.size = h10 at *
          obtain ⟨hx, y0, y1, y2, y3⟩ := BX.out
          dsimp only at y0 y1 y2 y3
          have bC : Below W1.heap.size W1 (W1.alloc (.cells #[.int .u8 (k : Int)] 5)) := (Below.refl _ _).alloc (Nat.le_refl _) _
          have hcs := Sl_st (lit_b k hkl W1)
          have hcc := HCP.out k (W1.alloc (.cells #[.int .u8 (k : Int)] 5))
          have KK : Hid _ := KB.out _ (Nv_below IV.out bC)
          have OW2 : Hid (Ow _ _ _ _) := Pk.ownb OW.out bC
          have BB2 : Hid (Below Wa.heap.size Wa _) := BB.out.trans (bC.mono BB.out.size)
          clear BX KB IV bC OW BB
          generalize st (P ++ [UInt8.ofNat k]) = Y at *
          generalize st [UInt8.ofNat k] = C at *
          go_wp2_with fail
          refine Calls.mono KK.out (fun e w5 he => ?_)
          obtain ⟨hr, b5⟩ := he
          rcases hr with ⟨l, x, hrt, rfl, hrv⟩ | ⟨hrt, rfl⟩
          · have o5 := Pk.ownb OW2.out b5
            obtain ⟨v6, w6, hap, ho6, hb6, -⟩ := app_rv 66 o5 hrv (Nat.le_trans BB2.out.size b5.size) (by
              have := HN.out k L l hkl HLK.out hrt
              rw [pre_len', pre_len', List.length_append]
              simp only [List.length_nil]
              omega)
            have B6 : Hid (Below Wa.heap.size Wa w6) := (BB2.out.trans (b5.mono BB2.out.size)).trans hb6
            have O6 : Hid (Ow Wa.heap.size (pre P (([] : Rt) ++ (L ++ pre [UInt8.ofNat k] l))) v6 w6) := by
              have e : pre P (([] : Rt) ++ (L ++ pre [UInt8.ofNat k] l)) = pre P (([] : Rt) ++ L) ++ pre (P ++ [UInt8.ofNat k]) l := by rw [← List.append_assoc, pre_app, pre_pre]
              show Ow _ _ _ _
              rw [e]
              exact ho6
            have R6 : Hid (rtk 0 (ks.take (k + 1)) = some (L ++ pre [UInt8.ofNat k] l)) := rtk_take ks k (by have := hl.out; omega) L l HLK.out hrt
            obtain ⟨ax, cx, rfl, -, -⟩ := hrv
            obtain ⟨oa6, on6, oc6, rfl⟩ := own_slice ho6
            generalize (pre (P ++ [UInt8.ofNat k]) l).length = nx at *
            clear KK OW2 BB2 o5 b5 ho6 hb6 hrt HLK
            go_wp2_with (at_builtin; refine wpList_apw rfl rfl rfl rfl hap ?_)
            first | rw [e9.out] | rw [show (k : Int) + 1 = ((k + 1 : Nat) : Int) from by omega]
            exact ⟨⟨k + 1, L ++ pre [UInt8.ofNat k] l, by omega, rfl, R6.out, O6.out, B6.out⟩, msr_up k 16 hkl⟩
          · have B6 : Hid (Below w.heap.size w w5) := by
              show Below _ _ _
              have h1 := BB2.out.trans (b5.mono BB2.out.size)
              exact (hg0 ▸ BW.out).trans (h1.mono (hg0 ▸ BW.out).size)
            have R6 : Hid (rt (.mk 3 p v ks) = none) := by
              show _ = _
              rw [RTS.out, rtk_bad ks 0 k (by have := hl.out; omega) hrt]
              rfl
            clear KK OW2 BB2 b5 hrt HLK
            go_wp2_with fail
            go_ret2
            exact ⟨.inr ⟨R6.out, rfl⟩, by first | exact B6.out | (rw [← hg0]; exact B6.out)⟩
        · have t0 : decide ((k : Int) < 16) = false := decide_eq_false (by omega)
          have ek : ks.take k = ks := List.take_of_length_le (by have := hl.out; omega)
          rw [ek] at hL
          have R6 : Hid (rt (.mk 3 p v ks) = some (([] : Rt) ++ L)) := by
            show _ = _
            rw [RTS.out, hL]
            rfl
          have RV : Hid (Rv (pre P (([] : Rt) ++ L)) _ wr) := own_rv ho
          have B6 : Hid (Below w.heap.size w wr) := (hg0 ▸ BW.out).trans (hB.mono (hg0 ▸ BW.out).size)
          obtain ⟨oa2, on2, oc2, rfl⟩ := own_slice ho
          clear ho hL hB
          go_wp2_with fail
          go_ret2
          exact ⟨.inl ⟨_, _, R6.out, rfl, RV.out⟩, by first | exact B6.out | (rw [← hg0]; exact B6.out)⟩
end Tr
end Go.Proofs.YtefgamhnikeekaaDoor
namespace Go.Proofs.YtefgamhnikeekaaDoor
namespace Tr
open Nb Go.RowKit
mutual
def wn : Nd → Nat
  | .mk _ p v ks => 4 + p.length + v.length + wnk ks
def wnk : List Nd → Nat
  | [] => 0
  | t :: r => wn t + wnk r
end
theorem wnk_one : ∀ (ks : List Nd) (j : Nat), j < ks.length → wn (ks.getD j Nd.no) ≤ wnk ks
  | [], j, h => absurd h (by simp)
  | k :: r, 0, _ => by unfold wnk; rw [List.getD_cons_zero]; omega
  | k :: r, j + 1, h => by
    have := wnk_one r j (by simpa using h)
    unfold wnk
    rw [List.getD_cons_succ]; omega
theorem wnk_take : ∀ (ks : List Nd) (j : Nat), j < ks.length → wnk (ks.take j) + wn (ks.getD j Nd.no) ≤ wnk ks
  | [], j, h => absurd h (by simp)
  | k :: r, 0, _ => by rw [List.take_zero, List.getD_cons_zero]; unfold wnk; omega
  | k :: r, j + 1, h => by
    have := wnk_take r j (by simpa using h)
    rw [List.take_succ_cons, List.getD_cons_succ]
    unfold wnk
    omega
theorem rtk_count : ∀ (ks : List Nd) (i : Nat) (L : Rt), (∀ j, j < ks.length → ∀ a, rt (ks.getD j Nd.no) = some a → a.length ≤ wn (ks.getD j Nd.no)) → rtk i ks = some L → L.length ≤ wnk ks
  | [], i, L, _, h => by unfold rtk at h; cases h; exact Nat.zero_le _
  | t :: r, i, L, hk, h => by
    unfold rtk at h
    cases ha : rt t with
    | none => rw [ha] at h; cases h
    | some a =>
      cases hb : rtk (i + 1) r with
      | none => rw [ha, hb] at h; cases h
      | some b =>
        rw [ha, hb] at h
        cases h
        have h1 := hk 0 (by simp) a (by rw [List.getD_cons_zero]; exact ha)
        rw [List.getD_cons_zero] at h1
        have h2 := rtk_count r (i + 1) b (fun j hj c hc => by
          have := hk (j + 1) (by simpa using hj) c
          rw [List.getD_cons_succ] at this
          exact this hc) hb
        unfold wnk
        rw [List.length_append, pre_len']
        omega
theorem rt_two (p v : By) (t : Nd) (hp : Pt p) : rt (.mk 2 p v [t]) = (rt t).map (pre p) := by
  rw [rt, if_neg (fun h => by rw [(ptb_iff p).2 hp] at h; cases h.2), if_neg (by decide), if_neg (by decide), if_pos ⟨rfl, rfl⟩, rt0]
theorem rt_count {t : Nd} (h : Wf t) : ∀ l, rt t = some l → l.length ≤ wn t := by
  induction h with
  | mk k p v ks _ ih =>
    intro l h
    unfold rt at h
    split at h
    · cases h
    split at h
    · cases h; exact Nat.zero_le _
    split at h
    · cases h
      unfold wn
      rw [List.length_singleton]; omega
    split at h
    · rename_i h2
      obtain ⟨t, rfl⟩ := List.length_eq_one_iff.1 h2.2
      rw [rt0] at h
      cases ha : rt t with
      | none => rw [ha] at h; cases h
      | some a =>
        rw [ha] at h
        cases h
        have := ih 0 (by simp) a ha
        rw [List.getD_cons_zero] at this
        unfold wn wnk wnk
        rw [pre_len']; omega
    split at h
    · rename_i h3
      cases ha : rtk 0 ks with
      | none => rw [ha] at h; cases h
      | some a =>
        rw [ha] at h
        cases h
        have := rtk_count ks 0 a ih ha
        unfold wn
        rw [List.length_append]
        split
        · rw [List.length_nil]; omega
        · rw [List.length_singleton]; omega
    · cases h
theorem rt_none_bad (k : Int) (p v : By) (ks : List Nd) (hk : k = 1 ∨ k = 2) (hp : ¬ Pt p) : rt (.mk k p v ks) = none := by
  rw [rt, if_pos ⟨hk, by cases h : ptb p with | false => rfl | true => exact absurd ((ptb_iff p).1 h) hp⟩]
theorem routes_any {t : Nd} (ht : Wf t) : ∀ (S : Nat → Prop) (x : V4) (w : World) (P : By), Nv S w t x → P.length + wn t ≤ 4194304 → Calls Tryd.prog 32 #[v4 x, .string (st P)] w fun e w' => RT t P e w' ∧ Below w.heap.size w w' := by
  induction ht with
  | mk k p v ks _ ih =>
    intro S x w P hx hw
    cases hx with
    | mk _ _ _ _ pv vv kv vs hp hv hl hkk hi =>
      have sp := Bs_sl hp
      have sv := Bs_sl hv
      obtain ⟨a1, c1, rfl, -, -⟩ := hp
      obtain ⟨a2, c2, rfl, -, -⟩ := hv
      have hkA := hkk
      obtain ⟨a3, c3, rfl, -, hkq⟩ := hkk
      have hw' : P.length + (4 + p.length + v.length + wnk ks) ≤ 4194304 := by unfold wn at hw; exact hw
      have hz : p.length ≤ 4194304 := by omega
      show Calls Tryd.prog 32 #[.agg #[.int .i64 k, _, _, _], _] w _
      by_cases h0 : k = 0
      · subst h0
        refine (rt_zero a1 a2 a3 _ c1 _ c2 _ c3 P w p hz sp).mono fun e w' he => ⟨.inl ⟨[], _, ?_, he.1, Rv_nil _⟩, he.2⟩
        unfold rt; simp
      by_cases h1 : k = 1
      · subst h1
        by_cases hpt : Pt p
        · refine (rt_leaf a1 a2 a3 _ c1 _ c2 _ c3 P w p hz sp (fun j hj => pt_bz hpt j hj) rfl v sv (by omega)).mono fun e w' he => ?_
          obtain ⟨⟨y, h2, h3⟩, h4⟩ := he
          refine ⟨.inl ⟨[(p, v)], y, ?_, h2, h3⟩, h4⟩
          rw [rt, if_neg (fun h => by rw [(ptb_iff p).2 hpt] at h; cases h.2), if_neg (by decide), if_pos rfl]
        · obtain ⟨i, h2, h3, h4⟩ := not_pt hpt
          exact (rt_leaf_no a1 a2 a3 _ c1 _ c2 _ c3 P w p hz sp i h2 ⟨h3, h4⟩).mono fun e w' he => ⟨.inr ⟨rt_none_bad 1 p v ks (.inl rfl) hpt, he.1⟩, he.2⟩
      by_cases h2 : k = 2
      · subst h2
        by_cases hpt : Pt p
        · by_cases hlen : ks.length = 1
          · obtain ⟨t, rfl⟩ := List.length_eq_one_iff.1 hlen
            obtain ⟨gk, off, rfl, -, hgk, hcell⟩ := hkq (by rw [hl]; simp)
            have hi0 := hi 0 (by simp)
            rw [List.getD_cons_zero] at hi0
            obtain ⟨y0, y1, y2, y3⟩ := hcell 0 (by rw [hl]; simp)
            obtain ⟨q, b1, m1, d1, b2, m2, d2, b3, m3, d3, ev⟩ := Nv_form hi0
            rw [ev] at y0 y1 y2 y3 hi0
            have e1 : vs.length = 1 := by rw [hl]; rfl
            rw [e1]
            have KR : ∀ wx : World, Below w.heap.size w wx → Calls Tryd.prog 32 #[.agg #[.int .i64 q, .slice b1 m1 d1, .slice b2 m2 d2, .slice b3 m3 d3], .string (st (P ++ p))] wx fun e w' => RT t (P ++ p) e w' ∧ Below wx.heap.size wx w' := fun wx hb => ih 0 (by simp) S (.int .i64 q, .slice b1 m1 d1, .slice b2 m2 d2, .slice b3 m3 d3) wx (P ++ p) (Nv_below hi0 hb) (by
              rw [List.getD_cons_zero, List.length_append]
              unfold wnk wnk at hw'
              omega)
            cases hr : rt t with
            | some l =>
              refine (rt_road a1 a2 _ c1 _ c2 c3 P w p hz sp (fun j hj => pt_bz hpt j hj) rfl (by omega) (fun x w => Rv (pre (P ++ p) l) x w) true (fun x w w' h hb => Rv_below h hb) q b1 b2 b3 m1 d1 m2 d2 m3 d3 gk off hgk y0 y1 y2 y3 (fun wx hb => (KR wx hb).mono fun e w' he => ?_)).mono fun e w' he => ?_
              · obtain ⟨h3 | h3, h4⟩ := he
                · obtain ⟨l2, x2, h5, h6, h7⟩ := h3
                  rw [hr] at h5
                  cases h5
                  exact ⟨x2, h6, h7, h4⟩
                · rw [hr] at h3; cases h3.1
              · obtain ⟨⟨x2, h3, h4⟩, h5⟩ := he
                refine ⟨.inl ⟨pre p l, x2, ?_, h3, ?_⟩, h5⟩
                · rw [rt_two p v t hpt, hr]; rfl
                · rw [pre_pre]; exact h4
            | none =>
              refine (rt_road a1 a2 _ c1 _ c2 c3 P w p hz sp (fun j hj => pt_bz hpt j hj) rfl (by omega) (fun x _ => x = .slice none 0 0) false (fun x w w' h hb => h) q b1 b2 b3 m1 d1 m2 d2 m3 d3 gk off hgk y0 y1 y2 y3 (fun wx hb => (KR wx hb).mono fun e w' he => ?_)).mono fun e w' he => ?_
              · obtain ⟨h3 | h3, h4⟩ := he
                · obtain ⟨l2, x2, h5, h6, h7⟩ := h3
                  rw [hr] at h5; cases h5
                · exact ⟨_, h3.2, rfl, h4⟩
              · obtain ⟨⟨x2, h3, h4⟩, h5⟩ := he
                subst h4
                refine ⟨.inr ⟨?_, h3⟩, h5⟩
                rw [rt_two p v t hpt, hr]; rfl
          · refine (rt_road_no a1 a2 a3 _ c1 _ c2 _ c3 P w p hz sp (fun j hj => pt_bz hpt j hj) (by omega)).mono fun e w' he => ⟨.inr ⟨?_, he.1⟩, he.2⟩
            rw [rt, if_neg (fun h => by rw [(ptb_iff p).2 hpt] at h; cases h.2), if_neg (by decide), if_neg (by decide), if_neg (fun h => hlen h.2), if_neg (fun h => absurd h.1 (by decide))]
        · obtain ⟨i, h3, h4, h5⟩ := not_pt hpt
          exact (rt_road_bad a1 a2 a3 _ c1 _ c2 _ c3 P w p hz sp i h3 ⟨h4, h5⟩).mono fun e w' he => ⟨.inr ⟨rt_none_bad 2 p v ks (.inr rfl) hpt, he.1⟩, he.2⟩
      by_cases h3 : k = 3
      · subst h3
        by_cases hlen : ks.length = 16
        · obtain ⟨gk, off, rfl, -, hgk, hcell⟩ := hkq (by rw [hl, hlen]; decide)
          have e1 : vs.length = 16 := by rw [hl, hlen]
          rw [e1] at hkA ⊢
          have KR : ∀ j, j < 16 → ∀ (u : V4) (wx : World), Nv S wx (ks.getD j Nd.no) u → Calls Tryd.prog 32 #[v4 u, .string (st (P ++ [UInt8.ofNat j]))] wx fun e w' => RT (ks.getD j Nd.no) (P ++ [UInt8.ofNat j]) e w' ∧ Below wx.heap.size wx w' := fun j hj u wx hu => ih j (by omega) S u wx (P ++ [UInt8.ofNat j]) hu (by
            have := wnk_one ks j (by omega)
            rw [List.length_append, List.length_singleton]
            omega)
          have HN : ∀ j L a, j < 16 → rtk 0 (ks.take j) = some L → rt (ks.getD j Nd.no) = some a → 1 + L.length + a.length ≤ 4194304 := fun j L a hj hL ha => by
            have q1 := rtk_count (ks.take j) 0 L (fun i hi c hc => rt_count (wf_any _) c hc) hL
            have q2 := rt_count (wf_any _) a ha
            have q3 := wnk_take ks j (by omega)
            omega
          by_cases hv0 : v = []
          · exact rt_fork_e a1 a2 _ c1 _ c2 c3 P w p hz sp v sv rfl (by omega) S ks vs gk off hlen e1 hkA (fun j hj => hi j (by omega)) KR HN hv0
          · exact rt_fork_v a1 a2 _ c1 _ c2 c3 P w p hz sp v sv rfl (by omega) S ks vs gk off hlen e1 hkA (fun j hj => hi j (by omega)) KR HN hv0
        · refine (rt_fork_no a1 a2 a3 _ c1 _ c2 _ c3 P w p hz sp (by omega)).mono fun e w' he => ⟨.inr ⟨?_, he.1⟩, he.2⟩
          rw [rt, if_neg (fun h => by rcases h.1 with h | h <;> exact absurd h (by decide)), if_neg (by decide), if_neg (by decide), if_neg (fun h => absurd h.1 (by decide)), if_neg (fun h => hlen h.2)]
      · refine (rt_other a1 a2 a3 _ c1 _ c2 _ c3 P w p hz sp k h0 h1 h2 h3).mono fun e w' he => ⟨.inr ⟨?_, he.1⟩, he.2⟩
        rw [rt, if_neg (fun h => by rcases h.1 with h | h; exact h1 h; exact h2 h), if_neg h0, if_neg h1, if_neg (fun h => h2 h.1), if_neg (fun h => h3 h.1)]
end Tr
end Go.Proofs.YtefgamhnikeekaaDoor
namespace Go.Proofs.YtefgamhnikeekaaDoor
namespace Rt
open Nb Sp Pk Rs Go.RowKit
theorem hc_len (s : Shp) (hp : s.2.1.length ≤ 1048576) : (hc s).length ≤ 1048576 := by
  unfold hc
  split
  · rename_i h; exact encS_len s h hp
  · simp
theorem shN_path (t : Nd) (h : Tr.wn t ≤ 1048576) : (shN t).2.1.length ≤ 1048576 := by
  obtain ⟨k, p, v, ks⟩ := t
  unfold Tr.wn at h
  rw [shN]
  split
  · show p.length ≤ _; omega
  · split
    · show p.length ≤ _; omega
    · simp
mutual
theorem cds_wn : ∀ t : Nd, (cds t).length ≤ Tr.wn t
  | .mk k p v ks => by
    have := cdk_wn ks
    rw [cds, List.length_cons]
    unfold Tr.wn
    split
    · omega
    · simp only [List.length_nil]; omega
theorem cdk_wn : ∀ ks : List Nd, (cdk ks).length ≤ Tr.wnk ks
  | [] => by simp [cdk]
  | t :: r => by
    have h1 := cds_wn t
    have h2 := cdk_wn r
    rw [cdk, List.length_append]
    unfold Tr.wnk
    split
    · simp only [List.length_nil]; omega
    · omega
end
theorem wnk_many' : ∀ ks : List Nd, ks.length ≤ Tr.wnk ks
  | [] => Nat.zero_le _
  | .mk k p v js :: r => by
    have := wnk_many' r
    unfold Tr.wnk Tr.wn
    rw [List.length_cons]; omega
set_option maxRecDepth 100000 in
theorem treecodes_any {t : Nd} (hw : Tr.Wf t) : Tr.wn t ≤ 1048576 → ∀ (S : Nat → Prop) (x : Tr.V4) (w : World), Tr.Nv S w t x → Calls Tryd.prog 19 #[Tr.v4 x] w (TC w (cds t)) := by
  induction hw with
  | mk k p v ks hks ih =>
    intro hz S x w hx
    have hpp := shN_path (.mk k p v ks) hz
    have KH : ∀ (y : V4) (wx : World), Sh (shN (.mk k p v ks)) y wx → Calls Tryd.prog 6 #[Rs.v4 y] wx fun e w' => ∃ q, e = .returned (.tuple #[q, .int .i64 (he (shN (.mk k p v ks)))]) ∧ Sl (cd (.mk k p v ks)) q w' ∧ Below wx.heap.size wx w' ∧ Nw wx.heap.size q := fun y wx hy => by
      rw [cd_eq]
      exact hcode2_any _ y wx hy (by omega) (fun hs => encS_len _ hs hpp)
    have hzk := hz
    unfold Tr.wn at hzk
    cases hx with
    | mk _ _ _ _ pv vv kv vs hp hv hl hk hi =>
      obtain ⟨a1, c1, rfl, _⟩ := id hp
      obtain ⟨a2, c2, rfl, _⟩ := id hv
      obtain ⟨a3, c3, rfl, _, hq⟩ := id hk
      by_cases k1 : k = 1
      · subst k1
        have e : cds (.mk 1 p v ks) = [cd (.mk 1 p v ks)] := by rw [cds, if_neg (by decide)]
        rw [e]
        have es : shN (.mk 1 p v ks) = (1, p, v, []) := by rw [shN, if_pos rfl]
        rw [es] at KH
        exact tc_leaf a1 a2 a3 _ c1 _ c2 _ c3 w _ p v (Tr.Bs_sl hp) (Tr.Bs_sl hv) _ (fun wx hs => KH (.int .i64 1, .slice a1 p.length c1, .slice a2 v.length c2, .slice none 0 0) wx hs)
      have hkid : ∀ j, j < ks.length → Tr.wn (ks.getD j Tr.Nd.no) ≤ 1048576 := fun j hj => by have := Tr.wnk_one ks j hj; omega
      have hkd : 0 < vs.length → ∃ g off, a3 = some ⟨g, off, none⟩ ∧ g < w.heap.size ∧ ∀ j, j < vs.length → KD w g off j (ks.getD j Tr.Nd.no) := fun h0 => by
        obtain ⟨g, off, e, _, hg, hc⟩ := hq h0
        refine ⟨g, off, e, hg, fun j hj => ?_⟩
        obtain ⟨r0, r1, r2, r3⟩ := hc j hj
        have hjk : j < ks.length := by omega
        have nv := hi j hjk
        have hpj := shN_path (ks.getD j Tr.Nd.no) (hkid j hjk)
        obtain ⟨kk, b1, m1, d1, b2, m2, d2, b3, m3, d3, ev⟩ := Tr.Nv_form nv
        have ek : kk = (ks.getD j Tr.Nd.no).kind := by
          rw [ev] at nv
          cases hT : ks.getD j Tr.Nd.no with
          | mk kT pT vT ksT =>
            rw [hT] at nv
            cases nv
            rfl
        rw [ev] at r0 r1 r2 r3
        rw [Nat.mul_comm 4 j] at r0 r1 r2 r3
        refine ⟨b1, m1, d1, b2, m2, d2, b3, m3, d3, by rw [← ek]; exact r0, r1, r2, r3, fun wx hb => ?_, fun y z wx hs => ?_⟩
        · have nv2 := Tr.Nv_below nv hb
          have := ih j hjk (hkid j hjk) S _ wx nv2
          rw [ev, ek] at this
          exact this
        · obtain ⟨ao, cap, e1, _, hvv⟩ := hs
          injection e1 with e2 _ _
          refine ssum_any _ y z wx ?_ (by rw [e2]; exact hvv)
          have := hc_len _ hpj
          rw [← cd_eq] at this
          omega
      have hcl : (cdk ks).length ≤ 4194000 := by have := cdk_wn ks; omega
      have hkl : ks.length ≤ 1048576 := by have := wnk_many' ks; omega
      by_cases k2 : k = 2
      · subst k2
        have e : cds (.mk 2 p v ks) = cd (.mk 2 p v ks) :: cdk ks := by rw [cds, if_pos (.inl rfl)]
        rw [e]
        have es : shN (.mk 2 p v ks) = (2, p, v, sms ks) := by rw [shN, if_neg (by decide), if_pos (.inl rfl)]
        rw [es] at KH
        exact tc_road a1 a2 a3 _ c1 _ c2 _ c3 w _ ks hl hkl hcl hkd p v (Tr.Bs_sl hp) (Tr.Bs_sl hv) _ (fun y wx hs => KH (.int .i64 2, .slice a1 p.length c1, .slice a2 v.length c2, y) wx hs)
      by_cases k3 : k = 3
      · subst k3
        have e : cds (.mk 3 p v ks) = cd (.mk 3 p v ks) :: cdk ks := by rw [cds, if_pos (.inr rfl)]
        rw [e]
        have es : shN (.mk 3 p v ks) = (3, p, v, sms ks) := by rw [shN, if_neg (by decide), if_pos (.inr rfl)]
        rw [es] at KH
        exact tc_fork a1 a2 a3 _ c1 _ c2 _ c3 w _ ks hl hkl hcl hkd p v (Tr.Bs_sl hp) (Tr.Bs_sl hv) _ (fun y wx hs => KH (.int .i64 3, .slice a1 p.length c1, .slice a2 v.length c2, y) wx hs)
      · have e : cds (.mk k p v ks) = [cd (.mk k p v ks)] := by rw [cds, if_neg (fun h => h.elim k2 k3)]
        rw [e]
        have es : shN (.mk k p v ks) = zS := by rw [shN, if_neg k1, if_neg (fun h => h.elim k2 k3)]
        rw [es] at KH
        exact tc_other a1 a2 a3 _ c1 _ c2 _ c3 w _ k k1 k2 k3 _ (fun wx hs => KH (.int .i64 0, .slice none 0 0, .slice none 0 0, .slice none 0 0) wx hs)
end Rt
end Go.Proofs.YtefgamhnikeekaaDoor
namespace Go.Proofs.YtefgamhnikeekaaDoor
namespace RI
theorem wpOp_skip {P : Program} {ops : Array Oper} {Q : Exit → Act → World → Prop} {i : Nat} {o : Oper} {K : Act → World → Prop} {a : Act} {w : World} (ho : ops[i]? = some o) (hw : Region.wanted o (yielded ops a.tmps) = false) (h : K (a.put o.dst undef) w) : wpOp P ops Q i K a w := by
  unfold wpOp
  rw [ho]
  simp only [hw]
  exact h
end RI
namespace Tr
open Nb Go.RowKit
def grw (l : Rt) : Nd := grow 65 l
def GrownOk : Prop := ∀ (l : Rt) (v : Value) (w : World), Rv l v w → l.length ≤ 1048576 → (∀ r ∈ l, r.1.length < 65) → Srt l → Pts l → Calls Tryd.prog 34 #[v] w fun e w' => ∃ u : V4, e = .returned (v4 u) ∧ Nv (w.heap.size ≤ ·) w' (grw l) u ∧ Below w.heap.size w w'
def okb (r : By × By) : Bool := decide (r.1.length % 2 = 0) && decide (r.1.length ≤ 64) && decide (r.2 ≠ []) && decide (r.2.length ≤ 1024)
theorem okb_iff (r : By × By) : okb r = true ↔ Okr r.1 r.2 := by
  unfold okb Okr
  simp only [Bool.and_eq_true, decide_eq_true_eq, and_assoc]
theorem ok_ways (p v : By) (h : okb (p, v) = true) : (p.length : Int).tmod 2 = 0 ∧ p.length ≤ 64 ∧ 0 < v.length ∧ v.length ≤ 1024 := by
  have k := (okb_iff (p, v)).1 h
  obtain ⟨k1, k2, k3, k4⟩ := k
  have k5 : 0 < v.length := List.length_pos_iff.2 k3
  dsimp only at k1 k2 k4
  refine ⟨?_, k2, k5, k4⟩
  rw [Int.tmod_eq_emod_of_nonneg (by omega)]
  omega
theorem bad_ways (p v : By) (h : okb (p, v) = false) : (p.length : Int).tmod 2 = 1 ∨ ((p.length : Int).tmod 2 = 0 ∧ 64 < p.length) ∨ ((p.length : Int).tmod 2 = 0 ∧ p.length ≤ 64 ∧ v.length = 0) ∨ ((p.length : Int).tmod 2 = 0 ∧ p.length ≤ 64 ∧ 0 < v.length ∧ 1024 < v.length) := by
  rw [Int.tmod_eq_emod_of_nonneg (by omega)]
  by_cases t1 : p.length % 2 = 1
  · exact .inl (by omega)
  by_cases t2 : 64 < p.length
  · exact .inr (.inl ⟨by omega, t2⟩)
  by_cases t3 : v.length = 0
  · exact .inr (.inr (.inl ⟨by omega, by omega, t3⟩))
  by_cases t4 : 1024 < v.length
  · exact .inr (.inr (.inr ⟨by omega, by omega, by omega, t4⟩))
  · exfalso
    have : okb (p, v) = true := (okb_iff (p, v)).2 ⟨by show p.length % 2 = 0; omega, by show p.length ≤ 64; omega, fun e => t3 (by have e : v = [] := e; rw [e]; rfl), by show v.length ≤ 1024; omega⟩
    rw [this] at h
    cases h
def gr (t : Nd) : Bool := match rt t with
  | none => false
  | some l => l.all okb && sn t (grw l)
theorem gr_right (t : Nd) : gr t = true ↔ Right t := by
  rw [right_iff]
  unfold gr
  cases h : rt t with
  | none => simp
  | some l =>
    simp only [Bool.and_eq_true, List.all_eq_true, Option.some.injEq, exists_eq_left', okb_iff, sn_bn, grw]
inductive GRF (W0 : World) (k : Int) (a1 a2 a3 : Option Addr) (n1 c1 n2 c2 n3 c3 : Nat) (la : Option Addr) (n lc g0 j : Nat) (v6 v16 v17 v18 v19 v20 v21 v22 v23 v24 v25 v26 v27 v28 v29 v30 v31 v32 v33 v34 v35 v36 v37 v38 v39 v40 v41 : Value) (d : Nat → Bool) (x : Act) (wx : World) : Prop where
  | mk (u2 u42 u43 u44 u45 u46 u47 u48 : Value) (hx : x = { tmps := #[.agg #[.int .i64 k, .slice a1 n1 c1, .slice a2 n2 c2, .slice a3 n3 c3], .pointer (some ⟨g0, 0, none⟩), u2, .slice la n lc, .bool false, undef, v6, .tuple #[.slice la n lc, .bool false], .agg #[.int .i64 k, .slice a1 n1 c1, .slice a2 n2 c2, .slice a3 n3 c3], .tuple #[.slice la n lc, .bool false], .slice la n lc, .bool false, .slice la n lc, .int .i64 (n : Int), .int .i64 (j : Int), .bool false, v16, v17, v18, v19, v20, v21, v22, v23, v24, v25, v26, v27, v28, v29, v30, v31, v32, v33, v34, v35, v36, v37, v38, v39, v40, v41, u42, u43, u44, u45, u46, u47, u48], defers := [] }) (hw : Below W0.heap.size W0 wx) (p0 : d 0 = true → u42 = .bool false) (p1 : d 1 = true → u43 = .bool false) (p2 : d 2 = true → u44 = undef) (p3 : d 3 = true → u45 = undef) (p4 : d 4 = true → u46 = undef) (p5 : d 5 = true → u47 = undef) (p6 : d 6 = true → u48 = .bool false) (p7 : d 7 = true → u2 = .bool false) : GRF W0 k a1 a2 a3 n1 c1 n2 c2 n3 c3 la n lc g0 j v6 v16 v17 v18 v19 v20 v21 v22 v23 v24 v25 v26 v27 v28 v29 v30 v31 v32 v33 v34 v35 v36 v37 v38 v39 v40 v41 d x wx
set_option maxHeartbeats 2000000 in
set_option maxRecDepth 100000 in
theorem gr_false (k : Int) (a1 a2 a3 : Option Addr) (n1 c1 n2 c2 n3 c3 : Nat) (w : World) (KR : Hid (∀ wx : World, Below w.heap.size w wx → Calls Tryd.prog 32 #[.agg #[.int .i64 k, .slice a1 n1 c1, .slice a2 n2 c2, .slice a3 n3 c3], .string ⟨#[]⟩] wx fun e w' => ∃ la n lc, e = .returned (.tuple #[.slice la n lc, .bool false]) ∧ n = 0 ∧ Below wx.heap.size wx w')) :
    Calls Tryd.prog 18 #[.agg #[.int .i64 k, .slice a1 n1 c1, .slice a2 n2 c2, .slice a3 n3 c3]] w fun e w' => e = .returned (.bool false) ∧ Below w.heap.size w w' := by
  have B0 : Below w.heap.size w (w.alloc (.cells #[.int .i64 k, .slice a1 n1 c1, .slice a2 n2 c2, .slice a3 n3 c3] 32)) := (Below.refl _ _).alloc (Nat.le_refl _) _
  have HA := heap_alloc_new w (.cells #[.int .i64 k, .slice a1 n1 c1, .slice a2 n2 c2, .slice a3 n3 c3] 32)
  have q0' : (w.alloc (.cells #[.int .i64 k, .slice a1 n1 c1, .slice a2 n2 c2, .slice a3 n3 c3] 32)).cell? ⟨w.heap.size, 0, none⟩ = some (.int .i64 k) := by simp only [World.cell?, HA]; rfl
  have q1' : (w.alloc (.cells #[.int .i64 k, .slice a1 n1 c1, .slice a2 n2 c2, .slice a3 n3 c3] 32)).cell? ⟨w.heap.size, 1, none⟩ = some (.slice a1 n1 c1) := by simp only [World.cell?, HA]; rfl
  have q2' : (w.alloc (.cells #[.int .i64 k, .slice a1 n1 c1, .slice a2 n2 c2, .slice a3 n3 c3] 32)).cell? ⟨w.heap.size, 2, none⟩ = some (.slice a2 n2 c2) := by simp only [World.cell?, HA]; rfl
  have q3' : (w.alloc (.cells #[.int .i64 k, .slice a1 n1 c1, .slice a2 n2 c2, .slice a3 n3 c3] 32)).cell? ⟨w.heap.size, 3, none⟩ = some (.slice a3 n3 c3) := by simp only [World.cell?, HA]; rfl
  have hh' : w.heap.size < (w.alloc (.cells #[.int .i64 k, .slice a1 n1 c1, .slice a2 n2 c2, .slice a3 n3 c3] 32)).heap.size := by simp
  have BW : Hid (Below w.heap.size w (w.alloc (.cells #[.int .i64 k, .slice a1 n1 c1, .slice a2 n2 c2, .slice a3 n3 c3] 32))) := B0
  clear HA
  go_enter Tryd.func18, Tryd.ntmps18
  go_wp2_with fail
  generalize w.alloc (.cells #[.int .i64 k, .slice a1 n1 c1, .slice a2 n2 c2, .slice a3 n3 c3] 32) = W1 at *
  generalize hg0 : w.heap.size = g0 at *
  refine (KR.out W1 (hg0 ▸ B0)).mono (fun e W0 he => ?_)
  obtain ⟨la, n, lc, rfl, hx0, bR⟩ := he
  have hx : Hid _ := hx0
  clear hx0
  have q0 := (bR.cell (p := ⟨g0, 0, none⟩) hh').trans q0'
  have q1 := (bR.cell (p := ⟨g0, 1, none⟩) hh').trans q1'
  have q2 := (bR.cell (p := ⟨g0, 2, none⟩) hh').trans q2'
  have q3 := (bR.cell (p := ⟨g0, 3, none⟩) hh').trans q3'
  have hh : g0 < W0.heap.size := Nat.lt_of_lt_of_le hh' bR.size
  have BW0 : Hid (Below w.heap.size w W0) := by
    show Below _ _ _
    rw [hg0]
    exact BW.out.trans (bR.mono (by have := BW.out.size; omega))
  clear q0' q1' q2' q3' hh' bR BW B0 KR
  go_wp2_with fail
  go_loopw [14] (fun i wr => ∃ j : Nat, j ≤ n ∧ i = .int .i64 (j : Int) ∧ Below W0.heap.size W0 wr) (fun i _ => ((n : Int) - intOf i).toNat)
  case atStart => exact ⟨0, Nat.zero_le _, rfl, Below.refl _ _⟩
  case round =>
    obtain ⟨j, hj, rfl, hB⟩ := hrel
    have hlt : ¬ j < n := by have := hx.out; omega
    have d0 : decide ((j : Int) < (n : Int)) = false := decide_eq_false (by omega)
    have BF : Hid (Below w.heap.size w wr) := BW0.out.trans (hB.mono BW0.out.size)
    go_upto_region 8 with fail
    have hw0 : Below wr.heap.size wr wr.drew := (Below.refl _ _).drew
    refine RI.wp_region_inv (GRF wr k a1 a2 a3 n1 c1 n2 c2 n3 c3 la n lc g0 j u6 u16 u17 u18 u19 u20 u21 u22 u23 u24 u25 u26 u27 u28 u29 u30 u31 u32 u33 u34 u35 u36 u37 u38 u39 u40 u41) (by kernel_rfl) (by kernel_rfl) ?_ ?_ ?_
    · exact ⟨_, undef, undef, undef, undef, undef, undef, undef, rfl, hw0, nofun, nofun, nofun, nofun, nofun, nofun, nofun, nofun⟩
    · skip
      intro d x wx i hI hi hm
      obtain ⟨u2, u42, u43, u44, u45, u46, u47, u48, rfl, hw, p0, p1, p2, p3, p4, p5, p6, p7⟩ := hI
      have hi' : i = 0 ∨ i = 1 ∨ i = 2 ∨ i = 3 ∨ i = 4 ∨ i = 5 ∨ i = 6 ∨ i = 7 := by simp at hi; omega
      have hd := hm.2
      clear hm hi
      rcases hi' with rfl | rfl | rfl | rfl | rfl | rfl | rfl | rfl
      · refine RI.wpOp_plain rfl rfl ?_
        go_simp
        exact ⟨u2, _, u43, u44, u45, u46, u47, u48, rfl, hw, fun _ => rfl, p1, p2, p3, p4, p5, p6, p7⟩
      · have hd := hd _ rfl
        simp [Region.binds] at hd
        obtain rfl := p0 (by simp [hd])
        refine RI.wpOp_plain rfl rfl ?_
        go_simp
        exact ⟨u2, _, _, u44, u45, u46, u47, u48, rfl, hw, p0, fun _ => rfl, p2, p3, p4, p5, p6, p7⟩
      · have hd := hd _ rfl
        simp [Region.binds] at hd
        obtain rfl := p1 (by simp [hd])
        refine RI.wpOp_skip rfl rfl ?_
        simp only [Act.put]
        exact ⟨u2, u42, _, _, u45, u46, u47, u48, rfl, hw, p0, p1, fun _ => rfl, p3, p4, p5, p6, p7⟩
      · have hd := hd _ rfl
        simp [Region.binds] at hd
        obtain rfl := p1 (by simp [hd])
        refine RI.wpOp_skip rfl rfl ?_
        simp only [Act.put]
        exact ⟨u2, u42, _, u44, _, u46, u47, u48, rfl, hw, p0, p1, p2, fun _ => rfl, p4, p5, p6, p7⟩
      · have hd := hd _ rfl
        simp [Region.binds] at hd
        obtain rfl := p1 (by simp [hd])
        obtain rfl := p3 (by simp [hd])
        refine RI.wpOp_skip rfl rfl ?_
        simp only [Act.put]
        exact ⟨u2, u42, _, u44, _, _, u47, u48, rfl, hw, p0, p1, p2, p3, fun _ => rfl, p5, p6, p7⟩
      · have hd := hd _ rfl
        simp [Region.binds] at hd
        obtain rfl := p1 (by simp [hd])
        obtain rfl := p2 (by simp [hd])
        obtain rfl := p4 (by simp [hd])
        refine RI.wpOp_skip rfl rfl ?_
        simp only [Act.put]
        exact ⟨u2, u42, _, _, u45, _, _, u48, rfl, hw, p0, p1, p2, p3, p4, fun _ => rfl, p6, p7⟩
      · have hd := hd _ rfl
        simp [Region.binds] at hd
        obtain rfl := p1 (by simp [hd])
        obtain rfl := p5 (by simp [hd])
        refine RI.wpOp_plain rfl rfl ?_
        go_simp
        exact ⟨u2, u42, _, u44, u45, u46, _, _, rfl, hw, p0, p1, p2, p3, p4, p5, fun _ => rfl, p7⟩
      · have hd := hd _ rfl
        simp [Region.binds] at hd
        obtain rfl := p0 (by simp [hd])
        obtain rfl := p1 (by simp [hd])
        obtain rfl := p2 (by simp [hd])
        obtain rfl := p3 (by simp [hd])
        obtain rfl := p4 (by simp [hd])
        obtain rfl := p5 (by simp [hd])
        obtain rfl := p6 (by simp [hd])
        refine RI.wpOp_plain rfl rfl ?_
        go_simp
        exact ⟨_, _, _, _, _, _, _, _, rfl, hw, p0, p1, p2, p3, p4, p5, p6, fun _ => rfl⟩
    · skip
      intro d x wx hI hd
      obtain ⟨u2, u42, u43, u44, u45, u46, u47, u48, rfl, hw, p0, p1, p2, p3, p4, p5, p6, p7⟩ := hI
      obtain rfl := p7 (hd 7 (by decide))
      clear p0 p1 p2 p3 p4 p5 p6
      have HB : Hid (Below w.heap.size w wx) := BF.out.trans (hw.mono BF.out.size)
      clear hw
      go_wp2_with fail
      go_ret
      exact ⟨rfl, by first | exact HB.out | (rw [← hg0]; exact HB.out)⟩
inductive GRT (W0 : World) (k : Int) (a1 a2 a3 : Option Addr) (n1 c1 n2 c2 n3 c3 : Nat) (la : Option Addr) (n lc g0 j : Nat) (T : Nd) (R : Bool) (v6 v16 v17 v18 v19 v20 v21 v22 v23 v24 v25 v26 v27 v28 v29 v30 v31 v32 v33 v34 v35 v36 v37 v38 v39 v40 v41 : Value) (d : Nat → Bool) (x : Act) (wx : World) : Prop where
  | mk (u2 u42 u43 u44 u45 u46 u47 u48 : Value) (hx : x = { tmps := #[.agg #[.int .i64 k, .slice a1 n1 c1, .slice a2 n2 c2, .slice a3 n3 c3], .pointer (some ⟨g0, 0, none⟩), u2, .slice la n lc, .bool true, undef, v6, .tuple #[.slice la n lc, .bool true], .agg #[.int .i64 k, .slice a1 n1 c1, .slice a2 n2 c2, .slice a3 n3 c3], .tuple #[.slice la n lc, .bool true], .slice la n lc, .bool true, .slice la n lc, .int .i64 (n : Int), .int .i64 (j : Int), .bool false, v16, v17, v18, v19, v20, v21, v22, v23, v24, v25, v26, v27, v28, v29, v30, v31, v32, v33, v34, v35, v36, v37, v38, v39, v40, v41, u42, u43, u44, u45, u46, u47, u48], defers := [] }) (hw : Below W0.heap.size W0 wx) (p0 : d 0 = true → u42 = .bool true) (p1 : d 1 = true → u43 = .bool true) (p2 : d 2 = true → u44 = .agg #[.int .i64 k, .slice a1 n1 c1, .slice a2 n2 c2, .slice a3 n3 c3]) (p3 : d 3 = true → u45 = .slice la n lc) (p5 : d 5 = true → u47 = .bool R) (p6 : d 6 = true → u48 = .bool R) (p7 : d 7 = true → u2 = .bool R) (z4 : d 4 = true → ∃ y : V4, u46 = v4 y ∧ Nv (fun _ => True) wx T y) : GRT W0 k a1 a2 a3 n1 c1 n2 c2 n3 c3 la n lc g0 j T R v6 v16 v17 v18 v19 v20 v21 v22 v23 v24 v25 v26 v27 v28 v29 v30 v31 v32 v33 v34 v35 v36 v37 v38 v39 v40 v41 d x wx
set_option maxHeartbeats 2000000 in
set_option maxRecDepth 100000 in
theorem gr_bad (k : Int) (a1 a2 a3 : Option Addr) (n1 c1 m2 c2 n3 c3 : Nat) (w : World) (l : Rt) (hlen : l.length ≤ 1048576) (KR : Hid (∀ wx : World, Below w.heap.size w wx → Calls Tryd.prog 32 #[.agg #[.int .i64 k, .slice a1 n1 c1, .slice a2 m2 c2, .slice a3 n3 c3], .string ⟨#[]⟩] wx fun e w' => ∃ la n lc, e = .returned (.tuple #[.slice la n lc, .bool true]) ∧ (n = l.length ∧ Rv l (.slice la n lc) w') ∧ Below wx.heap.size wx w')) (i0 : Nat) (hi0 : i0 < l.length) (HB0 : Hid (∀ j, j < i0 → okb (l.getD j n2) = true)) (HB1 : Hid (okb (l.getD i0 n2) = false)) :
    Calls Tryd.prog 18 #[.agg #[.int .i64 k, .slice a1 n1 c1, .slice a2 m2 c2, .slice a3 n3 c3]] w fun e w' => e = .returned (.bool false) ∧ Below w.heap.size w w' := by
  have B0 : Below w.heap.size w (w.alloc (.cells #[.int .i64 k, .slice a1 n1 c1, .slice a2 m2 c2, .slice a3 n3 c3] 32)) := (Below.refl _ _).alloc (Nat.le_refl _) _
  have HA := heap_alloc_new w (.cells #[.int .i64 k, .slice a1 n1 c1, .slice a2 m2 c2, .slice a3 n3 c3] 32)
  have q0' : (w.alloc (.cells #[.int .i64 k, .slice a1 n1 c1, .slice a2 m2 c2, .slice a3 n3 c3] 32)).cell? ⟨w.heap.size, 0, none⟩ = some (.int .i64 k) := by simp only [World.cell?, HA]; rfl
  have q1' : (w.alloc (.cells #[.int .i64 k, .slice a1 n1 c1, .slice a2 m2 c2, .slice a3 n3 c3] 32)).cell? ⟨w.heap.size, 1, none⟩ = some (.slice a1 n1 c1) := by simp only [World.cell?, HA]; rfl
  have q2' : (w.alloc (.cells #[.int .i64 k, .slice a1 n1 c1, .slice a2 m2 c2, .slice a3 n3 c3] 32)).cell? ⟨w.heap.size, 2, none⟩ = some (.slice a2 m2 c2) := by simp only [World.cell?, HA]; rfl
  have q3' : (w.alloc (.cells #[.int .i64 k, .slice a1 n1 c1, .slice a2 m2 c2, .slice a3 n3 c3] 32)).cell? ⟨w.heap.size, 3, none⟩ = some (.slice a3 n3 c3) := by simp only [World.cell?, HA]; rfl
  have hh' : w.heap.size < (w.alloc (.cells #[.int .i64 k, .slice a1 n1 c1, .slice a2 m2 c2, .slice a3 n3 c3] 32)).heap.size := by simp
  have BW : Hid (Below w.heap.size w (w.alloc (.cells #[.int .i64 k, .slice a1 n1 c1, .slice a2 m2 c2, .slice a3 n3 c3] 32))) := B0
  clear HA
  go_enter Tryd.func18, Tryd.ntmps18
  go_wp2_with fail
  generalize w.alloc (.cells #[.int .i64 k, .slice a1 n1 c1, .slice a2 m2 c2, .slice a3 n3 c3] 32) = W1 at *
  generalize hg0 : w.heap.size = g0 at *
  refine (KR.out W1 (hg0 ▸ B0)).mono (fun e W0 he => ?_)
  obtain ⟨la, n, lc, rfl, hx0, bR⟩ := he
  have hx : Hid _ := hx0
  clear hx0
  have q0 := (bR.cell (p := ⟨g0, 0, none⟩) hh').trans q0'
  have q1 := (bR.cell (p := ⟨g0, 1, none⟩) hh').trans q1'
  have q2 := (bR.cell (p := ⟨g0, 2, none⟩) hh').trans q2'
  have q3 := (bR.cell (p := ⟨g0, 3, none⟩) hh').trans q3'
  have hh : g0 < W0.heap.size := Nat.lt_of_lt_of_le hh' bR.size
  have BW0 : Hid (Below w.heap.size w W0) := by
    show Below _ _ _
    rw [hg0]
    exact BW.out.trans (bR.mono (by have := BW.out.size; omega))
  clear q0' q1' q2' q3' hh' bR BW B0 KR
  have HI : Hid (i0 < n) := by have := hx.out.1; show _ < _; omega
  go_wp2_with fail
  go_loopw [14] (fun i wr => ∃ j : Nat, j ≤ i0 ∧ i = .int .i64 (j : Int) ∧ Below W0.heap.size W0 wr) (fun i _ => ((n : Int) - intOf i).toNat)
  case atStart => exact ⟨0, Nat.zero_le _, rfl, Below.refl _ _⟩
  case round =>
    obtain ⟨j, hj, rfl, hB⟩ := hrel
    by_cases hlt : j < n
    · have d0 : decide ((j : Int) < (n : Int)) = true := decide_eq_true (by omega)
      have d1 : (0 : Int) ≤ (j : Int) := by omega
      have d2 : (j : Int) < (n : Int) := by omega
      have hjl : j < l.length := by have := hx.out.1; omega
      obtain ⟨a', cap', e2, -, hq⟩ := hx.out.2
      obtain ⟨g, off, rfl, hg, hcell⟩ := hq (by omega)
      injection e2 with e2 e2' e2''
      subst e2
      clear e2' e2''
      obtain ⟨x0, x1⟩ := hcell j hjl
      have y0 := (hB.cell (p := ⟨g, off + 2 * j, none⟩) hg).trans x0
      have y1 := (hB.cell (p := ⟨g, off + 2 * j + 1, none⟩) hg).trans x1
      have hg2 : g < wr.heap.size := Nat.lt_of_lt_of_le hg hB.size
      rw [Nat.mul_comm 2 j] at y0 y1
      have e5 : Hid (wrap64 ((j : Int) + 1) = ((j + 1 : Nat) : Int)) := by have := hx.out.1; show _ = _; unfold wrap64; omega
      have B2 : Hid (Below W0.heap.size W0 (wr.alloc (.cells #[.string (st (l.getD j n2).1), .string (st (l.getD j n2).2)] 70))) := hB.alloc hB.size _
      have z1 := st_size (l.getD j n2).1
      have z2 := st_size (l.getD j n2).2
      by_cases hji : j = i0
      · subst hji
        have hbad := HB1.out
        have BF : Hid (Below w.heap.size w (wr.alloc (.cells #[.string (st (l.getD j n2).1), .string (st (l.getD j n2).2)] 70))) := BW0.out.trans (B2.out.mono BW0.out.size)
        clear HB0 HB1
        generalize l.getD j n2 = r at *
        obtain ⟨rp, rv⟩ := r
        have hb2 := bad_ways rp rv hbad
        dsimp only at *
        clear hbad hq hcell x0 x1 B2 hB hx
        generalize st rp = X at *
        generalize st rv = Y at *
        generalize rp.length = a at *
        generalize rv.length = b at *
        rcases hb2 with t1 | ⟨t1, t2⟩ | ⟨t1, t2, t3⟩ | ⟨t1, t2, t3, t4⟩
        · skip
          go_wp2_with fail
          go_ret
          exact ⟨rfl, by first | exact BF.out | (rw [← hg0]; exact BF.out)⟩
        · have s2 : decide (64 < a) = true := decide_eq_true t2
          have s3 : decide ((64 : Int) < (a : Int)) = true := decide_eq_true (by omega)
          go_wp2_with fail
          go_ret
          exact ⟨rfl, by first | exact BF.out | (rw [← hg0]; exact BF.out)⟩
        · have s2 : decide (64 < a) = false := decide_eq_false (by omega)
          have s3 : decide ((64 : Int) < (a : Int)) = false := decide_eq_false (by omega)
          subst t3
          go_wp2_with fail
          go_ret
          exact ⟨rfl, by first | exact BF.out | (rw [← hg0]; exact BF.out)⟩
        · have s2 : decide (64 < a) = false := decide_eq_false (by omega)
          have s3 : decide ((64 : Int) < (a : Int)) = false := decide_eq_false (by omega)
          have s4 : (b == 0) = false := beq_eq_false_iff_ne.2 (by omega)
          have s5 : ((b : Int) == 0) = false := beq_eq_false_iff_ne.2 (by omega)
          have s6 : decide (1024 < b) = true := decide_eq_true t4
          have s7 : decide ((1024 : Int) < (b : Int)) = true := decide_eq_true (by omega)
          go_wp2_with fail
          go_ret
          exact ⟨rfl, by first | exact BF.out | (rw [← hg0]; exact BF.out)⟩
      · have hok := HB0.out j (by omega)
        clear HB0 HB1
        generalize l.getD j n2 = r at *
        obtain ⟨rp, rv⟩ := r
        have hb2 := ok_ways rp rv hok
        dsimp only at *
        clear hok hq hcell x0 x1
        generalize st rp = X at *
        generalize st rv = Y at *
        generalize rp.length = a at *
        generalize rv.length = b at *
        obtain ⟨t1, t2, t3, t4⟩ := hb2
        have s2 : decide (64 < a) = false := decide_eq_false (by omega)
        have s3 : decide ((64 : Int) < (a : Int)) = false := decide_eq_false (by omega)
        have s4 : (b == 0) = false := beq_eq_false_iff_ne.2 (by omega)
        have s5 : ((b : Int) == 0) = false := beq_eq_false_iff_ne.2 (by omega)
        have s6 : decide (1024 < b) = false := decide_eq_false (by omega)
        have s7 : decide ((1024 : Int) < (b : Int)) = false := decide_eq_false (by omega)
        go_wp2_with fail
        first | rw [e5.out] | rw [show (j : Int) + 1 = ((j + 1 : Nat) : Int) from by omega]
        exact ⟨⟨j + 1, by omega, rfl, B2.out⟩, msr_up j n hlt⟩
    · exact absurd hlt (by have := HI.out; omega)
set_option maxHeartbeats 2000000 in
set_option maxRecDepth 100000 in
theorem gr_true (k : Int) (a1 a2 a3 : Option Addr) (n1 c1 m2 c2 n3 c3 : Nat) (w : World) (l : Rt) (hlen : l.length ≤ 1048576) (KR : Hid (∀ wx : World, Below w.heap.size w wx → Calls Tryd.prog 32 #[.agg #[.int .i64 k, .slice a1 n1 c1, .slice a2 m2 c2, .slice a3 n3 c3], .string ⟨#[]⟩] wx fun e w' => ∃ la n lc, e = .returned (.tuple #[.slice la n lc, .bool true]) ∧ (n = l.length ∧ Rv l (.slice la n lc) w') ∧ Below wx.heap.size wx w')) (HOK : Hid (∀ j, j < l.length → okb (l.getD j n2) = true)) (T : Nd) (R : Bool) (KG0 : Hid (∀ (v : Value) (wx : World), Rv l v wx → Calls Tryd.prog 34 #[v] wx fun e w' => ∃ y : V4, e = .returned (v4 y) ∧ Nv (fun _ => True) w' T y ∧ Below wx.heap.size wx w')) (KS0 : Hid (∀ (y : V4) (wx : World), Below w.heap.size w wx → Nv (fun _ => True) wx T y → Calls Tryd.prog 33 #[.agg #[.int .i64 k, .slice a1 n1 c1, .slice a2 m2 c2, .slice a3 n3 c3], v4 y] wx fun e w' => e = .returned (.bool R) ∧ Below wx.heap.size wx w')) :
    Calls Tryd.prog 18 #[.agg #[.int .i64 k, .slice a1 n1 c1, .slice a2 m2 c2, .slice a3 n3 c3]] w fun e w' => e = .returned (.bool R) ∧ Below w.heap.size w w' := by
  have B0 : Below w.heap.size w (w.alloc (.cells #[.int .i64 k, .slice a1 n1 c1, .slice a2 m2 c2, .slice a3 n3 c3] 32)) := (Below.refl _ _).alloc (Nat.le_refl _) _
  have HA := heap_alloc_new w (.cells #[.int .i64 k, .slice a1 n1 c1, .slice a2 m2 c2, .slice a3 n3 c3] 32)
  have q0' : (w.alloc (.cells #[.int .i64 k, .slice a1 n1 c1, .slice a2 m2 c2, .slice a3 n3 c3] 32)).cell? ⟨w.heap.size, 0, none⟩ = some (.int .i64 k) := by simp only [World.cell?, HA]; rfl
  have q1' : (w.alloc (.cells #[.int .i64 k, .slice a1 n1 c1, .slice a2 m2 c2, .slice a3 n3 c3] 32)).cell? ⟨w.heap.size, 1, none⟩ = some (.slice a1 n1 c1) := by simp only [World.cell?, HA]; rfl
  have q2' : (w.alloc (.cells #[.int .i64 k, .slice a1 n1 c1, .slice a2 m2 c2, .slice a3 n3 c3] 32)).cell? ⟨w.heap.size, 2, none⟩ = some (.slice a2 m2 c2) := by simp only [World.cell?, HA]; rfl
  have q3' : (w.alloc (.cells #[.int .i64 k, .slice a1 n1 c1, .slice a2 m2 c2, .slice a3 n3 c3] 32)).cell? ⟨w.heap.size, 3, none⟩ = some (.slice a3 n3 c3) := by simp only [World.cell?, HA]; rfl
  have hh' : w.heap.size < (w.alloc (.cells #[.int .i64 k, .slice a1 n1 c1, .slice a2 m2 c2, .slice a3 n3 c3] 32)).heap.size := by simp
  have BW : Hid (Below w.heap.size w (w.alloc (.cells #[.int .i64 k, .slice a1 n1 c1, .slice a2 m2 c2, .slice a3 n3 c3] 32))) := B0
  clear HA
  go_enter Tryd.func18, Tryd.ntmps18
  go_wp2_with fail
  generalize w.alloc (.cells #[.int .i64 k, .slice a1 n1 c1, .slice a2 m2 c2, .slice a3 n3 c3] 32) = W1 at *
  generalize hg0 : w.heap.size = g0 at *
  refine (KR.out W1 (hg0 ▸ B0)).mono (fun e W0 he => ?_)
  obtain ⟨la, n, lc, rfl, hx0, bR⟩ := he
  have hx : Hid _ := hx0
  clear hx0
  have q0 := (bR.cell (p := ⟨g0, 0, none⟩) hh').trans q0'
  have q1 := (bR.cell (p := ⟨g0, 1, none⟩) hh').trans q1'
  have q2 := (bR.cell (p := ⟨g0, 2, none⟩) hh').trans q2'
  have q3 := (bR.cell (p := ⟨g0, 3, none⟩) hh').trans q3'
  have hh : g0 < W0.heap.size := Nat.lt_of_lt_of_le hh' bR.size
  have BW0 : Hid (Below w.heap.size w W0) := by
    show Below _ _ _
    rw [hg0]
    exact BW.out.trans (bR.mono (by have := BW.out.size; omega))
  clear q0' q1' q2' q3' hh' bR BW B0 KR
  go_wp2_with fail
  go_loopw [14] (fun i wr => ∃ j : Nat, j ≤ n ∧ i = .int .i64 (j : Int) ∧ Below W0.heap.size W0 wr) (fun i _ => ((n : Int) - intOf i).toNat)
  case atStart => exact ⟨0, Nat.zero_le _, rfl, Below.refl _ _⟩
  case round =>
    obtain ⟨j, hj, rfl, hB⟩ := hrel
    by_cases hlt : j < n
    · have d0 : decide ((j : Int) < (n : Int)) = true := decide_eq_true (by omega)
      have d1 : (0 : Int) ≤ (j : Int) := by omega
      have d2 : (j : Int) < (n : Int) := by omega
      have hjl : j < l.length := by have := hx.out.1; omega
      obtain ⟨a', cap', e2, -, hq⟩ := hx.out.2
      obtain ⟨g, off, rfl, hg, hcell⟩ := hq (by omega)
      injection e2 with e2 e2' e2''
      subst e2
      clear e2' e2''
      obtain ⟨x0, x1⟩ := hcell j hjl
      have y0 := (hB.cell (p := ⟨g, off + 2 * j, none⟩) hg).trans x0
      have y1 := (hB.cell (p := ⟨g, off + 2 * j + 1, none⟩) hg).trans x1
      have hg2 : g < wr.heap.size := Nat.lt_of_lt_of_le hg hB.size
      rw [Nat.mul_comm 2 j] at y0 y1
      have e5 : Hid (wrap64 ((j : Int) + 1) = ((j + 1 : Nat) : Int)) := by have := hx.out.1; show _ = _; unfold wrap64; omega
      have B2 : Hid (Below W0.heap.size W0 (wr.alloc (.cells #[.string (st (l.getD j n2).1), .string (st (l.getD j n2).2)] 70))) := hB.alloc hB.size _
      have z1 := st_size (l.getD j n2).1
      have z2 := st_size (l.getD j n2).2
      have hok := HOK.out j hjl
      generalize l.getD j n2 = r at *
      obtain ⟨rp, rv⟩ := r
      have hb2 := ok_ways rp rv hok
      dsimp only at *
      clear hok hq hcell x0 x1
      generalize st rp = X at *
      generalize st rv = Y at *
      generalize rp.length = a at *
      generalize rv.length = b at *
      obtain ⟨t1, t2, t3, t4⟩ := hb2
      have s2 : decide (64 < a) = false := decide_eq_false (by omega)
      have s3 : decide ((64 : Int) < (a : Int)) = false := decide_eq_false (by omega)
      have s4 : (b == 0) = false := beq_eq_false_iff_ne.2 (by omega)
      have s5 : ((b : Int) == 0) = false := beq_eq_false_iff_ne.2 (by omega)
      have s6 : decide (1024 < b) = false := decide_eq_false (by omega)
      have s7 : decide ((1024 : Int) < (b : Int)) = false := decide_eq_false (by omega)
      go_wp2_with fail
      first | rw [e5.out] | rw [show (j : Int) + 1 = ((j + 1 : Nat) : Int) from by omega]
      exact ⟨⟨j + 1, by omega, rfl, B2.out⟩, msr_up j n hlt⟩
    · have d0 : decide ((j : Int) < (n : Int)) = false := decide_eq_false (by omega)
      have BF : Hid (Below w.heap.size w wr) := BW0.out.trans (hB.mono BW0.out.size)
      have KG : Hid (∀ wx : World, Below wr.heap.size wr wx → Calls Tryd.prog 34 #[.slice la n lc] wx fun e w' => ∃ y : V4, e = .returned (v4 y) ∧ Nv (fun _ => True) w' T y ∧ Below wx.heap.size wx w') := fun wx hb => KG0.out _ wx (Rv_below (Rv_below hx.out.2 hB) hb)
      have KS : Hid (∀ (y : V4) (wx : World), Below wr.heap.size wr wx → Nv (fun _ => True) wx T y → Calls Tryd.prog 33 #[.agg #[.int .i64 k, .slice a1 n1 c1, .slice a2 m2 c2, .slice a3 n3 c3], v4 y] wx fun e w' => e = .returned (.bool R) ∧ Below wx.heap.size wx w') := fun y wx hb hy => KS0.out y wx (by first | exact BF.out.trans (hb.mono BF.out.size) | (rw [← hg0]; exact BF.out.trans (hb.mono BF.out.size))) hy
      replace q0 := (hB.cell (p := ⟨g0, 0, none⟩) hh).trans q0
      replace q1 := (hB.cell (p := ⟨g0, 1, none⟩) hh).trans q1
      replace q2 := (hB.cell (p := ⟨g0, 2, none⟩) hh).trans q2
      replace q3 := (hB.cell (p := ⟨g0, 3, none⟩) hh).trans q3
      replace hh := Nat.lt_of_lt_of_le hh hB.size
      clear KG0 KS0
      go_upto_region 8 with fail
      have hw0 : Below wr.heap.size wr wr.drew := (Below.refl _ _).drew
      refine RI.wp_region_inv (GRT wr k a1 a2 a3 n1 c1 m2 c2 n3 c3 la n lc g0 j T R u6 u16 u17 u18 u19 u20 u21 u22 u23 u24 u25 u26 u27 u28 u29 u30 u31 u32 u33 u34 u35 u36 u37 u38 u39 u40 u41) (by kernel_rfl) (by kernel_rfl) ?_ ?_ ?_
      · exact ⟨_, undef, undef, undef, undef, undef, undef, undef, rfl, hw0, nofun, nofun, nofun, nofun, nofun, nofun, nofun, nofun⟩
      · skip
        intro d x wx i hI hi hm
        obtain ⟨u2, u42, u43, u44, u45, u46, u47, u48, rfl, hw, p0, p1, p2, p3, p5, p6, p7, z4⟩ := hI
        have hi' : i = 0 ∨ i = 1 ∨ i = 2 ∨ i = 3 ∨ i = 4 ∨ i = 5 ∨ i = 6 ∨ i = 7 := by simp at hi; omega
        have hd := hm.2
        clear hm hi
        rcases hi' with rfl | rfl | rfl | rfl | rfl | rfl | rfl | rfl
        · refine RI.wpOp_plain rfl rfl ?_
          go_simp
          exact ⟨u2, _, u43, u44, u45, u46, u47, u48, rfl, hw, fun _ => rfl, p1, p2, p3, p5, p6, p7, z4⟩
        · have hd := hd _ rfl
          simp [Region.binds] at hd
          obtain rfl := p0 (by simp [hd])
          refine RI.wpOp_plain rfl rfl ?_
          go_simp
          exact ⟨u2, _, _, u44, u45, u46, u47, u48, rfl, hw, p0, fun _ => rfl, p2, p3, p5, p6, p7, z4⟩
        · have hd := hd _ rfl
          simp [Region.binds] at hd
          obtain rfl := p1 (by simp [hd])
          refine RI.wpOp_guard rfl rfl rfl ?_
          have x0 := (hw.cell (p := ⟨g0, 0, none⟩) hh).trans q0
          have x1 := (hw.cell (p := ⟨g0, 1, none⟩) hh).trans q1
          have x2 := (hw.cell (p := ⟨g0, 2, none⟩) hh).trans q2
          have x3 := (hw.cell (p := ⟨g0, 3, none⟩) hh).trans q3
          go_simp
          exact ⟨u2, u42, _, _, u45, u46, u47, u48, rfl, hw, p0, p1, fun _ => rfl, p3, p5, p6, p7, z4⟩
        · have hd := hd _ rfl
          simp [Region.binds] at hd
          obtain rfl := p1 (by simp [hd])
          refine RI.wpOp_guard rfl rfl rfl ?_
          go_simp
          exact ⟨u2, u42, _, u44, _, u46, u47, u48, rfl, hw, p0, p1, p2, fun _ => rfl, p5, p6, p7, z4⟩
        · have hd := hd _ rfl
          simp [Region.binds] at hd
          obtain rfl := p1 (by simp [hd])
          obtain rfl := p3 (by simp [hd])
          refine RI.wpOp_guard rfl rfl rfl ?_
          go_simp
          refine (KG.out _ hw).mono ?_
          rintro e w1 ⟨y, rfl, hy, hb1⟩
          exact ⟨u2, u42, _, u44, _, _, u47, u48, rfl, hw.trans (hb1.mono hw.size), p0, p1, p2, p3, p5, p6, p7, fun _ => ⟨y, rfl, hy⟩⟩
        · have hd := hd _ rfl
          simp [Region.binds] at hd
          obtain rfl := p1 (by simp [hd])
          obtain rfl := p2 (by simp [hd])
          refine RI.wpOp_guard rfl rfl rfl ?_
          obtain ⟨y, rfl, hy⟩ := z4 (by simp [hd])
          unfold v4
          go_simp
          refine (KS.out y _ hw hy).mono ?_
          rintro e w1 ⟨rfl, hb1⟩
          exact ⟨u2, u42, _, _, u45, _, _, u48, rfl, hw.trans (hb1.mono hw.size), p0, p1, p2, p3, fun _ => rfl, p6, p7, (fun h => (z4 h).imp fun y hy => ⟨hy.1, Nv_below hy.2 hb1⟩)⟩
        · have hd := hd _ rfl
          simp [Region.binds] at hd
          obtain rfl := p1 (by simp [hd])
          obtain rfl := p5 (by simp [hd])
          refine RI.wpOp_plain rfl rfl ?_
          go_simp
          exact ⟨u2, u42, _, u44, u45, u46, _, _, rfl, hw, p0, p1, p2, p3, p5, fun _ => rfl, p7, z4⟩
        · have hd := hd _ rfl
          simp [Region.binds] at hd
          obtain rfl := p0 (by simp [hd])
          obtain rfl := p1 (by simp [hd])
          obtain rfl := p2 (by simp [hd])
          obtain rfl := p3 (by simp [hd])
          obtain rfl := p5 (by simp [hd])
          obtain rfl := p6 (by simp [hd])
          refine RI.wpOp_plain rfl rfl ?_
          go_simp
          exact ⟨_, _, _, _, _, u46, _, _, rfl, hw, p0, p1, p2, p3, p5, p6, fun _ => rfl, z4⟩
      · skip
        intro d x wx hI hd
        obtain ⟨u2, u42, u43, u44, u45, u46, u47, u48, rfl, hw, p0, p1, p2, p3, p5, p6, p7, z4⟩ := hI
        obtain rfl := p7 (hd 7 (by decide))
        clear p0 p1 p2 p3 p5 p6 z4
        have HB : Hid (Below w.heap.size w wx) := BF.out.trans (hw.mono BF.out.size)
        clear hw
        go_wp2_with fail
        go_ret
        exact ⟨rfl, by first | exact HB.out | (rw [← hg0]; exact HB.out)⟩
theorem all_or (l : Rt) : l.all okb = true ∨ ∃ i, i < l.length ∧ (∀ j, j < i → okb (l.getD j n2) = true) ∧ okb (l.getD i n2) = false := by
  induction l with
  | nil => exact .inl rfl
  | cons r l ih =>
    cases h : okb r with
    | false => exact .inr ⟨0, by simp, fun j hj => absurd hj (by omega), h⟩
    | true =>
      rcases ih with ih | ⟨i, h1, h2, h3⟩
      · exact .inl (by rw [List.all_cons, h, ih]; rfl)
      · refine .inr ⟨i + 1, by simpa using h1, fun j hj => ?_, h3⟩
        cases j with
        | zero => exact h
        | succ j => exact h2 j (by omega)
theorem gright_any (hg : GrownOk) (t : Nd) (hs : Sm t) (S : Nat → Prop) (x : V4) (w : World) (hx : Nv S w t x) (hw : wn t ≤ 1048576) :
    Calls Tryd.prog 18 #[v4 x] w fun e w' => e = .returned (.bool (gr t)) ∧ Below w.heap.size w w' := by
  have hx0 := hx
  obtain ⟨k, a1, n1, c1, a2, m2, c2, a3, n3, c3, rfl⟩ := Nv_form hx
  have K : ∀ wx : World, Below w.heap.size w wx → Calls Tryd.prog 32 #[v4 (.int .i64 k, .slice a1 n1 c1, .slice a2 m2 c2, .slice a3 n3 c3), .string (st [])] wx fun e w' => RT t [] e w' ∧ Below wx.heap.size wx w' := fun wx hb => routes_any (wf_any t) S _ wx [] (Nv_below hx hb) (by rw [List.length_nil]; omega)
  unfold gr
  cases hr : rt t with
  | none =>
    refine gr_false k a1 a2 a3 n1 c1 m2 c2 n3 c3 w (fun wx hb => (K wx hb).mono fun e w' he => ?_)
    obtain ⟨h1 | h1, h2⟩ := he
    · obtain ⟨l, y, h3, _⟩ := h1
      rw [hr] at h3; cases h3
    · exact ⟨none, 0, 0, h1.2, rfl, h2⟩
  | some l =>
    have hp : pre [] l = l := by unfold pre; simp
    have hlen : l.length ≤ 1048576 := Nat.le_trans (rt_count (wf_any t) l hr) hw
    have KR : ∀ wx : World, Below w.heap.size w wx → Calls Tryd.prog 32 #[.agg #[.int .i64 k, .slice a1 n1 c1, .slice a2 m2 c2, .slice a3 n3 c3], .string ⟨#[]⟩] wx fun e w' => ∃ la n lc, e = .returned (.tuple #[.slice la n lc, .bool true]) ∧ (n = l.length ∧ Rv l (.slice la n lc) w') ∧ Below wx.heap.size wx w' := fun wx hb => (K wx hb).mono fun e w' he => by
      obtain ⟨h1 | h1, h2⟩ := he
      · obtain ⟨l2, y, h3, h4, h5⟩ := h1
        rw [hr] at h3
        cases h3
        rw [hp] at h5
        have h6 := h5
        obtain ⟨la, lc, rfl, -, -⟩ := h5
        exact ⟨la, _, lc, h4, ⟨rfl, h6⟩, h2⟩
      · rw [hr] at h1; cases h1.1
    rcases all_or l with ha | ⟨i, h1, h2, h3⟩
    · show Calls _ _ _ _ fun e w' => e = .returned (.bool (l.all okb && sn t (grw l))) ∧ _
      rw [ha, Bool.true_and]
      obtain ⟨r1, r2, _⟩ := rt_spec hr
      have hok : ∀ r ∈ l, Okr r.1 r.2 := fun r hr => (okb_iff r).1 (List.all_eq_true.1 ha r hr)
      have hsh : ∀ r ∈ l, r.1.length < 65 := fun r hr => Nat.lt_succ_of_le (hok r hr).2.1
      have KG : ∀ (v : Value) (wx : World), Rv l v wx → Calls Tryd.prog 34 #[v] wx fun e w' => ∃ y : V4, e = .returned (v4 y) ∧ Nv (fun _ => True) w' (grw l) y ∧ Below wx.heap.size wx w' := fun v wx hv => (hg l v wx hv hlen hsh r1 r2).mono fun e w' he => by
        obtain ⟨u, h1, h2, h3⟩ := he
        exact ⟨u, h1, Nv_mono h2 (fun _ _ _ => trivial), h3⟩
      generalize grw l = T at *
      exact gr_true k a1 a2 a3 n1 c1 m2 c2 n3 c3 w l hlen KR (fun j hj => List.all_eq_true.1 ha _ (by rw [List.getD_eq_getElem?_getD, List.getElem?_eq_getElem hj]; exact List.getElem_mem hj)) T _ KG (fun y wx hb hy => same_any hs T S (fun _ => True) (.int .i64 k, .slice a1 n1 c1, .slice a2 m2 c2, .slice a3 n3 c3) y wx (Nv_below hx0 hb) hy)
    · have hb : l.all okb = false := by
        cases h : l.all okb with
        | false => rfl
        | true =>
          have := List.all_eq_true.1 h (l.getD i n2) (by rw [List.getD_eq_getElem?_getD, List.getElem?_eq_getElem h1]; exact List.getElem_mem h1)
          rw [h3] at this; cases this
      show Calls _ _ _ _ fun e w' => e = .returned (.bool (l.all okb && sn t (grw l))) ∧ _
      rw [hb, Bool.false_and]
      exact gr_bad k a1 a2 a3 n1 c1 m2 c2 n3 c3 w l hlen KR i h1 h2 h3
end Tr
end Go.Proofs.YtefgamhnikeekaaDoor
namespace Go.Proofs.YtefgamhnikeekaaDoor
namespace Tr
open Nb Go.RowKit
theorem infoNd : (Tryd.prog.info? 32).map (·.size) = some 4 := by kernel_rfl
def SlC (b : By) (v : Value) (w : World) : Prop := ∃ (ao : Option Addr) (cap : Nat), v = .slice ao b.length cap ∧ b.length ≤ cap ∧ (cap : Int) ≤ 9223372036854775807 ∧ Sp.Vw b ao w
theorem SlC_below {b : By} {v : Value} {w w' : World} (h : SlC b v w) (hb : Below w.heap.size w w') : SlC b v w' := by
  obtain ⟨ao, cap, h1, h2, h3, h4⟩ := h
  exact ⟨ao, cap, h1, h2, h3, Sp.Vw_below h4 hb⟩
theorem st_slc (l : By) (hl : l.length ≤ 4194304) (w : World) : ∃ c W, (convert 9 22 (.string (st l))).run Tryd.prog w = .ok (.slice (some ⟨w.heap.size, 0, none⟩) l.length c) W ∧ SlC l (.slice (some ⟨w.heap.size, 0, none⟩) l.length c) W ∧ W.heap.size = w.heap.size + 1 ∧ Below w.heap.size w W := by
  obtain ⟨c, W, h1, h2, h3, h4⟩ := st_sl l w
  have h := Lib.run_convert_string_bytes w 9 22 5 (st l) Tryd.underlying9 Tryd.underlying22 Tryd.underlying5
  rw [st_size, h1] at h
  injection h with e1 e2
  injection e1 with _ _ e3
  have hm : c ≤ maxLen := by rw [e3]; exact grownCap_le_maxLen _ _ _ _ (by unfold maxLen; omega)
  obtain ⟨ao, cap, k1, k2, k3⟩ := h2
  injection k1 with f1 f2 f3
  subst f1 f3
  exact ⟨c, W, h1, ⟨_, _, rfl, k2, by unfold maxLen at hm; omega, k3⟩, h3, h4⟩
structure B4 (G : Nat) (w : World) : Prop where
  hi : G < w.heap.size
  c : ∀ o, o < 4 → (w.cell? ⟨G, o, none⟩).isSome = true
  f : ∀ o, w.frozen? ⟨G, o, none⟩ = false
theorem B4_gb {G : Nat} {w w' : World} {r : Option Nat} (h : B4 G w) (hb : w.grownBy w' r) (hr : some G ≠ r) : B4 G w' := by
  have hbk : w'.heap[G]? = w.heap[G]? := hb.block G h.hi hr
  exact ⟨Nat.lt_of_lt_of_le h.hi hb.size, fun o ho => by rw [World.cell?_of_block (a := ⟨G, o, none⟩) hbk]; exact h.c o ho, fun o => (World.frozen?_of_block (a := ⟨G, o, none⟩) hbk).trans (h.f o)⟩
theorem B4_new (w : World) : B4 w.heap.size (w.alloc (.cells #[.int .i64 0, .slice none 0 0, .slice none 0 0, .slice none 0 0] 32)) := by
  have hn := heap_alloc_new w (.cells #[.int .i64 0, .slice none 0 0, .slice none 0 0, .slice none 0 0] 32)
  refine ⟨by simp, fun o ho => ?_, fun o => by simp only [World.frozen?, hn]; simp⟩
  simp only [World.cell?, hn]
  have : o = 0 ∨ o = 1 ∨ o = 2 ∨ o = 3 := by omega
  rcases this with rfl | rfl | rfl | rfl <;> rfl
theorem gb_refl (w : World) (r : Option Nat) : w.grownBy w r := ⟨rfl, rfl, rfl, Nat.le_refl _, fun _ _ _ => rfl⟩
theorem gb_trans {a b c : World} {r : Option Nat} (h : a.grownBy b r) (k : b.grownBy c r) : a.grownBy c r :=
  ⟨k.os.trans h.os, k.tape.trans h.tape, k.output.trans h.output, Nat.le_trans h.size k.size, fun j hj hne => (k.block j (Nat.lt_of_lt_of_le hj h.size) hne).trans (h.block j hj hne)⟩
theorem gb_set (a : World) (g o : Nat) (v : Value) : a.grownBy (a.setCell ⟨g, o, none⟩ v) (some g) := ⟨rfl, rfl, rfl, by simp [World.setCell], fun k _ hne => Below.heap_setCell _ _ _ _ (fun e => hne (by rw [e]))⟩
theorem gb_sets (G : Nat) : ∀ (vs : List Value) (o : Nat) (w : World), w.grownBy (w.setCells G o vs) (some G)
  | [], _, w => gb_refl w _
  | v :: vs, o, w => gb_trans (gb_set w G o v) (gb_sets G vs (o + 1) (w.setCell ⟨G, o, none⟩ v))
theorem wp_st4 {op : Oper} {a : Act} {w : World} {K : Act → World → Prop} {Q : Exit → Act → World → Prop} {x y : Operand} {G : Nat} {k : Int} {a1 a2 a3 : Option Addr} {n1 c1 n2 c2 n3 c3 : Nat} (ho : op.op = .store 32 x y)
    (hx : a.eval x = .pointer (some ⟨G, 0, none⟩)) (hy : a.eval y = .agg #[.int .i64 k, .slice a1 n1 c1, .slice a2 n2 c2, .slice a3 n3 c3]) (hB : B4 G w)
    (h : ∀ w', w.grownBy w' (some G) → w'.cell? ⟨G, 0, none⟩ = some (.int .i64 k) → w'.cell? ⟨G, 1, none⟩ = some (.slice a1 n1 c1) → w'.cell? ⟨G, 2, none⟩ = some (.slice a2 n2 c2) → w'.cell? ⟨G, 3, none⟩ = some (.slice a3 n3 c3) → K (a.put op.dst undef) w') : op.wp Tryd.prog a w K Q := by
  have ht : w.there G 0 4 := fun j hj => by rw [Nat.zero_add]; exact ⟨hB.c j hj, hB.f j⟩
  have hs := World.rangeAt_setCells_same w G 0 [.int .i64 k, .slice a1 n1 c1, .slice a2 n2 c2, .slice a3 n3 c3] ht
  refine wp_store_mid 32 x y ho G 0 #[.int .i64 k, .slice a1 n1 c1, .slice a2 n2 c2, .slice a3 n3 c3] hx hy ht infoNd (all_oneCell_toArray (cs := [.int .i64 k, .slice a1 n1 c1, .slice a2 n2 c2, .slice a3 n3 c3]) (fun v hv => by simp only [List.mem_cons, List.not_mem_nil, or_false] at hv; rcases hv with rfl | rfl | rfl | rfl <;> rfl)) ?_
  exact h _ (gb_sets G _ 0 w) (hs 0 _ rfl) (hs 1 _ rfl) (hs 2 _ rfl) (hs 3 _ rfl)
theorem resN (f : Func) (tm : Array Value) (W : World) (g s : Nat) (p q r t : Value) (hf : f.results = #[.cell s 32]) (h : tm.getD s undef = .pointer (some ⟨g, 0, none⟩)) (c0 : W.cell? ⟨g, 0, none⟩ = some p) (c1 : W.cell? ⟨g, 1, none⟩ = some q) (c2 : W.cell? ⟨g, 2, none⟩ = some r) (c3 : W.cell? ⟨g, 3, none⟩ = some t) : (results f tm).run Tryd.prog W = .ok (.agg #[p, q, r, t]) W := by
  simp at h
  simp [results, hf, go_sem, h, c0, c1, c2, c3]
structure GW (w W0 : World) (g2 : Nat) (f11 : Bool) (wx : World) : Prop where
  a : f11 = false → Below W0.heap.size W0 wx
  v : f11 = false → B4 g2 wx
  b : Below w.heap.size w wx
  s : W0.heap.size ≤ wx.heap.size
inductive GLI (w W0 : World) (p v : By) (g off cap g2 : Nat) (X Y : ByteArray) (d : Nat → Bool) (x : Act) (wx : World) : Prop where
  | mk (u16 u17 u18 u19 u20 u21 u22 u23 u24 u25 u26 : Value) (hx : x = { tmps := #[.slice (some ⟨g, off, none⟩) 1 cap, undef, .pointer (some ⟨g2, 0, none⟩), undef, undef, undef, undef, undef, undef, .slice (some ⟨g, off, none⟩) 1 cap, .int .i64 1, .bool false, undef, .slice (some ⟨g, off, none⟩) 1 cap, .int .i64 1, .bool true, u16, u17, u18, u19, u20, u21, u22, u23, u24, u25, u26, undef, undef, undef, undef, undef, undef, undef, undef, undef, undef, undef, undef, undef, undef, undef, undef, undef, undef, undef, undef, undef, undef, undef, undef, undef, undef, undef, undef, undef, undef, undef, undef, undef, undef, undef, undef, undef, undef, undef, undef, undef, undef, undef, undef, undef, undef, undef, undef, undef, undef, undef, undef, undef, undef, undef, undef, undef, undef, undef, undef, undef, undef, undef, undef, undef, undef, undef, undef, undef, undef, undef, undef, undef], defers := [] }) (hw : GW w W0 g2 (d 11) wx) (p0 : d 0 = true → u16 = .slice (some ⟨g, off, none⟩) 1 cap) (p1 : d 1 = true → u17 = .pointer (some ⟨g, off, none⟩)) (p2 : d 2 = true → u18 = .pointer (some ⟨g, off, none⟩)) (p3 : d 3 = true → u19 = .string X) (p5 : d 5 = true → u21 = .slice (some ⟨g, off, none⟩) 1 cap) (p6 : d 6 = true → u22 = .pointer (some ⟨g, off, none⟩)) (p7 : d 7 = true → u23 = .pointer (some ⟨g, off + 1, none⟩)) (p8 : d 8 = true → u24 = .string Y) (z4 : d 4 = true → ∃ a c, u20 = .slice a p.length c ∧ Bs (W0.heap.size ≤ ·) p u20 wx) (z9 : d 9 = true → ∃ a c, u25 = .slice a v.length c ∧ Bs (W0.heap.size ≤ ·) v u25 wx) (z10 : d 10 = true → ∃ a1 c1 a2 c2, u26 = .agg #[.int .i64 1, .slice a1 p.length c1, .slice a2 v.length c2, .slice none 0 0] ∧ Bs (W0.heap.size ≤ ·) p (.slice a1 p.length c1) wx ∧ Bs (W0.heap.size ≤ ·) v (.slice a2 v.length c2) wx) (y10 : d 10 = true → d 4 = true ∧ d 9 = true) (z11 : d 11 = true → ∃ a1 c1 a2 c2, wx.cell? ⟨g2, 0, none⟩ = some (.int .i64 1) ∧ wx.cell? ⟨g2, 1, none⟩ = some (.slice a1 p.length c1) ∧ wx.cell? ⟨g2, 2, none⟩ = some (.slice a2 v.length c2) ∧ wx.cell? ⟨g2, 3, none⟩ = some (.slice none 0 0) ∧ Bs (W0.heap.size ≤ ·) p (.slice a1 p.length c1) wx ∧ Bs (W0.heap.size ≤ ·) v (.slice a2 v.length c2) wx) (y11 : d 11 = true → d 3 = true ∧ d 4 = true ∧ d 8 = true ∧ d 9 = true ∧ d 10 = true) : GLI w W0 p v g off cap g2 X Y d x wx
set_option maxHeartbeats 2000000 in
set_option maxRecDepth 100000 in
theorem grown_leaf (p v : By) (g off cap : Nat) (w : World) (hg0 : g < w.heap.size) (h0 : w.cell? ⟨g, off, none⟩ = some (.string (st p))) (h1 : w.cell? ⟨g, off + 1, none⟩ = some (.string (st v))) :
    Calls Tryd.prog 34 #[.slice (some ⟨g, off, none⟩) 1 cap] w fun e w' => ∃ u : V4, e = .returned (v4 u) ∧ Nv (w.heap.size ≤ ·) w' (.mk 1 p v []) u ∧ Below w.heap.size w w' := by
  have B0 : Below w.heap.size w (w.alloc (.cells #[.int .i64 0, .slice none 0 0, .slice none 0 0, .slice none 0 0] 32)) := (Below.refl _ _).alloc (Nat.le_refl _) _
  have k0 := (B0.cell (p := ⟨g, off, none⟩) hg0).trans h0
  have k1 := (B0.cell (p := ⟨g, off + 1, none⟩) hg0).trans h1
  have hg : g < (w.alloc (.cells #[.int .i64 0, .slice none 0 0, .slice none 0 0, .slice none 0 0] 32)).heap.size := Nat.lt_of_lt_of_le hg0 B0.size
  have hsz : (w.alloc (.cells #[.int .i64 0, .slice none 0 0, .slice none 0 0, .slice none 0 0] 32)).heap.size = w.heap.size + 1 := by simp
  have HX : Hid (∀ W : World, ∃ c W', (convert 9 22 (.string (st p))).run Tryd.prog W = .ok (.slice (some ⟨W.heap.size, 0, none⟩) p.length c) W' ∧ Pk.Sl p (.slice (some ⟨W.heap.size, 0, none⟩) p.length c) W' ∧ W'.heap.size = W.heap.size + 1 ∧ Below W.heap.size W W') := st_sl p
  have HY : Hid (∀ W : World, ∃ c W', (convert 9 22 (.string (st v))).run Tryd.prog W = .ok (.slice (some ⟨W.heap.size, 0, none⟩) v.length c) W' ∧ Pk.Sl v (.slice (some ⟨W.heap.size, 0, none⟩) v.length c) W' ∧ W'.heap.size = W.heap.size + 1 ∧ Below W.heap.size W W') := st_sl v
  have BV := B4_new w
  have HGL : Hid (w.heap.size ≤ (w.alloc (.cells #[.int .i64 0, .slice none 0 0, .slice none 0 0, .slice none 0 0] 32)).heap.size) := B0.size
  have HG2 : Hid (w.heap.size < (w.alloc (.cells #[.int .i64 0, .slice none 0 0, .slice none 0 0, .slice none 0 0] 32)).heap.size) := by show _ < _; omega
  have hw0 : GW w (w.alloc (.cells #[.int .i64 0, .slice none 0 0, .slice none 0 0, .slice none 0 0] 32)) w.heap.size false (w.alloc (.cells #[.int .i64 0, .slice none 0 0, .slice none 0 0, .slice none 0 0] 32)).drew := ⟨fun _ => (Below.refl _ _).drew, fun _ => B4_gb (r := none) BV (gb_below (Below.refl _ _).drew) (fun e => by cases e), B0.drew, Nat.le_refl _⟩
  generalize st p = X at *
  generalize st v = Y at *
  clear h0 h1 hg0 BV hsz
  go_enter Tryd.func34, Tryd.ntmps34
  go_upto_region 4 with fail
  generalize w.alloc (.cells #[.int .i64 0, .slice none 0 0, .slice none 0 0, .slice none 0 0] 32) = W0 at *
  obtain ⟨g2, eg2⟩ : ∃ g2, g2 = w.heap.size := ⟨_, rfl⟩
  have HG2B : Hid (w.heap.size ≤ g2) := by show _ ≤ _; omega
  rw [← eg2] at HG2 hw0 ⊢
  have E2 : Hid (g2 = w.heap.size) := eg2
  clear eg2
  refine RI.wp_region_inv (GLI w W0 p v g off cap g2 X Y) (by kernel_rfl) (by kernel_rfl) ?_ ?_ ?_
  · exact ⟨undef, undef, undef, undef, undef, undef, undef, undef, undef, undef, undef, rfl, hw0, nofun, nofun, nofun, nofun, nofun, nofun, nofun, nofun, nofun, nofun, nofun, nofun, nofun, nofun⟩
  · skip
    intro d x wx i hI hi hm
    obtain ⟨u16, u17, u18, u19, u20, u21, u22, u23, u24, u25, u26, rfl, hw, p0, p1, p2, p3, p5, p6, p7, p8, z4, z9, z10, y10, z11, y11⟩ := hI
    have hi' : i = 0 ∨ i = 1 ∨ i = 2 ∨ i = 3 ∨ i = 4 ∨ i = 5 ∨ i = 6 ∨ i = 7 ∨ i = 8 ∨ i = 9 ∨ i = 10 ∨ i = 11 := by simp at hi; omega
    have hd := hm.2
    have hf := hm.1
    clear hm hi
    rcases hi' with rfl | rfl | rfl | rfl | rfl | rfl | rfl | rfl | rfl | rfl | rfl | rfl
    · refine RI.wpOp_plain rfl rfl ?_
      go_simp
      exact ⟨_, u17, u18, u19, u20, u21, u22, u23, u24, u25, u26, rfl, hw, fun _ => rfl, p1, p2, p3, p5, p6, p7, p8, z4, z9, z10, y10, z11, y11⟩
    · have hd := hd _ rfl
      simp [Region.binds] at hd
      obtain rfl := p0 (by simp [hd])
      refine RI.wpOp_plain rfl rfl ?_
      go_simp
      exact ⟨_, _, u18, u19, u20, u21, u22, u23, u24, u25, u26, rfl, hw, p0, fun _ => rfl, p2, p3, p5, p6, p7, p8, z4, z9, z10, y10, z11, y11⟩
    · have hd := hd _ rfl
      simp [Region.binds] at hd
      obtain rfl := p1 (by simp [hd])
      refine RI.wpOp_plain rfl rfl ?_
      go_simp
      exact ⟨u16, _, _, u19, u20, u21, u22, u23, u24, u25, u26, rfl, hw, p0, p1, fun _ => rfl, p3, p5, p6, p7, p8, z4, z9, z10, y10, z11, y11⟩
    · have hd := hd _ rfl
      simp [Region.binds] at hd
      obtain rfl := p2 (by simp [hd])
      refine RI.wpOp_plain rfl rfl ?_
      have h11 : d 11 = false := by cases h : d 11 with | false => rfl | true => exact absurd (y11 h).1 (by simp [hf])
      have x0 := ((hw.a h11).cell (p := ⟨g, off, none⟩) hg).trans k0
      go_simp
      exact ⟨u16, u17, _, _, u20, u21, u22, u23, u24, u25, u26, rfl, hw, p0, p1, p2, fun _ => rfl, p5, p6, p7, p8, z4, z9, z10, y10, z11, fun h => absurd h (by simp [RI.don, h11])⟩
    · have hd := hd _ rfl
      simp [Region.binds] at hd
      obtain rfl := p3 (by simp [hd])
      refine RI.wpOp_plain rfl rfl ?_
      have h11 : d 11 = false := by cases h : d 11 with | false => rfl | true => exact absurd (y11 h).2.1 (by simp [hf])
      have h10 : d 10 = false := by cases h : d 10 with | false => rfl | true => exact absurd (y10 h).1 (by simp [hf])
      obtain ⟨cq, w1, hcv, hs1, hsz, hb1⟩ := HX.out wx
      go_simp
      exact ⟨u16, u17, u18, _, _, u21, u22, u23, u24, u25, u26, rfl, ⟨fun h => (hw.a h).trans (hb1.mono hw.s), fun h => B4_gb (r := none) (hw.v h) (gb_below hb1) (fun e => by cases e), hw.b.trans (hb1.mono (Nat.le_trans HGL.out hw.s)), Nat.le_trans hw.s hb1.size⟩, p0, p1, p2, p3, p5, p6, p7, p8, fun _ => ⟨_, _, rfl, sl_bs (S := (W0.heap.size ≤ ·)) hw.s hs1⟩, (fun h => (z9 h).imp fun a ha => ha.imp fun c hc => ⟨hc.1, Bs_below hc.2 hb1⟩), (fun h => absurd h (by simp [RI.don, h10])), (fun h => absurd h (by simp [RI.don, h10])), (fun h => absurd h (by simp [RI.don, h11])), fun h => absurd h (by simp [RI.don, h11])⟩
    · refine RI.wpOp_plain rfl rfl ?_
      go_simp
      exact ⟨u16, u17, u18, u19, u20, _, u22, u23, u24, u25, u26, rfl, hw, p0, p1, p2, p3, fun _ => rfl, p6, p7, p8, z4, z9, z10, y10, z11, y11⟩
    · have hd := hd _ rfl
      simp [Region.binds] at hd
      obtain rfl := p5 (by simp [hd])
      refine RI.wpOp_plain rfl rfl ?_
      go_simp
      exact ⟨u16, u17, u18, u19, u20, _, _, u23, u24, u25, u26, rfl, hw, p0, p1, p2, p3, p5, fun _ => rfl, p7, p8, z4, z9, z10, y10, z11, y11⟩
    · have hd := hd _ rfl
      simp [Region.binds] at hd
      obtain rfl := p6 (by simp [hd])
      refine RI.wpOp_plain rfl rfl ?_
      go_simp
      exact ⟨u16, u17, u18, u19, u20, u21, _, _, u24, u25, u26, rfl, hw, p0, p1, p2, p3, p5, p6, fun _ => rfl, p8, z4, z9, z10, y10, z11, y11⟩
    · have hd := hd _ rfl
      simp [Region.binds] at hd
      obtain rfl := p7 (by simp [hd])
      refine RI.wpOp_plain rfl rfl ?_
      have h11 : d 11 = false := by cases h : d 11 with | false => rfl | true => exact absurd (y11 h).2.2.1 (by simp [hf])
      have x0 := ((hw.a h11).cell (p := ⟨g, off + 1, none⟩) hg).trans k1
      go_simp
      exact ⟨u16, u17, u18, u19, u20, u21, u22, _, _, u25, u26, rfl, hw, p0, p1, p2, p3, p5, p6, p7, fun _ => rfl, z4, z9, z10, y10, z11, fun h => absurd h (by simp [RI.don, h11])⟩
    · have hd := hd _ rfl
      simp [Region.binds] at hd
      obtain rfl := p8 (by simp [hd])
      refine RI.wpOp_plain rfl rfl ?_
      have h11 : d 11 = false := by cases h : d 11 with | false => rfl | true => exact absurd (y11 h).2.2.2.1 (by simp [hf])
      have h10 : d 10 = false := by cases h : d 10 with | false => rfl | true => exact absurd (y10 h).2 (by simp [hf])
      obtain ⟨cq, w1, hcv, hs1, hsz, hb1⟩ := HY.out wx
      go_simp
      exact ⟨u16, u17, u18, u19, u20, u21, u22, u23, _, _, u26, rfl, ⟨fun h => (hw.a h).trans (hb1.mono hw.s), fun h => B4_gb (r := none) (hw.v h) (gb_below hb1) (fun e => by cases e), hw.b.trans (hb1.mono (Nat.le_trans HGL.out hw.s)), Nat.le_trans hw.s hb1.size⟩, p0, p1, p2, p3, p5, p6, p7, p8, (fun h => (z4 h).imp fun a ha => ha.imp fun c hc => ⟨hc.1, Bs_below hc.2 hb1⟩), fun _ => ⟨_, _, rfl, sl_bs (S := (W0.heap.size ≤ ·)) hw.s hs1⟩, (fun h => absurd h (by simp [RI.don, h10])), (fun h => absurd h (by simp [RI.don, h10])), (fun h => absurd h (by simp [RI.don, h11])), fun h => absurd h (by simp [RI.don, h11])⟩
    · have hd := hd _ rfl
      simp [Region.binds] at hd
      refine RI.wpOp_plain rfl rfl ?_
      have h11 : d 11 = false := by cases h : d 11 with | false => rfl | true => exact absurd (y11 h).2.2.2.2 (by simp [hf])
      obtain ⟨qa, qc, rfl, hb4⟩ := z4 (by simp [hd])
      obtain ⟨ra, rc, rfl, hb9⟩ := z9 (by simp [hd])
      go_simp
      exact ⟨u16, u17, u18, u19, _, u21, u22, u23, u24, _, _, rfl, hw, p0, p1, p2, p3, p5, p6, p7, p8, z4, z9, fun _ => ⟨_, _, _, _, rfl, hb4, hb9⟩, fun _ => ⟨by simp [RI.don, hd], by simp [RI.don, hd]⟩, z11, fun h => absurd h (by simp [RI.don, h11])⟩
    · have hd := hd _ rfl
      simp [Region.binds] at hd
      obtain rfl := p0 (by simp [hd])
      obtain rfl := p1 (by simp [hd])
      obtain rfl := p2 (by simp [hd])
      obtain rfl := p3 (by simp [hd])
      obtain rfl := p5 (by simp [hd])
      obtain rfl := p6 (by simp [hd])
      obtain rfl := p7 (by simp [hd])
      obtain rfl := p8 (by simp [hd])
      refine RI.wpOp_plain rfl rfl ?_
      obtain ⟨qa, qc, ra, rc, rfl, hb4, hb9⟩ := z10 (by simp [hd])
      refine wp_st4 rfl rfl rfl (hw.v hf) ?_
      intro w1 gb1 s0 s1 s2 s3
      have NE : ∀ k, W0.heap.size ≤ k → some k ≠ some g2 := fun k hk e => by injection e with e; have := HG2.out; omega
      simp only [Act.put]
      exact ⟨_, _, _, _, u20, _, _, _, _, u25, _, rfl, ⟨nofun, nofun, hw.b.grown gb1 (Nat.le_trans HGL.out hw.s) (fun k e => by injection e with e; have := HG2B.out; omega), Nat.le_trans hw.s gb1.size⟩, p0, p1, p2, p3, p5, p6, p7, p8, fun h => (z4 h).imp fun a ha => ha.imp fun c hc => ⟨hc.1, Bs_gb hc.2 gb1 NE⟩, fun h => (z9 h).imp fun a ha => ha.imp fun c hc => ⟨hc.1, Bs_gb hc.2 gb1 NE⟩, fun _ => ⟨_, _, _, _, rfl, Bs_gb hb4 gb1 NE, Bs_gb hb9 gb1 NE⟩, y10, fun _ => ⟨_, _, _, _, s0, s1, s2, s3, Bs_gb hb4 gb1 (fun k hk e => by injection e with e; have := HG2.out; omega), Bs_gb hb9 gb1 (fun k hk e => by injection e with e; have := HG2.out; omega)⟩, fun _ => ⟨by simp [RI.don, hd], by simp [RI.don, hd], by simp [RI.don, hd], by simp [RI.don, hd], by simp [RI.don, hd]⟩⟩
  · skip
    intro d x wx hI hd
    obtain ⟨u16, u17, u18, u19, u20, u21, u22, u23, u24, u25, u26, rfl, hw, p0, p1, p2, p3, p5, p6, p7, p8, z4, z9, z10, y10, z11, y11⟩ := hI
    obtain ⟨a1, c1, a2, c2, s0, s1, s2, s3, t1, t2⟩ := z11 (hd 11 (by decide))
    have HB : Hid (Below w.heap.size w wx) := hw.b
    have N : Hid (Nv (w.heap.size ≤ ·) wx (.mk 1 p v []) (.int .i64 1, .slice a1 p.length c1, .slice a2 v.length c2, .slice none 0 0)) := .mk 1 p v [] _ _ _ [] (Bs_mono t1 (fun k h _ => Nat.le_trans HGL.out h)) (Bs_mono t2 (fun k h _ => Nat.le_trans HGL.out h)) rfl (Ks_nil _ _) (fun j hj => absurd hj (by simp))
    clear p0 p1 p2 p3 p5 p6 p7 p8 z4 z9 z10 y10 z11 y11 hw t1 t2
    generalize p.length = np at *
    generalize v.length = nv at *
    go_wp2_with fail
    exact bodyPost_ret (v := .agg #[.int .i64 1, .slice a1 np c1, .slice a2 nv c2, .slice none 0 0]) (resN _ _ _ g2 2 _ _ _ _ rfl rfl s0 s1 s2 s3) rfl ⟨(.int .i64 1, .slice a1 np c1, .slice a2 nv c2, .slice none 0 0), rfl, by first | exact N.out | (rw [E2.out]; exact N.out), by first | exact HB.out | (rw [E2.out]; exact HB.out)⟩
end Tr
end Go.Proofs.YtefgamhnikeekaaDoor
namespace Go.Proofs.YtefgamhnikeekaaDoor
namespace Tr
open Nb Go.RowKit
theorem ks_lit {B : Nat} {w : World} {k : Int} {b1 b2 b3 : Option Addr} {m1 e1 m2 e2 m3 e3 : Nat} (h : B ≤ w.heap.size) : Ks (B ≤ ·) [(.int .i64 k, .slice b1 m1 e1, .slice b2 m2 e2, .slice b3 m3 e3)] (.slice (some ⟨w.heap.size, 0, none⟩) 1 1) (w.alloc (.cells #[.int .i64 k, .slice b1 m1 e1, .slice b2 m2 e2, .slice b3 m3 e3] 32)) := by
  have HA := heap_alloc_new w (.cells #[.int .i64 k, .slice b1 m1 e1, .slice b2 m2 e2, .slice b3 m3 e3] 32)
  refine ⟨_, _, rfl, Nat.le_refl _, fun _ => ⟨_, _, rfl, h, by simp, fun j hj => ?_⟩⟩
  have e : j = 0 := by simpa using hj
  subst e
  refine ⟨?_, ?_, ?_, ?_⟩ <;> (simp only [World.cell?, HA]; rfl)
theorem st_take (l : By) (c : Nat) : (st l).extract 0 c = st (l.take c) := by
  unfold st
  apply ByteArray.ext
  simp [ByteArray.extract, ByteArray.copySlice]
inductive GC5 (W0 : World) (p q : By) (g off n m cap g2 c : Nat) (X Y : ByteArray) (d : Nat → Bool) (x : Act) (wx : World) : Prop where
  | mk (u3 u27 u28 u29 u30 u31 u32 u33 u34 u35 u36 u37 u38 u39 u40 : Value) (hx : x = { tmps := #[.slice (some ⟨g, off, none⟩) n cap, undef, .pointer (some ⟨g2, 0, none⟩), u3, undef, undef, undef, undef, undef, .slice (some ⟨g, off, none⟩) n cap, .int .i64 (n : Int), .bool false, undef, .slice (some ⟨g, off, none⟩) n cap, .int .i64 (n : Int), .bool false, undef, undef, undef, undef, undef, undef, undef, undef, undef, undef, undef, u27, u28, u29, u30, u31, u32, u33, u34, u35, u36, u37, u38, u39, u40, undef, undef, undef, undef, undef, undef, undef, undef, undef, undef, undef, undef, undef, undef, undef, undef, undef, undef, undef, undef, undef, undef, undef, undef, undef, undef, undef, undef, undef, undef, undef, undef, undef, undef, undef, undef, undef, undef, undef, undef, undef, undef, undef, undef, undef, undef, undef, undef, undef, undef, undef, undef, undef, undef, undef, undef, undef, undef, undef], defers := [] }) (hw : Below W0.heap.size W0 wx) (p0 : d 0 = true → u27 = .slice (some ⟨g, off, none⟩) n cap) (p1 : d 1 = true → u28 = .pointer (some ⟨g, off, none⟩)) (p2 : d 2 = true → u29 = .pointer (some ⟨g, off, none⟩)) (p3 : d 3 = true → u30 = .string X) (p5 : d 5 = true → u32 = .slice (some ⟨g, off, none⟩) n cap) (p6 : d 6 = true → u33 = .slice (some ⟨g, off, none⟩) n cap) (p7 : d 7 = true → u34 = .int .i64 (n : Int)) (p8 : d 8 = true → u35 = .int .i64 (m : Int)) (p9 : d 9 = true → u36 = .pointer (some ⟨g, off + m * 2, none⟩)) (p10 : d 10 = true → u37 = .pointer (some ⟨g, off + m * 2, none⟩)) (p11 : d 11 = true → u38 = .string Y) (p13 : d 13 = true → u40 = .int .i64 (c : Int)) (p14 : d 14 = true → u3 = .int .i64 (c : Int)) (z4 : d 4 = true → SlC p u31 wx) (z12 : d 12 = true → SlC q u39 wx) : GC5 W0 p q g off n m cap g2 c X Y d x wx
inductive GR7 (w W0 : World) (pp : By) (lr : Rt) (T : Nd) (g off n cap g2 c : Nat) (X Z : ByteArray) (v27 v28 v29 v30 v31 v32 v33 v34 v35 v36 v37 v38 v39 v40 : Value) (d : Nat → Bool) (x : Act) (wx : World) : Prop where
  | mk (u43 u44 u45 u46 u47 u48 u49 u50 u51 u52 u53 u54 u55 : Value) (hx : x = { tmps := #[.slice (some ⟨g, off, none⟩) n cap, undef, .pointer (some ⟨g2, 0, none⟩), .int .i64 (c : Int), undef, undef, undef, undef, undef, .slice (some ⟨g, off, none⟩) n cap, .int .i64 (n : Int), .bool false, undef, .slice (some ⟨g, off, none⟩) n cap, .int .i64 (n : Int), .bool false, undef, undef, undef, undef, undef, undef, undef, undef, undef, undef, undef, v27, v28, v29, v30, v31, v32, v33, v34, v35, v36, v37, v38, v39, v40, .int .i64 (c : Int), .bool true, u43, u44, u45, u46, u47, u48, u49, u50, u51, u52, u53, u54, u55, undef, undef, undef, undef, undef, undef, undef, undef, undef, undef, undef, undef, undef, undef, undef, undef, undef, undef, undef, undef, undef, undef, undef, undef, undef, undef, undef, undef, undef, undef, undef, undef, undef, undef, undef, undef, undef, undef, undef, undef, undef, undef, undef, undef], defers := [] }) (hw : GW w W0 g2 (d 13) wx) (p0 : d 0 = true → u43 = .slice (some ⟨g, off, none⟩) n cap) (p1 : d 1 = true → u44 = .pointer (some ⟨g, off, none⟩)) (p2 : d 2 = true → u45 = .pointer (some ⟨g, off, none⟩)) (p3 : d 3 = true → u46 = .string X) (p4 : d 4 = true → u47 = .int .i64 (c : Int)) (p5 : d 5 = true → u48 = .string Z) (p7 : d 7 = true → u50 = .slice (some ⟨g, off, none⟩) n cap) (p8 : d 8 = true → u51 = .int .i64 (c : Int)) (z6 : d 6 = true → ∃ a c, u49 = .slice a pp.length c ∧ Bs (W0.heap.size ≤ ·) pp u49 wx) (z9 : d 9 = true → d 13 = false → Rv lr u52 wx) (z10 : d 10 = true → ∃ y, u53 = v4 y ∧ Nv (W0.heap.size ≤ ·) wx T y) (z11 : d 11 = true → ∃ a c y, u54 = .slice a 1 c ∧ Ks (W0.heap.size ≤ ·) [y] u54 wx ∧ Nv (W0.heap.size ≤ ·) wx T y) (z12 : d 12 = true → ∃ a1 c1 a3 c3 y, u55 = .agg #[.int .i64 2, .slice a1 pp.length c1, .slice none 0 0, .slice a3 1 c3] ∧ Bs (W0.heap.size ≤ ·) pp (.slice a1 pp.length c1) wx ∧ Ks (W0.heap.size ≤ ·) [y] (.slice a3 1 c3) wx ∧ Nv (W0.heap.size ≤ ·) wx T y) (z13 : d 13 = true → ∃ a1 c1 a3 c3 y, wx.cell? ⟨g2, 0, none⟩ = some (.int .i64 2) ∧ wx.cell? ⟨g2, 1, none⟩ = some (.slice a1 pp.length c1) ∧ wx.cell? ⟨g2, 2, none⟩ = some (.slice none 0 0) ∧ wx.cell? ⟨g2, 3, none⟩ = some (.slice a3 1 c3) ∧ Bs (W0.heap.size ≤ ·) pp (.slice a1 pp.length c1) wx ∧ Ks (W0.heap.size ≤ ·) [y] (.slice a3 1 c3) wx ∧ Nv (W0.heap.size ≤ ·) wx T y) (y10 : d 10 = true → d 9 = true) (y11 : d 11 = true → d 10 = true) (y12 : d 12 = true → d 6 = true ∧ d 11 = true) (y13 : d 13 = true → d 3 = true ∧ d 6 = true ∧ d 9 = true ∧ d 10 = true ∧ d 11 = true) : GR7 w W0 pp lr T g off n cap g2 c X Z v27 v28 v29 v30 v31 v32 v33 v34 v35 v36 v37 v38 v39 v40 d x wx
set_option maxHeartbeats 2000000 in
set_option maxRecDepth 100000 in
theorem grown_road (p q : By) (g off cap n m c : Nat) (w : World) (hn : 2 ≤ n) (hm : m + 1 = n) (hn2 : n ≤ 1048576) (hg0 : g < w.heap.size) (h0 : w.cell? ⟨g, off, none⟩ = some (.string (st p))) (h1 : w.cell? ⟨g, off + m * 2, none⟩ = some (.string (st q))) (hc : 0 < c) (hcp : c ≤ p.length) (pp : By) (hpp : pp = p.take c) (lr : Rt) (T : Nd) (KSH0 : Hid (∀ wx : World, Below w.heap.size w wx → Calls Tryd.prog 54 #[.slice (some ⟨g, off, none⟩) n cap, .int .i64 (c : Int)] wx fun e w' => ∃ x, e = .returned x ∧ Rv lr x w' ∧ Below wx.heap.size wx w')) (KG : Hid (∀ (x : Value) (wx : World), Rv lr x wx → Calls Tryd.prog 34 #[x] wx fun e w' => ∃ y : V4, e = .returned (v4 y) ∧ Nv (wx.heap.size ≤ ·) w' T y ∧ Below wx.heap.size wx w'))
    (hpl : p.length ≤ 4194304) (hql : q.length ≤ 4194304) (KN : Hid (∀ (a b : Value) (wx : World), SlC p a wx → SlC q b wx → Calls Tryd.prog 53 #[a, b] wx fun e w' => e = .returned (.int .i64 (c : Int)) ∧ Below wx.heap.size wx w')) :
    Calls Tryd.prog 34 #[.slice (some ⟨g, off, none⟩) n cap] w fun e w' => ∃ u : V4, e = .returned (v4 u) ∧ Nv (w.heap.size ≤ ·) w' (.mk 2 pp [] [T]) u ∧ Below w.heap.size w w' := by
  have B0 : Below w.heap.size w (w.alloc (.cells #[.int .i64 0, .slice none 0 0, .slice none 0 0, .slice none 0 0] 32)) := (Below.refl _ _).alloc (Nat.le_refl _) _
  have k0 := (B0.cell (p := ⟨g, off, none⟩) hg0).trans h0
  have l0 := (B0.cell (p := ⟨g, off + m * 2, none⟩) hg0).trans h1
  have hg : g < (w.alloc (.cells #[.int .i64 0, .slice none 0 0, .slice none 0 0, .slice none 0 0] 32)).heap.size := Nat.lt_of_lt_of_le hg0 B0.size
  have HX : Hid (∀ W : World, ∃ c W', (convert 9 22 (.string (st p))).run Tryd.prog W = .ok (.slice (some ⟨W.heap.size, 0, none⟩) p.length c) W' ∧ SlC p (.slice (some ⟨W.heap.size, 0, none⟩) p.length c) W' ∧ W'.heap.size = W.heap.size + 1 ∧ Below W.heap.size W W') := st_slc p hpl
  have HY : Hid (∀ W : World, ∃ c W', (convert 9 22 (.string (st q))).run Tryd.prog W = .ok (.slice (some ⟨W.heap.size, 0, none⟩) q.length c) W' ∧ SlC q (.slice (some ⟨W.heap.size, 0, none⟩) q.length c) W' ∧ W'.heap.size = W.heap.size + 1 ∧ Below W.heap.size W W') := st_slc q hql
  have HZ : Hid (∀ W : World, ∃ cc W', (convert 9 22 (.string (st pp))).run Tryd.prog W = .ok (.slice (some ⟨W.heap.size, 0, none⟩) pp.length cc) W' ∧ Pk.Sl pp (.slice (some ⟨W.heap.size, 0, none⟩) pp.length cc) W' ∧ W'.heap.size = W.heap.size + 1 ∧ Below W.heap.size W W') := st_sl pp
  have KSH : Hid (∀ wx : World, Below (w.alloc (.cells #[.int .i64 0, .slice none 0 0, .slice none 0 0, .slice none 0 0] 32)).heap.size (w.alloc (.cells #[.int .i64 0, .slice none 0 0, .slice none 0 0, .slice none 0 0] 32)) wx → Calls Tryd.prog 54 #[.slice (some ⟨g, off, none⟩) n cap, .int .i64 (c : Int)] wx fun e w' => ∃ x, e = .returned x ∧ Rv lr x w' ∧ Below wx.heap.size wx w') := fun wx hb => KSH0.out wx (B0.trans (hb.mono B0.size))
  have BV := B4_new w
  have HGL : Hid (w.heap.size ≤ (w.alloc (.cells #[.int .i64 0, .slice none 0 0, .slice none 0 0, .slice none 0 0] 32)).heap.size) := B0.size
  have HG2 : Hid (w.heap.size < (w.alloc (.cells #[.int .i64 0, .slice none 0 0, .slice none 0 0, .slice none 0 0] 32)).heap.size) := by show _ < _; simp
  have zt : (st p).extract 0 c = st pp := by rw [hpp]; exact st_take p c
  have zs : (c : Int) ≤ ((st p).size : Int) := by rw [st_size]; omega
  have zs2 : (0 : Int) ≤ (c : Int) := by omega
  have e0 : ((n : Int) == 0) = false := beq_eq_false_iff_ne.2 (by omega)
  have e1 : ((n : Int) == 1) = false := beq_eq_false_iff_ne.2 (by omega)
  have e2 : (n == 0) = false := beq_eq_false_iff_ne.2 (by omega)
  have e3 : (n == 1) = false := beq_eq_false_iff_ne.2 (by omega)
  have i0 : (0 : Int) < (n : Int) := by omega
  have i1 : IntKind.i64.wrap ((n : Int) - 1) = (m : Int) := by rw [IntKind.wrap_i64]; omega
  have i2 : (0 : Int) ≤ (m : Int) := by omega
  have i3 : (m : Int) < (n : Int) := by omega
  have i4 : 0 < n := by omega
  have i5 : m < n := by omega
  have i6 : (0 : Int) < (c : Int) := by omega
  have i7 : decide ((0 : Int) < (c : Int)) = true := decide_eq_true i6
  have i8 : decide (0 < c) = true := decide_eq_true hc
  generalize st pp = Z at *
  generalize st p = X at *
  generalize st q = Y at *
  clear h0 h1 hg0 hn hm KSH0 hcp hn2 hpp
  go_enter Tryd.func34, Tryd.ntmps34
  go_upto_region 5 with fail
  generalize w.alloc (.cells #[.int .i64 0, .slice none 0 0, .slice none 0 0, .slice none 0 0] 32) = W0 at *
  obtain ⟨g2, eg2⟩ : ∃ g2, g2 = w.heap.size := ⟨_, rfl⟩
  have HG2B : Hid (w.heap.size ≤ g2) := by show _ ≤ _; omega
  rw [← eg2] at BV HG2 ⊢
  have E2 : Hid (g2 = w.heap.size) := eg2
  clear eg2
  have hw0 : Below W0.heap.size W0 W0.drew := (Below.refl _ _).drew
  refine RI.wp_region_inv (GC5 W0 p q g off n m cap g2 c X Y) (by kernel_rfl) (by kernel_rfl) ?_ ?_ ?_
  · exact ⟨undef, undef, undef, undef, undef, undef, undef, undef, undef, undef, undef, undef, undef, undef, undef, rfl, hw0, nofun, nofun, nofun, nofun, nofun, nofun, nofun, nofun, nofun, nofun, nofun, nofun, nofun, nofun, nofun⟩
  · skip
    intro d x wx i hI hi hm
    obtain ⟨u3, u27, u28, u29, u30, u31, u32, u33, u34, u35, u36, u37, u38, u39, u40, rfl, hw, p0, p1, p2, p3, p5, p6, p7, p8, p9, p10, p11, p13, p14, z4, z12⟩ := hI
    have hi' : i = 0 ∨ i = 1 ∨ i = 2 ∨ i = 3 ∨ i = 4 ∨ i = 5 ∨ i = 6 ∨ i = 7 ∨ i = 8 ∨ i = 9 ∨ i = 10 ∨ i = 11 ∨ i = 12 ∨ i = 13 ∨ i = 14 := by simp at hi; omega
    have hd := hm.2
    have hf := hm.1
    clear hm hi
    rcases hi' with rfl | rfl | rfl | rfl | rfl | rfl | rfl | rfl | rfl | rfl | rfl | rfl | rfl | rfl | rfl
    · refine RI.wpOp_plain rfl rfl ?_
      go_simp
      exact ⟨u3, _, u28, u29, u30, u31, u32, u33, u34, u35, u36, u37, u38, u39, u40, rfl, hw, fun _ => rfl, p1, p2, p3, p5, p6, p7, p8, p9, p10, p11, p13, p14, z4, z12⟩
    · have hd := hd _ rfl
      simp [Region.binds] at hd
      obtain rfl := p0 (by simp [hd])
      refine RI.wpOp_plain rfl rfl ?_
      go_simp
      exact ⟨u3, _, _, u29, u30, u31, u32, u33, u34, u35, u36, u37, u38, u39, u40, rfl, hw, p0, fun _ => rfl, p2, p3, p5, p6, p7, p8, p9, p10, p11, p13, p14, z4, z12⟩
    · have hd := hd _ rfl
      simp [Region.binds] at hd
      obtain rfl := p1 (by simp [hd])
      refine RI.wpOp_plain rfl rfl ?_
      go_simp
      exact ⟨u3, u27, _, _, u30, u31, u32, u33, u34, u35, u36, u37, u38, u39, u40, rfl, hw, p0, p1, fun _ => rfl, p3, p5, p6, p7, p8, p9, p10, p11, p13, p14, z4, z12⟩
    · have hd := hd _ rfl
      simp [Region.binds] at hd
      obtain rfl := p2 (by simp [hd])
      refine RI.wpOp_plain rfl rfl ?_
      have x0 := (hw.cell (p := ⟨g, off, none⟩) hg).trans k0
      go_simp
      exact ⟨u3, u27, u28, _, _, u31, u32, u33, u34, u35, u36, u37, u38, u39, u40, rfl, hw, p0, p1, p2, fun _ => rfl, p5, p6, p7, p8, p9, p10, p11, p13, p14, z4, z12⟩
    · have hd := hd _ rfl
      simp [Region.binds] at hd
      obtain rfl := p3 (by simp [hd])
      refine RI.wpOp_plain rfl rfl ?_
      obtain ⟨cq, w1, hcv, hs1, hsz, hb1⟩ := HX.out wx
      go_simp
      exact ⟨u3, u27, u28, u29, _, _, u32, u33, u34, u35, u36, u37, u38, u39, u40, rfl, hw.trans (hb1.mono hw.size), p0, p1, p2, p3, p5, p6, p7, p8, p9, p10, p11, p13, p14, fun _ => hs1, (fun h => SlC_below (z12 h) hb1)⟩
    · refine RI.wpOp_plain rfl rfl ?_
      go_simp
      exact ⟨u3, u27, u28, u29, u30, u31, _, u33, u34, u35, u36, u37, u38, u39, u40, rfl, hw, p0, p1, p2, p3, fun _ => rfl, p6, p7, p8, p9, p10, p11, p13, p14, z4, z12⟩
    · refine RI.wpOp_plain rfl rfl ?_
      go_simp
      exact ⟨u3, u27, u28, u29, u30, u31, u32, _, u34, u35, u36, u37, u38, u39, u40, rfl, hw, p0, p1, p2, p3, p5, fun _ => rfl, p7, p8, p9, p10, p11, p13, p14, z4, z12⟩
    · have hd := hd _ rfl
      simp [Region.binds] at hd
      obtain rfl := p6 (by simp [hd])
      refine RI.wpOp_plain rfl rfl ?_
      go_simp
      exact ⟨u3, u27, u28, u29, u30, u31, u32, _, _, u35, u36, u37, u38, u39, u40, rfl, hw, p0, p1, p2, p3, p5, p6, fun _ => rfl, p8, p9, p10, p11, p13, p14, z4, z12⟩
    · have hd := hd _ rfl
      simp [Region.binds] at hd
      obtain rfl := p7 (by simp [hd])
      refine RI.wpOp_plain rfl rfl ?_
      go_simp
      exact ⟨u3, u27, u28, u29, u30, u31, u32, u33, _, _, u36, u37, u38, u39, u40, rfl, hw, p0, p1, p2, p3, p5, p6, p7, fun _ => rfl, p9, p10, p11, p13, p14, z4, z12⟩
    · have hd := hd _ rfl
      simp [Region.binds] at hd
      obtain rfl := p5 (by simp [hd])
      obtain rfl := p8 (by simp [hd])
      refine RI.wpOp_plain rfl rfl ?_
      go_simp
      exact ⟨u3, u27, u28, u29, u30, u31, _, u33, u34, _, _, u37, u38, u39, u40, rfl, hw, p0, p1, p2, p3, p5, p6, p7, p8, fun _ => rfl, p10, p11, p13, p14, z4, z12⟩
    · have hd := hd _ rfl
      simp [Region.binds] at hd
      obtain rfl := p9 (by simp [hd])
      refine RI.wpOp_plain rfl rfl ?_
      go_simp
      exact ⟨u3, u27, u28, u29, u30, u31, u32, u33, u34, u35, _, _, u38, u39, u40, rfl, hw, p0, p1, p2, p3, p5, p6, p7, p8, p9, fun _ => rfl, p11, p13, p14, z4, z12⟩
    · have hd := hd _ rfl
      simp [Region.binds] at hd
      obtain rfl := p10 (by simp [hd])
      refine RI.wpOp_plain rfl rfl ?_
      have x0 := (hw.cell (p := ⟨g, off + m * 2, none⟩) hg).trans l0
      go_simp
      exact ⟨u3, u27, u28, u29, u30, u31, u32, u33, u34, u35, u36, _, _, u39, u40, rfl, hw, p0, p1, p2, p3, p5, p6, p7, p8, p9, p10, fun _ => rfl, p13, p14, z4, z12⟩
    · have hd := hd _ rfl
      simp [Region.binds] at hd
      obtain rfl := p11 (by simp [hd])
      refine RI.wpOp_plain rfl rfl ?_
      obtain ⟨cq, w1, hcv, hs1, hsz, hb1⟩ := HY.out wx
      go_simp
      exact ⟨u3, u27, u28, u29, u30, u31, u32, u33, u34, u35, u36, u37, _, _, u40, rfl, hw.trans (hb1.mono hw.size), p0, p1, p2, p3, p5, p6, p7, p8, p9, p10, p11, p13, p14, (fun h => SlC_below (z4 h) hb1), fun _ => hs1⟩
    · have hd := hd _ rfl
      simp [Region.binds] at hd
      refine RI.wpOp_plain rfl rfl ?_
      go_simp
      refine (KN.out _ _ _ (z4 (by simp [hd])) (z12 (by simp [hd]))).mono ?_
      rintro e w1 ⟨rfl, hb1⟩
      exact ⟨u3, u27, u28, u29, u30, u31, u32, u33, u34, u35, u36, u37, u38, u39, _, rfl, hw.trans (hb1.mono hw.size), p0, p1, p2, p3, p5, p6, p7, p8, p9, p10, p11, fun _ => rfl, p14, (fun h => SlC_below (z4 h) hb1), (fun h => SlC_below (z12 h) hb1)⟩
    · have hd := hd _ rfl
      simp [Region.binds] at hd
      obtain rfl := p0 (by simp [hd])
      obtain rfl := p1 (by simp [hd])
      obtain rfl := p2 (by simp [hd])
      obtain rfl := p3 (by simp [hd])
      obtain rfl := p5 (by simp [hd])
      obtain rfl := p6 (by simp [hd])
      obtain rfl := p7 (by simp [hd])
      obtain rfl := p8 (by simp [hd])
      obtain rfl := p9 (by simp [hd])
      obtain rfl := p10 (by simp [hd])
      obtain rfl := p11 (by simp [hd])
      obtain rfl := p13 (by simp [hd])
      refine RI.wpOp_plain rfl rfl ?_
      go_simp
      exact ⟨_, _, _, _, _, u31, _, _, _, _, _, _, _, u39, _, rfl, hw, p0, p1, p2, p3, p5, p6, p7, p8, p9, p10, p11, p13, fun _ => rfl, z4, z12⟩
  · skip
    intro d x wx hI hd
    obtain ⟨u3, u27, u28, u29, u30, u31, u32, u33, u34, u35, u36, u37, u38, u39, u40, rfl, hw, p0, p1, p2, p3, p5, p6, p7, p8, p9, p10, p11, p13, p14, z4, z12⟩ := hI
    obtain rfl := p14 (hd 14 (by decide))
    clear p0 p1 p2 p3 p5 p6 p7 p8 p9 p10 p11 p13 z4 z12
    have hw7 : GW w W0 g2 false wx.drew := ⟨fun _ => hw.drew, fun _ => B4_gb (r := none) BV (gb_below hw.drew) (fun e => by cases e), (B0.trans (hw.mono B0.size)).drew, hw.size⟩
    clear hw HX HY KN
    go_upto_region 7 with fail
    refine RI.wp_region_inv (GR7 w W0 pp lr T g off n cap g2 c X Z u27 u28 u29 u30 u31 u32 u33 u34 u35 u36 u37 u38 u39 u40) (by kernel_rfl) (by kernel_rfl) ?_ ?_ ?_
    · exact ⟨undef, undef, undef, undef, undef, undef, undef, undef, undef, undef, undef, undef, undef, rfl, hw7, nofun, nofun, nofun, nofun, nofun, nofun, nofun, nofun, nofun, nofun, nofun, nofun, nofun, nofun, nofun, nofun, nofun, nofun⟩
    · skip
      intro d x wx i hI hi hm
      obtain ⟨u43, u44, u45, u46, u47, u48, u49, u50, u51, u52, u53, u54, u55, rfl, hw, p0, p1, p2, p3, p4, p5, p7, p8, z6, z9, z10, z11, z12, z13, y10, y11, y12, y13⟩ := hI
      have hi' : i = 0 ∨ i = 1 ∨ i = 2 ∨ i = 3 ∨ i = 4 ∨ i = 5 ∨ i = 6 ∨ i = 7 ∨ i = 8 ∨ i = 9 ∨ i = 10 ∨ i = 11 ∨ i = 12 ∨ i = 13 := by simp at hi; omega
      have hd := hm.2
      have hf := hm.1
      clear hm hi
      rcases hi' with rfl | rfl | rfl | rfl | rfl | rfl | rfl | rfl | rfl | rfl | rfl | rfl | rfl | rfl
      · refine RI.wpOp_plain rfl rfl ?_
        go_simp
        exact ⟨_, u44, u45, u46, u47, u48, u49, u50, u51, u52, u53, u54, u55, rfl, hw, fun _ => rfl, p1, p2, p3, p4, p5, p7, p8, z6, z9, z10, z11, z12, z13, y10, y11, y12, y13⟩
      · have hd := hd _ rfl
        simp [Region.binds] at hd
        obtain rfl := p0 (by simp [hd])
        refine RI.wpOp_plain rfl rfl ?_
        go_simp
        exact ⟨_, _, u45, u46, u47, u48, u49, u50, u51, u52, u53, u54, u55, rfl, hw, p0, fun _ => rfl, p2, p3, p4, p5, p7, p8, z6, z9, z10, z11, z12, z13, y10, y11, y12, y13⟩
      · have hd := hd _ rfl
        simp [Region.binds] at hd
        obtain rfl := p1 (by simp [hd])
        refine RI.wpOp_plain rfl rfl ?_
        go_simp
        exact ⟨u43, _, _, u46, u47, u48, u49, u50, u51, u52, u53, u54, u55, rfl, hw, p0, p1, fun _ => rfl, p3, p4, p5, p7, p8, z6, z9, z10, z11, z12, z13, y10, y11, y12, y13⟩
      · have hd := hd _ rfl
        simp [Region.binds] at hd
        obtain rfl := p2 (by simp [hd])
        refine RI.wpOp_plain rfl rfl ?_
        have h13 : d 13 = false := by cases h : d 13 with | false => rfl | true => exact absurd (y13 h).1 (by simp [hf])
        have x0 := ((hw.a h13).cell (p := ⟨g, off, none⟩) hg).trans k0
        go_simp
        exact ⟨u43, u44, _, _, u47, u48, u49, u50, u51, u52, u53, u54, u55, rfl, hw, p0, p1, p2, fun _ => rfl, p4, p5, p7, p8, z6, z9, z10, z11, z12, z13, y10, y11, y12, fun h => absurd h (by simp [RI.don, h13])⟩
      · refine RI.wpOp_plain rfl rfl ?_
        go_simp
        exact ⟨u43, u44, u45, u46, _, u48, u49, u50, u51, u52, u53, u54, u55, rfl, hw, p0, p1, p2, p3, fun _ => rfl, p5, p7, p8, z6, z9, z10, z11, z12, z13, y10, y11, y12, y13⟩
      · have hd := hd _ rfl
        simp [Region.binds] at hd
        obtain rfl := p3 (by simp [hd])
        obtain rfl := p4 (by simp [hd])
        refine RI.wpOp_plain rfl rfl ?_
        go_simp
        exact ⟨u43, u44, u45, _, _, _, u49, u50, u51, u52, u53, u54, u55, rfl, hw, p0, p1, p2, p3, p4, fun _ => rfl, p7, p8, z6, z9, z10, z11, z12, z13, y10, y11, y12, y13⟩
      · have hd := hd _ rfl
        simp [Region.binds] at hd
        obtain rfl := p5 (by simp [hd])
        refine RI.wpOp_plain rfl rfl ?_
        have h13 : d 13 = false := by cases h : d 13 with | false => rfl | true => exact absurd (y13 h).2.1 (by simp [hf])
        have h12 : d 12 = false := by cases h : d 12 with | false => rfl | true => exact absurd (y12 h).1 (by simp [hf])
        obtain ⟨cq, w1, hcv, hs1, hsz, hb1⟩ := HZ.out wx
        go_simp
        exact ⟨u43, u44, u45, u46, u47, _, _, u50, u51, u52, u53, u54, u55, rfl, ⟨fun h => (hw.a h).trans (hb1.mono hw.s), fun h => B4_gb (r := none) (hw.v h) (gb_below hb1) (fun e => by cases e), hw.b.trans (hb1.mono (Nat.le_trans HGL.out hw.s)), Nat.le_trans hw.s hb1.size⟩, p0, p1, p2, p3, p4, p5, p7, p8, fun _ => ⟨_, _, rfl, sl_bs (S := (W0.heap.size ≤ ·)) hw.s hs1⟩, (fun h k => Rv_below (z9 h k) hb1), (fun h => (z10 h).imp fun y hy => ⟨hy.1, Nv_below hy.2 hb1⟩), (fun h => (z11 h).imp fun a ha => ha.imp fun c hc => hc.imp fun y hy => ⟨hy.1, Ks_below hy.2.1 hb1, Nv_below hy.2.2 hb1⟩), (fun h => absurd h (by simp [RI.don, h12])), (fun h => absurd h (by simp [RI.don, h13])), (y10), (y11), (fun h => absurd h (by simp [RI.don, h12])), fun h => absurd h (by simp [RI.don, h13])⟩
      · refine RI.wpOp_plain rfl rfl ?_
        go_simp
        exact ⟨u43, u44, u45, u46, u47, u48, u49, _, u51, u52, u53, u54, u55, rfl, hw, p0, p1, p2, p3, p4, p5, fun _ => rfl, p8, z6, z9, z10, z11, z12, z13, y10, y11, y12, y13⟩
      · refine RI.wpOp_plain rfl rfl ?_
        go_simp
        exact ⟨u43, u44, u45, u46, u47, u48, u49, u50, _, u52, u53, u54, u55, rfl, hw, p0, p1, p2, p3, p4, p5, p7, fun _ => rfl, z6, z9, z10, z11, z12, z13, y10, y11, y12, y13⟩
      · have hd := hd _ rfl
        simp [Region.binds] at hd
        obtain rfl := p7 (by simp [hd])
        obtain rfl := p8 (by simp [hd])
        refine RI.wpOp_plain rfl rfl ?_
        have h13 : d 13 = false := by cases h : d 13 with | false => rfl | true => exact absurd (y13 h).2.2.1 (by simp [hf])
        have h12 : d 12 = false := by cases h : d 12 with | false => rfl | true => exact absurd (y10 (y11 (y12 h).2)) (by simp [hf])
        go_simp
        refine (KSH.out _ (hw.a h13)).mono ?_
        rintro e w1 ⟨x1, rfl, hs1, hb1⟩
        exact ⟨u43, u44, u45, u46, u47, u48, u49, _, _, _, u53, u54, u55, rfl, ⟨fun h => (hw.a h).trans (hb1.mono hw.s), fun h => B4_gb (r := none) (hw.v h) (gb_below hb1) (fun e => by cases e), hw.b.trans (hb1.mono (Nat.le_trans HGL.out hw.s)), Nat.le_trans hw.s hb1.size⟩, p0, p1, p2, p3, p4, p5, p7, p8, (fun h => (z6 h).imp fun a ha => ha.imp fun c hc => ⟨hc.1, Bs_below hc.2 hb1⟩), fun _ _ => hs1, (fun h => (z10 h).imp fun y hy => ⟨hy.1, Nv_below hy.2 hb1⟩), (fun h => (z11 h).imp fun a ha => ha.imp fun c hc => hc.imp fun y hy => ⟨hy.1, Ks_below hy.2.1 hb1, Nv_below hy.2.2 hb1⟩), (fun h => absurd h (by simp [RI.don, h12])), (fun h => absurd h (by simp [RI.don, h13])), fun _ => rfl, (y11), (fun h => absurd h (by simp [RI.don, h12])), fun h => absurd h (by simp [RI.don, h13])⟩
      · have hd := hd _ rfl
        simp [Region.binds] at hd
        refine RI.wpOp_plain rfl rfl ?_
        have h13 : d 13 = false := by cases h : d 13 with | false => rfl | true => exact absurd (y13 h).2.2.2.1 (by simp [hf])
        have h12 : d 12 = false := by cases h : d 12 with | false => rfl | true => exact absurd (y11 (y12 h).2) (by simp [hf])
        have rv := z9 (by simp [hd]) h13
        go_simp
        refine (KG.out _ _ rv).mono ?_
        rintro e w1 ⟨y, rfl, hy, hb1⟩
        exact ⟨u43, u44, u45, u46, u47, u48, u49, u50, u51, u52, _, u54, u55, rfl, ⟨fun h => (hw.a h).trans (hb1.mono hw.s), fun h => B4_gb (r := none) (hw.v h) (gb_below hb1) (fun e => by cases e), hw.b.trans (hb1.mono (Nat.le_trans HGL.out hw.s)), Nat.le_trans hw.s hb1.size⟩, p0, p1, p2, p3, p4, p5, p7, p8, (fun h => (z6 h).imp fun a ha => ha.imp fun c hc => ⟨hc.1, Bs_below hc.2 hb1⟩), (fun h k => Rv_below (z9 h k) hb1), fun _ => ⟨y, rfl, Nv_mono hy (fun k h _ => Nat.le_trans hw.s h)⟩, (fun h => (z11 h).imp fun a ha => ha.imp fun c hc => hc.imp fun y hy => ⟨hy.1, Ks_below hy.2.1 hb1, Nv_below hy.2.2 hb1⟩), (fun h => absurd h (by simp [RI.don, h12])), (fun h => absurd h (by simp [RI.don, h13])), fun _ => by simp [RI.don, hd], fun _ => rfl, (fun h => absurd h (by simp [RI.don, h12])), fun h => absurd h (by simp [RI.don, h13])⟩
      · have hd := hd _ rfl
        simp [Region.binds] at hd
        refine RI.wpOp_plain rfl rfl ?_
        have h13 : d 13 = false := by cases h : d 13 with | false => rfl | true => exact absurd (y13 h).2.2.2.2 (by simp [hf])
        have h12 : d 12 = false := by cases h : d 12 with | false => rfl | true => exact absurd (y12 h).2 (by simp [hf])
        obtain ⟨y, rfl, hy⟩ := z10 (by simp [hd])
        obtain ⟨yk, b1, m1, e1, b2, m2, e2, b3, m3, e3, rfl⟩ := Nv_form hy
        dsimp only [v4]
        have hb1 : Below wx.heap.size wx (wx.alloc (.cells #[.int .i64 yk, .slice b1 m1 e1, .slice b2 m2 e2, .slice b3 m3 e3] 32)) := (Below.refl _ _).alloc (Nat.le_refl _) _
        go_simp
        exact ⟨u43, u44, u45, u46, u47, u48, u49, u50, u51, u52, _, _, u55, rfl, ⟨fun h => (hw.a h).trans (hb1.mono hw.s), fun h => B4_gb (r := none) (hw.v h) (gb_below hb1) (fun e => by cases e), hw.b.trans (hb1.mono (Nat.le_trans HGL.out hw.s)), Nat.le_trans hw.s hb1.size⟩, p0, p1, p2, p3, p4, p5, p7, p8, (fun h => (z6 h).imp fun a ha => ha.imp fun c hc => ⟨hc.1, Bs_below hc.2 hb1⟩), (fun h k => Rv_below (z9 h k) hb1), (fun h => (z10 h).imp fun y hy => ⟨hy.1, Nv_below hy.2 hb1⟩), fun _ => ⟨_, _, _, rfl, ks_lit hw.s, Nv_below hy hb1⟩, (fun h => absurd h (by simp [RI.don, h12])), (fun h => absurd h (by simp [RI.don, h13])), (y10), fun _ => by simp [RI.don, hd], (fun h => absurd h (by simp [RI.don, h12])), fun h => absurd h (by simp [RI.don, h13])⟩
      · have hd := hd _ rfl
        simp [Region.binds] at hd
        refine RI.wpOp_plain rfl rfl ?_
        obtain ⟨qa, qc, rfl, hb6⟩ := z6 (by simp [hd])
        obtain ⟨ra, rc, y, rfl, hk11, hn11⟩ := z11 (by simp [hd])
        go_simp
        exact ⟨u43, u44, u45, u46, u47, u48, _, u50, u51, u52, u53, _, _, rfl, hw, p0, p1, p2, p3, p4, p5, p7, p8, z6, z9, z10, z11, fun _ => ⟨_, _, _, _, _, rfl, hb6, hk11, hn11⟩, z13, y10, y11, fun _ => ⟨by simp [RI.don, hd], by simp [RI.don, hd]⟩, y13⟩
      · have hd := hd _ rfl
        simp [Region.binds] at hd
        obtain rfl := p0 (by simp [hd])
        obtain rfl := p1 (by simp [hd])
        obtain rfl := p2 (by simp [hd])
        obtain rfl := p3 (by simp [hd])
        obtain rfl := p4 (by simp [hd])
        obtain rfl := p5 (by simp [hd])
        obtain rfl := p7 (by simp [hd])
        obtain rfl := p8 (by simp [hd])
        refine RI.wpOp_plain rfl rfl ?_
        obtain ⟨qa, qc, ra, rc, y, rfl, hb6, hk11, hn11⟩ := z12 (by simp [hd])
        refine wp_st4 rfl rfl rfl (hw.v hf) ?_
        intro w1 gb1 s0 s1 s2 s3
        have NE : ∀ k, W0.heap.size ≤ k → some k ≠ some g2 := fun k hk e => by injection e with e; have := HG2.out; omega
        simp only [Act.put]
        exact ⟨_, _, _, _, _, _, u49, _, _, u52, u53, u54, _, rfl, ⟨nofun, nofun, hw.b.grown gb1 (Nat.le_trans HGL.out hw.s) (fun k e => by injection e with e; have := HG2B.out; omega), Nat.le_trans hw.s gb1.size⟩, p0, p1, p2, p3, p4, p5, p7, p8, fun h => (z6 h).imp fun a ha => ha.imp fun c hc => ⟨hc.1, Bs_gb hc.2 gb1 NE⟩, (fun _ h => nomatch h), fun h => (z10 h).imp fun y hy => ⟨hy.1, Nv_gb hy.2 gb1 NE⟩, fun h => (z11 h).imp fun a ha => ha.imp fun c hc => hc.imp fun y hy => ⟨hy.1, Ks_gb hy.2.1 gb1 NE, Nv_gb hy.2.2 gb1 NE⟩, fun _ => ⟨_, _, _, _, _, rfl, Bs_gb hb6 gb1 NE, Ks_gb hk11 gb1 NE, Nv_gb hn11 gb1 NE⟩, fun _ => ⟨_, _, _, _, _, s0, s1, s2, s3, Bs_gb hb6 gb1 NE, Ks_gb hk11 gb1 NE, Nv_gb hn11 gb1 NE⟩, y10, y11, y12, fun _ => ⟨by simp [RI.don, hd], by simp [RI.don, hd], by simp [RI.don, hd], by simp [RI.don, hd], by simp [RI.don, hd]⟩⟩
    · skip
      intro d x wx hI hd
      obtain ⟨u43, u44, u45, u46, u47, u48, u49, u50, u51, u52, u53, u54, u55, rfl, hw, p0, p1, p2, p3, p4, p5, p7, p8, z6, z9, z10, z11, z12, z13, y10, y11, y12, y13⟩ := hI
      obtain ⟨a1, c1, a3, c3, y, s0, s1, s2, s3, t1, t2, t3⟩ := z13 (hd 13 (by decide))
      have HB : Hid (Below w.heap.size w wx) := hw.b
      have N : Hid (Nv (w.heap.size ≤ ·) wx (.mk 2 pp [] [T]) (.int .i64 2, .slice a1 pp.length c1, .slice none 0 0, .slice a3 1 c3)) := .mk 2 _ [] [T] _ _ _ [y] (Bs_mono t1 (fun k h _ => Nat.le_trans HGL.out h)) (Bs_nil _ _) rfl (Ks_mono t2 (fun k h _ => Nat.le_trans HGL.out h)) (fun j hj => by
        have e : j = 0 := by simpa using hj
        subst e
        exact Nv_mono t3 (fun k h _ => Nat.le_trans HGL.out h))
      clear p0 p1 p2 p3 p4 p5 p7 p8 z6 z9 z10 z11 z12 z13 y10 y11 y12 y13 hw t1 t2 t3
      generalize pp.length = np at *
      go_wp2_with fail
      exact bodyPost_ret (v := .agg #[.int .i64 2, .slice a1 np c1, .slice none 0 0, .slice a3 1 c3]) (resN _ _ _ g2 2 _ _ _ _ rfl rfl s0 s1 s2 s3) rfl (by first | exact ⟨(.int .i64 2, .slice a1 np c1, .slice none 0 0, .slice a3 1 c3), rfl, by first | exact N.out | (rw [E2.out]; exact N.out), by first | exact HB.out | (rw [E2.out]; exact HB.out)⟩ | exact ⟨.int .i64 2, .slice a1 np c1, .slice none 0 0, .slice a3 1 c3, rfl, by first | exact N.out | (rw [E2.out]; exact N.out), by first | exact HB.out | (rw [E2.out]; exact HB.out)⟩)
end Tr
end Go.Proofs.YtefgamhnikeekaaDoor
namespace Go.Proofs.YtefgamhnikeekaaDoor
namespace Tr
open Nb Go.RowKit
theorem wpl_app {P : Program} {ops : Array Oper} {rest : List Oper} {o : Oper} {a : Act} {Q : Exit → Act → World → Prop} {s x : Operand} {t : TypeId} {v v2 v' : Value} {w w' : World} (hgd : o.guard = none) (ho : o.op = .call { callee := .builtin .append, args := #[s, x], argTypes := #[t, t] }) (hs : a.eval s = v) (hx : a.eval x = v2)
    (hr : (Builtin.append_ #[t, t] o.type #[v, v2]).run P w = .ok v' w') (h : wpList P ops Q rest (a.put o.dst v') w') : wpList P ops Q (o :: rest) a w := by
  refine wpList_plain hgd fun _ hK => ?_
  unfold Oper.wp execOp
  simp only [ho, resolve, invoke, builtin, Sem.run_bind, Sem.run_pure, Result.andThen_ok, List.map_toArray, List.map_cons, List.map_nil, hs, hx, hr]
  exact hK _ _ h
theorem wp_st4o {op : Oper} {a : Act} {w : World} {K : Act → World → Prop} {Q : Exit → Act → World → Prop} {x y : Operand} {G o : Nat} {k : Int} {a1 a2 a3 : Option Addr} {n1 c1 n2 c2 n3 c3 : Nat} (ho : op.op = .store 32 x y)
    (hx : a.eval x = .pointer (some ⟨G, o, none⟩)) (hy : a.eval y = .agg #[.int .i64 k, .slice a1 n1 c1, .slice a2 n2 c2, .slice a3 n3 c3]) (ht : w.there G o 4)
    (h : ∀ w', w.grownBy w' (some G) → w'.cell? ⟨G, o, none⟩ = some (.int .i64 k) → w'.cell? ⟨G, o + 1, none⟩ = some (.slice a1 n1 c1) → w'.cell? ⟨G, o + 2, none⟩ = some (.slice a2 n2 c2) → w'.cell? ⟨G, o + 3, none⟩ = some (.slice a3 n3 c3) → (∀ z, z < o ∨ o + 4 ≤ z → w'.cell? ⟨G, z, none⟩ = w.cell? ⟨G, z, none⟩) → (∀ z, w'.frozen? ⟨G, z, none⟩ = w.frozen? ⟨G, z, none⟩) → K (a.put op.dst undef) w') : op.wp Tryd.prog a w K Q := by
  have hs := World.rangeAt_setCells_same w G o [.int .i64 k, .slice a1 n1 c1, .slice a2 n2 c2, .slice a3 n3 c3] ht
  refine wp_store_mid 32 x y ho G o #[.int .i64 k, .slice a1 n1 c1, .slice a2 n2 c2, .slice a3 n3 c3] hx hy ht infoNd (all_oneCell_toArray (cs := [.int .i64 k, .slice a1 n1 c1, .slice a2 n2 c2, .slice a3 n3 c3]) (fun v hv => by simp only [List.mem_cons, List.not_mem_nil, or_false] at hv; rcases hv with rfl | rfl | rfl | rfl <;> rfl)) ?_
  refine h _ (gb_sets G _ o w) (hs 0 _ rfl) (hs 1 _ rfl) (hs 2 _ rfl) (hs 3 _ rfl) (fun z hz => ?_) (fun z => by rw [World.frozen?_setCells])
  refine World.cell?_setCells_out G _ o w ⟨G, z, none⟩ (fun _ _ => ?_)
  rcases hz with hz | hz
  · left; exact hz
  · right; exact hz
theorem wpList_st4 {ops : Array Oper} {rest : List Oper} {op : Oper} {a : Act} {w : World} {Q : Exit → Act → World → Prop} {x y : Operand} {G : Nat} {k : Int} {a1 a2 a3 : Option Addr} {n1 c1 n2 c2 n3 c3 : Nat} (hgd : op.guard = none) (ho : op.op = .store 32 x y)
    (hx : a.eval x = .pointer (some ⟨G, 0, none⟩)) (hy : a.eval y = .agg #[.int .i64 k, .slice a1 n1 c1, .slice a2 n2 c2, .slice a3 n3 c3]) (hB : B4 G w)
    (h : ∀ w', w.grownBy w' (some G) → w'.cell? ⟨G, 0, none⟩ = some (.int .i64 k) → w'.cell? ⟨G, 1, none⟩ = some (.slice a1 n1 c1) → w'.cell? ⟨G, 2, none⟩ = some (.slice a2 n2 c2) → w'.cell? ⟨G, 3, none⟩ = some (.slice a3 n3 c3) → wpList Tryd.prog ops Q rest (a.put op.dst undef) w') : wpList Tryd.prog ops Q (op :: rest) a w :=
  wpList_plain hgd fun _ hK => wp_st4 ho hx hy hB (fun w' h1 h2 h3 h4 h5 => hK _ _ (h w' h1 h2 h3 h4 h5))
def F4 (g4 gk : Nat) (vv : Value) (w : World) : Prop := g4 < w.heap.size ∧ w.cell? ⟨g4, 0, none⟩ = some (.int .i64 3) ∧ w.cell? ⟨g4, 1, none⟩ = some (.slice none 0 0) ∧ w.cell? ⟨g4, 2, none⟩ = some vv ∧ w.cell? ⟨g4, 3, none⟩ = some (.slice (some ⟨gk, 0, none⟩) 16 16) ∧ ∀ o, w.frozen? ⟨g4, o, none⟩ = false
theorem F4_gb {g4 gk : Nat} {vv : Value} {w w' : World} {r : Option Nat} (h : F4 g4 gk vv w) (hb : w.grownBy w' r) (hr : some g4 ≠ r) : F4 g4 gk vv w' := by
  obtain ⟨h1, h2, h3, h4, h5, h6⟩ := h
  have hbk : w'.heap[g4]? = w.heap[g4]? := hb.block g4 h1 hr
  exact ⟨Nat.lt_of_lt_of_le h1 hb.size, (World.cell?_of_block (a := ⟨g4, 0, none⟩) hbk).trans h2, (World.cell?_of_block (a := ⟨g4, 1, none⟩) hbk).trans h3, (World.cell?_of_block (a := ⟨g4, 2, none⟩) hbk).trans h4, (World.cell?_of_block (a := ⟨g4, 3, none⟩) hbk).trans h5, fun o => (World.frozen?_of_block (a := ⟨g4, o, none⟩) hbk).trans (h6 o)⟩
theorem there_gb {g o n : Nat} {w w' : World} {r : Option Nat} (h : w.there g o n) (hg : g < w.heap.size) (hb : w.grownBy w' r) (hr : some g ≠ r) : w'.there g o n := fun j hj => by
  have hbk : w'.heap[g]? = w.heap[g]? := hb.block g hg hr
  exact ⟨by rw [World.cell?_of_block (a := ⟨g, o + j, none⟩) hbk]; exact (h j hj).1, by rw [World.frozen?_of_block (a := ⟨g, o + j, none⟩) hbk]; exact (h j hj).2⟩
structure KB (B gk : Nat) (T : Nat → Nd) (i : Nat) (w : World) : Prop where
  hi : gk < w.heap.size
  t : w.there gk 0 64
  k : ∃ Y : Nat → V4, ∀ j, j < i → (w.cell? ⟨gk, 4 * j, none⟩ = some (Y j).1 ∧ w.cell? ⟨gk, 4 * j + 1, none⟩ = some (Y j).2.1 ∧ w.cell? ⟨gk, 4 * j + 2, none⟩ = some (Y j).2.2.1 ∧ w.cell? ⟨gk, 4 * j + 3, none⟩ = some (Y j).2.2.2) ∧ Nv (B ≤ ·) w (T j) (Y j)
theorem KB_gb {B gk : Nat} {T : Nat → Nd} {i : Nat} {w w' : World} {r : Option Nat} (h : KB B gk T i w) (hb : w.grownBy w' r) (hr : some gk ≠ r) (hB : ∀ k, B ≤ k → some k ≠ r) : KB B gk T i w' := by
  obtain ⟨Y, hY⟩ := h.k
  have hbk : w'.heap[gk]? = w.heap[gk]? := hb.block gk h.hi hr
  refine ⟨Nat.lt_of_lt_of_le h.hi hb.size, there_gb h.t h.hi hb hr, Y, fun j hj => ?_⟩
  obtain ⟨⟨c0, c1, c2, c3⟩, hn⟩ := hY j hj
  exact ⟨⟨(World.cell?_of_block (a := ⟨gk, 4 * j, none⟩) hbk).trans c0, (World.cell?_of_block (a := ⟨gk, 4 * j + 1, none⟩) hbk).trans c1, (World.cell?_of_block (a := ⟨gk, 4 * j + 2, none⟩) hbk).trans c2, (World.cell?_of_block (a := ⟨gk, 4 * j + 3, none⟩) hbk).trans c3⟩, Nv_gb hn hb hB⟩
structure GO (w : World) (B g2 g4 gk : Nat) (bv : By) (vv : Value) (T : Nat → Nd) (i : Nat) (wr : World) : Prop where
  b : Below w.heap.size w wr
  s : B ≤ wr.heap.size
  v : B4 g2 wr
  f : F4 g4 gk vv wr
  k : KB B gk T i wr
  u : Bs (B ≤ ·) bv vv wr
theorem GO_below {w : World} {B g2 g4 gk : Nat} {v : By} {vv : Value} {T : Nat → Nd} {i : Nat} {wr w' : World} (h : GO w B g2 g4 gk v vv T i wr) (hb : Below wr.heap.size wr w') : GO w B g2 g4 gk v vv T i w' :=
  ⟨h.b.trans (hb.mono h.b.size), Nat.le_trans h.s hb.size, B4_gb (r := none) h.v (gb_below hb) (fun e => by cases e), F4_gb (r := none) h.f (gb_below hb) (fun e => by cases e), KB_gb (r := none) h.k (gb_below hb) (fun e => by cases e) (fun k _ e => by cases e), Bs_below h.u hb⟩
theorem GO_step {w : World} {B g2 g4 gk : Nat} {v : By} {vv : Value} {T : Nat → Nd} {i : Nat} {wr w' : World} {y : V4} (h : GO w B g2 g4 gk v vv T i wr) (hi : i < 16) (h2 : g2 ≠ gk) (h4 : g4 ≠ gk) (hk : w.heap.size ≤ gk) (hkB : gk < B) (hy : Nv (B ≤ ·) wr (T i) y) (hb : wr.grownBy w' (some gk))
    (c0 : w'.cell? ⟨gk, i * 4, none⟩ = some y.1) (c1 : w'.cell? ⟨gk, i * 4 + 1, none⟩ = some y.2.1) (c2 : w'.cell? ⟨gk, i * 4 + 2, none⟩ = some y.2.2.1) (c3 : w'.cell? ⟨gk, i * 4 + 3, none⟩ = some y.2.2.2) (co : ∀ z, z < i * 4 ∨ i * 4 + 4 ≤ z → w'.cell? ⟨gk, z, none⟩ = wr.cell? ⟨gk, z, none⟩) (cf : ∀ z, w'.frozen? ⟨gk, z, none⟩ = wr.frozen? ⟨gk, z, none⟩) : GO w B g2 g4 gk v vv T (i + 1) w' := by
  have NE : ∀ k, B ≤ k → some k ≠ some gk := fun k hk e => by injection e with e; omega
  refine ⟨h.b.grown hb h.b.size (fun k e => by injection e with e; omega), Nat.le_trans h.s hb.size, B4_gb h.v hb (fun e => by injection e with e; exact h2 e), F4_gb h.f hb (fun e => by injection e with e; exact h4 e), ⟨Nat.lt_of_lt_of_le h.k.hi hb.size, fun j hj => ⟨?_, ?_⟩, ?_⟩, Bs_gb h.u hb NE⟩
  · rw [Nat.zero_add]
    by_cases e : j < i * 4 ∨ i * 4 + 4 ≤ j
    · rw [co j e]; have := (h.k.t j hj).1; rwa [Nat.zero_add] at this
    · have : j = i * 4 ∨ j = i * 4 + 1 ∨ j = i * 4 + 2 ∨ j = i * 4 + 3 := by omega
      rcases this with rfl | rfl | rfl | rfl
      · rw [c0]; rfl
      · rw [c1]; rfl
      · rw [c2]; rfl
      · rw [c3]; rfl
  · rw [Nat.zero_add, cf]; have := (h.k.t j hj).2; rwa [Nat.zero_add] at this
  · obtain ⟨Y, hY⟩ := h.k.k
    refine ⟨fun j => if j = i then y else Y j, fun j hj => ?_⟩
    by_cases e : j = i
    · subst e
      simp only [if_true]
      rw [Nat.mul_comm 4 j]
      exact ⟨⟨c0, c1, c2, c3⟩, Nv_gb hy hb NE⟩
    · simp only [if_neg e]
      obtain ⟨⟨d0, d1, d2, d3⟩, hn⟩ := hY j (by omega)
      exact ⟨⟨(co _ (by omega)).trans d0, (co _ (by omega)).trans d1, (co _ (by omega)).trans d2, (co _ (by omega)).trans d3⟩, Nv_gb hn hb NE⟩
theorem GO_end {w : World} {B g2 g4 gk : Nat} {v : By} {vv : Value} {T : Nat → Nd} {wr : World} {S : Nat → Prop} (h : GO w B g2 g4 gk v vv T 16 wr) (hB : ∀ k, B ≤ k → S k) (hk : S gk) : Nv S wr (.mk 3 [] v ((List.range 16).map T)) (.int .i64 3, .slice none 0 0, vv, .slice (some ⟨gk, 0, none⟩) 16 16) := by
  obtain ⟨Y, hY⟩ := h.k.k
  refine .mk 3 [] v _ _ _ _ ((List.range 16).map Y) (Bs_nil _ _) (Bs_mono h.u (fun k hk _ => hB k hk)) (by simp) ⟨_, _, rfl, by simp, fun _ => ⟨gk, 0, rfl, hk, h.k.hi, fun j hj => ?_⟩⟩ (fun j hj => ?_)
  · have hj16 : j < 16 := by simpa using hj
    rw [getD_range Y 16 j n4 hj16, Nat.zero_add]
    exact (hY j hj16).1
  · have hj16 : j < 16 := by simpa using hj
    rw [getD_range Y 16 j n4 hj16, getD_range T 16 j Nd.no hj16]
    exact Nv_mono (hY j hj16).2 (fun k hk _ => hB k hk)
theorem F4_set {g4 gk : Nat} {vv : Value} {w : World} (h : F4 g4 gk vv w) (x : Value) : F4 g4 gk x (w.setCell ⟨g4, 2, none⟩ x) := by
  obtain ⟨h1, h2, h3, h4, h5, h6⟩ := h
  have ne : ∀ o, o ≠ 2 → (⟨g4, 2, none⟩ : Addr) ≠ ⟨g4, o, none⟩ := fun o ho e => by injection e with _ e; exact ho e.symm
  refine ⟨by rw [World.setCell]; simpa using h1, ?_, ?_, ?_, ?_, fun o => ?_⟩
  · rw [World.cell?_setCell_other _ _ _ _ (ne 0 (by decide))]; exact h2
  · rw [World.cell?_setCell_other _ _ _ _ (ne 1 (by decide))]; exact h3
  · rw [World.cell?_setCell_same _ _ _ h4]
  · rw [World.cell?_setCell_other _ _ _ _ (ne 3 (by decide))]; exact h5
  · have := World.frozen?_setCells g4 [x] 2 w ⟨g4, o, none⟩
    rw [← h6 o, ← this]
    rfl
theorem prt_take (i : Nat) (M : Rt) (k : Nat) (h : k < M.length) : prt i (M.take (k + 1)) = prt i (M.take k) ++ (if ((M.getD k n2).1.headD 0).toNat = i then [M.getD k n2] else []) := by
  unfold prt
  rw [List.take_add_one, List.filter_append, List.getD_eq_getElem?_getD, List.getElem?_eq_getElem h]
  congr 1
  simp only [Option.toList_some, Option.getD_some, List.filter_cons, List.filter_nil, beq_iff_eq]
theorem infoNd2 : (Tryd.prog.info? 32).map (fun i => (i.zero, i.size, i.bytes)) = some (some (.agg #[.int .i64 0, .slice none 0 0, .slice none 0 0, .slice none 0 0]), 4, 80) := by kernel_rfl
theorem made16 (w : World) : ∃ w', (Instr.makeSlice 30 (.int .i64 16) (.int .i64 16)).run Tryd.prog w = .ok (.slice (some ⟨w.heap.size, 0, none⟩) 16 16) w' ∧ w'.heap.size = w.heap.size + 1 ∧ w'.there w.heap.size 0 64 ∧ Below w.heap.size w w' := by
  obtain ⟨i0, hi, hz0, hz1, hz2⟩ := info_parts infoNd2
  have hr := run_make (P := Tryd.prog) w 30 32 i0 _ Tryd.underlying30 hi hz0 .i64 .i64 16 16 (by omega) (Int.le_refl _) (by rw [hz2]; decide) (by decide)
  refine ⟨_, hr, by simp, fun j hj => ?_, (Below.refl _ _).alloc (Nat.le_refl _) _⟩
  have hn := heap_alloc_new w (.cells (madeCells (Value.agg #[.int .i64 0, .slice none 0 0, .slice none 0 0, .slice none 0 0]).cells ((16 : Int).toNat * i0.size)) 32)
  have hs : j < (madeCells (Value.agg #[.int .i64 0, .slice none 0 0, .slice none 0 0, .slice none 0 0]).cells ((16 : Int).toNat * i0.size)).size := by rw [size_madeCells, hz1]; exact hj
  constructor
  · simp only [World.cell?, hn, Nat.zero_add]
    simp
    exact hs
  · simp only [World.frozen?, hn]
    simp
end Tr
end Go.Proofs.YtefgamhnikeekaaDoor
