import Derived.Test.YtefgamhnikeekaaDoorPackI
import Derived.Test.YtefgamhnikeekaaDoorPackD
import Derived.Test.YtefgamhnikeekaaDoorPackG
import Derived.Test.YtefgamhnikeekaaDoorPackC
import Derived.Test.YtefgamhnikeekaaDoorPackH
import Derived.Test.YtefgamhnikeekaaDoorPackA
import Derived.Test.YtefgamhnikeekaaDoorPackF
import Derived.Deep.MidRow
namespace Go.Proofs.YtefgamhnikeekaaDoor
namespace Rs
open Nb Sp Pk Go.RowKit
set_option maxHeartbeats 4000000 in
set_option maxRecDepth 100000 in
theorem io_none (a1 a2 a3 : Option Addr) (n c1 n2 c2 n3 c3 : Nat) (w : World) :
    Calls Tryd.prog 26 #[.agg #[.int .i64 0, .slice a1 n c1, .slice a2 n2 c2, .slice a3 n3 c3]] w fun e w' => ∃ v, e = .returned (v3 v) ∧ Iv (fun _ => True) w' (.mk false [] []) v ∧ Below w.heap.size w w' ∧ Fm v := by
  have l0 : Below w.heap.size w ((w.alloc (.cells #[.int .i64 0, .slice a1 n c1, .slice a2 n2 c2, .slice a3 n3 c3] 25)).alloc (.cells #[.bool false, .slice none 0 0, .slice none 0 0] 44)) := ((Below.refl _ _).alloc (Nat.le_refl _) _).alloc (by simp) _
  have hs1 : (w.alloc (.cells #[.int .i64 0, .slice a1 n c1, .slice a2 n2 c2, .slice a3 n3 c3] 25)).heap.size = w.heap.size + 1 := by simp
  have x0 : B3 (w.heap.size + 1) ((w.alloc (.cells #[.int .i64 0, .slice a1 n c1, .slice a2 n2 c2, .slice a3 n3 c3] 25)).alloc (.cells #[.bool false, .slice none 0 0, .slice none 0 0] 44)) := hs1 ▸ B3_new (w.alloc (.cells #[.int .i64 0, .slice a1 n c1, .slice a2 n2 c2, .slice a3 n3 c3] 25))
  have nb0 : NB (w.heap.size + 1) ((w.alloc (.cells #[.int .i64 0, .slice a1 n c1, .slice a2 n2 c2, .slice a3 n3 c3] 25)).alloc (.cells #[.bool false, .slice none 0 0, .slice none 0 0] 44)) := hs1 ▸ NB_new (w.alloc (.cells #[.int .i64 0, .slice a1 n c1, .slice a2 n2 c2, .slice a3 n3 c3] 25))
  have HA := heap_alloc_new w (.cells #[.int .i64 0, .slice a1 n c1, .slice a2 n2 c2, .slice a3 n3 c3] 25)
  have bB : Below (w.heap.size + 1) (w.alloc (.cells #[.int .i64 0, .slice a1 n c1, .slice a2 n2 c2, .slice a3 n3 c3] 25)) ((w.alloc (.cells #[.int .i64 0, .slice a1 n c1, .slice a2 n2 c2, .slice a3 n3 c3] 25)).alloc (.cells #[.bool false, .slice none 0 0, .slice none 0 0] 44)) := (Below.refl _ _).alloc (by omega) _
  have q0 : ((w.alloc (.cells #[.int .i64 0, .slice a1 n c1, .slice a2 n2 c2, .slice a3 n3 c3] 25)).alloc (.cells #[.bool false, .slice none 0 0, .slice none 0 0] 44)).cell? ⟨w.heap.size, 0, none⟩ = some (.int .i64 0) := (bB.cell (p := ⟨w.heap.size, 0, none⟩) (by show w.heap.size < _; omega)).trans (by simp only [World.cell?, HA]; rfl)
  have q1 : ((w.alloc (.cells #[.int .i64 0, .slice a1 n c1, .slice a2 n2 c2, .slice a3 n3 c3] 25)).alloc (.cells #[.bool false, .slice none 0 0, .slice none 0 0] 44)).cell? ⟨w.heap.size, 1, none⟩ = some (.slice a1 n c1) := (bB.cell (p := ⟨w.heap.size, 1, none⟩) (by show w.heap.size < _; omega)).trans (by simp only [World.cell?, HA]; rfl)
  have q2 : ((w.alloc (.cells #[.int .i64 0, .slice a1 n c1, .slice a2 n2 c2, .slice a3 n3 c3] 25)).alloc (.cells #[.bool false, .slice none 0 0, .slice none 0 0] 44)).cell? ⟨w.heap.size, 2, none⟩ = some (.slice a2 n2 c2) := (bB.cell (p := ⟨w.heap.size, 2, none⟩) (by show w.heap.size < _; omega)).trans (by simp only [World.cell?, HA]; rfl)
  have q3 : ((w.alloc (.cells #[.int .i64 0, .slice a1 n c1, .slice a2 n2 c2, .slice a3 n3 c3] 25)).alloc (.cells #[.bool false, .slice none 0 0, .slice none 0 0] 44)).cell? ⟨w.heap.size, 3, none⟩ = some (.slice a3 n3 c3) := (bB.cell (p := ⟨w.heap.size, 3, none⟩) (by show w.heap.size < _; omega)).trans (by simp only [World.cell?, HA]; rfl)
  have hsz : ((w.alloc (.cells #[.int .i64 0, .slice a1 n c1, .slice a2 n2 c2, .slice a3 n3 c3] 25)).alloc (.cells #[.bool false, .slice none 0 0, .slice none 0 0] 44)).heap.size = w.heap.size + 2 := by simp
  clear HA bB hs1
  go_enter Tryd.func26, Tryd.ntmps26
  go_upto_region 1 with fail
  generalize ((w.alloc (.cells #[.int .i64 0, .slice a1 n c1, .slice a2 n2 c2, .slice a3 n3 c3] 25)).alloc (.cells #[.bool false, .slice none 0 0, .slice none 0 0] 44)) = W0 at *
  obtain ⟨h, eh⟩ : ∃ h, h = w.heap.size := ⟨_, rfl⟩
  have EH : Hid (h = w.heap.size) := eh
  have L0 : Hid (Below w.heap.size w W0) := l0
  have X0 : Hid (B3 (h + 1) W0) := eh ▸ x0
  have NB0 : Hid (NB (h + 1) W0) := eh ▸ nb0
  have HSZ : Hid (W0.heap.size = h + 2) := by show _ = _; rw [eh]; exact hsz
  rw [← eh] at q0 q1 q2 q3 ⊢
  clear eh l0 x0 nb0 hsz
  have x5 := X0.out
  have l5 := L0.out
  go_upto_region 8 with fail
  go_wp2_with (refine wpList_st3b rfl rfl rfl rfl x5 ?_)
  intro w6 g6 b6 z0 z1 z2
  have l6 : Hid (Below w.heap.size w w6) := l5.trans ⟨g6.os, g6.tape, g6.output, g6.size, fun j hj => g6.block j (by have := l5.size; omega) (fun e => by injection e with e; have := EH.out; omega)⟩
  have IV6 : Hid (Iv (fun _ => True) w6 (.mk false [] []) (.bool false, .slice none 0 0, .slice none 0 0)) := .mk _ _ _ _ _ [] (Ty_nil _ _) rfl (Kx_nil _ _) (fun j hj => absurd hj (by simp))
  clear g6 b6 l5 x5
  go_wp2_with fail
  exact bodyPost_ret (resI _ _ _ (h + 1) 2 _ _ _ rfl rfl z0 z1 z2) rfl ⟨(.bool false, .slice none 0 0, .slice none 0 0), rfl, IV6.out, l6.out, ⟨_, _, _, _, _, _, _, rfl⟩⟩
set_option maxHeartbeats 4000000 in
set_option maxRecDepth 100000 in
theorem io_fork (a1 a2 a3 : Option Addr) (n c1 n2 c2 n3 c3 : Nat) (w : World) (KO : Hid (∀ (l : List (List UInt8)) (a : Option Addr) (m c : Nat) (wx : World), m = l.length → m ≤ 1048576 → Ls l (.slice a m c) wx → Calls Tryd.prog 44 #[.slice a m c] wx fun e w' => ∃ v, e = .returned (v3 v) ∧ (∀ G, NB G wx → Iv (· ≠ G) w' (.mk true [] (l.map fun b => .mk false b [])) v) ∧ Below wx.heap.size wx w' ∧ Fm v)) (l : List (List UInt8)) (hz : Hid (l.length ≤ 1048576)) (KF : Hid (∀ wx : World, Below w.heap.size w wx → Calls Tryd.prog 41 #[.agg #[.int .i64 3, .slice a1 n c1, .slice a2 n2 c2, .slice a3 n3 c3]] wx fun e w' => ∃ a m c, e = .returned (.slice a m c) ∧ m = l.length ∧ Ls l (.slice a m c) w' ∧ Below wx.heap.size wx w')) :
    Calls Tryd.prog 26 #[.agg #[.int .i64 3, .slice a1 n c1, .slice a2 n2 c2, .slice a3 n3 c3]] w fun e w' => ∃ v, e = .returned (v3 v) ∧ Iv (fun _ => True) w' (.mk true [] (l.map fun b => .mk false b [])) v ∧ Below w.heap.size w w' ∧ Fm v := by
  have l0 : Below w.heap.size w ((w.alloc (.cells #[.int .i64 3, .slice a1 n c1, .slice a2 n2 c2, .slice a3 n3 c3] 25)).alloc (.cells #[.bool false, .slice none 0 0, .slice none 0 0] 44)) := ((Below.refl _ _).alloc (Nat.le_refl _) _).alloc (by simp) _
  have hs1 : (w.alloc (.cells #[.int .i64 3, .slice a1 n c1, .slice a2 n2 c2, .slice a3 n3 c3] 25)).heap.size = w.heap.size + 1 := by simp
  have x0 : B3 (w.heap.size + 1) ((w.alloc (.cells #[.int .i64 3, .slice a1 n c1, .slice a2 n2 c2, .slice a3 n3 c3] 25)).alloc (.cells #[.bool false, .slice none 0 0, .slice none 0 0] 44)) := hs1 ▸ B3_new (w.alloc (.cells #[.int .i64 3, .slice a1 n c1, .slice a2 n2 c2, .slice a3 n3 c3] 25))
  have nb0 : NB (w.heap.size + 1) ((w.alloc (.cells #[.int .i64 3, .slice a1 n c1, .slice a2 n2 c2, .slice a3 n3 c3] 25)).alloc (.cells #[.bool false, .slice none 0 0, .slice none 0 0] 44)) := hs1 ▸ NB_new (w.alloc (.cells #[.int .i64 3, .slice a1 n c1, .slice a2 n2 c2, .slice a3 n3 c3] 25))
  have HA := heap_alloc_new w (.cells #[.int .i64 3, .slice a1 n c1, .slice a2 n2 c2, .slice a3 n3 c3] 25)
  have bB : Below (w.heap.size + 1) (w.alloc (.cells #[.int .i64 3, .slice a1 n c1, .slice a2 n2 c2, .slice a3 n3 c3] 25)) ((w.alloc (.cells #[.int .i64 3, .slice a1 n c1, .slice a2 n2 c2, .slice a3 n3 c3] 25)).alloc (.cells #[.bool false, .slice none 0 0, .slice none 0 0] 44)) := (Below.refl _ _).alloc (by omega) _
  have q0 : ((w.alloc (.cells #[.int .i64 3, .slice a1 n c1, .slice a2 n2 c2, .slice a3 n3 c3] 25)).alloc (.cells #[.bool false, .slice none 0 0, .slice none 0 0] 44)).cell? ⟨w.heap.size, 0, none⟩ = some (.int .i64 3) := (bB.cell (p := ⟨w.heap.size, 0, none⟩) (by show w.heap.size < _; omega)).trans (by simp only [World.cell?, HA]; rfl)
  have q1 : ((w.alloc (.cells #[.int .i64 3, .slice a1 n c1, .slice a2 n2 c2, .slice a3 n3 c3] 25)).alloc (.cells #[.bool false, .slice none 0 0, .slice none 0 0] 44)).cell? ⟨w.heap.size, 1, none⟩ = some (.slice a1 n c1) := (bB.cell (p := ⟨w.heap.size, 1, none⟩) (by show w.heap.size < _; omega)).trans (by simp only [World.cell?, HA]; rfl)
  have q2 : ((w.alloc (.cells #[.int .i64 3, .slice a1 n c1, .slice a2 n2 c2, .slice a3 n3 c3] 25)).alloc (.cells #[.bool false, .slice none 0 0, .slice none 0 0] 44)).cell? ⟨w.heap.size, 2, none⟩ = some (.slice a2 n2 c2) := (bB.cell (p := ⟨w.heap.size, 2, none⟩) (by show w.heap.size < _; omega)).trans (by simp only [World.cell?, HA]; rfl)
  have q3 : ((w.alloc (.cells #[.int .i64 3, .slice a1 n c1, .slice a2 n2 c2, .slice a3 n3 c3] 25)).alloc (.cells #[.bool false, .slice none 0 0, .slice none 0 0] 44)).cell? ⟨w.heap.size, 3, none⟩ = some (.slice a3 n3 c3) := (bB.cell (p := ⟨w.heap.size, 3, none⟩) (by show w.heap.size < _; omega)).trans (by simp only [World.cell?, HA]; rfl)
  have hsz : ((w.alloc (.cells #[.int .i64 3, .slice a1 n c1, .slice a2 n2 c2, .slice a3 n3 c3] 25)).alloc (.cells #[.bool false, .slice none 0 0, .slice none 0 0] 44)).heap.size = w.heap.size + 2 := by simp
  clear HA bB hs1
  go_enter Tryd.func26, Tryd.ntmps26
  go_upto_region 1 with fail
  generalize ((w.alloc (.cells #[.int .i64 3, .slice a1 n c1, .slice a2 n2 c2, .slice a3 n3 c3] 25)).alloc (.cells #[.bool false, .slice none 0 0, .slice none 0 0] 44)) = W0 at *
  obtain ⟨h, eh⟩ : ∃ h, h = w.heap.size := ⟨_, rfl⟩
  have EH : Hid (h = w.heap.size) := eh
  have L0 : Hid (Below w.heap.size w W0) := l0
  have X0 : Hid (B3 (h + 1) W0) := eh ▸ x0
  have NB0 : Hid (NB (h + 1) W0) := eh ▸ nb0
  have HSZ : Hid (W0.heap.size = h + 2) := by show _ = _; rw [eh]; exact hsz
  rw [← eh] at q0 q1 q2 q3 ⊢
  clear eh l0 x0 nb0 hsz
  have L00 := L0.out
  go_wp2_with fail
  refine (KF.out _ L00).mono (fun e w1 he => ?_)
  obtain ⟨a, m, c, rfl, hm, hl, b1⟩ := he
  have l1 : Below w.heap.size w w1 := L00.trans (b1.mono L00.size)
  have x1 : B3 (h + 1) w1 := B3_gb (r := none) X0.out (gb_below b1) nofun
  have n1 := NB_below NB0.out b1
  have KK : Hid _ := KO.out l a m c w1 hm (by rw [hm]; exact hz.out) hl
  clear b1 KF L00 hl hm q0 q1 q2 q3
  go_wp2_with fail
  refine Calls.mono KK.out (fun e w2 he => ?_)
  obtain ⟨v, rfl, iv, b2, lb, d1, m1, c1, d2, m2, c2, rfl⟩ := he
  have x5 : B3 (h + 1) w2 := B3_gb (r := none) x1 (gb_below b2) nofun
  have l5 : Below w.heap.size w w2 := l1.trans (b2.mono l1.size)
  have IV2 := iv _ n1
  clear iv b2 x1 l1 KK n1
  dsimp only [v3]
  go_wp2_with (refine wpList_st3b rfl rfl rfl rfl x5 ?_)
  intro w6 g6 b6 z0 z1 z2
  have l6 : Hid (Below w.heap.size w w6) := l5.trans ⟨g6.os, g6.tape, g6.output, g6.size, fun j hj => g6.block j (by have := l5.size; omega) (fun e => by injection e with e; have := EH.out; omega)⟩
  have IV6 : Hid (Iv (fun _ => True) w6 (.mk true [] (l.map fun b => .mk false b [])) (.bool lb, .slice d1 m1 c1, .slice d2 m2 c2)) := Iv_mono (Iv_gb IV2 g6 (fun k hk e => by injection e with e; exact hk e)) (fun _ _ _ => trivial)
  clear g6 b6 l5 x5
  go_wp2_with fail
  exact bodyPost_ret (resI _ _ _ (h + 1) 2 _ _ _ rfl rfl z0 z1 z2) rfl ⟨(.bool lb, .slice d1 m1 c1, .slice d2 m2 c2), rfl, IV6.out, l6.out, ⟨_, _, _, _, _, _, _, rfl⟩⟩
theorem ls_two {b c : List UInt8} {u v : Value} {W : World} {T : TypeId} (hb : Sl b u W) (hc : Sl c v W) : Ls [b, c] (.slice (some ⟨W.heap.size, 0, none⟩) 2 2) (W.alloc (.cells #[u, v] T)) := by
  have HA := heap_alloc_new W (.cells #[u, v] T)
  have bA : Below W.heap.size W (W.alloc (.cells #[u, v] T)) := (Below.refl _ _).alloc (Nat.le_refl _) _
  refine ⟨_, 2, rfl, fun _ => ⟨W.heap.size, 0, rfl, by simp, fun i hi => ?_⟩⟩
  have hi2 : i = 0 ∨ i = 1 := by simp at hi; omega
  rcases hi2 with rfl | rfl
  · exact ⟨u, by simp only [World.cell?, HA]; rfl, Sl_below hb bA⟩
  · exact ⟨v, by simp only [World.cell?, HA]; rfl, Sl_below hc bA⟩
set_option maxHeartbeats 4000000 in
set_option maxRecDepth 100000 in
theorem io_leaf (a1 a2 a3 : Option Addr) (n c1 n2 c2 n3 c3 : Nat) (w : World) (KO : Hid (∀ (l : List (List UInt8)) (a : Option Addr) (m c : Nat) (wx : World), m = l.length → m ≤ 1048576 → Ls l (.slice a m c) wx → Calls Tryd.prog 44 #[.slice a m c] wx fun e w' => ∃ v, e = .returned (v3 v) ∧ (∀ G, NB G wx → Iv (· ≠ G) w' (.mk true [] (l.map fun b => .mk false b [])) v) ∧ Below wx.heap.size wx w' ∧ Fm v)) (T u : List UInt8) (KN : Hid (∀ wx : World, Below w.heap.size w wx → Calls Tryd.prog 45 #[.slice a1 n c1, .bool true] wx fun e w' => ∃ v, e = .returned v ∧ Sl T v w' ∧ Below wx.heap.size wx w')) (hu : Hid (∀ W, Below w.heap.size w W → Sl u (.slice a2 n2 c2) W)) :
    Calls Tryd.prog 26 #[.agg #[.int .i64 1, .slice a1 n c1, .slice a2 n2 c2, .slice a3 n3 c3]] w fun e w' => ∃ v, e = .returned (v3 v) ∧ Iv (fun _ => True) w' (.mk true [] [.mk false T [], .mk false u []]) v ∧ Below w.heap.size w w' ∧ Fm v := by
  have l0 : Below w.heap.size w ((w.alloc (.cells #[.int .i64 1, .slice a1 n c1, .slice a2 n2 c2, .slice a3 n3 c3] 25)).alloc (.cells #[.bool false, .slice none 0 0, .slice none 0 0] 44)) := ((Below.refl _ _).alloc (Nat.le_refl _) _).alloc (by simp) _
  have hs1 : (w.alloc (.cells #[.int .i64 1, .slice a1 n c1, .slice a2 n2 c2, .slice a3 n3 c3] 25)).heap.size = w.heap.size + 1 := by simp
  have x0 : B3 (w.heap.size + 1) ((w.alloc (.cells #[.int .i64 1, .slice a1 n c1, .slice a2 n2 c2, .slice a3 n3 c3] 25)).alloc (.cells #[.bool false, .slice none 0 0, .slice none 0 0] 44)) := hs1 ▸ B3_new (w.alloc (.cells #[.int .i64 1, .slice a1 n c1, .slice a2 n2 c2, .slice a3 n3 c3] 25))
  have nb0 : NB (w.heap.size + 1) ((w.alloc (.cells #[.int .i64 1, .slice a1 n c1, .slice a2 n2 c2, .slice a3 n3 c3] 25)).alloc (.cells #[.bool false, .slice none 0 0, .slice none 0 0] 44)) := hs1 ▸ NB_new (w.alloc (.cells #[.int .i64 1, .slice a1 n c1, .slice a2 n2 c2, .slice a3 n3 c3] 25))
  have HA := heap_alloc_new w (.cells #[.int .i64 1, .slice a1 n c1, .slice a2 n2 c2, .slice a3 n3 c3] 25)
  have bB : Below (w.heap.size + 1) (w.alloc (.cells #[.int .i64 1, .slice a1 n c1, .slice a2 n2 c2, .slice a3 n3 c3] 25)) ((w.alloc (.cells #[.int .i64 1, .slice a1 n c1, .slice a2 n2 c2, .slice a3 n3 c3] 25)).alloc (.cells #[.bool false, .slice none 0 0, .slice none 0 0] 44)) := (Below.refl _ _).alloc (by omega) _
  have q0 : ((w.alloc (.cells #[.int .i64 1, .slice a1 n c1, .slice a2 n2 c2, .slice a3 n3 c3] 25)).alloc (.cells #[.bool false, .slice none 0 0, .slice none 0 0] 44)).cell? ⟨w.heap.size, 0, none⟩ = some (.int .i64 1) := (bB.cell (p := ⟨w.heap.size, 0, none⟩) (by show w.heap.size < _; omega)).trans (by simp only [World.cell?, HA]; rfl)
  have q1 : ((w.alloc (.cells #[.int .i64 1, .slice a1 n c1, .slice a2 n2 c2, .slice a3 n3 c3] 25)).alloc (.cells #[.bool false, .slice none 0 0, .slice none 0 0] 44)).cell? ⟨w.heap.size, 1, none⟩ = some (.slice a1 n c1) := (bB.cell (p := ⟨w.heap.size, 1, none⟩) (by show w.heap.size < _; omega)).trans (by simp only [World.cell?, HA]; rfl)
  have q2 : ((w.alloc (.cells #[.int .i64 1, .slice a1 n c1, .slice a2 n2 c2, .slice a3 n3 c3] 25)).alloc (.cells #[.bool false, .slice none 0 0, .slice none 0 0] 44)).cell? ⟨w.heap.size, 2, none⟩ = some (.slice a2 n2 c2) := (bB.cell (p := ⟨w.heap.size, 2, none⟩) (by show w.heap.size < _; omega)).trans (by simp only [World.cell?, HA]; rfl)
  have q3 : ((w.alloc (.cells #[.int .i64 1, .slice a1 n c1, .slice a2 n2 c2, .slice a3 n3 c3] 25)).alloc (.cells #[.bool false, .slice none 0 0, .slice none 0 0] 44)).cell? ⟨w.heap.size, 3, none⟩ = some (.slice a3 n3 c3) := (bB.cell (p := ⟨w.heap.size, 3, none⟩) (by show w.heap.size < _; omega)).trans (by simp only [World.cell?, HA]; rfl)
  have hsz : ((w.alloc (.cells #[.int .i64 1, .slice a1 n c1, .slice a2 n2 c2, .slice a3 n3 c3] 25)).alloc (.cells #[.bool false, .slice none 0 0, .slice none 0 0] 44)).heap.size = w.heap.size + 2 := by simp
  clear HA bB hs1
  go_enter Tryd.func26, Tryd.ntmps26
  go_upto_region 1 with fail
  generalize ((w.alloc (.cells #[.int .i64 1, .slice a1 n c1, .slice a2 n2 c2, .slice a3 n3 c3] 25)).alloc (.cells #[.bool false, .slice none 0 0, .slice none 0 0] 44)) = W0 at *
  obtain ⟨h, eh⟩ : ∃ h, h = w.heap.size := ⟨_, rfl⟩
  have EH : Hid (h = w.heap.size) := eh
  have L0 : Hid (Below w.heap.size w W0) := l0
  have X0 : Hid (B3 (h + 1) W0) := eh ▸ x0
  have NB0 : Hid (NB (h + 1) W0) := eh ▸ nb0
  have HSZ : Hid (W0.heap.size = h + 2) := by show _ = _; rw [eh]; exact hsz
  rw [← eh] at q0 q1 q2 q3 ⊢
  clear eh l0 x0 nb0 hsz
  have hL : RG.Lasts (fun wx => Below W0.heap.size W0 wx) (fun _ v wx => ∃ a m c, v = .slice a m c ∧ Sl T v wx) := ⟨fun _ _ h hb => h.trans (hb.mono h.size), fun _ _ _ _ h hb => by
    obtain ⟨a, m, c, h1, h2⟩ := h
    exact ⟨a, m, c, h1, Sl_below h2 hb⟩⟩
  have Q1 : Hid (W0.cell? ⟨h, 1, none⟩ = some (.slice a1 n c1)) := q1
  have Q2 : Hid (W0.cell? ⟨h, 2, none⟩ = some (.slice a2 n2 c2)) := q2
  have Q3 : Hid (W0.cell? ⟨h, 3, none⟩ = some (.slice a3 n3 c3)) := q3
  go_upto_region 3 with fail
  refine RG.wp_region_gen (fun wx => Below W0.heap.size W0 wx) (fun _ v wx => ∃ a m c, v = .slice a m c ∧ Sl T v wx) (fun _ _ => True) [0, 0, 1, 0, 0, 2, 2, 2] (by kernel_rfl) (by kernel_rfl) ((Below.refl _ _).drew) ?_
  dsimp only [List.toList_toArray]
  refine RG.go1 (v := ?_) (a' := ?_) hL (by decide) rfl ?_ ?_ ?_
  rotate_left 2
  · intro K wx hS hK
    go_simp
    exact hK _ (Below.refl _ _)
  · simp only [Act.put, List.setIfInBounds_toArray, List.set_cons_succ, List.set_cons_zero]
    rfl
  refine RG.go1 (v := ?_) (a' := ?_) hL (by decide) rfl ?_ ?_ ?_
  rotate_left 2
  · intro K wx hS hK
    have z1 := (hS.cell (p := ⟨h, 1, none⟩) (by have := HSZ.out; show h < _; omega)).trans Q1.out
    go_simp
    exact hK _ (Below.refl _ _)
  · simp only [Act.put, List.setIfInBounds_toArray, List.set_cons_succ, List.set_cons_zero]
    rfl
  refine RG.goN hL rfl ?_ ?_
  · intro K wx hS hK
    go_simp
    refine (KN.out _ (L0.out.trans (hS.mono L0.out.size))).mono (fun e w2 he => ?_)
    obtain ⟨v, rfl, h1, h2⟩ := he
    obtain ⟨at1, ct1, rfl⟩ := Sl_fm h1
    refine ⟨_, rfl, ?_⟩
    exact hK _ _ h2 ⟨_, _, _, rfl, h1⟩ (fun _ _ _ => ⟨trivial, trivial⟩)
  refine RG.go1 (v := ?_) (a' := ?_) hL (by decide) rfl ?_ ?_ ?_
  rotate_left 2
  · intro K wx hS hK
    go_simp
    exact hK _ (Below.refl _ _)
  · simp only [Act.put, List.setIfInBounds_toArray, List.set_cons_succ, List.set_cons_zero]
    rfl
  refine RG.go1 (v := ?_) (a' := ?_) hL (by decide) rfl ?_ ?_ ?_
  rotate_left 2
  · intro K wx hS hK
    have z2 := (hS.cell (p := ⟨h, 2, none⟩) (by have := HSZ.out; show h < _; omega)).trans Q2.out
    go_simp
    exact hK _ (Below.refl _ _)
  · simp only [Act.put, List.setIfInBounds_toArray, List.set_cons_succ, List.set_cons_zero]
    rfl
  refine RG.goT ?_
  refine RG.goT ?_
  refine RG.goT ?_
  refine RG.go_end ?_
  intro U w9 m9 y9 x9
  simp +decide (maxSteps := 1000000) only [RG.tl, RG.putN, if_true, if_false, Act.put, List.setIfInBounds_toArray, List.set_cons_succ, List.set_cons_zero, Nat.reduceAdd]
  obtain ⟨at1, tn, ct1, e1, h1⟩ := y9 2 rfl
  rw [e1] at h1 ⊢
  have l9 : Below w.heap.size w w9 := L0.out.trans (m9.mono L0.out.size)
  have x9' : B3 (h + 1) w9 := B3_gb (r := none) X0.out (gb_below m9) nofun
  have n9 := NB_below NB0.out m9
  have s2 : Sl u (.slice a2 n2 c2) w9 := hu.out _ l9
  have bA : Below w9.heap.size w9 (w9.alloc (.cells #[.slice at1 tn ct1, .slice a2 n2 c2] 22)) := (Below.refl _ _).alloc (Nat.le_refl _) _
  have lsA : Ls [T, u] (.slice (some ⟨w9.heap.size, 0, none⟩) 2 2) (w9.alloc (.cells #[.slice at1 tn ct1, .slice a2 n2 c2] 22)) := ls_two h1 s2
  have KK : Hid _ := KO.out [T, u] (some ⟨w9.heap.size, 0, none⟩) 2 2 _ rfl (by decide) lsA
  have nA := NB_below n9 bA
  have xA : B3 (h + 1) (w9.alloc (.cells #[.slice at1 tn ct1, .slice a2 n2 c2] 22)) := B3_gb (r := none) x9' (gb_below bA) nofun
  have lA : Below w.heap.size w (w9.alloc (.cells #[.slice at1 tn ct1, .slice a2 n2 c2] 22)) := l9.trans (bA.mono l9.size)
  clear x9 y9 l9 x9' m9 hL h1 s2 bA lsA n9 e1 Q1 Q2 Q3 KN
  go_wp2_with fail
  refine Calls.mono KK.out (fun e w2 he => ?_)
  obtain ⟨v, rfl, iv, b2, lb, d1, m1, c1, d2, m2, c2, rfl⟩ := he
  have x5 : B3 (h + 1) w2 := B3_gb (r := none) xA (gb_below b2) nofun
  have l5 : Below w.heap.size w w2 := lA.trans (b2.mono lA.size)
  have IV2 := iv _ nA
  clear iv b2 xA lA KK nA
  dsimp only [v3]
  go_wp2_with (refine wpList_st3b rfl rfl rfl rfl x5 ?_)
  intro w6 g6 b6 z0 z1 z2
  have l6 : Hid (Below w.heap.size w w6) := l5.trans ⟨g6.os, g6.tape, g6.output, g6.size, fun j hj => g6.block j (by have := l5.size; omega) (fun e => by injection e with e; have := EH.out; omega)⟩
  have IV6 : Hid (Iv (fun _ => True) w6 (.mk true [] [.mk false T [], .mk false u []]) (.bool lb, .slice d1 m1 c1, .slice d2 m2 c2)) := Iv_mono (Iv_gb IV2 g6 (fun k hk e => by injection e with e; exact hk e)) (fun _ _ _ => trivial)
  clear g6 b6 l5 x5
  go_wp2_with fail
  exact bodyPost_ret (resI _ _ _ (h + 1) 2 _ _ _ rfl rfl z0 z1 z2) rfl ⟨(.bool lb, .slice d1 m1 c1, .slice d2 m2 c2), rfl, IV6.out, l6.out, ⟨_, _, _, _, _, _, _, rfl⟩⟩
set_option maxHeartbeats 4000000 in
set_option maxRecDepth 100000 in
theorem io_road (a1 a2 a3 : Option Addr) (n c1 n2 c2 n3 c3 : Nat) (w : World) (KO : Hid (∀ (l : List (List UInt8)) (a : Option Addr) (m c : Nat) (wx : World), m = l.length → m ≤ 1048576 → Ls l (.slice a m c) wx → Calls Tryd.prog 44 #[.slice a m c] wx fun e w' => ∃ v, e = .returned (v3 v) ∧ (∀ G, NB G wx → Iv (· ≠ G) w' (.mk true [] (l.map fun b => .mk false b [])) v) ∧ Below wx.heap.size wx w' ∧ Fm v)) (T u : List UInt8) (KN : Hid (∀ wx : World, Below w.heap.size w wx → Calls Tryd.prog 45 #[.slice a1 n c1, .bool false] wx fun e w' => ∃ v, e = .returned v ∧ Sl T v w' ∧ Below wx.heap.size wx w')) (g off ci : Nat) (ai : Option Addr) (ha3 : Hid (a3 = some ⟨g, off, none⟩)) (h3 : Hid (n3 = 1)) (hc0 : Hid (g < w.heap.size ∧ w.cell? ⟨g, off, none⟩ = some (.slice ai 32 ci))) (hu : Hid (∀ W, Below w.heap.size w W → Sl u (.slice ai 32 ci) W)) :
    Calls Tryd.prog 26 #[.agg #[.int .i64 2, .slice a1 n c1, .slice a2 n2 c2, .slice a3 n3 c3]] w fun e w' => ∃ v, e = .returned (v3 v) ∧ Iv (fun _ => True) w' (.mk true [] [.mk false T [], .mk false u []]) v ∧ Below w.heap.size w w' ∧ Fm v := by
  have l0 : Below w.heap.size w ((w.alloc (.cells #[.int .i64 2, .slice a1 n c1, .slice a2 n2 c2, .slice a3 n3 c3] 25)).alloc (.cells #[.bool false, .slice none 0 0, .slice none 0 0] 44)) := ((Below.refl _ _).alloc (Nat.le_refl _) _).alloc (by simp) _
  have hs1 : (w.alloc (.cells #[.int .i64 2, .slice a1 n c1, .slice a2 n2 c2, .slice a3 n3 c3] 25)).heap.size = w.heap.size + 1 := by simp
  have x0 : B3 (w.heap.size + 1) ((w.alloc (.cells #[.int .i64 2, .slice a1 n c1, .slice a2 n2 c2, .slice a3 n3 c3] 25)).alloc (.cells #[.bool false, .slice none 0 0, .slice none 0 0] 44)) := hs1 ▸ B3_new (w.alloc (.cells #[.int .i64 2, .slice a1 n c1, .slice a2 n2 c2, .slice a3 n3 c3] 25))
  have nb0 : NB (w.heap.size + 1) ((w.alloc (.cells #[.int .i64 2, .slice a1 n c1, .slice a2 n2 c2, .slice a3 n3 c3] 25)).alloc (.cells #[.bool false, .slice none 0 0, .slice none 0 0] 44)) := hs1 ▸ NB_new (w.alloc (.cells #[.int .i64 2, .slice a1 n c1, .slice a2 n2 c2, .slice a3 n3 c3] 25))
  have HA := heap_alloc_new w (.cells #[.int .i64 2, .slice a1 n c1, .slice a2 n2 c2, .slice a3 n3 c3] 25)
  have bB : Below (w.heap.size + 1) (w.alloc (.cells #[.int .i64 2, .slice a1 n c1, .slice a2 n2 c2, .slice a3 n3 c3] 25)) ((w.alloc (.cells #[.int .i64 2, .slice a1 n c1, .slice a2 n2 c2, .slice a3 n3 c3] 25)).alloc (.cells #[.bool false, .slice none 0 0, .slice none 0 0] 44)) := (Below.refl _ _).alloc (by omega) _
  have q0 : ((w.alloc (.cells #[.int .i64 2, .slice a1 n c1, .slice a2 n2 c2, .slice a3 n3 c3] 25)).alloc (.cells #[.bool false, .slice none 0 0, .slice none 0 0] 44)).cell? ⟨w.heap.size, 0, none⟩ = some (.int .i64 2) := (bB.cell (p := ⟨w.heap.size, 0, none⟩) (by show w.heap.size < _; omega)).trans (by simp only [World.cell?, HA]; rfl)
  have q1 : ((w.alloc (.cells #[.int .i64 2, .slice a1 n c1, .slice a2 n2 c2, .slice a3 n3 c3] 25)).alloc (.cells #[.bool false, .slice none 0 0, .slice none 0 0] 44)).cell? ⟨w.heap.size, 1, none⟩ = some (.slice a1 n c1) := (bB.cell (p := ⟨w.heap.size, 1, none⟩) (by show w.heap.size < _; omega)).trans (by simp only [World.cell?, HA]; rfl)
  have q2 : ((w.alloc (.cells #[.int .i64 2, .slice a1 n c1, .slice a2 n2 c2, .slice a3 n3 c3] 25)).alloc (.cells #[.bool false, .slice none 0 0, .slice none 0 0] 44)).cell? ⟨w.heap.size, 2, none⟩ = some (.slice a2 n2 c2) := (bB.cell (p := ⟨w.heap.size, 2, none⟩) (by show w.heap.size < _; omega)).trans (by simp only [World.cell?, HA]; rfl)
  have q3 : ((w.alloc (.cells #[.int .i64 2, .slice a1 n c1, .slice a2 n2 c2, .slice a3 n3 c3] 25)).alloc (.cells #[.bool false, .slice none 0 0, .slice none 0 0] 44)).cell? ⟨w.heap.size, 3, none⟩ = some (.slice a3 n3 c3) := (bB.cell (p := ⟨w.heap.size, 3, none⟩) (by show w.heap.size < _; omega)).trans (by simp only [World.cell?, HA]; rfl)
  have hsz : ((w.alloc (.cells #[.int .i64 2, .slice a1 n c1, .slice a2 n2 c2, .slice a3 n3 c3] 25)).alloc (.cells #[.bool false, .slice none 0 0, .slice none 0 0] 44)).heap.size = w.heap.size + 2 := by simp
  clear HA bB hs1
  go_enter Tryd.func26, Tryd.ntmps26
  go_upto_region 1 with fail
  generalize ((w.alloc (.cells #[.int .i64 2, .slice a1 n c1, .slice a2 n2 c2, .slice a3 n3 c3] 25)).alloc (.cells #[.bool false, .slice none 0 0, .slice none 0 0] 44)) = W0 at *
  obtain ⟨h, eh⟩ : ∃ h, h = w.heap.size := ⟨_, rfl⟩
  have EH : Hid (h = w.heap.size) := eh
  have L0 : Hid (Below w.heap.size w W0) := l0
  have X0 : Hid (B3 (h + 1) W0) := eh ▸ x0
  have NB0 : Hid (NB (h + 1) W0) := eh ▸ nb0
  have HSZ : Hid (W0.heap.size = h + 2) := by show _ = _; rw [eh]; exact hsz
  rw [← eh] at q0 q1 q2 q3 ⊢
  clear eh l0 x0 nb0 hsz
  obtain rfl := h3.out
  obtain rfl := ha3.out
  have C0 : Hid (g < W0.heap.size ∧ W0.cell? ⟨g, off, none⟩ = some (.slice ai 32 ci)) := ⟨Nat.lt_of_lt_of_le hc0.out.1 L0.out.size, (L0.out.cell (p := ⟨g, off, none⟩) hc0.out.1).trans hc0.out.2⟩
  have hL : RG.Lasts (fun wx => Below W0.heap.size W0 wx) (fun _ v wx => ∃ a m c, v = .slice a m c ∧ Sl T v wx) := ⟨fun _ _ h hb => h.trans (hb.mono h.size), fun _ _ _ _ h hb => by
    obtain ⟨a, m, c, h1, h2⟩ := h
    exact ⟨a, m, c, h1, Sl_below h2 hb⟩⟩
  have Q1 : Hid (W0.cell? ⟨h, 1, none⟩ = some (.slice a1 n c1)) := q1
  have Q2 : Hid (W0.cell? ⟨h, 2, none⟩ = some (.slice a2 n2 c2)) := q2
  have Q3 : Hid (W0.cell? ⟨h, 3, none⟩ = some (.slice (some ⟨g, off, none⟩) 1 c3)) := q3
  go_upto_region 5 with fail
  refine RG.wp_region_gen (fun wx => Below W0.heap.size W0 wx) (fun _ v wx => ∃ a m c, v = .slice a m c ∧ Sl T v wx) (fun _ _ => True) [0, 0, 1, 0, 0, 0, 0, 2, 2, 2] (by kernel_rfl) (by kernel_rfl) ((Below.refl _ _).drew) ?_
  dsimp only [List.toList_toArray]
  refine RG.go1 (v := ?_) (a' := ?_) hL (by decide) rfl ?_ ?_ ?_
  rotate_left 2
  · intro K wx hS hK
    go_simp
    exact hK _ (Below.refl _ _)
  · simp only [Act.put, List.setIfInBounds_toArray, List.set_cons_succ, List.set_cons_zero]
    rfl
  refine RG.go1 (v := ?_) (a' := ?_) hL (by decide) rfl ?_ ?_ ?_
  rotate_left 2
  · intro K wx hS hK
    have z1 := (hS.cell (p := ⟨h, 1, none⟩) (by have := HSZ.out; show h < _; omega)).trans Q1.out
    go_simp
    exact hK _ (Below.refl _ _)
  · simp only [Act.put, List.setIfInBounds_toArray, List.set_cons_succ, List.set_cons_zero]
    rfl
  refine RG.goN hL rfl ?_ ?_
  · intro K wx hS hK
    go_simp
    refine (KN.out _ (L0.out.trans (hS.mono L0.out.size))).mono (fun e w2 he => ?_)
    obtain ⟨v, rfl, h1, h2⟩ := he
    obtain ⟨at1, ct1, rfl⟩ := Sl_fm h1
    refine ⟨_, rfl, ?_⟩
    exact hK _ _ h2 ⟨_, _, _, rfl, h1⟩ (fun _ _ _ => ⟨trivial, trivial⟩)
  refine RG.go1 (v := ?_) (a' := ?_) hL (by decide) rfl ?_ ?_ ?_
  rotate_left 2
  · intro K wx hS hK
    go_simp
    exact hK _ (Below.refl _ _)
  · simp only [Act.put, List.setIfInBounds_toArray, List.set_cons_succ, List.set_cons_zero]
    rfl
  refine RG.go1 (v := ?_) (a' := ?_) hL (by decide) rfl ?_ ?_ ?_
  rotate_left 2
  · intro K wx hS hK
    have z3 := (hS.cell (p := ⟨h, 3, none⟩) (by have := HSZ.out; show h < _; omega)).trans Q3.out
    go_simp
    exact hK _ (Below.refl _ _)
  · simp only [Act.put, List.setIfInBounds_toArray, List.set_cons_succ, List.set_cons_zero]
    rfl
  refine RG.go1 (v := ?_) (a' := ?_) hL (by decide) rfl ?_ ?_ ?_
  rotate_left 2
  · intro K wx hS hK
    go_simp
    exact hK _ (Below.refl _ _)
  · simp only [Act.put, List.setIfInBounds_toArray, List.set_cons_succ, List.set_cons_zero]
    rfl
  refine RG.go1 (v := ?_) (a' := ?_) hL (by decide) rfl ?_ ?_ ?_
  rotate_left 2
  · intro K wx hS hK
    have z6 := (hS.cell (p := ⟨g, off, none⟩) C0.out.1).trans C0.out.2
    go_simp
    exact hK _ (Below.refl _ _)
  · simp only [Act.put, List.setIfInBounds_toArray, List.set_cons_succ, List.set_cons_zero]
    rfl
  refine RG.goT ?_
  refine RG.goT ?_
  refine RG.goT ?_
  refine RG.go_end ?_
  intro U w9 m9 y9 x9
  simp +decide (maxSteps := 1000000) only [RG.tl, RG.putN, if_true, if_false, Act.put, List.setIfInBounds_toArray, List.set_cons_succ, List.set_cons_zero, Nat.reduceAdd]
  obtain ⟨at1, tn, ct1, e1, h1⟩ := y9 2 rfl
  rw [e1] at h1 ⊢
  have l9 : Below w.heap.size w w9 := L0.out.trans (m9.mono L0.out.size)
  have x9' : B3 (h + 1) w9 := B3_gb (r := none) X0.out (gb_below m9) nofun
  have n9 := NB_below NB0.out m9
  have s2 : Sl u (.slice ai 32 ci) w9 := hu.out _ l9
  have bA : Below w9.heap.size w9 (w9.alloc (.cells #[.slice at1 tn ct1, .slice ai 32 ci] 22)) := (Below.refl _ _).alloc (Nat.le_refl _) _
  have lsA : Ls [T, u] (.slice (some ⟨w9.heap.size, 0, none⟩) 2 2) (w9.alloc (.cells #[.slice at1 tn ct1, .slice ai 32 ci] 22)) := ls_two h1 s2
  have KK : Hid _ := KO.out [T, u] (some ⟨w9.heap.size, 0, none⟩) 2 2 _ rfl (by decide) lsA
  have nA := NB_below n9 bA
  have xA : B3 (h + 1) (w9.alloc (.cells #[.slice at1 tn ct1, .slice ai 32 ci] 22)) := B3_gb (r := none) x9' (gb_below bA) nofun
  have lA : Below w.heap.size w (w9.alloc (.cells #[.slice at1 tn ct1, .slice ai 32 ci] 22)) := l9.trans (bA.mono l9.size)
  clear x9 y9 l9 x9' m9 hL h1 s2 bA lsA n9 e1 Q1 Q2 Q3 KN
  go_wp2_with fail
  refine Calls.mono KK.out (fun e w2 he => ?_)
  obtain ⟨v, rfl, iv, b2, lb, d1, m1, c1, d2, m2, c2, rfl⟩ := he
  have x5 : B3 (h + 1) w2 := B3_gb (r := none) xA (gb_below b2) nofun
  have l5 : Below w.heap.size w w2 := lA.trans (b2.mono lA.size)
  have IV2 := iv _ nA
  clear iv b2 xA lA KK nA
  dsimp only [v3]
  go_wp2_with (refine wpList_st3b rfl rfl rfl rfl x5 ?_)
  intro w6 g6 b6 z0 z1 z2
  have l6 : Hid (Below w.heap.size w w6) := l5.trans ⟨g6.os, g6.tape, g6.output, g6.size, fun j hj => g6.block j (by have := l5.size; omega) (fun e => by injection e with e; have := EH.out; omega)⟩
  have IV6 : Hid (Iv (fun _ => True) w6 (.mk true [] [.mk false T [], .mk false u []]) (.bool lb, .slice d1 m1 c1, .slice d2 m2 c2)) := Iv_mono (Iv_gb IV2 g6 (fun k hk e => by injection e with e; exact hk e)) (fun _ _ _ => trivial)
  clear g6 b6 l5 x5
  go_wp2_with fail
  exact bodyPost_ret (resI _ _ _ (h + 1) 2 _ _ _ rfl rfl z0 z1 z2) rfl ⟨(.bool lb, .slice d1 m1 c1, .slice d2 m2 c2), rfl, IV6.out, l6.out, ⟨_, _, _, _, _, _, _, rfl⟩⟩
theorem itemof_any (s : Shp) (x : V4) (w : World) (h : Sh s x w) (hs : isS s = true) (hp : s.2.1.length ≤ 1048576) :
    Calls Tryd.prog 26 #[v4 x] w fun e w' => ∃ v, e = .returned (v3 v) ∧ Iv (fun _ => True) w' (itS s) v ∧ Below w.heap.size w w' ∧ Fm v := by
  obtain ⟨a1, c1, a2, c2, a3, c3, rfl⟩ := Sh_form h
  obtain ⟨kk, p, v, ks⟩ := s
  dsimp only at hp
  have KO : Hid (∀ (l : List (List UInt8)) (a : Option Addr) (m c : Nat) (wx : World), m = l.length → m ≤ 1048576 → Ls l (.slice a m c) wx → Calls Tryd.prog 44 #[.slice a m c] wx fun e w' => ∃ v, e = .returned (v3 v) ∧ (∀ G, NB G wx → Iv (· ≠ G) w' (.mk true [] (l.map fun b => .mk false b [])) v) ∧ Below wx.heap.size wx w' ∧ Fm v) := fun l a m c wx h1 h2 h3 => listof_any l a m c wx h1 h2 h3
  have KN : ∀ leaf, Hid (∀ wx : World, Below w.heap.size w wx → Calls Tryd.prog 45 #[.slice a1 p.length c1, .bool leaf] wx fun e w' => ∃ v, e = .returned v ∧ Sl (jl (tg p leaf)) v w' ∧ Below wx.heap.size wx w') := fun leaf wx hb => by
    obtain ⟨ao, cap, e, hc, hv⟩ := (Sh_below h hb).2.1
    injection e with e1 _ e3
    exact tagged_any p leaf a1 c1 wx (by show _ ≤ _; omega) (by rw [e3]; exact hc) (by rw [e1]; exact hv)
  have hu : Hid (∀ W, Below w.heap.size w W → Sl v (.slice a2 v.length c2) W) := fun W hb => (Sh_below h hb).2.2.1
  by_cases k0 : kk = 0
  · subst k0
    exact io_none a1 a2 a3 _ c1 _ c2 _ c3 w
  by_cases k1 : kk = 1
  · subst k1
    exact io_leaf a1 a2 a3 _ c1 _ c2 _ c3 w KO (jl (tg p true)) v (KN true) hu
  by_cases k2 : kk = 2
  · subst k2
    have e0 : isS (2, p, v, ks) = (decide (0 < p.length) && (pb p && (decide (ks.length = 1) && decide ((ks.getD 0 []).length = 32)))) := rfl
    rw [e0] at hs
    simp only [Bool.and_eq_true, decide_eq_true_iff] at hs
    obtain ⟨_, _, h3, hm⟩ := hs
    obtain ⟨ao, cap, e2, hL⟩ := h.2.2.2
    dsimp only at e2 hL
    obtain ⟨g, off, rfl, hg, hc⟩ := hL (by omega)
    obtain ⟨vi, q1, q2⟩ := hc 0 (by omega)
    obtain ⟨ai, ci, rfl⟩ := Sl_fm q2
    injection e2 with e3 _ _
    rw [hm] at q1 q2
    exact io_road a1 a2 a3 _ c1 _ c2 _ c3 w KO (jl (tg p false)) (ks.getD 0 []) (KN false) g off ci ai e3 h3 ⟨hg, q1⟩ (fun W hb => Sl_below q2 hb)
  by_cases k3 : kk = 3
  · subst k3
    have e0 : isS (3, p, v, ks) = (decide (ks.length = 16) && (decide (v.length ≤ 1024) && (ks.all sm && decide (2 ≤ np (ks ++ [v]))))) := rfl
    rw [e0] at hs
    simp only [Bool.and_eq_true, decide_eq_true_iff] at hs
    exact io_fork a1 a2 a3 _ c1 _ c2 _ c3 w KO (ks ++ [v]) (by show _ ≤ _; rw [List.length_append, hs.1, List.length_singleton]; decide) (fun wx hb => fork_any (3, p, v, ks) (.int .i64 3, .slice a1 p.length c1, .slice a2 v.length c2, .slice a3 ks.length c3) wx (Sh_below h hb) (by show ks.length ≤ _; omega))
  · exfalso
    have e : isS (kk, p, v, ks) = false := by unfold isS; simp [k0, k1, k2, k3]
    rw [e] at hs
    cases hs
set_option maxHeartbeats 1000000 in
set_option maxRecDepth 100000 in
theorem write_walk (kk : Int) (a1 a2 a3 : Option Addr) (n1 c1 n2 c2 n3 c3 : Nat) (w : World) (t : It) (ht : Hid ((enc t).length ≤ 1048576))
    (KI : Hid (∀ wx : World, Below w.heap.size w wx → Calls Tryd.prog 26 #[.agg #[.int .i64 kk, .slice a1 n1 c1, .slice a2 n2 c2, .slice a3 n3 c3]] wx fun e w' => ∃ v, e = .returned (v3 v) ∧ Iv (fun _ => True) w' t v ∧ Below wx.heap.size wx w' ∧ Fm v)) :
    Calls Tryd.prog 13 #[.agg #[.int .i64 kk, .slice a1 n1 c1, .slice a2 n2 c2, .slice a3 n3 c3]] w fun e w' => ∃ v, e = .returned v ∧ Ty (w.heap.size ≤ ·) (enc t) v w' ∧ Cp v ∧ Below w.heap.size w w' := by
  have HB : Hid (Below w.heap.size w (w.alloc (.cells #[.int .i64 kk, .slice a1 n1 c1, .slice a2 n2 c2, .slice a3 n3 c3] 25))) := (Below.refl _ _).alloc (Nat.le_refl _) _
  go_enter Tryd.func13, Tryd.ntmps13
  go_wp2_with fail
  refine (KI.out _ HB.out).mono ?_
  rintro e w1 ⟨v, rfl, hiv, hb, l, b1, m1, d1, b2, m2, d2, rfl⟩
  have HL1 : Below w.heap.size w w1 := HB.out.trans (hb.mono HB.out.size)
  have KE : Hid (Calls Tryd.prog 25 #[.agg #[.bool l, .slice b1 m1 d1, .slice b2 m2 d2]] w1 fun e w' => ∃ v, e = .returned v ∧ Ty (w.heap.size ≤ ·) (enc t) v w' ∧ Cp v ∧ Below w.heap.size w w') :=
    (encode_cp t (fun _ => True) (.bool l, .slice b1 m1 d1, .slice b2 m2 d2) w1 hiv ht.out).mono fun e w' he => by
      obtain ⟨v, h1, h2, h3, h4⟩ := he
      exact ⟨v, h1, Ty_mono h2 (fun k hk _ => Nat.le_trans HL1.size hk), h3, HL1.trans (h4.mono HL1.size)⟩
  clear hiv hb KI HB HL1
  dsimp only [v3]
  go_wp2_with fail
  refine KE.out.mono ?_
  rintro e w3 ⟨v, rfl, h2, h3, h4⟩
  have HZ : Hid (Ty (w.heap.size ≤ ·) (enc t) v w3 ∧ Cp v ∧ Below w.heap.size w w3) := ⟨h2, h3, h4⟩
  clear h2 h3 h4 KE
  go_wp2_with fail
  go_ret
  exact ⟨_, rfl, HZ.out⟩
theorem write_any (s : Shp) (x : V4) (w : World) (h : Sh s x w) (hs : isS s = true) (hp : s.2.1.length ≤ 1048576) :
    Calls Tryd.prog 13 #[v4 x] w fun e w' => ∃ v, e = .returned v ∧ Ty (w.heap.size ≤ ·) (enc (itS s)) v w' ∧ Cp v ∧ Below w.heap.size w w' := by
  obtain ⟨a1, c1, a2, c2, a3, c3, e⟩ := Sh_form h
  have KI := fun (wx : World) (hb : Below w.heap.size w wx) => itemof_any s x wx (Sh_below h hb) hs hp
  subst e
  exact write_walk s.1 a1 a2 a3 _ c1 _ c2 _ c3 w (itS s) (encS_len s hs hp) KI
end Rs
end Go.Proofs.YtefgamhnikeekaaDoor
namespace Go.Proofs.YtefgamhnikeekaaDoor
namespace Rt
open Nb Sp Pk Rs Go.RowKit
set_option maxHeartbeats 2000000 in
set_option maxRecDepth 100000 in
theorem node_none (a1 a2 a3 : Option Addr) (n1 c1 n2 c2 n3 c3 : Nat) (B gw : Nat) (X : Nat → Prop) (l : List (List UInt8)) (cv : Value) (w : World) (HW : Hid (WS B gw X l cv w)) :
    Calls Tryd.prog 17 #[.pointer (some ⟨gw, 0, none⟩), .agg #[.int .i64 0, .slice a1 n1 c1, .slice a2 n2 c2, .slice a3 n3 c3]] w (NR B gw X l [] [] cv w) := by
  have HA := heap_alloc_new w (.cells #[.int .i64 0, .slice a1 n1 c1, .slice a2 n2 c2, .slice a3 n3 c3] 32)
  have p0 : (w.alloc (.cells #[.int .i64 0, .slice a1 n1 c1, .slice a2 n2 c2, .slice a3 n3 c3] 32)).cell? ⟨w.heap.size, 0, none⟩ = some (.int .i64 0) := by simp only [World.cell?, HA]; rfl
  have b0 : Below w.heap.size w (w.alloc (.cells #[.int .i64 0, .slice a1 n1 c1, .slice a2 n2 c2, .slice a3 n3 c3] 32)) := (Below.refl _ _).alloc (Nat.le_refl _) _
  have HR : Hid (NR B gw X l [] [] cv w (.returned (.slice none 0 0)) (w.alloc (.cells #[.int .i64 0, .slice a1 n1 c1, .slice a2 n2 c2, .slice a3 n3 c3] 32))) := ⟨_, cv, rfl, by rw [List.append_nil]; exact WS_below HW.out b0, Ty_nil _ _, fr2_below (fr2_refl _ _ _) b0, fun g h => .inl h⟩
  clear HA HW b0
  go_enter Tryd.func17, Tryd.ntmps17
  go_wp2_with fail
  go_ret
  exact HR.out
set_option maxHeartbeats 2000000 in
set_option maxRecDepth 100000 in
theorem node_leaf (a1 a2 a3 : Option Addr) (n1 c1 n2 c2 n3 c3 : Nat) (B gw : Nat) (X : Nat → Prop) (l : List (List UInt8)) (cv : Value) (w : World) (HW : Hid (WS B gw X l cv w)) (HBW : Hid (B ≤ w.heap.size)) (HLN : Hid (l.length ≤ 2097152)) (HX2 : Hid (∀ i, X i → i ≠ gw)) (HX1 : Hid (∀ i, w.heap.size ≤ i → X i)) (ks : List Nd) (C : List UInt8)
    (KW : Hid (∀ (wr : World) (kv : Value) {r0 : Option Nat} {G : Nat} {l' : List (List UInt8)} {cv' : Value}, NI w r0 B gw G X 1 (.slice a1 n1 c1) (.slice a2 n2 c2) ks l' 0 0 kv cv' wr → (∀ i, r0 = some i → B ≤ i) → ∀ wx, Below wr.heap.size wr wx → Calls Tryd.prog 13 #[.agg #[.int .i64 1, .slice a1 n1 c1, .slice a2 n2 c2, kv]] wx fun e w' => ∃ v, e = .returned v ∧ Ty (wr.heap.size ≤ ·) C v w' ∧ Below wx.heap.size wx w'))
    (KS : Hid (∀ x y wx, Sl C (.slice x C.length y) wx → Calls Tryd.prog 20 #[.slice x C.length y] wx fun e w' => e = .returned (Hv (sumf C)) ∧ Below wx.heap.size wx w')) :
    Calls Tryd.prog 17 #[.pointer (some ⟨gw, 0, none⟩), .agg #[.int .i64 1, .slice a1 n1 c1, .slice a2 n2 c2, .slice a3 n3 c3]] w (NR B gw X l [C] (sml C) cv w) := by
  have hwl := HW.out.hi
  obtain ⟨ra, rc, rfl, _⟩ := CO_form HW.out.co
  have HR0 : Hid (∀ i, (Value.slice ra l.length rc).ownBlock = some i → B ≤ i) := fun i hi => (CO_lt HW.out.co i hi).1
  have HA := heap_alloc_new w (.cells #[.int .i64 1, .slice a1 n1 c1, .slice a2 n2 c2, .slice a3 n3 c3] 32)
  have b0 : Below w.heap.size w (w.alloc (.cells #[.int .i64 1, .slice a1 n1 c1, .slice a2 n2 c2, .slice a3 n3 c3] 32)) := (Below.refl _ _).alloc (Nat.le_refl _) _
  have z0 : (w.alloc (.cells #[.int .i64 1, .slice a1 n1 c1, .slice a2 n2 c2, .slice a3 n3 c3] 32)).heap.size = w.heap.size + 1 := by simp
  have p0 : (w.alloc (.cells #[.int .i64 1, .slice a1 n1 c1, .slice a2 n2 c2, .slice a3 n3 c3] 32)).cell? ⟨w.heap.size, 0, none⟩ = some (.int .i64 1) := by simp only [World.cell?, HA]; rfl
  have p1 : (w.alloc (.cells #[.int .i64 1, .slice a1 n1 c1, .slice a2 n2 c2, .slice a3 n3 c3] 32)).cell? ⟨w.heap.size, 1, none⟩ = some (.slice a1 n1 c1) := by simp only [World.cell?, HA]; rfl
  have p2 : (w.alloc (.cells #[.int .i64 1, .slice a1 n1 c1, .slice a2 n2 c2, .slice a3 n3 c3] 32)).cell? ⟨w.heap.size, 2, none⟩ = some (.slice a2 n2 c2) := by simp only [World.cell?, HA]; rfl
  have p3 : (w.alloc (.cells #[.int .i64 1, .slice a1 n1 c1, .slice a2 n2 c2, .slice a3 n3 c3] 32)).cell? ⟨w.heap.size, 3, none⟩ = some (.slice a3 n3 c3) := by simp only [World.cell?, HA]; rfl
  have W0 := WS_below HW.out b0
  clear HA
  have q0 := W0.c
  have HW0 : Hid _ := W0
  clear W0
  go_enter Tryd.func17, Tryd.ntmps17
  go_upto_region 4 with fail
  generalize hWA : w.alloc (.cells #[.int .i64 1, .slice a1 n1 c1, .slice a2 n2 c2, .slice a3 n3 c3] 32) = WA at *
  clear hWA
  obtain ⟨h, eh⟩ : ∃ h, h = w.heap.size := ⟨_, rfl⟩
  rw [← eh] at p0 p1 p2 p3 ⊢
  have EH : Hid (h = w.heap.size) := eh
  have hh : h < WA.heap.size := by omega
  clear eh
  have bB : Below WA.heap.size WA (WA.alloc (.cells #[.slice none 0 0] 22)) := (Below.refl _ _).alloc (Nat.le_refl _) _
  have HB := heap_alloc_new WA (.cells #[.slice none 0 0] 22)
  have vB : Vl [.slice none 0 0] (.slice (some ⟨WA.heap.size, 0, none⟩) 1 1) (WA.alloc (.cells #[.slice none 0 0] 22)) := ⟨_, 1, rfl, fun _ => ⟨_, 0, rfl, by simp, fun i hi => by
    have : i = 0 := by simp at hi; omega
    subst this
    simp only [World.cell?, HB]
    rfl⟩⟩
  obtain ⟨sa, sn, sc, w7, hap, ⟨ck7, fz7⟩, hW7, hF7, ho7⟩ := WS_app 23 (WS_below HW0.out bB) vB (Nat.le_trans (Nat.le_trans HBW.out b0.size) bB.size) (by have := HLN.out; omega) HX2.out
  have hF8 := fr2_trans (fr2_below (fr2_below (fr2_refl w gw (Value.slice ra l.length rc).ownBlock) b0) bB) hF7 (fun i hi => .inl hi)
  have bl8 := fun (o : Nat) u (c : WA.cell? ⟨h, o, none⟩ = some u) => (World.cell?_of_block (a := ⟨h, o, none⟩) (hF7.block h (Nat.lt_of_lt_of_le hh bB.size) (fun e => by have := EH.out; omega) (fun e => by have := (CO_lt HW.out.co h e.symm).2; have := EH.out; omega))).trans ((bB.cell (p := ⟨h, o, none⟩) hh).trans c)
  have y0 := bl8 _ _ p0
  have y1 := bl8 _ _ p1
  have y2 := bl8 _ _ p2
  have y3 := bl8 _ _ p3
  have HO8 : Hid (∀ g, (Value.slice sa sn sc).ownBlock = some g → (Value.slice ra l.length rc).ownBlock = some g ∨ w.heap.size ≤ g) := fun g hg => by
    rcases ho7 g hg with e | e
    · exact .inl e
    · exact .inr (by have := bB.size; omega)
  have HW8 : Hid _ := hW7
  have HF8 : Hid _ := hF8
  clear hF7 ho7 hW7 hF8 bl8 bB HB vB p0 p1 p2 p3 b0 HW0 z0
  go_upto_region 5 with (at_builtin; refine wpList_apw rfl rfl rfl rfl hap ?_)
  clear hap ck7 fz7 q0 hh hwl
  generalize w7.setCell ⟨gw, 0, none⟩ (.slice sa sn sc) = W8 at HW8 HF8 y0 y1 y2 y3 ⊢
  have hh8 : h < W8.heap.size := World.block_lt_of_cell? W8 ⟨h, 0, none⟩ y0
  have x9 := BS_new W8
  have b9 : Below W8.heap.size W8 (W8.alloc (.cells #[.int .i64 0, .slice none 0 0, .slice none 0 0, .slice none 0 0] 25)) := (Below.refl _ _).alloc (Nat.le_refl _) _
  have B9 : Hid (Below W8.heap.size W8 (W8.alloc (.cells #[.int .i64 0, .slice none 0 0, .slice none 0 0, .slice none 0 0] 25))) := b9
  have HT0 : Hid _ := (b9.cell (p := ⟨h, 0, none⟩) hh8).trans y0
  have HT3 : Hid _ := (b9.cell (p := ⟨h, 3, none⟩) hh8).trans y3
  clear b9
  go_wp2_with (refine wpList_stB rfl rfl rfl rfl x9 ?_)
  intro w1 g1 xb s0 s1 s2 s3
  have hbk := g1.block h (Nat.lt_of_lt_of_le hh8 B9.out.size) (fun e => by injection e with e; omega)
  replace y0 := (World.cell?_of_block (a := ⟨h, 0, none⟩) hbk).trans HT0.out
  replace y3 := (World.cell?_of_block (a := ⟨h, 3, none⟩) hbk).trans HT3.out
  have HI : Hid (NI w (Value.slice ra l.length rc).ownBlock B gw W8.heap.size X 1 (.slice a1 n1 c1) (.slice a2 n2 c2) ks (l ++ [[]]) 0 0 (.slice none 0 0) (.slice sa sn sc) w1) := NI_init HW8.out HF8.out HO8.out B9.out g1 xb s0 s1 s2 s3
  clear hbk y1 y2 s0 s1 s2 s3 xb g1 B9 x9 HW8 HF8 HO8 hh8 HT0 HT3
  generalize W8.heap.size = G at HI ⊢
  have hI := HI.out
  have hW := hI.W
  rw [List.append_assoc] at hW
  obtain ⟨gc, cc, ecv⟩ := WS_form (l := l) (m := cdk (ks.take (0))) hW
  injection ecv with e1 e2 e3
  subst e1 e3
  have d1 : (l.length : Int) < ((sn : Nat) : Int) := by omega
  have d0 : (0 : Int) ≤ (l.length : Int) := by omega
  clear e2
  have HC : Hid (gw < w1.heap.size ∧ w1.cell? ⟨gw, 0, none⟩ = some (.slice (some ⟨gc, 0, none⟩) sn sc) ∧ G < w1.heap.size ∧ w1.cell? ⟨G, 0, none⟩ = some (.int .i64 1) ∧ w1.cell? ⟨G, 1, none⟩ = some (.slice a1 n1 c1) ∧ w1.cell? ⟨G, 2, none⟩ = some (.slice a2 n2 c2) ∧ w1.cell? ⟨G, 3, none⟩ = some (.slice none 0 0)) := ⟨hI.W.hi, hI.W.c, hI.x.hi, hI.c0, hI.c1, hI.c2, hI.c3⟩
  have KW2 : Hid _ := KW.out w1 (.slice none 0 0) hI HR0.out
  have hL : RG.Lasts (fun wx => Below w1.heap.size w1 wx) (fun _ v wx => Ty (w1.heap.size ≤ ·) C v wx) := ⟨fun _ _ h hb => h.trans (hb.mono h.size), fun _ _ _ _ h hb => Ty_gb (r := none) h (gb_below hb) (fun _ _ => nofun)⟩
  clear hI hW
  go_upto_region 12 with fail
  refine RG.wp_region_gen (fun wx => Below w1.heap.size w1 wx) (fun _ v wx => Ty (w1.heap.size ≤ ·) C v wx) (fun _ _ => True) [0, 0, 0, 0, 0, 0, 1, 2, 2] (by kernel_rfl) (by kernel_rfl) ((Below.refl _ _).drew) ?_
  dsimp only [List.toList_toArray]
  refine RG.go1 (v := ?_) (a' := ?_) hL (by decide) rfl ?_ ?_ ?_
  rotate_left 2
  · intro K wx hS hK
    go_simp
    exact hK _ (Below.refl _ _)
  · simp only [Act.put, List.setIfInBounds_toArray, List.set_cons_succ, List.set_cons_zero]
    rfl
  refine RG.go1 (v := ?_) (a' := ?_) hL (by decide) rfl ?_ ?_ ?_
  rotate_left 2
  · intro K wx hS hK
    go_simp
    exact hK _ (Below.refl _ _)
  · simp only [Act.put, List.setIfInBounds_toArray, List.set_cons_succ, List.set_cons_zero]
    rfl
  refine RG.go1 (v := ?_) (a' := ?_) hL (by decide) rfl ?_ ?_ ?_
  rotate_left 2
  · intro K wx hS hK
    go_simp
    exact hK _ (Below.refl _ _)
  · simp only [Act.put, List.setIfInBounds_toArray, List.set_cons_succ, List.set_cons_zero]
    rfl
  refine RG.go1 (v := ?_) (a' := ?_) hL (by decide) rfl ?_ ?_ ?_
  rotate_left 2
  · intro K wx hS hK
    have z0 := (hS.cell (p := ⟨gw, 0, none⟩) HC.out.1).trans HC.out.2.1
    go_simp
    exact hK _ (Below.refl _ _)
  · simp only [Act.put, List.setIfInBounds_toArray, List.set_cons_succ, List.set_cons_zero]
    rfl
  refine RG.go1 (v := ?_) (a' := ?_) hL (by decide) rfl ?_ ?_ ?_
  rotate_left 2
  · intro K wx hS hK
    go_simp
    exact hK _ (Below.refl _ _)
  · simp only [Act.put, List.setIfInBounds_toArray, List.set_cons_succ, List.set_cons_zero]
    rfl
  refine RG.go1 (v := ?_) (a' := ?_) hL (by decide) rfl ?_ ?_ ?_
  rotate_left 2
  · intro K wx hS hK
    have z0 := (hS.cell (p := ⟨G, 0, none⟩) HC.out.2.2.1).trans HC.out.2.2.2.1
    have z1 := (hS.cell (p := ⟨G, 1, none⟩) HC.out.2.2.1).trans HC.out.2.2.2.2.1
    have z2 := (hS.cell (p := ⟨G, 2, none⟩) HC.out.2.2.1).trans HC.out.2.2.2.2.2.1
    have z3 := (hS.cell (p := ⟨G, 3, none⟩) HC.out.2.2.1).trans HC.out.2.2.2.2.2.2
    go_simp
    exact hK _ (Below.refl _ _)
  · simp only [Act.put, List.setIfInBounds_toArray, List.set_cons_succ, List.set_cons_zero]
    rfl
  refine RG.goN hL rfl ?_ ?_
  · intro K wx hS hK
    go_simp
    refine (KW2.out wx hS).mono (fun e w2 he => ?_)
    obtain ⟨v, rfl, ty, b2⟩ := he
    exact ⟨_, rfl, hK _ _ b2 ty (fun _ _ _ => ⟨trivial, trivial⟩)⟩
  refine RG.goT ?_
  refine RG.goT ?_
  refine RG.go_end ?_
  intro U w9 m9 y9 x9
  simp +decide (maxSteps := 1000000) only [RG.tl, RG.putN, if_true, if_false, Act.put, List.setIfInBounds_toArray, List.set_cons_succ, List.set_cons_zero, Nat.reduceAdd]
  have ty9 := y9 6 rfl
  obtain ⟨f1, f2, f3, f4, f5, f6⟩ := NI_set HI.out m9 ty9 HX1.out HBW.out
  obtain ⟨z9, f1⟩ := f1
  obtain ⟨ya, yc, ey⟩ := Sl_fm (Ty_sl ty9)
  rw [ey] at f3 f4 f5 f6 ⊢
  have f7 := f3.c
  have HF3 : Hid _ := f3
  have HF5 : Hid _ := f5
  have HF6 : Hid _ := f6
  have HO : Hid _ := HI.out.o
  have HS9 : Hid (w.heap.size ≤ w9.heap.size) := Nat.le_trans HI.out.F.size m9.size
  clear ty9 y9 x9 ey f3 f5 f6 hL KW2 HC KW HI
  go_upto_region 13 with fail
  generalize w9.setCell ⟨gc, l.length, none⟩ (.slice ya C.length yc) = WX at f4 f7 HF3 HF5 HF6 ⊢
  have hfz := HF3.out.f 0
  clear f1 f2
  go_wp2_with fail
  refine (KS.out _ _ _ (Ty_sl HF6.out)).mono ?_
  rintro e w4 ⟨rfl, b4⟩
  have bZ : Below w4.heap.size w4 (w4.alloc (.cells Z32 36)) := (Below.refl _ _).alloc (Nat.le_refl _) _
  have thZ := there_new w4 36
  have hz4 : w4.heap.size < (w4.alloc (.cells Z32 36)).heap.size := by simp
  have B4 : Hid (Below WX.heap.size WX w4) := b4
  have BZ : Hid (Below w4.heap.size w4 (w4.alloc (.cells Z32 36)) ∧ w4.heap.size < (w4.alloc (.cells Z32 36)).heap.size) := ⟨bZ, hz4⟩
  clear b4 bZ hz4 KS f4 f7 hfz
  unfold Z32 at thZ BZ
  go_wp2_with (refine wpList_stH rfl rfl rfl rfl thZ ?_)
  intro w5 g5 cz
  have b45 : Below w4.heap.size w4 w5 := BZ.out.1.trans ⟨g5.os, g5.tape, g5.output, g5.size, fun i hi => g5.block i (by have := BZ.out.2; omega) (fun e => by injection e with e; omega)⟩
  have hg8 : w4.heap.size < w5.heap.size := Nat.lt_of_lt_of_le BZ.out.2 g5.size
  have b35 := B4.out.trans (b45.mono B4.out.size)
  have ws5 := WS_below HF3.out b35
  have fr5 := fr2_below HF5.out b35
  have sl5 : Ty (· = w4.heap.size) (sml C) (.slice (some ⟨w4.heap.size, 0, none⟩) 32 32) w5 := sml_sl hg8 cz
  have hcl := CO_lt HF3.out.co
  have hx4 : w.heap.size ≤ WX.heap.size := HF5.out.size
  have HR : Hid (NR B gw X l [C] (sml C) (.slice ra l.length rc) w (.returned (.slice (some ⟨w4.heap.size, 0, none⟩) 32 32)) w5) := ⟨_, _, rfl, by (have e0 : cdk (ks.take 0) = [] := by simp [cdk]); rw [e0] at ws5; exact ws5, Ty_mono sl5 (fun i hi _ => by
    have h4 := B4.out.size
    exact ⟨by omega, fun e => by have := (hcl i e).2; omega⟩), fr5, HO.out⟩
  clear g5 cz b45 hg8 b35 ws5 fr5 sl5 hcl hx4 BZ B4 thZ HF3 HF5 HF6 HO HS9
  go_wp2_with fail
  go_ret
  exact HR.out
end Rt
end Go.Proofs.YtefgamhnikeekaaDoor
namespace Go.Proofs.YtefgamhnikeekaaDoor
namespace Rt
open Nb Sp Pk Rs Go.RowKit
def TS (ws : World) (gw G : Nat) (kv cv : Value) (i : Nat) : Prop := ws.heap.size ≤ i ∧ kv.ownBlock ≠ some i ∧ cv.ownBlock ≠ some i ∧ i ≠ gw ∧ i ≠ G
structure NJ (ws : World) (r0 : Option Nat) (B gw G : Nat) (X : Nat → Prop) (k : Int) (pv vv : Value) (ks : List Nd) (l : List (List UInt8)) (j : Nat) (kv cv : Value) (gA : Nat) (nd s1 s2 s3 : Value) (T : List UInt8) (d : Nat → Bool) (U : Nat → Value) (wx : World) : Prop where
  a : d 4 = false → NI ws r0 B gw G X k pv vv ks l j j kv cv wx
  b : d 4 = true → ∃ cv', NI ws r0 B gw G X k pv vv ks l j (j + 1) kv cv' wx ∧ Ty (TS ws gw G kv cv') T (U 4) wx
  c : d 5 = true → d 4 = true ∧ Vl [U 4] (U 5) wx
  h : gA < wx.heap.size
  n0 : wx.cell? ⟨gA, 0, none⟩ = some nd
  n1 : wx.cell? ⟨gA, 1, none⟩ = some s1
  n2 : wx.cell? ⟨gA, 2, none⟩ = some s2
  n3 : wx.cell? ⟨gA, 3, none⟩ = some s3
  q : wx.cell? ⟨G, 3, none⟩ = some kv
variable {ws : World} {r0 : Option Nat} {B gw G : Nat} {X : Nat → Prop} {k : Int} {pv vv : Value} {ks : List Nd} {l : List (List UInt8)} {j : Nat} {kv cv : Value} {gA : Nat} {nd s1 s2 s3 : Value} {T : List UInt8} {d : Nat → Bool} {U : Nat → Value} {wx : World}
theorem NJ_keep {i : Nat} (h4 : 4 ≠ i) (h5 : 5 ≠ i) (h : NJ ws r0 B gw G X k pv vv ks l j kv cv gA nd s1 s2 s3 T d U wx) : NJ ws r0 B gw G X k pv vv ks l j kv cv gA nd s1 s2 s3 T (RI.don d i) U wx :=
  ⟨fun e => h.a (by rwa [RI.don_other _ _ _ h4] at e), fun e => h.b (by rwa [RI.don_other _ _ _ h4] at e), fun e => by
    rw [RI.don_other _ _ _ h4]
    exact h.c (by rwa [RI.don_other _ _ _ h5] at e), h.h, h.n0, h.n1, h.n2, h.n3, h.q⟩
theorem NJ_X (H : NI ws r0 B gw G X k pv vv ks l j j kv cv wx) (hX1 : ∀ i, ws.heap.size ≤ i → X i) : ∀ i, wx.heap.size ≤ i → X i ∧ i ≠ G ∧ kv.ownBlock ≠ some i := fun i hi =>
  ⟨hX1 i (Nat.le_trans H.F.size hi), fun e => by have := H.x.hi; omega, fun e => by have := (CO_lt H.K i e).2; omega⟩
theorem NJ_call {C : List (List UInt8)} {sv cv' : Value} {w' : World} (h : NJ ws r0 B gw G X k pv vv ks l j kv cv gA nd s1 s2 s3 T d U wx) (h4 : d 4 = false) (hg : gA ≠ gw ∧ cv.ownBlock ≠ some gA)
    (hW : WS B gw (fun i => X i ∧ i ≠ G ∧ kv.ownBlock ≠ some i) ((l ++ cdk (ks.take j)) ++ C) cv' w') (ht : Ty (fun i => wx.heap.size ≤ i ∧ cv'.ownBlock ≠ some i) T sv w') (hF : Fr2 wx w' gw cv.ownBlock) (ho : ∀ g, cv'.ownBlock = some g → cv.ownBlock = some g ∨ wx.heap.size ≤ g) (hs : cdk (ks.take (j + 1)) = cdk (ks.take j) ++ C) :
    NJ ws r0 B gw G X k pv vv ks l j kv cv gA nd s1 s2 s3 T (RI.don d 4) (RH.updU U 4 sv) w' := by
  have H := h.a h4
  have R := NI_R H hW hF ho hs
  have hb := hF.block gA h.h hg.1 (fun e => hg.2 e.symm)
  have cell : ∀ o u, wx.cell? ⟨gA, o, none⟩ = some u → w'.cell? ⟨gA, o, none⟩ = some u := fun o u c => (World.cell?_of_block (a := ⟨gA, o, none⟩) hb).trans c
  refine ⟨fun e => ?_, fun _ => ⟨cv', R, ?_⟩, fun e => ?_, Nat.lt_of_lt_of_le h.h hF.size, cell 0 _ h.n0, cell 1 _ h.n1, cell 2 _ h.n2, cell 3 _ h.n3, R.c3⟩
  · rw [RI.don_same] at e; cases e
  · show Ty _ T sv w'
    exact Ty_mono ht (fun i hi _ => ⟨Nat.le_trans H.F.size hi.1, fun e => by have := (CO_lt H.K i e).2; omega, hi.2, fun e => by have := H.W.hi; omega, fun e => by have := H.x.hi; omega⟩)
  · rw [RI.don_other _ _ _ (by decide)] at e
    have := (h.c e).1
    rw [h4] at this
    cases this
theorem NJ_row {ya : Option Addr} {yn yc : Nat} (h : NJ ws r0 B gw G X k pv vv ks l j kv cv gA nd s1 s2 s3 T d U wx) (h4 : d 4 = true) (hy : U 4 = .slice ya yn yc) :
    NJ ws r0 B gw G X k pv vv ks l j kv cv gA nd s1 s2 s3 T (RI.don d 5) (RH.updU U 5 (.slice (some ⟨wx.heap.size, 0, none⟩) 1 1)) (wx.alloc (.cells #[.slice ya yn yc] 22)) := by
  have hb : Below wx.heap.size wx (wx.alloc (.cells #[.slice ya yn yc] 22)) := (Below.refl _ _).alloc (Nat.le_refl _) _
  have cell : ∀ g o u, g < wx.heap.size → wx.cell? ⟨g, o, none⟩ = some u → (wx.alloc (.cells #[.slice ya yn yc] 22)).cell? ⟨g, o, none⟩ = some u := fun g o u hg c => (hb.cell (p := ⟨g, o, none⟩) hg).trans c
  obtain ⟨cv', R, ht⟩ := h.b h4
  refine ⟨fun e => ?_, fun _ => ⟨cv', NI_below R hb, Ty_gb (r := none) ht (gb_below hb) (fun _ _ => nofun)⟩, fun _ => ⟨by rw [RI.don_other _ _ _ (by decide)]; exact h4, ?_⟩, Nat.lt_of_lt_of_le h.h hb.size, cell _ _ _ h.h h.n0, cell _ _ _ h.h h.n1, cell _ _ _ h.h h.n2, cell _ _ _ h.h h.n3, cell _ _ _ R.x.hi h.q⟩
  · rw [RI.don_other _ _ _ (by decide), h4] at e; cases e
  · show Vl [U 4] (.slice (some ⟨wx.heap.size, 0, none⟩) 1 1) _
    rw [hy]
    have HB := heap_alloc_new wx (.cells #[.slice ya yn yc] 22)
    exact ⟨_, 1, rfl, fun _ => ⟨_, 0, rfl, by simp, fun i hi => by
      have : i = 0 := by simp at hi; omega
      subst this
      simp only [World.cell?, HB]
      rfl⟩⟩
end Rt
end Go.Proofs.YtefgamhnikeekaaDoor
namespace Go.Proofs.YtefgamhnikeekaaDoor
namespace Rt
open Nb Sp Pk Rs Go.RowKit
def KN (w : World) (B gw : Nat) (r0 : Option Nat) (g off j : Nat) (t : Nd) : Prop := ∃ p1 p2 p3 p4 p5 p6 p7 p8 p9, w.cell? ⟨g, off + j * 4, none⟩ = some (.int .i64 t.kind) ∧ w.cell? ⟨g, off + j * 4 + 1, none⟩ = some (.slice p1 p2 p3) ∧ w.cell? ⟨g, off + j * 4 + 2, none⟩ = some (.slice p4 p5 p6) ∧ w.cell? ⟨g, off + j * 4 + 3, none⟩ = some (.slice p7 p8 p9) ∧
  ∀ (wx : World) (X' : Nat → Prop) (l' : List (List UInt8)) (cv' : Value), Fr2 w wx gw r0 → WS B gw X' l' cv' wx → (∀ i, wx.heap.size ≤ i → X' i) → (∀ i, X' i → i ≠ gw) → l'.length + (if t.kind = 0 then [] else cds t).length ≤ 2097152 →
    Calls Tryd.prog 17 #[.pointer (some ⟨gw, 0, none⟩), .agg #[.int .i64 t.kind, .slice p1 p2 p3, .slice p4 p5 p6, .slice p7 p8 p9]] wx (NR B gw X' l' (if t.kind = 0 then [] else cds t) (if t.kind = 0 then [] else sml (cd t)) cv' wx)
set_option maxHeartbeats 4000000 in
set_option maxRecDepth 100000 in
theorem node_kids (a1 a2 a3 : Option Addr) (n1 c1 n2 c2 n3 c3 : Nat) (B gw : Nat) (X : Nat → Prop) (l : List (List UInt8)) (cv : Value) (w : World) (HW : Hid (WS B gw X l cv w)) (HBW : Hid (B ≤ w.heap.size)) (HX2 : Hid (∀ i, X i → i ≠ gw)) (HX1 : Hid (∀ i, w.heap.size ≤ i → X i)) (ks : List Nd) (C : List UInt8) (kk : Int) (hk0 : Hid (kk ≠ 0)) (hk1 : Hid (kk ≠ 1))
    (HN3 : Hid (n3 = ks.length)) (hz : Hid (ks.length ≤ 1048576)) (HLC : Hid (l.length + 1 + (cdk ks).length ≤ 2097152)) (hk : Hid (0 < n3 → ∃ g off, a3 = some ⟨g, off, none⟩ ∧ (g < w.heap.size ∧ g ≠ gw ∧ cv.ownBlock ≠ some g) ∧ ∀ j, j < n3 → KN w B gw cv.ownBlock g off j (ks.getD j Tr.Nd.no)))
    (KW : Hid (∀ (wr : World) (kv : Value) {r0 : Option Nat} {G : Nat} {l' : List (List UInt8)} {cv' : Value}, NI w r0 B gw G X kk (.slice a1 n1 c1) (.slice a2 n2 c2) ks l' n3 n3 kv cv' wr → (∀ i, r0 = some i → B ≤ i) → ∀ wx, Below wr.heap.size wr wx → Calls Tryd.prog 13 #[.agg #[.int .i64 kk, .slice a1 n1 c1, .slice a2 n2 c2, kv]] wx fun e w' => ∃ v, e = .returned v ∧ Ty (wr.heap.size ≤ ·) C v w' ∧ Below wx.heap.size wx w'))
    (KS : Hid (∀ x y wx, Sl C (.slice x C.length y) wx → Calls Tryd.prog 20 #[.slice x C.length y] wx fun e w' => e = .returned (Hv (sumf C)) ∧ Below wx.heap.size wx w')) :
    Calls Tryd.prog 17 #[.pointer (some ⟨gw, 0, none⟩), .agg #[.int .i64 kk, .slice a1 n1 c1, .slice a2 n2 c2, .slice a3 n3 c3]] w (NR B gw X l (C :: cdk ks) (sml C) cv w) := by
  have HLN : Hid (l.length ≤ 2097152) := by have := HLC.out; show _ ≤ _; omega
  have t0 : (kk == 0) = false := beq_eq_false_iff_ne.2 hk0.out
  have t1 : (kk == 1) = false := beq_eq_false_iff_ne.2 hk1.out
  have t2 : (kk != 1) = true := by rw [bne, t1]; rfl
  have hwl := HW.out.hi
  obtain ⟨ra, rc, rfl, _⟩ := CO_form HW.out.co
  have HR0 : Hid (∀ i, (Value.slice ra l.length rc).ownBlock = some i → B ≤ i) := fun i hi => (CO_lt HW.out.co i hi).1
  have HA := heap_alloc_new w (.cells #[.int .i64 kk, .slice a1 n1 c1, .slice a2 n2 c2, .slice a3 n3 c3] 32)
  have b0 : Below w.heap.size w (w.alloc (.cells #[.int .i64 kk, .slice a1 n1 c1, .slice a2 n2 c2, .slice a3 n3 c3] 32)) := (Below.refl _ _).alloc (Nat.le_refl _) _
  have z0 : (w.alloc (.cells #[.int .i64 kk, .slice a1 n1 c1, .slice a2 n2 c2, .slice a3 n3 c3] 32)).heap.size = w.heap.size + 1 := by simp
  have p0 : (w.alloc (.cells #[.int .i64 kk, .slice a1 n1 c1, .slice a2 n2 c2, .slice a3 n3 c3] 32)).cell? ⟨w.heap.size, 0, none⟩ = some (.int .i64 kk) := by simp only [World.cell?, HA]; rfl
  have p1 : (w.alloc (.cells #[.int .i64 kk, .slice a1 n1 c1, .slice a2 n2 c2, .slice a3 n3 c3] 32)).cell? ⟨w.heap.size, 1, none⟩ = some (.slice a1 n1 c1) := by simp only [World.cell?, HA]; rfl
  have p2 : (w.alloc (.cells #[.int .i64 kk, .slice a1 n1 c1, .slice a2 n2 c2, .slice a3 n3 c3] 32)).cell? ⟨w.heap.size, 2, none⟩ = some (.slice a2 n2 c2) := by simp only [World.cell?, HA]; rfl
  have p3 : (w.alloc (.cells #[.int .i64 kk, .slice a1 n1 c1, .slice a2 n2 c2, .slice a3 n3 c3] 32)).cell? ⟨w.heap.size, 3, none⟩ = some (.slice a3 n3 c3) := by simp only [World.cell?, HA]; rfl
  have W0 := WS_below HW.out b0
  clear HA
  have q0 := W0.c
  have HW0 : Hid _ := W0
  clear W0
  go_enter Tryd.func17, Tryd.ntmps17
  go_upto_region 4 with fail
  generalize hWA : w.alloc (.cells #[.int .i64 kk, .slice a1 n1 c1, .slice a2 n2 c2, .slice a3 n3 c3] 32) = WA at *
  clear hWA
  obtain ⟨h, eh⟩ : ∃ h, h = w.heap.size := ⟨_, rfl⟩
  rw [← eh] at p0 p1 p2 p3 ⊢
  have EH : Hid (h = w.heap.size) := eh
  have hh : h < WA.heap.size := by omega
  clear eh
  have bB : Below WA.heap.size WA (WA.alloc (.cells #[.slice none 0 0] 22)) := (Below.refl _ _).alloc (Nat.le_refl _) _
  have HB := heap_alloc_new WA (.cells #[.slice none 0 0] 22)
  have vB : Vl [.slice none 0 0] (.slice (some ⟨WA.heap.size, 0, none⟩) 1 1) (WA.alloc (.cells #[.slice none 0 0] 22)) := ⟨_, 1, rfl, fun _ => ⟨_, 0, rfl, by simp, fun i hi => by
    have : i = 0 := by simp at hi; omega
    subst this
    simp only [World.cell?, HB]
    rfl⟩⟩
  obtain ⟨sa, sn, sc, w7, hap, ⟨ck7, fz7⟩, hW7, hF7, ho7⟩ := WS_app 23 (WS_below HW0.out bB) vB (Nat.le_trans (Nat.le_trans HBW.out b0.size) bB.size) (by have := HLN.out; omega) HX2.out
  have hF8 := fr2_trans (fr2_below (fr2_below (fr2_refl w gw (Value.slice ra l.length rc).ownBlock) b0) bB) hF7 (fun i hi => .inl hi)
  have bl8 := fun (o : Nat) u (c : WA.cell? ⟨h, o, none⟩ = some u) => (World.cell?_of_block (a := ⟨h, o, none⟩) (hF7.block h (Nat.lt_of_lt_of_le hh bB.size) (fun e => by have := EH.out; omega) (fun e => by have := (CO_lt HW.out.co h e.symm).2; have := EH.out; omega))).trans ((bB.cell (p := ⟨h, o, none⟩) hh).trans c)
  have y0 := bl8 _ _ p0
  have y1 := bl8 _ _ p1
  have y2 := bl8 _ _ p2
  have y3 := bl8 _ _ p3
  have HO8 : Hid (∀ g, (Value.slice sa sn sc).ownBlock = some g → (Value.slice ra l.length rc).ownBlock = some g ∨ w.heap.size ≤ g) := fun g hg => by
    rcases ho7 g hg with e | e
    · exact .inl e
    · exact .inr (by have := bB.size; omega)
  have HW8 : Hid _ := hW7
  have HF8 : Hid _ := hF8
  clear hF7 ho7 hW7 hF8 bl8 bB HB vB p0 p1 p2 p3 b0 HW0 z0
  go_upto_region 5 with (at_builtin; refine wpList_apw rfl rfl rfl rfl hap ?_)
  clear hap ck7 fz7 q0 hh hwl
  generalize w7.setCell ⟨gw, 0, none⟩ (.slice sa sn sc) = W8 at HW8 HF8 y0 y1 y2 y3 ⊢
  have hh8 : h < W8.heap.size := World.block_lt_of_cell? W8 ⟨h, 0, none⟩ y0
  have x9 := BS_new W8
  have b9 : Below W8.heap.size W8 (W8.alloc (.cells #[.int .i64 0, .slice none 0 0, .slice none 0 0, .slice none 0 0] 25)) := (Below.refl _ _).alloc (Nat.le_refl _) _
  have B9 : Hid (Below W8.heap.size W8 (W8.alloc (.cells #[.int .i64 0, .slice none 0 0, .slice none 0 0, .slice none 0 0] 25))) := b9
  have HT0 : Hid _ := (b9.cell (p := ⟨h, 0, none⟩) hh8).trans y0
  have HT3 : Hid _ := (b9.cell (p := ⟨h, 3, none⟩) hh8).trans y3
  clear b9
  go_wp2_with (refine wpList_stB rfl rfl rfl rfl x9 ?_)
  intro w1 g1 xb s0 s1 s2 s3
  have hbk := g1.block h (Nat.lt_of_lt_of_le hh8 B9.out.size) (fun e => by injection e with e; omega)
  replace y0 := (World.cell?_of_block (a := ⟨h, 0, none⟩) hbk).trans HT0.out
  replace y3 := (World.cell?_of_block (a := ⟨h, 3, none⟩) hbk).trans HT3.out
  have HI : Hid (NI w (Value.slice ra l.length rc).ownBlock B gw W8.heap.size X kk (.slice a1 n1 c1) (.slice a2 n2 c2) ks (l ++ [[]]) 0 0 (.slice none 0 0) (.slice sa sn sc) w1) := NI_init HW8.out HF8.out HO8.out B9.out g1 xb s0 s1 s2 s3
  clear hbk y1 y2 s0 s1 s2 s3 xb g1 B9 x9 HW8 HF8 HO8 hh8 HT0 HT3
  generalize W8.heap.size = G at HI ⊢
  have HGH : Hid (gw < w.heap.size) := HW.out.hi
  clear HW
  go_upto_region 8 with fail
  clear y0 y3
  go_loopw [40] (fun i wr => ∃ j : Nat, j ≤ n3 ∧ i = .int .i64 (j : Int) ∧ ∃ kv cv, NI w (Value.slice ra l.length rc).ownBlock B gw G X kk (.slice a1 n1 c1) (.slice a2 n2 c2) ks (l ++ [[]]) j j kv cv wr) (fun i _ => ((n3 : Int) - intOf i).toNat)
  case atStart => exact ⟨0, Nat.zero_le _, rfl, _, _, HI.out⟩
  case round =>
    clear HI
    obtain ⟨j, hj, rfl, kv, cv, hI⟩ := hrel
    obtain ⟨va, vc, ev, _⟩ := CO_form hI.W.co
    obtain ⟨ka, kc, ek, _⟩ := CO_form hI.K
    generalize ((l ++ [[]]) ++ cdk (ks.take j)).length = vn at ev
    generalize (sms (ks.take j)).length = kn at ek
    subst ev ek
    have HI : Hid (NI w (Value.slice ra l.length rc).ownBlock B gw G X kk (.slice a1 n1 c1) (.slice a2 n2 c2) ks (l ++ [[]]) j j (.slice ka kn kc) (.slice va vn vc) wr) := hI
    clear hI
    by_cases j1 : j < n3
    · have d0 : (j : Int) < (n3 : Int) := by omega
      have d1 : (0 : Int) ≤ (j : Int) := by omega
      have hw := Nb.stp j (by have := hz.out; have := HN3.out; show _ ≤ _; omega)
      have hjl : j < ks.length := by have := HN3.out; omega
      obtain ⟨g, off, rfl, hg, hc⟩ := hk.out (by omega)
      obtain ⟨p1, p2, p3, p4, p5, p6, p7, p8, p9, k0, k1, k2, k3, kt⟩ := hc j j1
      have blk : ∀ o v, w.cell? ⟨g, o, none⟩ = some v → wr.cell? ⟨g, o, none⟩ = some v := fun o v c => (World.cell?_of_block (a := ⟨g, o, none⟩) (HI.out.F.block g hg.1 hg.2.1 (fun e => hg.2.2 e.symm))).trans c
      have r0 := blk _ _ k0
      have r1 := blk _ _ k1
      have r2 := blk _ _ k2
      have r3 := blk _ _ k3
      have HS1 : Hid (sms (ks.take (j + 1)) = sms (ks.take j) ++ [if (ks.getD j Tr.Nd.no).kind = 0 then [] else sml (cd (ks.getD j Tr.Nd.no))]) := sms_snoc ks j hjl
      have HC1 : Hid (cdk (ks.take (j + 1)) = cdk (ks.take j) ++ (if (ks.getD j Tr.Nd.no).kind = 0 then [] else cds (ks.getD j Tr.Nd.no))) := cdk_snoc ks j hjl
      have HLJ : Hid (((l ++ [[]]) ++ cdk (ks.take j)).length + (if (ks.getD j Tr.Nd.no).kind = 0 then [] else cds (ks.getD j Tr.Nd.no)).length ≤ 2097152) := by
        have e1 := congrArg List.length HC1.out
        have e2 := cdk_take ks (j + 1)
        have e3 := HLC.out
        rw [List.length_append] at e1
        show _ ≤ _
        rw [List.length_append, List.length_append, List.length_singleton]
        omega
      have HJ1 : Hid (j < n3) := j1
      clear hc k0 k1 k2 k3 blk hjl j1
      generalize ks.getD j Tr.Nd.no = T at *
      generalize (if T.kind = 0 then [] else sml (cd T)) = TT at *
      generalize (if T.kind = 0 then [] else cds T) = CC at *
      have KT : Hid _ := kt
      clear kt
      have bA : Below wr.heap.size wr (wr.alloc (.cells #[.int .i64 T.kind, .slice p1 p2 p3, .slice p4 p5 p6, .slice p7 p8 p9] 32)) := (Below.refl _ _).alloc (Nat.le_refl _) _
      have HA := heap_alloc_new wr (.cells #[.int .i64 T.kind, .slice p1 p2 p3, .slice p4 p5 p6, .slice p7 p8 p9] 32)
      have q0 : (wr.alloc (.cells #[.int .i64 T.kind, .slice p1 p2 p3, .slice p4 p5 p6, .slice p7 p8 p9] 32)).cell? ⟨wr.heap.size, 0, none⟩ = some (.int .i64 T.kind) := by simp only [World.cell?, HA]; rfl
      have q1 : (wr.alloc (.cells #[.int .i64 T.kind, .slice p1 p2 p3, .slice p4 p5 p6, .slice p7 p8 p9] 32)).cell? ⟨wr.heap.size, 1, none⟩ = some (.slice p1 p2 p3) := by simp only [World.cell?, HA]; rfl
      have q2 : (wr.alloc (.cells #[.int .i64 T.kind, .slice p1 p2 p3, .slice p4 p5 p6, .slice p7 p8 p9] 32)).cell? ⟨wr.heap.size, 2, none⟩ = some (.slice p4 p5 p6) := by simp only [World.cell?, HA]; rfl
      have q3 : (wr.alloc (.cells #[.int .i64 T.kind, .slice p1 p2 p3, .slice p4 p5 p6, .slice p7 p8 p9] 32)).cell? ⟨wr.heap.size, 3, none⟩ = some (.slice p7 p8 p9) := by simp only [World.cell?, HA]; rfl
      have HGA : Hid (wr.heap.size ≠ gw ∧ (Value.slice va vn vc).ownBlock ≠ some wr.heap.size) := ⟨fun e => by have := HI.out.W.hi; omega, fun e => by have := (CO_lt HI.out.W.co _ e).2; omega⟩
      have J0 : Hid (NJ w (Value.slice ra l.length rc).ownBlock B gw G X kk (.slice a1 n1 c1) (.slice a2 n2 c2) ks (l ++ [[]]) j (.slice ka kn kc) (.slice va vn vc) wr.heap.size (.int .i64 T.kind) (.slice p1 p2 p3) (.slice p4 p5 p6) (.slice p7 p8 p9) TT (fun _ => false) (fun _ => undef) (wr.alloc (.cells #[.int .i64 T.kind, .slice p1 p2 p3, .slice p4 p5 p6, .slice p7 p8 p9] 32)).drew) := ⟨fun _ => NI_below HI.out (bA.trans (Below.refl _ _).drew), nofun, nofun, (by simp), q0, q1, q2, q3, (bA.cell (p := ⟨G, 3, none⟩) HI.out.x.hi).trans HI.out.c3⟩
      clear bA HA q0 q1 q2 q3 HI
      go_upto_region 10 with fail
      generalize wr.alloc (.cells #[.int .i64 T.kind, .slice p1 p2 p3, .slice p4 p5 p6, .slice p7 p8 p9] 32) = WA at J0 ⊢
      generalize wr.heap.size = gA at J0 HGA ⊢
      clear r0 r1 r2 r3
      refine RH.wp_region_genI (NJ w (Value.slice ra l.length rc).ownBlock B gw G X kk (.slice a1 n1 c1) (.slice a2 n2 c2) ks (l ++ [[]]) j (.slice ka kn kc) (.slice va vn vc) gA (.int .i64 T.kind) (.slice p1 p2 p3) (.slice p4 p5 p6) (.slice p7 p8 p9) TT) [0, 0, 0, 0, 1, 1, 2, 2, 2] (by kernel_rfl) (by kernel_rfl) (J0.out) ?_
      dsimp only [List.toList_toArray]
      refine RH.goD (v := ?_) (f' := ?_) rfl ?_ ?_ ?_
      rotate_left 2
      · intro U K d wx hI hmay hK
        go_simp
        exact hK _ (NJ_keep (by decide) (by decide) hI)
      · intro U
        simp only [Act.put, List.setIfInBounds_toArray, List.set_cons_succ, List.set_cons_zero]
        rfl
      refine RH.goD (v := ?_) (f' := ?_) rfl ?_ ?_ ?_
      rotate_left 2
      · intro U K d wx hI hmay hK
        have z3 := hI.q
        go_simp
        exact hK _ (NJ_keep (by decide) (by decide) hI)
      · intro U
        simp only [Act.put, List.setIfInBounds_toArray, List.set_cons_succ, List.set_cons_zero]
        rfl
      refine RH.goD (v := ?_) (f' := ?_) rfl ?_ ?_ ?_
      rotate_left 2
      · intro U K d wx hI hmay hK
        go_simp
        exact hK _ (NJ_keep (by decide) (by decide) hI)
      · intro U
        simp only [Act.put, List.setIfInBounds_toArray, List.set_cons_succ, List.set_cons_zero]
        rfl
      refine RH.goD (v := ?_) (f' := ?_) rfl ?_ ?_ ?_
      rotate_left 2
      · intro U K d wx hI hmay hK
        have z0 := hI.n0
        have z1 := hI.n1
        have z2 := hI.n2
        have z3 := hI.n3
        go_simp
        exact hK _ (NJ_keep (by decide) (by decide) hI)
      · intro U
        simp only [Act.put, List.setIfInBounds_toArray, List.set_cons_succ, List.set_cons_zero]
        rfl
      refine RH.goN (f' := ?_) rfl ?_ ?_ ?_
      rotate_left 1
      · intro U K d wx hI hmay hK
        have h4 := hmay.1
        have H := hI.a h4
        go_simp
        refine (KT.out wx _ _ _ H.F H.W (NJ_X H HX1.out) (fun i hi => HX2.out i hi.1) HLJ.out).mono (fun e w2 he => ?_)
        obtain ⟨sv, cv', rfl, hW', ty', fr', own'⟩ := he
        exact ⟨_, rfl, hK _ _ (NJ_call hI h4 HGA.out hW' ty' fr' own' HC1.out)⟩
      · intro U
        simp only [Act.put, List.setIfInBounds_toArray, List.set_cons_succ, List.set_cons_zero]
        rfl
      refine RH.goN (f' := ?_) rfl ?_ ?_ ?_
      rotate_left 1
      · intro U K d wx hI hmay hK
        have h4 : d 4 = true := by have := hmay.2 _ rfl; simpa [Region.binds] using this
        obtain ⟨cv', R, ht⟩ := hI.b h4
        obtain ⟨ya, yc, ey⟩ := Sl_fm (Ty_sl ht)
        have hN := NJ_row hI h4 ey
        clear R ht
        go_simp
        exact hK _ _ hN
      · intro U
        simp only [Act.put, List.setIfInBounds_toArray, List.set_cons_succ, List.set_cons_zero]
        rfl
      refine RH.goT ?_
      refine RH.goT ?_
      refine RH.goT ?_
      refine RH.go_end ?_
      intro d U w9 hI hall
      simp +decide only [RH.tl, if_true, if_false]
      have h4 : d 4 = true := hall 4 (by decide)
      have h5 : d 5 = true := hall 5 (by decide)
      obtain ⟨cv', R, ht⟩ := hI.b h4
      obtain ⟨a7, m7, c7, w7, hap, ⟨ck7, fz7⟩, hI7⟩ := NI_K 23 R (hI.c h5).2 ht HS1.out hz.out
      have HI7 : Hid _ := hI7
      clear hI7 R ht hI hall h4 h5 J0 KT HLJ HGA HS1 HC1
      go_wp2_with (at_builtin; refine wpList_apw rfl rfl rfl rfl hap ?_)
      have hw := hw.out
      go_roundw
      case rel => exact ⟨j + 1, HJ1.out, Nb.step_v j _ hw, _, _, HI7.out⟩
      case measure => exact Nb.msr j n3 HJ1.out _ hw
    · have ej : j = n3 := by omega
      subst ej
      have d5 : ¬ ((j : Int) < (j : Int)) := by omega
      have hks : cdk (ks.take j) = cdk ks := by rw [HN3.out, List.take_length]
      have HKS : Hid (cdk (ks.take j) = cdk ks) := hks
      clear hks hk
      have hI := HI.out
      have hW := hI.W
      rw [List.append_assoc] at hW
      obtain ⟨gc, cc, ecv⟩ := WS_form (l := l) (m := cdk (ks.take (j))) hW
      injection ecv with e1 e2 e3
      subst e1 e3
      have d1 : (l.length : Int) < ((vn : Nat) : Int) := by omega
      have d0 : (0 : Int) ≤ (l.length : Int) := by omega
      clear e2
      have HC : Hid (gw < wr.heap.size ∧ wr.cell? ⟨gw, 0, none⟩ = some (.slice (some ⟨gc, 0, none⟩) vn vc) ∧ G < wr.heap.size ∧ wr.cell? ⟨G, 0, none⟩ = some (.int .i64 kk) ∧ wr.cell? ⟨G, 1, none⟩ = some (.slice a1 n1 c1) ∧ wr.cell? ⟨G, 2, none⟩ = some (.slice a2 n2 c2) ∧ wr.cell? ⟨G, 3, none⟩ = some (.slice ka kn kc)) := ⟨hI.W.hi, hI.W.c, hI.x.hi, hI.c0, hI.c1, hI.c2, hI.c3⟩
      have KW2 : Hid _ := KW.out wr (.slice ka kn kc) hI HR0.out
      have hL : RG.Lasts (fun wx => Below wr.heap.size wr wx) (fun _ v wx => Ty (wr.heap.size ≤ ·) C v wx) := ⟨fun _ _ h hb => h.trans (hb.mono h.size), fun _ _ _ _ h hb => Ty_gb (r := none) h (gb_below hb) (fun _ _ => nofun)⟩
      clear hI hW
      go_upto_region 12 with fail
      refine RG.wp_region_gen (fun wx => Below wr.heap.size wr wx) (fun _ v wx => Ty (wr.heap.size ≤ ·) C v wx) (fun _ _ => True) [0, 0, 0, 0, 0, 0, 1, 2, 2] (by kernel_rfl) (by kernel_rfl) ((Below.refl _ _).drew) ?_
      dsimp only [List.toList_toArray]
      refine RG.go1 (v := ?_) (a' := ?_) hL (by decide) rfl ?_ ?_ ?_
      rotate_left 2
      · intro K wx hS hK
        go_simp
        exact hK _ (Below.refl _ _)
      · simp only [Act.put, List.setIfInBounds_toArray, List.set_cons_succ, List.set_cons_zero]
        rfl
      refine RG.go1 (v := ?_) (a' := ?_) hL (by decide) rfl ?_ ?_ ?_
      rotate_left 2
      · intro K wx hS hK
        go_simp
        exact hK _ (Below.refl _ _)
      · simp only [Act.put, List.setIfInBounds_toArray, List.set_cons_succ, List.set_cons_zero]
        rfl
      refine RG.go1 (v := ?_) (a' := ?_) hL (by decide) rfl ?_ ?_ ?_
      rotate_left 2
      · intro K wx hS hK
        go_simp
        exact hK _ (Below.refl _ _)
      · simp only [Act.put, List.setIfInBounds_toArray, List.set_cons_succ, List.set_cons_zero]
        rfl
      refine RG.go1 (v := ?_) (a' := ?_) hL (by decide) rfl ?_ ?_ ?_
      rotate_left 2
      · intro K wx hS hK
        have z0 := (hS.cell (p := ⟨gw, 0, none⟩) HC.out.1).trans HC.out.2.1
        go_simp
        exact hK _ (Below.refl _ _)
      · simp only [Act.put, List.setIfInBounds_toArray, List.set_cons_succ, List.set_cons_zero]
        rfl
      refine RG.go1 (v := ?_) (a' := ?_) hL (by decide) rfl ?_ ?_ ?_
      rotate_left 2
      · intro K wx hS hK
        go_simp
        exact hK _ (Below.refl _ _)
      · simp only [Act.put, List.setIfInBounds_toArray, List.set_cons_succ, List.set_cons_zero]
        rfl
      refine RG.go1 (v := ?_) (a' := ?_) hL (by decide) rfl ?_ ?_ ?_
      rotate_left 2
      · intro K wx hS hK
        have z0 := (hS.cell (p := ⟨G, 0, none⟩) HC.out.2.2.1).trans HC.out.2.2.2.1
        have z1 := (hS.cell (p := ⟨G, 1, none⟩) HC.out.2.2.1).trans HC.out.2.2.2.2.1
        have z2 := (hS.cell (p := ⟨G, 2, none⟩) HC.out.2.2.1).trans HC.out.2.2.2.2.2.1
        have z3 := (hS.cell (p := ⟨G, 3, none⟩) HC.out.2.2.1).trans HC.out.2.2.2.2.2.2
        go_simp
        exact hK _ (Below.refl _ _)
      · simp only [Act.put, List.setIfInBounds_toArray, List.set_cons_succ, List.set_cons_zero]
        rfl
      refine RG.goN hL rfl ?_ ?_
      · intro K wx hS hK
        go_simp
        refine (KW2.out wx hS).mono (fun e w2 he => ?_)
        obtain ⟨v, rfl, ty, b2⟩ := he
        exact ⟨_, rfl, hK _ _ b2 ty (fun _ _ _ => ⟨trivial, trivial⟩)⟩
      refine RG.goT ?_
      refine RG.goT ?_
      refine RG.go_end ?_
      intro U w9 m9 y9 x9
      simp +decide (maxSteps := 1000000) only [RG.tl, RG.putN, if_true, if_false, Act.put, List.setIfInBounds_toArray, List.set_cons_succ, List.set_cons_zero, Nat.reduceAdd]
      have ty9 := y9 6 rfl
      obtain ⟨f1, f2, f3, f4, f5, f6⟩ := NI_set HI.out m9 ty9 HX1.out HBW.out
      obtain ⟨z9, f1⟩ := f1
      obtain ⟨ya, yc, ey⟩ := Sl_fm (Ty_sl ty9)
      rw [ey] at f3 f4 f5 f6 ⊢
      have f7 := f3.c
      have HF3 : Hid _ := f3
      have HF5 : Hid _ := f5
      have HF6 : Hid _ := f6
      have HO : Hid _ := HI.out.o
      have HS9 : Hid (w.heap.size ≤ w9.heap.size) := Nat.le_trans HI.out.F.size m9.size
      clear ty9 y9 x9 ey f3 f5 f6 hL KW2 HC KW HI
      go_upto_region 13 with fail
      generalize w9.setCell ⟨gc, l.length, none⟩ (.slice ya C.length yc) = WX at f4 f7 HF3 HF5 HF6 ⊢
      have hfz := HF3.out.f 0
      clear f1 f2
      go_wp2_with fail
      refine (KS.out _ _ _ (Ty_sl HF6.out)).mono ?_
      rintro e w4 ⟨rfl, b4⟩
      have bZ : Below w4.heap.size w4 (w4.alloc (.cells Z32 36)) := (Below.refl _ _).alloc (Nat.le_refl _) _
      have thZ := there_new w4 36
      have hz4 : w4.heap.size < (w4.alloc (.cells Z32 36)).heap.size := by simp
      have B4 : Hid (Below WX.heap.size WX w4) := b4
      have BZ : Hid (Below w4.heap.size w4 (w4.alloc (.cells Z32 36)) ∧ w4.heap.size < (w4.alloc (.cells Z32 36)).heap.size) := ⟨bZ, hz4⟩
      clear b4 bZ hz4 KS f4 f7 hfz
      unfold Z32 at thZ BZ
      go_wp2_with (refine wpList_stH rfl rfl rfl rfl thZ ?_)
      intro w5 g5 cz
      have b45 : Below w4.heap.size w4 w5 := BZ.out.1.trans ⟨g5.os, g5.tape, g5.output, g5.size, fun i hi => g5.block i (by have := BZ.out.2; omega) (fun e => by injection e with e; omega)⟩
      have hg8 : w4.heap.size < w5.heap.size := Nat.lt_of_lt_of_le BZ.out.2 g5.size
      have b35 := B4.out.trans (b45.mono B4.out.size)
      have ws5 := WS_below HF3.out b35
      have fr5 := fr2_below HF5.out b35
      have sl5 : Ty (· = w4.heap.size) (sml C) (.slice (some ⟨w4.heap.size, 0, none⟩) 32 32) w5 := sml_sl hg8 cz
      have hcl := CO_lt HF3.out.co
      have hx4 : w.heap.size ≤ WX.heap.size := HF5.out.size
      have HR : Hid (NR B gw X l (C :: cdk ks) (sml C) (.slice ra l.length rc) w (.returned (.slice (some ⟨w4.heap.size, 0, none⟩) 32 32)) w5) := ⟨_, _, rfl, by rw [HKS.out] at ws5; exact ws5, Ty_mono sl5 (fun i hi _ => by
        have h4 := B4.out.size
        exact ⟨by omega, fun e => by have := (hcl i e).2; omega⟩), fr5, HO.out⟩
      clear g5 cz b45 hg8 b35 ws5 fr5 sl5 hcl hx4 BZ B4 thZ HF3 HF5 HF6 HO HS9
      go_wp2_with fail
      go_ret
      exact HR.out
end Rt
end Go.Proofs.YtefgamhnikeekaaDoor
namespace Go.Proofs.YtefgamhnikeekaaDoor
namespace Rt
open Nb Sp Pk Rs Go.RowKit
def ccs (t : Nd) : List (List UInt8) := if t.kind = 0 then [] else cds t
def stx (t : Nd) : List UInt8 := if t.kind = 0 then [] else sml (cd t)
theorem hr_kids {k : Int} {p v : List UInt8} {ks : List Nd} (h : Hr (.mk k p v ks)) (h0 : k ≠ 0) (h1 : k ≠ 1) (j : Nat) (hj : j < ks.length) : Hr (ks.getD j Tr.Nd.no) := by
  cases h.1 with
  | none => exact absurd rfl h0
  | leaf => exact absurd rfl h1
  | road _ _ t _ _ _ _ =>
    have : j = 0 := by simp at hj; exact hj
    subst this
    exact hr_road h
  | fork _ _ _ hl _ _ => exact hr_kid h j (by omega)
theorem hr_kind {k : Int} {p v : List UInt8} {ks : List Nd} (h : Hr (.mk k p v ks)) : k = 0 ∨ k = 1 ∨ k = 2 ∨ k = 3 := by
  cases h.1 with
  | none => exact .inl rfl
  | leaf => exact .inr (.inl rfl)
  | road => exact .inr (.inr (.inl rfl))
  | fork => exact .inr (.inr (.inr rfl))
set_option maxRecDepth 100000 in
theorem sum_sl (c : List UInt8) (hc : c.length ≤ 1048576) : ∀ x y wx, Sl c (.slice x c.length y) wx → Calls Tryd.prog 20 #[.slice x c.length y] wx fun e w' => e = .returned (Hv (sumf c)) ∧ Below wx.heap.size wx w' := fun x y wx hs => by
  obtain ⟨ao, cap, e1, _, hvv⟩ := hs
  injection e1 with e2 _ _
  exact Sp.sum_any _ x y wx (by omega) (by rw [e2]; exact hvv)
theorem write_sh (s : Shp) (hs : isS s = true) (hp : s.2.1.length ≤ 1048576) (x : V4) (wx : World) (h : Sh s x wx) (B : Nat) (hB : B ≤ wx.heap.size) : Calls Tryd.prog 13 #[v4 x] wx fun e w' => ∃ v, e = .returned v ∧ Ty (B ≤ ·) (hc s) v w' ∧ Below wx.heap.size wx w' := by
  refine (write_any s x wx h hs hp).mono ?_
  rintro e w' ⟨v, rfl, ty, _, b⟩
  have e1 : hc s = enc (itS s) := by unfold hc; rw [if_pos hs]
  rw [e1]
  exact ⟨v, rfl, Ty_mono ty (fun i hi _ => Nat.le_trans hB hi), b⟩
set_option maxRecDepth 100000 in
theorem node_any {t : Nd} (hwf : Tr.Wf t) : Tr.wn t ≤ 1048576 → Hr t → ∀ (S : Nat → Prop) (x : Tr.V4) (w0 : World), Tr.Nv S w0 t x → ∀ (gw : Nat) (X : Nat → Prop) (l : List (List UInt8)) (cv : Value) (w : World), Below w0.heap.size w0 w → w0.heap.size ≤ gw → WS w0.heap.size gw X l cv w → (∀ i, w.heap.size ≤ i → X i) → (∀ i, X i → i ≠ gw) → l.length + (ccs t).length ≤ 2097152 →
    Calls Tryd.prog 17 #[.pointer (some ⟨gw, 0, none⟩), Tr.v4 x] w (NR w0.heap.size gw X l (ccs t) (stx t) cv w) := by
  induction hwf with
  | mk k p v ks hks ih =>
    intro hz hr S x w0 hx gw X l cv w hb0 hgw hW hX1 hX2 hln
    have hpp := shN_path (.mk k p v ks) hz
    have hcl : (cd (.mk k p v ks)).length ≤ 1048576 := by rw [cd_eq]; exact hc_len _ hpp
    have hsh := hr_shape hr
    have hzk := hz
    unfold Tr.wn at hzk
    cases hx with
    | mk _ _ _ _ pv vv kv vs hp hv hl hk hi =>
      obtain ⟨a1, c1, rfl, _⟩ := id hp
      obtain ⟨a2, c2, rfl, _⟩ := id hv
      obtain ⟨a3, c3, rfl, _, hq⟩ := id hk
      have hlt : ∀ (r0 : Option Nat) (wr wx : World), (∀ i, r0 = some i → w0.heap.size ≤ i) → Fr2 w wr gw r0 → Below wr.heap.size wr wx → Below w0.heap.size w0 wx := fun r0 wr wx h1 h2 h3 => by
        have h4 := below_fr2 hb0 h2 hb0.size hgw h1
        exact h4.trans (h3.mono h4.size)
      rcases hr_kind hr with rfl | rfl | rfl | rfl
      · have e1 : ccs (.mk 0 p v ks) = [] := if_pos (show (Tr.Nd.mk 0 p v ks).kind = 0 from rfl)
        have e2 : stx (.mk 0 p v ks) = [] := if_pos (show (Tr.Nd.mk 0 p v ks).kind = 0 from rfl)
        rw [e1, e2]
        exact node_none a1 a2 a3 _ c1 _ c2 _ c3 _ gw X l cv w hW
      · have e1 : ccs (.mk 1 p v ks) = [cd (.mk 1 p v ks)] := by
          refine (if_neg (show ¬ (Tr.Nd.mk 1 p v ks).kind = 0 from by show ¬ ((1 : Int) = 0); decide)).trans ?_
          rw [cds, if_neg (by decide)]
        have e2 : stx (.mk 1 p v ks) = sml (cd (.mk 1 p v ks)) := by exact if_neg (show ¬ (Tr.Nd.mk 1 p v ks).kind = 0 from by show ¬ ((1 : Int) = 0); decide)
        have es : shN (.mk 1 p v ks) = (1, p, v, []) := by rw [shN, if_pos rfl]
        rw [e1] at hln
        rw [e1, e2]
        rw [es] at hsh hpp
        refine node_leaf a1 a2 a3 _ c1 _ c2 _ c3 _ gw X l cv w hW hb0.size (by show _ ≤ _; omega) hX2 hX1 ks _ (fun wr kv' r0 G l' cv' H h0 wx hwx => ?_) (sum_sl _ hcl)
        have hbx := hlt r0 wr wx h0 H.F hwx
        rw [cd_eq, es]
        have hK := CO_ls (CO_below H.K hwx)
        have ek : sms (ks.take 0) = [] := by simp [sms]
        rw [ek] at hK
        exact write_sh (1, p, v, []) hsh hpp (.int .i64 1, .slice a1 p.length c1, .slice a2 v.length c2, kv') wx ⟨rfl, Pk.Sl_below (Tr.Bs_sl hp) hbx, Pk.Sl_below (Tr.Bs_sl hv) hbx, hK⟩ _ hwx.size
      all_goals
        have hkl : ks.length ≤ 1048576 := by have := wnk_many' ks; omega
        have hkid : ∀ j, j < ks.length → Tr.wn (ks.getD j Tr.Nd.no) ≤ 1048576 := fun j hj => by have := Tr.wnk_one ks j hj; omega
        have hkd : 0 < vs.length → ∃ g off, a3 = some ⟨g, off, none⟩ ∧ (g < w.heap.size ∧ g ≠ gw ∧ cv.ownBlock ≠ some g) ∧ ∀ j, j < vs.length → KN w w0.heap.size gw cv.ownBlock g off j (ks.getD j Tr.Nd.no) := fun h0 => by
          obtain ⟨g, off, e, _, hg, hc⟩ := hq h0
          refine ⟨g, off, e, ⟨Nat.lt_of_lt_of_le hg hb0.size, by omega, fun e2 => by have := (CO_lt hW.co g e2).1; omega⟩, fun j hj => ?_⟩
          obtain ⟨r0, r1, r2, r3⟩ := hc j hj
          have hjk : j < ks.length := by omega
          have nv := hi j hjk
          obtain ⟨kk, b1, m1, d1, b2, m2, d2, b3, m3, d3, ev⟩ := Tr.Nv_form nv
          have ek : kk = (ks.getD j Tr.Nd.no).kind := by
            rw [ev] at nv
            cases hT : ks.getD j Tr.Nd.no with
            | mk kT pT vT ksT =>
              rw [hT] at nv
              cases nv
              rfl
          rw [ev] at r0 r1 r2 r3
          rw [Nat.mul_comm 4 j] at r0 r1 r2 r3
          have cl : ∀ o u, w0.cell? ⟨g, o, none⟩ = some u → w.cell? ⟨g, o, none⟩ = some u := fun o u c => (hb0.cell (p := ⟨g, o, none⟩) hg).trans c
          refine ⟨b1, m1, d1, b2, m2, d2, b3, m3, d3, by rw [← ek]; exact cl _ _ r0, cl _ _ r1, cl _ _ r2, cl _ _ r3, fun wx X' l' cv' hF hW' hx1 hx2 hl' => ?_⟩
          have := ih j hjk (hkid j hjk) (hr_kids hr (by decide) (by decide) j hjk) S _ w0 nv gw X' l' cv' wx (below_fr2 hb0 hF hb0.size hgw (fun i hi => (CO_lt hW.co i hi).1)) hgw hW' hx1 hx2 hl'
          rw [ev, ek] at this
          exact this
      · have e1 : ccs (.mk 2 p v ks) = cd (.mk 2 p v ks) :: cdk ks := by
          refine (if_neg (show ¬ (Tr.Nd.mk 2 p v ks).kind = 0 from by show ¬ ((2 : Int) = 0); decide)).trans ?_
          rw [cds, if_pos (.inl rfl)]
        have e2 : stx (.mk 2 p v ks) = sml (cd (.mk 2 p v ks)) := by exact if_neg (show ¬ (Tr.Nd.mk 2 p v ks).kind = 0 from by show ¬ ((2 : Int) = 0); decide)
        have es : shN (.mk 2 p v ks) = (2, p, v, sms ks) := by rw [shN, if_neg (by decide), if_pos (.inl rfl)]
        rw [e1, List.length_cons] at hln
        rw [e1, e2]
        rw [es] at hsh hpp
        refine node_kids a1 a2 a3 _ c1 _ c2 _ c3 _ gw X l cv w hW hb0.size hX2 hX1 ks _ 2 (by show _ ≠ _; decide) (by show _ ≠ _; decide) hl hkl (by show _ ≤ _; omega) hkd (fun wr kv' r0 G l' cv' H h0 wx hwx => ?_) (sum_sl _ hcl)
        have hbx := hlt r0 wr wx h0 H.F hwx
        rw [cd_eq, es]
        have hK := CO_ls (CO_below H.K hwx)
        rw [hl, List.take_length] at hK
        exact write_sh (2, p, v, sms ks) hsh hpp (.int .i64 2, .slice a1 p.length c1, .slice a2 v.length c2, kv') wx ⟨rfl, Pk.Sl_below (Tr.Bs_sl hp) hbx, Pk.Sl_below (Tr.Bs_sl hv) hbx, hK⟩ _ hwx.size
      · have e1 : ccs (.mk 3 p v ks) = cd (.mk 3 p v ks) :: cdk ks := by
          refine (if_neg (show ¬ (Tr.Nd.mk 3 p v ks).kind = 0 from by show ¬ ((3 : Int) = 0); decide)).trans ?_
          rw [cds, if_pos (.inr rfl)]
        have e2 : stx (.mk 3 p v ks) = sml (cd (.mk 3 p v ks)) := by exact if_neg (show ¬ (Tr.Nd.mk 3 p v ks).kind = 0 from by show ¬ ((3 : Int) = 0); decide)
        have es : shN (.mk 3 p v ks) = (3, p, v, sms ks) := by rw [shN, if_neg (by decide), if_pos (.inr rfl)]
        rw [e1, List.length_cons] at hln
        rw [e1, e2]
        rw [es] at hsh hpp
        refine node_kids a1 a2 a3 _ c1 _ c2 _ c3 _ gw X l cv w hW hb0.size hX2 hX1 ks _ 3 (by show _ ≠ _; decide) (by show _ ≠ _; decide) hl hkl (by show _ ≤ _; omega) hkd (fun wr kv' r0 G l' cv' H h0 wx hwx => ?_) (sum_sl _ hcl)
        have hbx := hlt r0 wr wx h0 H.F hwx
        rw [cd_eq, es]
        have hK := CO_ls (CO_below H.K hwx)
        rw [hl, List.take_length] at hK
        exact write_sh (3, p, v, sms ks) hsh hpp (.int .i64 3, .slice a1 p.length c1, .slice a2 v.length c2, kv') wx ⟨rfl, Pk.Sl_below (Tr.Bs_sl hp) hbx, Pk.Sl_below (Tr.Bs_sl hv) hbx, hK⟩ _ hwx.size
end Rt
end Go.Proofs.YtefgamhnikeekaaDoor
namespace Go.Proofs.YtefgamhnikeekaaDoor
namespace Rt
open Nb Sp Pk Rs Go.RowKit
set_option maxHeartbeats 2000000 in
set_option maxRecDepth 100000 in
theorem codes_no (a1 a2 a3 : Option Addr) (n1 c1 n2 c2 n3 c3 : Nat) (w : World) (k : Int)
    (KG : Hid (∀ wx : World, Below w.heap.size w wx → Calls Tryd.prog 16 #[.agg #[.int .i64 k, .slice a1 n1 c1, .slice a2 n2 c2, .slice a3 n3 c3]] wx fun e w' => e = .returned (.bool false) ∧ Below wx.heap.size wx w')) :
    Calls Tryd.prog 7 #[.agg #[.int .i64 k, .slice a1 n1 c1, .slice a2 n2 c2, .slice a3 n3 c3]] w fun e w' => ∃ v, e = .returned (.tuple #[v, .int .i64 1]) ∧ CO w.heap.size (fun _ => True) [] v w' ∧ Below w.heap.size w w' := by
  have HB : Hid (Below w.heap.size w (w.alloc (.cells #[.int .i64 k, .slice a1 n1 c1, .slice a2 n2 c2, .slice a3 n3 c3] 32))) := (Below.refl _ _).alloc (Nat.le_refl _) _
  have HA := heap_alloc_new w (.cells #[.int .i64 k, .slice a1 n1 c1, .slice a2 n2 c2, .slice a3 n3 c3] 32)
  have hsz : (w.alloc (.cells #[.int .i64 k, .slice a1 n1 c1, .slice a2 n2 c2, .slice a3 n3 c3] 32)).heap.size = w.heap.size + 1 := by simp
  have p0 : (w.alloc (.cells #[.int .i64 k, .slice a1 n1 c1, .slice a2 n2 c2, .slice a3 n3 c3] 32)).cell? ⟨w.heap.size, 0, none⟩ = some (.int .i64 k) := by simp only [World.cell?, HA]; rfl
  have p1 : (w.alloc (.cells #[.int .i64 k, .slice a1 n1 c1, .slice a2 n2 c2, .slice a3 n3 c3] 32)).cell? ⟨w.heap.size, 1, none⟩ = some (.slice a1 n1 c1) := by simp only [World.cell?, HA]; rfl
  have p2 : (w.alloc (.cells #[.int .i64 k, .slice a1 n1 c1, .slice a2 n2 c2, .slice a3 n3 c3] 32)).cell? ⟨w.heap.size, 2, none⟩ = some (.slice a2 n2 c2) := by simp only [World.cell?, HA]; rfl
  have p3 : (w.alloc (.cells #[.int .i64 k, .slice a1 n1 c1, .slice a2 n2 c2, .slice a3 n3 c3] 32)).cell? ⟨w.heap.size, 3, none⟩ = some (.slice a3 n3 c3) := by simp only [World.cell?, HA]; rfl
  clear HA
  go_enter Tryd.func7, Tryd.ntmps7
  go_upto_region 1 with fail
  generalize w.alloc (.cells #[.int .i64 k, .slice a1 n1 c1, .slice a2 n2 c2, .slice a3 n3 c3] 32) = W0 at *
  go_wp2_with fail
  refine (KG.out _ HB.out).mono ?_
  rintro e w1 ⟨rfl, hb⟩
  have HL1 : Hid (Below w.heap.size w w1) := HB.out.trans (hb.mono HB.out.size)
  have r0 := (hb.cell (p := ⟨w.heap.size, 0, none⟩) (by show w.heap.size < _; omega)).trans p0
  have r1 := (hb.cell (p := ⟨w.heap.size, 1, none⟩) (by show w.heap.size < _; omega)).trans p1
  have r2 := (hb.cell (p := ⟨w.heap.size, 2, none⟩) (by show w.heap.size < _; omega)).trans p2
  have r3 := (hb.cell (p := ⟨w.heap.size, 3, none⟩) (by show w.heap.size < _; omega)).trans p3
  have HW1 : Hid (w.heap.size < w1.heap.size) := by have := hb.size; show _ < _; omega
  clear hb KG HB p0 p1 p2 p3 hsz
  go_wp2_with fail
  go_ret2
  exact ⟨_, rfl, CO_nil _ _ _, HL1.out⟩
set_option maxHeartbeats 2000000 in
set_option maxRecDepth 100000 in
theorem codes_none (a1 a2 a3 : Option Addr) (n1 c1 n2 c2 n3 c3 : Nat) (w : World) (C : List UInt8) (KW : Hid (∀ wx : World, Calls Tryd.prog 13 #[.agg #[.int .i64 0, .slice none 0 0, .slice none 0 0, .slice none 0 0]] wx fun e w' => ∃ v, e = .returned v ∧ Ty (wx.heap.size ≤ ·) C v w' ∧ Below wx.heap.size wx w'))
    (KG : Hid (∀ wx : World, Below w.heap.size w wx → Calls Tryd.prog 16 #[.agg #[.int .i64 0, .slice a1 n1 c1, .slice a2 n2 c2, .slice a3 n3 c3]] wx fun e w' => e = .returned (.bool true) ∧ Below wx.heap.size wx w')) :
    Calls Tryd.prog 7 #[.agg #[.int .i64 0, .slice a1 n1 c1, .slice a2 n2 c2, .slice a3 n3 c3]] w fun e w' => ∃ v, e = .returned (.tuple #[v, .int .i64 0]) ∧ CO w.heap.size (fun _ => True) [C] v w' ∧ Below w.heap.size w w' := by
  have HB : Hid (Below w.heap.size w (w.alloc (.cells #[.int .i64 0, .slice a1 n1 c1, .slice a2 n2 c2, .slice a3 n3 c3] 32))) := (Below.refl _ _).alloc (Nat.le_refl _) _
  have HA := heap_alloc_new w (.cells #[.int .i64 0, .slice a1 n1 c1, .slice a2 n2 c2, .slice a3 n3 c3] 32)
  have hsz : (w.alloc (.cells #[.int .i64 0, .slice a1 n1 c1, .slice a2 n2 c2, .slice a3 n3 c3] 32)).heap.size = w.heap.size + 1 := by simp
  have p0 : (w.alloc (.cells #[.int .i64 0, .slice a1 n1 c1, .slice a2 n2 c2, .slice a3 n3 c3] 32)).cell? ⟨w.heap.size, 0, none⟩ = some (.int .i64 0) := by simp only [World.cell?, HA]; rfl
  have p1 : (w.alloc (.cells #[.int .i64 0, .slice a1 n1 c1, .slice a2 n2 c2, .slice a3 n3 c3] 32)).cell? ⟨w.heap.size, 1, none⟩ = some (.slice a1 n1 c1) := by simp only [World.cell?, HA]; rfl
  have p2 : (w.alloc (.cells #[.int .i64 0, .slice a1 n1 c1, .slice a2 n2 c2, .slice a3 n3 c3] 32)).cell? ⟨w.heap.size, 2, none⟩ = some (.slice a2 n2 c2) := by simp only [World.cell?, HA]; rfl
  have p3 : (w.alloc (.cells #[.int .i64 0, .slice a1 n1 c1, .slice a2 n2 c2, .slice a3 n3 c3] 32)).cell? ⟨w.heap.size, 3, none⟩ = some (.slice a3 n3 c3) := by simp only [World.cell?, HA]; rfl
  clear HA
  go_enter Tryd.func7, Tryd.ntmps7
  go_upto_region 1 with fail
  generalize w.alloc (.cells #[.int .i64 0, .slice a1 n1 c1, .slice a2 n2 c2, .slice a3 n3 c3] 32) = W0 at *
  go_wp2_with fail
  refine (KG.out _ HB.out).mono ?_
  rintro e w1 ⟨rfl, hb⟩
  have HL1 : Hid (Below w.heap.size w w1) := HB.out.trans (hb.mono HB.out.size)
  have r0 := (hb.cell (p := ⟨w.heap.size, 0, none⟩) (by show w.heap.size < _; omega)).trans p0
  have r1 := (hb.cell (p := ⟨w.heap.size, 1, none⟩) (by show w.heap.size < _; omega)).trans p1
  have r2 := (hb.cell (p := ⟨w.heap.size, 2, none⟩) (by show w.heap.size < _; omega)).trans p2
  have r3 := (hb.cell (p := ⟨w.heap.size, 3, none⟩) (by show w.heap.size < _; omega)).trans p3
  have HW1 : Hid (w.heap.size < w1.heap.size) := by have := hb.size; show _ < _; omega
  clear hb KG HB p0 p1 p2 p3 hsz
  go_wp2_with fail
  refine (KW.out _).mono ?_
  rintro e w2 ⟨v, rfl, ty, b2⟩
  have l2 : Below w.heap.size w w2 := HL1.out.trans (b2.mono HL1.out.size)
  obtain ⟨ca, cc, rfl⟩ := Sl_fm (Ty_sl ty)
  have co : CO w.heap.size (fun _ => True) [C] (.slice (some ⟨w2.heap.size, 0, none⟩) 1 1) (w2.alloc (.cells #[.slice ca C.length cc] 22)) := CO_one l2.size (Ty_mono ty (fun k hk _ => Nat.le_trans HL1.out.size hk))
  have HR : Hid (CO w.heap.size (fun _ => True) [C] (.slice (some ⟨w2.heap.size, 0, none⟩) 1 1) (w2.alloc (.cells #[.slice ca C.length cc] 22)) ∧ Below w.heap.size w (w2.alloc (.cells #[.slice ca C.length cc] 22))) := ⟨co, l2.alloc l2.size _⟩
  clear ty b2 l2 co KW
  generalize C.length = cl at *
  go_wp2_with fail
  go_ret2
  exact ⟨_, rfl, HR.out⟩
set_option maxHeartbeats 2000000 in
set_option maxRecDepth 100000 in
theorem codes_yes (a1 a2 a3 : Option Addr) (n1 c1 n2 c2 n3 c3 : Nat) (w : World) (k : Int) (hk : Hid (k ≠ 0)) (l : List (List UInt8)) (KN : Hid (∀ wx : World, Below w.heap.size w wx → Calls Tryd.prog 17 #[.pointer (some ⟨wx.heap.size, 0, none⟩), .agg #[.int .i64 k, .slice a1 n1 c1, .slice a2 n2 c2, .slice a3 n3 c3]] (wx.alloc (.cells #[.slice none 0 0] 49)) fun e w' => ∃ sv cv, e = .returned sv ∧ w'.cell? ⟨wx.heap.size, 0, none⟩ = some cv ∧ CO w.heap.size (fun _ => True) l cv w' ∧ Below wx.heap.size wx w'))
    (KG : Hid (∀ wx : World, Below w.heap.size w wx → Calls Tryd.prog 16 #[.agg #[.int .i64 k, .slice a1 n1 c1, .slice a2 n2 c2, .slice a3 n3 c3]] wx fun e w' => e = .returned (.bool true) ∧ Below wx.heap.size wx w')) :
    Calls Tryd.prog 7 #[.agg #[.int .i64 k, .slice a1 n1 c1, .slice a2 n2 c2, .slice a3 n3 c3]] w fun e w' => ∃ v, e = .returned (.tuple #[v, .int .i64 0]) ∧ CO w.heap.size (fun _ => True) l v w' ∧ Below w.heap.size w w' := by
  have HB : Hid (Below w.heap.size w (w.alloc (.cells #[.int .i64 k, .slice a1 n1 c1, .slice a2 n2 c2, .slice a3 n3 c3] 32))) := (Below.refl _ _).alloc (Nat.le_refl _) _
  have HA := heap_alloc_new w (.cells #[.int .i64 k, .slice a1 n1 c1, .slice a2 n2 c2, .slice a3 n3 c3] 32)
  have hsz : (w.alloc (.cells #[.int .i64 k, .slice a1 n1 c1, .slice a2 n2 c2, .slice a3 n3 c3] 32)).heap.size = w.heap.size + 1 := by simp
  have p0 : (w.alloc (.cells #[.int .i64 k, .slice a1 n1 c1, .slice a2 n2 c2, .slice a3 n3 c3] 32)).cell? ⟨w.heap.size, 0, none⟩ = some (.int .i64 k) := by simp only [World.cell?, HA]; rfl
  have p1 : (w.alloc (.cells #[.int .i64 k, .slice a1 n1 c1, .slice a2 n2 c2, .slice a3 n3 c3] 32)).cell? ⟨w.heap.size, 1, none⟩ = some (.slice a1 n1 c1) := by simp only [World.cell?, HA]; rfl
  have p2 : (w.alloc (.cells #[.int .i64 k, .slice a1 n1 c1, .slice a2 n2 c2, .slice a3 n3 c3] 32)).cell? ⟨w.heap.size, 2, none⟩ = some (.slice a2 n2 c2) := by simp only [World.cell?, HA]; rfl
  have p3 : (w.alloc (.cells #[.int .i64 k, .slice a1 n1 c1, .slice a2 n2 c2, .slice a3 n3 c3] 32)).cell? ⟨w.heap.size, 3, none⟩ = some (.slice a3 n3 c3) := by simp only [World.cell?, HA]; rfl
  clear HA
  go_enter Tryd.func7, Tryd.ntmps7
  go_upto_region 1 with fail
  generalize w.alloc (.cells #[.int .i64 k, .slice a1 n1 c1, .slice a2 n2 c2, .slice a3 n3 c3] 32) = W0 at *
  go_wp2_with fail
  refine (KG.out _ HB.out).mono ?_
  rintro e w1 ⟨rfl, hb⟩
  have HL1 : Hid (Below w.heap.size w w1) := HB.out.trans (hb.mono HB.out.size)
  have r0 := (hb.cell (p := ⟨w.heap.size, 0, none⟩) (by show w.heap.size < _; omega)).trans p0
  have r1 := (hb.cell (p := ⟨w.heap.size, 1, none⟩) (by show w.heap.size < _; omega)).trans p1
  have r2 := (hb.cell (p := ⟨w.heap.size, 2, none⟩) (by show w.heap.size < _; omega)).trans p2
  have r3 := (hb.cell (p := ⟨w.heap.size, 3, none⟩) (by show w.heap.size < _; omega)).trans p3
  have HW1 : Hid (w.heap.size < w1.heap.size) := by have := hb.size; show _ < _; omega
  clear hb KG HB p0 p1 p2 p3 hsz
  have e0 : (k == 0) = false := beq_eq_false_iff_ne.2 hk.out
  have bA : Below w1.heap.size w1 (w1.alloc (.cells #[.slice none 0 0] 49)) := (Below.refl _ _).alloc (Nat.le_refl _) _
  have s0 := (bA.cell (p := ⟨w.heap.size, 0, none⟩) HW1.out).trans r0
  have s1 := (bA.cell (p := ⟨w.heap.size, 1, none⟩) HW1.out).trans r1
  have s2 := (bA.cell (p := ⟨w.heap.size, 2, none⟩) HW1.out).trans r2
  have s3 := (bA.cell (p := ⟨w.heap.size, 3, none⟩) HW1.out).trans r3
  have KN2 : Hid _ := KN.out w1 HL1.out
  clear KN bA
  go_upto_region 6 with fail
  generalize w1.alloc (.cells #[.slice none 0 0] 49) = w2 at *
  clear r0 r1 r2 r3
  go_wp2_with fail
  refine Calls.mono KN2.out ?_
  rintro e w3 ⟨sv, cv, rfl, hc, co, b3⟩
  obtain ⟨va, vc, rfl, _⟩ := CO_form co
  have HR : Hid (CO w.heap.size (fun _ => True) l (.slice va l.length vc) w3 ∧ Below w.heap.size w w3) := ⟨co, HL1.out.trans (b3.mono HL1.out.size)⟩
  clear co b3 KN2 s0 s1 s2 s3
  generalize l.length = ll at *
  go_wp2_with fail
  go_ret2
  exact ⟨_, rfl, HR.out⟩
end Rt
end Go.Proofs.YtefgamhnikeekaaDoor
namespace Go.Proofs.YtefgamhnikeekaaDoor
namespace Tr
open Nb
def may (v : By) (h : Nat) : Bool := decide (1 ≤ v.length) && decide (v.length ≤ 1024) && decide (h ≤ 64) && decide (h % 2 = 0)
def cnt : List Nd → Nat
  | [] => 0
  | t :: r => (if t.kind = 0 then 0 else 1) + cnt r
def pts (v : By) (ks : List Nd) : Nat := (if v = [] then 0 else 1) + cnt ks
mutual
def rd : Nat → Nd → Bool
  | h, .mk k p v ks =>
    if k = 0 then true
    else if k = 1 then ptb p && may v (h + p.length)
    else if k = 2 then decide (p ≠ []) && ptb p && decide (ks.length = 1) && rd1 (h + p.length) ks
    else if k = 3 then decide (h ≤ 64) && decide (ks.length = 16) && (decide (v = []) || may v h) && rda (h + 1) ks && decide (2 ≤ pts v ks)
    else false
def rd1 : Nat → List Nd → Bool
  | _, [] => false
  | h, t :: _ => decide (t.kind = 3) && rd h t
def rda : Nat → List Nd → Bool
  | _, [] => true
  | h, t :: r => rd h t && rda h r
end
theorem rda_iff : ∀ (ks : List Nd) (h : Nat), rda h ks = true ↔ ∀ j, j < ks.length → rd h (ks.getD j Nd.no) = true
  | [], h => by unfold rda; simp
  | t :: r, h => by
    unfold rda
    rw [Bool.and_eq_true, rda_iff r h]
    constructor
    · rintro ⟨h1, h2⟩ j hj
      cases j with
      | zero => exact h1
      | succ j => exact h2 j (by simpa using hj)
    · intro hh
      exact ⟨hh 0 (by simp), fun j hj => hh (j + 1) (by simpa using hj)⟩
theorem cnt_pos : ∀ ks : List Nd, 1 ≤ cnt ks ↔ ∃ j, j < ks.length ∧ (ks.getD j Nd.no).kind ≠ 0
  | [] => by simp [cnt]
  | t :: r => by
    have ih := cnt_pos r
    unfold cnt
    constructor
    · intro h
      by_cases hk : t.kind = 0
      · rw [if_pos hk] at h
        obtain ⟨j, h1, h2⟩ := ih.1 (by omega)
        exact ⟨j + 1, by simpa using h1, by simpa using h2⟩
      · exact ⟨0, by simp, by simpa using hk⟩
    · rintro ⟨j, h1, h2⟩
      by_cases hk : t.kind = 0
      · cases j with
        | zero => exact absurd hk (by simpa using h2)
        | succ j =>
          have := ih.2 ⟨j, by simpa using h1, by simpa using h2⟩
          omega
      · rw [if_neg hk]; omega
theorem cnt_two : ∀ ks : List Nd, 2 ≤ cnt ks ↔ ∃ i j, i < j ∧ j < ks.length ∧ (ks.getD i Nd.no).kind ≠ 0 ∧ (ks.getD j Nd.no).kind ≠ 0
  | [] => by simp [cnt]
  | t :: r => by
    have ih := cnt_two r
    unfold cnt
    constructor
    · intro h
      by_cases hk : t.kind = 0
      · rw [if_pos hk] at h
        obtain ⟨i, j, h1, h2, h3, h4⟩ := ih.1 (by omega)
        exact ⟨i + 1, j + 1, by omega, by simpa using h2, by simpa using h3, by simpa using h4⟩
      · rw [if_neg hk] at h
        obtain ⟨j, h1, h2⟩ := (cnt_pos r).1 (by omega)
        exact ⟨0, j + 1, by omega, by simpa using h1, by simpa using hk, by simpa using h2⟩
    · rintro ⟨i, j, h1, h2, h3, h4⟩
      cases j with
      | zero => omega
      | succ j =>
        cases i with
        | zero =>
          have := (cnt_pos r).2 ⟨j, by simpa using h2, by simpa using h4⟩
          rw [if_neg (by simpa using h3)]
          omega
        | succ i =>
          have := ih.2 ⟨i, j, by omega, by simpa using h2, by simpa using h3, by simpa using h4⟩
          omega
theorem pts_two (v : By) (ks : List Nd) (hl : ks.length = 16) : 2 ≤ pts v ks ↔ Two v ks := by
  unfold pts Two
  have h1 := cnt_pos ks
  have h2 := cnt_two ks
  rw [hl] at h1 h2
  constructor
  · intro h
    by_cases hv : v = []
    · rw [if_pos hv] at h
      exact .inr (h2.1 (by omega))
    · rw [if_neg hv] at h
      exact .inl ⟨hv, h1.1 (by omega)⟩
  · rintro (⟨hv, h⟩ | h)
    · have := h1.2 h
      rw [if_neg hv]; omega
    · have := h2.2 h
      omega
theorem may_iff (v : By) (h : Nat) : may v h = true ↔ v ≠ [] ∧ v.length ≤ 1024 ∧ h ≤ 64 ∧ h % 2 = 0 := by
  unfold may
  simp only [Bool.and_eq_true, decide_eq_true_eq]
  constructor
  · rintro ⟨⟨⟨h1, h2⟩, h3⟩, h4⟩
    exact ⟨fun e => by rw [e] at h1; simp at h1, h2, h3, h4⟩
  · rintro ⟨h1, h2, h3, h4⟩
    exact ⟨⟨⟨List.length_pos_iff.2 h1, h2⟩, h3⟩, h4⟩
def Rh (h : Nat) (t : Nd) : Prop := Rs t ∧ ∀ q, gt t q ≠ [] → (h + q.length) % 2 = 0 ∧ h + q.length ≤ 64 ∧ (gt t q).length ≤ 1024
theorem rd_wf {t : Nd} (hw : Wf t) : ∀ h : Nat, rd h t = true ↔ Rh h t := by
  induction hw with
  | mk k p v ks _ ih =>
    intro h
    unfold rd
    by_cases k0 : k = 0
    · subst k0
      rw [if_pos rfl]
      exact ⟨fun _ => ⟨.none _ _ _, fun q hq => absurd (gt_zero 0 p v ks q (by decide) (by decide) (by decide)) hq⟩, fun _ => rfl⟩
    rw [if_neg k0]
    by_cases k1 : k = 1
    · subst k1
      rw [if_pos rfl, Bool.and_eq_true, ptb_iff, may_iff]
      constructor
      · rintro ⟨hp, hv, h1, h2, h3⟩
        refine ⟨.leaf _ _ _ hp hv, fun q hq => ?_⟩
        rw [gt_leaf] at hq ⊢
        split at hq
        · rename_i e; subst e; rw [if_pos rfl]; exact ⟨h3, h2, h1⟩
        · exact absurd rfl hq
      · rintro ⟨hs, hq⟩
        cases hs with
        | leaf _ _ _ hp hv =>
          have := hq p (by rw [gt_leaf, if_pos rfl]; exact hv)
          rw [gt_leaf, if_pos rfl] at this
          exact ⟨hp, hv, this.2.2, this.2.1, this.1⟩
    rw [if_neg k1]
    by_cases k2 : k = 2
    · subst k2
      rw [if_pos rfl]
      simp only [Bool.and_eq_true, decide_eq_true_eq, ptb_iff]
      constructor
      · rintro ⟨⟨⟨hp0, hp⟩, hl⟩, hr⟩
        obtain ⟨t, rfl⟩ := List.length_eq_one_iff.1 hl
        unfold rd1 at hr
        rw [Bool.and_eq_true, decide_eq_true_eq] at hr
        obtain ⟨r1, r2⟩ := (ih 0 (by simp) (h + p.length)).1 hr.2
        refine ⟨.road p v t hp hp0 hr.1 r1, fun q hq => ?_⟩
        obtain ⟨r, rfl, hr⟩ := gt_road_off p v t q hq
        rw [gt_road_at]
        have := r2 r hr
        rw [List.length_append]
        rw [List.getD_cons_zero] at this
        refine ⟨by have := this.1; rwa [Nat.add_assoc] at this, by have := this.2.1; omega, this.2.2⟩
      · rintro ⟨hs, hq⟩
        cases hs with
        | road _ _ t hp h0 hk ht =>
          refine ⟨⟨⟨h0, hp⟩, rfl⟩, ?_⟩
          unfold rd1
          rw [Bool.and_eq_true, decide_eq_true_eq]
          refine ⟨hk, (ih 0 (by simp) (h + p.length)).2 ⟨ht, fun q hq2 => ?_⟩⟩
          have := hq (p ++ q) (by rw [gt_road_at]; exact hq2)
          rw [gt_road_at, List.length_append, ← Nat.add_assoc] at this
          exact this
    rw [if_neg k2]
    by_cases k3 : k = 3
    · subst k3
      rw [if_pos rfl]
      simp only [Bool.and_eq_true, Bool.or_eq_true, decide_eq_true_eq, may_iff, rda_iff]
      constructor
      · rintro ⟨⟨⟨⟨h64, hl⟩, hv⟩, hk⟩, h2⟩
        have key : ∀ j, j < 16 → Rh (h + 1) (ks.getD j Nd.no) := fun j hj => (ih j (by omega) (h + 1)).1 (hk j (by omega))
        refine ⟨.fork p v ks hl (fun j hj => (key j hj).1) ((pts_two v ks hl).1 h2), fun q hq => ?_⟩
        cases q with
        | nil =>
          rw [gt_fork_nil] at hq ⊢
          rcases hv with hv | hv
          · exact absurd hv hq
          · exact ⟨hv.2.2.2, hv.2.2.1, hv.2.1⟩
        | cons c q =>
          rw [gt_fork_cons] at hq ⊢
          by_cases hc : c.toNat < 16
          · have := (key c.toNat hc).2 q hq
            rw [List.length_cons]
            refine ⟨?_, by have := this.2.1; omega, this.2.2⟩
            have e : h + (q.length + 1) = h + 1 + q.length := by omega
            rw [e]; exact this.1
          · rw [List.getD_eq_getElem?_getD, List.getElem?_eq_none (by omega), Option.getD_none, gt_no] at hq
            exact absurd rfl hq
      · rintro ⟨hs, hq⟩
        obtain ⟨q0, hq0⟩ := some_val hs (by show (3 : Int) ≠ 0; decide)
        cases hs with
        | fork _ _ _ hl hks h2 =>
          refine ⟨⟨⟨⟨by have := (hq q0 hq0).2.1; omega, hl⟩, ?_⟩, fun j hj => ?_⟩, (pts_two v ks hl).2 h2⟩
          · by_cases hv : v = []
            · exact .inl hv
            · have := hq [] (by rw [gt_fork_nil]; exact hv)
              rw [gt_fork_nil] at this
              exact .inr ⟨hv, this.2.2, this.2.1, this.1⟩
          · refine (ih j hj (h + 1)).2 ⟨hks j (by omega), fun q hq2 => ?_⟩
            have := hq (UInt8.ofNat j :: q) (by rw [gt_fork_cons, u8_toNat j (by omega)]; exact hq2)
            rw [gt_fork_cons, u8_toNat j (by omega), List.length_cons] at this
            have e : h + (q.length + 1) = h + 1 + q.length := by omega
            rw [e] at this
            exact this
    rw [if_neg k3]
    constructor
    · intro hh; cases hh
    · rintro ⟨hs, _⟩
      cases hs <;> simp_all
theorem rd_right (t : Nd) : rd 0 t = true ↔ Right t := by
  rw [rd_wf (wf_any t) 0]
  unfold Rh Right Okr
  simp only [Nat.zero_add]
  constructor
  · rintro ⟨h1, h2⟩
    exact ⟨h1, fun q hq => ⟨(h2 q hq).1, (h2 q hq).2.1, hq, (h2 q hq).2.2⟩⟩
  · rintro ⟨h1, h2⟩
    exact ⟨h1, fun q hq => ⟨(h2 q hq).1, (h2 q hq).2.1, (h2 q hq).2.2.2⟩⟩
end Tr
end Go.Proofs.YtefgamhnikeekaaDoor
namespace Go.Proofs.YtefgamhnikeekaaDoor
namespace Tr
open Nb
theorem cmn_le : ∀ p q : By, cmn p q ≤ p.length ∧ cmn p q ≤ q.length
  | [], q => by simp [cmn]
  | c :: p, [] => by simp [cmn]
  | c :: p, d :: q => by
    have := cmn_le p q
    simp only [cmn, List.length_cons]
    split <;> omega
end Tr
end Go.Proofs.YtefgamhnikeekaaDoor
namespace Go.Proofs.YtefgamhnikeekaaDoor
namespace Tr
open Nb Go.RowKit
set_option maxHeartbeats 1000000 in
theorem mayhave_any (v : By) (h : Nat) (ao : Option Addr) (cap : Nat) (w : World) :
    Calls Tryd.prog 49 #[.slice ao v.length cap, .int .i64 (h : Int)] w fun e w' => e = .returned (.bool (may v h)) ∧ w' = w := by
  unfold may
  generalize v.length = n
  go_enter Tryd.func49, Tryd.ntmps49
  by_cases h1 : 1 ≤ n
  · have d1 : decide ((1 : Int) ≤ (n : Int)) = true := decide_eq_true (by omega)
    by_cases h2 : n ≤ 1024
    · have d2 : decide ((n : Int) ≤ 1024) = true := decide_eq_true (by omega)
      by_cases h3 : h ≤ 64
      · have d3 : decide ((h : Int) ≤ 64) = true := decide_eq_true (by omega)
        have d4 : ((h : Int) % 2 == 0) = decide (h % 2 = 0) := by
          rw [Bool.eq_iff_iff, beq_iff_eq, decide_eq_true_eq]; omega
        go_wp2_with fail
        go_ret
        simp [h1, h2, h3]
      · have d3 : decide ((h : Int) ≤ 64) = false := decide_eq_false (by omega)
        go_wp2_with fail
        go_ret
        simp [h1, h2, h3]
    · have d2 : decide ((n : Int) ≤ 1024) = false := decide_eq_false (by omega)
      go_wp2_with fail
      go_ret
      simp [h1, h2]
  · have d1 : decide ((1 : Int) ≤ (n : Int)) = false := decide_eq_false (by omega)
    go_wp2_with fail
    go_ret
    simp [h1]
theorem run_under {P : Program} {t : TypeId} {d : TypeDesc} (h : P.underlying t = some d) (w : World) : (underlying t).run P w = .ok d w := by
  unfold underlying
  simp [h]
theorem as_none (v : Value) (w : World) : (Instr.typeAssert (.iface 95 v) 62 95 true).run Tryd.prog w = .ok (.tuple #[v, .bool true]) w := by
  unfold Instr.typeAssert
  rw [Sem.run_bind, run_under Tryd.underlying95]
  rfl
theorem no_none (t : TypeId) (v : Value) (w : World) (h : t ≠ 95) : (Instr.typeAssert (.iface t v) 62 95 true).run Tryd.prog w = .ok (.tuple #[.agg #[], .bool false]) w := by
  unfold Instr.typeAssert
  rw [Sem.run_bind, run_under Tryd.underlying95]
  show Sem.run Tryd.prog (if t = 95 then _ else _) w = _
  rw [if_neg h]
  simp only [if_true]
  rw [Sem.run_bind, Tryd.zeroValue95]
  rfl
set_option maxHeartbeats 1000000 in
set_option maxRecDepth 100000 in
theorem isnone_none (w : World) :
    Calls Tryd.prog 74 #[.iface 95 (.agg #[])] w fun e w' => e = .returned (.bool true) ∧ Below w.heap.size w w' := by
  have a1 := as_none (.agg #[])
  go_enter Tryd.func74, Tryd.ntmps74
  go_wp2_with fail
  go_ret
  exact ⟨rfl, (Below.refl _ _).alloc (Nat.le_refl _) _⟩
set_option maxHeartbeats 1000000 in
set_option maxRecDepth 100000 in
theorem isnone_some (t : TypeId) (x : Value) (w : World) (h : t ≠ 95) :
    Calls Tryd.prog 74 #[.iface t x] w fun e w' => e = .returned (.bool false) ∧ Below w.heap.size w w' := by
  have a1 := fun w => no_none t x w h
  go_enter Tryd.func74, Tryd.ntmps74
  go_wp2_with fail
  go_ret
  exact ⟨rfl, (Below.refl _ _).alloc (Nat.le_refl _) _⟩
end Tr
end Go.Proofs.YtefgamhnikeekaaDoor
namespace Go.Proofs.YtefgamhnikeekaaDoor
namespace Tr
open Nb Go.RowKit
def Fb (w : World) (k : Nat) : Prop := ∃ c, w.heap[k]? = some (.cells c 119 (0, 0))
def Sb (lo : Nat) (w : World) (k : Nat) : Prop := k < lo ∨ ¬ Fb w k
structure Ch (lo : Nat) (G : Nat → Prop) (w w' : World) : Prop where
  os : w'.os = w.os
  tape : w'.tape = w.tape
  output : w'.output = w.output
  size : w.heap.size ≤ w'.heap.size
  block : ∀ k, k < w.heap.size → ¬ (G k ∧ lo ≤ k ∧ Fb w k) → w'.heap[k]? = w.heap[k]?
theorem ch_below {lo : Nat} {G : Nat → Prop} {w w' : World} (h : Below w.heap.size w w') : Ch lo G w w' := ⟨h.os, h.tape, h.output, h.size, fun k hk _ => h.block k hk⟩
theorem Ch.trans {lo : Nat} {G G' : Nat → Prop} {a b c : World} (h : Ch lo G a b) (k : Ch lo G' b c) (hg : ∀ x, x < a.heap.size → G' x → G x) : Ch lo G a c := by
  refine ⟨k.os.trans h.os, k.tape.trans h.tape, k.output.trans h.output, Nat.le_trans h.size k.size, fun i hi hn => ?_⟩
  have e := h.block i hi hn
  rw [k.block i (Nat.lt_of_lt_of_le hi h.size) (fun ⟨g1, g2, g3⟩ => hn ⟨hg i hi g1, g2, by
    obtain ⟨x, hx⟩ := g3
    exact ⟨x, by rw [← e]; exact hx⟩⟩), e]
theorem Bs_ch {lo : Nat} {G : Nat → Prop} {b : By} {v : Value} {w w' : World} (h : Bs (Sb lo w) b v w) (hc : Ch lo G w w') : Bs (Sb lo w') b v w' := by
  obtain ⟨ao, cap, h1, h2, h4⟩ := h
  refine ⟨ao, cap, h1, h2, fun h0 => ?_⟩
  obtain ⟨k, off, e, hs, hlt, hcell⟩ := h4 h0
  have eb : w'.heap[k]? = w.heap[k]? := hc.block k hlt (fun ⟨_, g2, g3⟩ => by
    rcases hs with hs | hs
    · omega
    · exact hs g3)
  refine ⟨k, off, e, ?_, Nat.lt_of_lt_of_le hlt hc.size, fun j hj => (World.cell?_of_block (a := ⟨k, off + j, none⟩) eb).trans (hcell j hj)⟩
  rcases hs with hs | hs
  · exact .inl hs
  · refine .inr (fun ⟨x, hx⟩ => hs ⟨x, by rw [← eb]; exact hx⟩)
theorem Bs_lo {lo : Nat} {b : By} {v : Value} {w : World} (h : Bs (· < lo) b v w) : Bs (Sb lo w) b v w := Bs_mono h (fun _ hk _ => .inl hk)
inductive In (lo : Nat) (w : World) : Nd → Value → (Nat → Prop) → Prop where
  | none (p v : By) (ks : List Nd) (F : Nat → Prop) : In lo w (.mk 0 p v ks) (.iface 95 (.agg #[])) F
  | leaf (p v : By) (ks : List Nd) (pv vv : Value) (F : Nat → Prop) (hp : Bs (Sb lo w) p pv w) (hv : Bs (Sb lo w) v vv w) : In lo w (.mk 1 p v ks) (.iface 97 (.agg #[pv, vv])) F
  | road (p v : By) (t : Nd) (pv : Value) (g : Nat) (F : Nat → Prop) (hp : Bs (Sb lo w) p pv w) (hk : In lo w t (.iface 99 (.pointer (some ⟨g, 0, Option.none⟩))) F) : In lo w (.mk 2 p v [t]) (.iface 116 (.agg #[pv, .pointer (some ⟨g, 0, Option.none⟩)])) F
  | fork (p v : By) (ks : List Nd) (g : Nat) (c : Array Value) (F : Nat → Prop) (D : Nat → Nat → Prop) (hl : ks.length = 16) (hlo : lo ≤ g) (hb : w.heap[g]? = some (.cells c 119 (0, 0))) (hc : c.size = 17) (hF : F g)
      (hv : Bs (Sb lo w) v (c.getD 0 undef) w) (hi : ∀ j, j < 16 → In lo w (ks.getD j Nd.no) (c.getD (j + 1) undef) (D j)) (hg : ∀ j, j < 16 → ¬ D j g) (hD : ∀ i j x, i < 16 → j < 16 → D i x → D j x → i = j) (hs : ∀ j x, j < 16 → D j x → F x) :
      In lo w (.mk 3 p v ks) (.iface 99 (.pointer (some ⟨g, 0, Option.none⟩))) F
theorem In_mono {lo : Nat} {w : World} {t : Nd} {v : Value} {F F' : Nat → Prop} (h : In lo w t v F) (hF : ∀ x, F x → F' x) : In lo w t v F' := by
  induction h generalizing F' with
  | none p v ks F => exact .none p v ks F'
  | leaf p v ks pv vv F hp hv => exact .leaf p v ks pv vv F' hp hv
  | road p v t pv g F hp hk ih => exact .road p v t pv g F' hp (ih hF)
  | fork p v ks g c F D hl hlo hb hc hFg hv hi hg hD hs ih => exact .fork p v ks g c F' D hl hlo hb hc (hF g hFg) hv hi hg hD (fun j x hj hx => hF x (hs j x hj hx))
theorem In_lt {lo : Nat} {w : World} {t : Nd} {v : Value} {F : Nat → Prop} (h : In lo w t v F) : In lo w t v (fun x => F x ∧ x < w.heap.size) := by
  induction h with
  | none p v ks F => exact .none p v ks _
  | leaf p v ks pv vv F hp hv => exact .leaf p v ks pv vv _ hp hv
  | road p v t pv g F hp hk ih => exact .road p v t pv g _ hp ih
  | fork p v ks g c F D hl hlo hb hc hFg hv hi hg hD hs ih => exact .fork p v ks g c _ (fun j x => D j x ∧ x < w.heap.size) hl hlo hb hc ⟨hFg, Pk.lt_of_heap hb⟩ hv ih (fun j hj h => hg j hj h.1) (fun i j x h1 h2 h3 h4 => hD i j x h1 h2 h3.1 h4.1) (fun j x hj hx => ⟨hs j x hj hx.1, hx.2⟩)
theorem In_ch {lo : Nat} {G : Nat → Prop} {w w' : World} {t : Nd} {v : Value} {F : Nat → Prop} (h : In lo w t v F) (hc : Ch lo G w w') (hd : ∀ x, x < w.heap.size → F x → ¬ G x) : In lo w' t v F := by
  induction h with
  | none p v ks F => exact .none p v ks F
  | leaf p v ks pv vv F hp hv => exact .leaf p v ks pv vv F (Bs_ch hp hc) (Bs_ch hv hc)
  | road p v t pv g F hp hk ih => exact .road p v t pv g F (Bs_ch hp hc) (ih hd)
  | fork p v ks g c F D hl hlo hb hcs hFg hv hi hg hD hs ih =>
    have hlt := Pk.lt_of_heap hb
    exact .fork p v ks g c F D hl hlo (by rw [hc.block g hlt (fun x => hd g hlt hFg x.1)]; exact hb) hcs hFg (Bs_ch hv hc) (fun j hj => ih j hj (fun x hx hdx => hd x hx (hs j x hj hdx))) hg hD hs
theorem In_below {lo : Nat} {w w' : World} {t : Nd} {v : Value} {F : Nat → Prop} (h : In lo w t v F) (hb : Below w.heap.size w w') : In lo w' t v F := In_ch (G := fun _ => False) h (ch_below hb) (fun _ _ _ h => h)
theorem isnone_in {lo : Nat} {w : World} {t : Nd} {v : Value} {F : Nat → Prop} (h : In lo w t v F) (w2 : World) :
    Calls Tryd.prog 74 #[v] w2 fun e w' => e = .returned (.bool (decide (t.kind = 0))) ∧ Below w2.heap.size w2 w' := by
  cases h with
  | none p v ks F => exact isnone_none w2
  | leaf p v ks pv vv F hp hv => exact isnone_some _ _ w2 (by decide)
  | road p v t pv g F hp hk => exact isnone_some _ _ w2 (by decide)
  | fork p v ks g c F D hl hlo hb hc hFg hv hi hg hD hs => exact isnone_some _ _ w2 (by decide)
theorem In_form {lo : Nat} {w : World} {t : Nd} {v : Value} {F : Nat → Prop} (h : In lo w t v F) : ∃ ty x, v = .iface ty x := by
  cases h with
  | none p v ks F => exact ⟨_, _, rfl⟩
  | leaf p v ks pv vv F hp hv => exact ⟨_, _, rfl⟩
  | road p v t pv g F hp hk => exact ⟨_, _, rfl⟩
  | fork p v ks g c F D hl hlo hb hc hFg hv hi hg hD hs => exact ⟨_, _, rfl⟩
end Tr
end Go.Proofs.YtefgamhnikeekaaDoor
namespace Go.Proofs.YtefgamhnikeekaaDoor
namespace Tr
open Nb Go.RowKit
theorem info16 : (Tryd.prog.info? 117).map (·.size) = some 16 := by kernel_rfl
theorem cell_fork {w : World} {g : Nat} {c : Array Value} {ty : TypeId} {fz : Nat × Nat} (hb : w.heap[g]? = some (.cells c ty fz)) (j : Nat) (hj : j < c.size) : w.cell? ⟨g, j, none⟩ = some (c.getD j undef) := by
  simp only [World.cell?, hb]
  simp [hj]
theorem range16 {w : World} {g : Nat} {c : Array Value} {ty : TypeId} {fz : Nat × Nat} (hb : w.heap[g]? = some (.cells c ty fz)) (hc : c.size = 17) : w.rangeAt g 1 (c.toList.drop 1) := fun j v hv => by
  have hj : j < 16 := by
    have := (List.getElem?_eq_some_iff.1 hv).1
    simpa [hc] using this
  rw [cell_fork hb (1 + j) (by omega)]
  rw [List.getElem?_drop] at hv
  rw [← hv]
  have h1 : 1 + j < c.size := by omega
  simp [h1]
theorem run_index16 (L : List Value) (k : Nat) (x : Value) (hk : k < 16) (hx : L[k]? = some x) (w : World) : (Instr.index 117 (.agg L.toArray) (.int .i64 (k : Int))).run Tryd.prog w = .ok x w := by
  have h1 : ((k : Int).toNat * 1) = k := by omega
  have h2 : (0 : Int) ≤ (k : Int) ∧ (k : Int) < ((16 : Nat) : Int) := by omega
  unfold Instr.index
  simp only [Sem.run_bind, run_under Tryd.underlying117, asIntOf, Sem.run_pure, Result.andThen_ok]
  rw [if_pos h2]
  simp only [Sem.run_bind, Tryd.sizeOf62, Result.andThen_ok, h1, part, Tryd.isAgg62]
  have h3 : L.toArray[k]? = some x := by simpa using hx
  simp [h3]
theorem cnt_take (ks : List Nd) (k : Nat) (h : k < ks.length) : cnt (ks.take (k + 1)) = cnt (ks.take k) + (if (ks.getD k Nd.no).kind = 0 then 0 else 1) := by
  induction ks generalizing k with
  | nil => simp at h
  | cons t r ih =>
    cases k with
    | zero => simp [cnt]
    | succ k =>
      rw [List.take_succ_cons, List.take_succ_cons, cnt, cnt, List.getD_cons_succ, ih k (by simpa using h)]
      omega
theorem cnt_le : ∀ ks : List Nd, cnt ks ≤ ks.length
  | [] => Nat.le_refl _
  | t :: r => by
    have := cnt_le r
    rw [cnt, List.length_cons]
    split <;> omega
set_option maxHeartbeats 1000000 in
set_option maxRecDepth 100000 in
theorem parts_any (v : By) (ks : List Nd) (g : Nat) (c : Array Value) (w : World) (ao : Option Addr) (cap : Nat) (hl : ks.length = 16) (hb : w.heap[g]? = some (.cells c 119 (0, 0))) (hc : c.size = 17) (hv : c.getD 0 undef = .slice ao v.length cap)
    (hN : Hid (∀ j, j < 16 → ∀ w2 : World, Calls Tryd.prog 74 #[c.getD (j + 1) undef] w2 fun e w' => e = .returned (.bool (decide ((ks.getD j Nd.no).kind = 0))) ∧ Below w2.heap.size w2 w')) :
    Calls Tryd.prog 65 #[.pointer (some ⟨g, 0, none⟩)] w fun e w' => e = .returned (.int .i64 (pts v ks : Nat)) ∧ Below w.heap.size w w' := by
  have c0 : w.cell? ⟨g, 0, none⟩ = some (.slice ao v.length cap) := by rw [cell_fork hb 0 (by omega), hv]
  have R := range16 hb hc
  have RL : (Tryd.prog.info? 117).map (·.size) = some (c.toList.drop 1).length := by rw [info16]; simp [hc]
  have HX : Hid (∀ (j : Nat) (w : World), j < 16 → (Instr.index 117 (.agg (c.toList.drop 1).toArray) (.int .i64 (j : Int))).run Tryd.prog w = .ok (c.getD (j + 1) undef) w) := fun j w hj => run_index16 _ j _ hj (by
    have h1 : j + 1 < c.size := by omega
    rw [List.getElem?_drop, Nat.add_comm]
    simp [h1]) w
  generalize c.toList.drop 1 = L at R RL HX
  obtain ⟨n0, hn0⟩ : ∃ n0 : Nat, n0 = if v = [] then 0 else 1 := ⟨_, rfl⟩
  have hpt : Hid (pts v ks = n0 + cnt (ks.take 16)) := by
    show _ = _
    rw [← hl, List.take_length, hn0]
    rfl
  have hn1 : Hid (n0 ≤ 1) := by show _ ≤ _; rw [hn0]; split <;> omega
  have hvn : v.length = 0 ↔ v = [] := List.length_eq_zero_iff
  generalize v.length = n at *
  by_cases h0 : n = 0
  · have e0 : n0 = 0 := by rw [hn0, if_pos (hvn.1 h0)]
    have d0 : decide ((0 : Int) < (n : Int)) = false := decide_eq_false (by omega)
    have d0' : decide (0 < n) = false := decide_eq_false (by omega)
    have E0 : Hid (n0 = 0) := e0
    clear hn0 hvn hb hv e0
    go_enter Tryd.func65, Tryd.ntmps65
    go_upto_region 4 with fail
    go_wp2_with (refine wpList_load_mid rfl 117 (.tmp 16) rfl g 1 rfl L _ R Tryd.underlying117 rfl RL ?_)
    clear R RL c0
    go_loopw [3, 18] (fun m i wr => ∃ k : Nat, k ≤ 16 ∧ i = .int .i64 (k : Int) ∧ m = .int .i64 ((n0 + cnt (ks.take k) : Nat) : Int) ∧ Below w.heap.size w wr) (fun _ i _ => ((16 : Int) - intOf i).toNat)
    case atStart => exact ⟨0, Nat.zero_le _, rfl, by rw [E0.out]; simp [cnt], Below.refl _ _⟩
    case round =>
      obtain ⟨k, hk, rfl, rfl, hB⟩ := hrel
      by_cases hlt : k < 16
      · have d1 : decide ((k : Int) < 16) = true := decide_eq_true (by omega)
        have d2 : (0 : Int) ≤ (k : Int) := by omega
        have d3 : (k : Int) < 16 := by omega
        have hx := fun w => HX.out k w hlt
        have HS : Hid (cnt (ks.take (k + 1)) = cnt (ks.take k) + (if (ks.getD k Nd.no).kind = 0 then 0 else 1)) := cnt_take ks k (by omega)
        have hcl : Hid (cnt (ks.take k) ≤ 16) := by have := cnt_le (ks.take k); rw [List.length_take] at this; show _ ≤ _; omega
        have HK := hN.out k hlt
        generalize c.getD (k + 1) undef = xk at *
        have e5 : wrap64 ((k : Int) + 1) = ((k + 1 : Nat) : Int) := by unfold wrap64; omega
        have E5 : Hid (wrap64 ((k : Int) + 1) = ((k + 1 : Nat) : Int)) := e5
        clear e5
        generalize cnt (ks.take k) = m at *
        have E6 : Hid (wrap64 ((n0 : Int) + (m : Int) + 1) = ((n0 + (m + 1) : Nat) : Int)) := by have := hcl.out; have := hn1.out; show _ = _; unfold wrap64; omega
        by_cases hkd : (ks.getD k Nd.no).kind = 0
        · have HKd : Hid ((ks.getD k Nd.no).kind = 0) := hkd
          have HK2 : Hid (∀ w2 : World, Calls Tryd.prog 74 #[xk] w2 fun e w' => e = .returned (.bool true) ∧ Below w2.heap.size w2 w') := fun w2 => (HK w2).mono (fun e w' h => ⟨by rw [h.1, decide_eq_true hkd], h.2⟩)
          clear HK hkd
          go_wp2_with fail
          refine (HK2.out _).mono ?_
          rintro e w1 ⟨rfl, hb1⟩
          go_wp2_with fail
          exact ⟨⟨k + 1, hlt, by rw [Int.natCast_succ], by rw [HS.out, if_pos HKd.out, Nat.add_zero, Int.natCast_add], hB.trans (hb1.mono hB.size)⟩, by simp only [intOf]; omega⟩
        · have HKd : Hid (¬ (ks.getD k Nd.no).kind = 0) := hkd
          have HK2 : Hid (∀ w2 : World, Calls Tryd.prog 74 #[xk] w2 fun e w' => e = .returned (.bool false) ∧ Below w2.heap.size w2 w') := fun w2 => (HK w2).mono (fun e w' h => ⟨by rw [h.1, decide_eq_false hkd], h.2⟩)
          clear HK hkd
          go_wp2_with fail
          refine (HK2.out _).mono ?_
          rintro e w1 ⟨rfl, hb1⟩
          go_wp2_with fail
          rw [E6.out]
          exact ⟨⟨k + 1, hlt, by rw [Int.natCast_succ], by rw [HS.out, if_neg HKd.out], hB.trans (hb1.mono hB.size)⟩, by simp only [intOf]; omega⟩
      · have d1 : decide ((k : Int) < 16) = false := decide_eq_false (by omega)
        have ek : k = 16 := by omega
        have HE : Hid (pts v ks = n0 + cnt (ks.take k)) := by rw [ek]; exact hpt.out
        clear ek
        go_wp2_with fail
        go_ret
        exact ⟨by rw [HE.out, Int.natCast_add]; rfl, hB⟩
  · have e0 : n0 = 1 := by rw [hn0, if_neg (fun h => h0 (hvn.2 h))]
    have d0 : decide ((0 : Int) < (n : Int)) = true := decide_eq_true (by omega)
    have d0' : decide (0 < n) = true := decide_eq_true (by omega)
    have E0 : Hid (n0 = 1) := e0
    clear hn0 hvn hb hv e0
    go_enter Tryd.func65, Tryd.ntmps65
    go_upto_region 4 with fail
    go_wp2_with (refine wpList_load_mid rfl 117 (.tmp 16) rfl g 1 rfl L _ R Tryd.underlying117 rfl RL ?_)
    clear R RL c0
    go_loopw [3, 18] (fun m i wr => ∃ k : Nat, k ≤ 16 ∧ i = .int .i64 (k : Int) ∧ m = .int .i64 ((n0 + cnt (ks.take k) : Nat) : Int) ∧ Below w.heap.size w wr) (fun _ i _ => ((16 : Int) - intOf i).toNat)
    case atStart => exact ⟨0, Nat.zero_le _, rfl, by rw [E0.out]; simp [cnt], Below.refl _ _⟩
    case round =>
      obtain ⟨k, hk, rfl, rfl, hB⟩ := hrel
      by_cases hlt : k < 16
      · have d1 : decide ((k : Int) < 16) = true := decide_eq_true (by omega)
        have d2 : (0 : Int) ≤ (k : Int) := by omega
        have d3 : (k : Int) < 16 := by omega
        have hx := fun w => HX.out k w hlt
        have HS : Hid (cnt (ks.take (k + 1)) = cnt (ks.take k) + (if (ks.getD k Nd.no).kind = 0 then 0 else 1)) := cnt_take ks k (by omega)
        have hcl : Hid (cnt (ks.take k) ≤ 16) := by have := cnt_le (ks.take k); rw [List.length_take] at this; show _ ≤ _; omega
        have HK := hN.out k hlt
        generalize c.getD (k + 1) undef = xk at *
        have e5 : wrap64 ((k : Int) + 1) = ((k + 1 : Nat) : Int) := by unfold wrap64; omega
        have E5 : Hid (wrap64 ((k : Int) + 1) = ((k + 1 : Nat) : Int)) := e5
        clear e5
        generalize cnt (ks.take k) = m at *
        have E6 : Hid (wrap64 ((n0 : Int) + (m : Int) + 1) = ((n0 + (m + 1) : Nat) : Int)) := by have := hcl.out; have := hn1.out; show _ = _; unfold wrap64; omega
        by_cases hkd : (ks.getD k Nd.no).kind = 0
        · have HKd : Hid ((ks.getD k Nd.no).kind = 0) := hkd
          have HK2 : Hid (∀ w2 : World, Calls Tryd.prog 74 #[xk] w2 fun e w' => e = .returned (.bool true) ∧ Below w2.heap.size w2 w') := fun w2 => (HK w2).mono (fun e w' h => ⟨by rw [h.1, decide_eq_true hkd], h.2⟩)
          clear HK hkd
          go_wp2_with fail
          refine (HK2.out _).mono ?_
          rintro e w1 ⟨rfl, hb1⟩
          go_wp2_with fail
          exact ⟨⟨k + 1, hlt, by rw [Int.natCast_succ], by rw [HS.out, if_pos HKd.out, Nat.add_zero, Int.natCast_add], hB.trans (hb1.mono hB.size)⟩, by simp only [intOf]; omega⟩
        · have HKd : Hid (¬ (ks.getD k Nd.no).kind = 0) := hkd
          have HK2 : Hid (∀ w2 : World, Calls Tryd.prog 74 #[xk] w2 fun e w' => e = .returned (.bool false) ∧ Below w2.heap.size w2 w') := fun w2 => (HK w2).mono (fun e w' h => ⟨by rw [h.1, decide_eq_false hkd], h.2⟩)
          clear HK hkd
          go_wp2_with fail
          refine (HK2.out _).mono ?_
          rintro e w1 ⟨rfl, hb1⟩
          go_wp2_with fail
          rw [E6.out]
          exact ⟨⟨k + 1, hlt, by rw [Int.natCast_succ], by rw [HS.out, if_neg HKd.out], hB.trans (hb1.mono hB.size)⟩, by simp only [intOf]; omega⟩
      · have d1 : decide ((k : Int) < 16) = false := decide_eq_false (by omega)
        have ek : k = 16 := by omega
        have HE : Hid (pts v ks = n0 + cnt (ks.take k)) := by rw [ek]; exact hpt.out
        clear ek
        go_wp2_with fail
        go_ret
        exact ⟨by rw [HE.out, Int.natCast_add]; rfl, hB⟩
end Tr
end Go.Proofs.YtefgamhnikeekaaDoor
namespace Go.Proofs.YtefgamhnikeekaaDoor
namespace Tr
open Nb Go.RowKit
structure RL (h : Nat) (u : V4) (p : By) (ap : Option Addr) (W wx : World) : Prop where
  bx : Bx h u wx
  vw : Sp.Vw p ap wx
  b : Below W.heap.size W wx
theorem RL_below {h : Nat} {u : V4} {p : By} {ap : Option Addr} {W wx w2 : World} (k : RL h u p ap W wx) (b : Below wx.heap.size wx w2) : RL h u p ap W w2 := ⟨Bx_below k.bx b, Sp.Vw_below k.vw b, k.b.trans (b.mono k.b.size)⟩
theorem eq_below {w w' : World} (h : w' = w) : Below w.heap.size w w' := by subst h; exact Below.refl _ _
theorem wrap_add (a b : Nat) (ha : a ≤ 1099511627776) (hb : b ≤ 1099511627776) : IntKind.i64.wrap ((a : Int) + (b : Int)) = ((a + b : Nat) : Int) := by rw [IntKind.wrap_i64]; omega
set_option maxHeartbeats 1000000 in
set_option maxRecDepth 100000 in
theorem read_none (ap av ak : Option Addr) (np cp nv cv nk ck hh : Nat) (w : World) :
    Calls Tryd.prog 31 #[.agg #[.int .i64 0, .slice ap np cp, .slice av nv cv, .slice ak nk ck], .int .i64 (hh : Int)] w fun e w' => e = .returned (.tuple #[.iface 95 (.agg #[]), .bool true]) ∧ Below w.heap.size w w' := by
  have HB : Hid (Below w.heap.size w (w.alloc (.cells #[.int .i64 0, .slice ap np cp, .slice av nv cv, .slice ak nk ck] 32))) := (Below.refl _ _).alloc (Nat.le_refl _) _
  go_enter Tryd.func31, Tryd.ntmps31
  go_wp2_with fail
  go_ret2
  exact ⟨rfl, HB.out⟩
set_option maxHeartbeats 1000000 in
set_option maxRecDepth 100000 in
theorem read_other (k : Int) (ap av ak : Option Addr) (np cp nv cv nk ck hh : Nat) (w : World) (k0 : k ≠ 0) (k1 : k ≠ 1) (k2 : k ≠ 2) (k3 : k ≠ 3) :
    Calls Tryd.prog 31 #[.agg #[.int .i64 k, .slice ap np cp, .slice av nv cv, .slice ak nk ck], .int .i64 (hh : Int)] w fun e w' => e = .returned (.tuple #[.iface 95 (.agg #[]), .bool false]) ∧ Below w.heap.size w w' := by
  have HB : Hid (Below w.heap.size w (w.alloc (.cells #[.int .i64 k, .slice ap np cp, .slice av nv cv, .slice ak nk ck] 32))) := (Below.refl _ _).alloc (Nat.le_refl _) _
  have e0 : (k == 0) = false := beq_eq_false_iff_ne.2 k0
  have e1 : (k == 1) = false := beq_eq_false_iff_ne.2 k1
  have e2 : (k == 2) = false := beq_eq_false_iff_ne.2 k2
  have e3 : (k == 3) = false := beq_eq_false_iff_ne.2 k3
  go_enter Tryd.func31, Tryd.ntmps31
  go_wp2_with fail
  go_ret2
  exact ⟨rfl, HB.out⟩
set_option maxHeartbeats 2000000 in
set_option maxRecDepth 100000 in
theorem read_leaf_ok (ap av ak : Option Addr) (np cp nv cv nk ck hh : Nat) (w : World) (p v : By) (hn : np = p.length) (hz : np ≤ 4194304) (hnv : nv = v.length) (hh6 : hh ≤ 4194304) (vw : Sp.Vw p ap w) (hp : ptb p = true) :
    Calls Tryd.prog 31 #[.agg #[.int .i64 1, .slice ap np cp, .slice av nv cv, .slice ak nk ck], .int .i64 (hh : Int)] w fun e w' => e = .returned (.tuple #[.iface 97 (.agg #[.slice ap np cp, .slice av nv cv]), .bool (may v (hh + np))]) ∧ Below w.heap.size w w' := by
  have HB : Below w.heap.size w (w.alloc (.cells #[.int .i64 1, .slice ap np cp, .slice av nv cv, .slice ak nk ck] 32)) := (Below.refl _ _).alloc (Nat.le_refl _) _
  have E1 : Hid (IntKind.i64.wrap ((hh : Int) + (np : Int)) = ((hh + np : Nat) : Int)) := wrap_add _ _ (by omega) (by omega)
  have KP : Hid (∀ wx : World, Sp.Vw p ap wx → Calls Tryd.prog 22 #[.slice ap np cp] wx fun e w' => e = .returned (.bool true) ∧ Below wx.heap.size wx w') := fun wx hv => by
    subst hn
    refine (ispath_any p ap cp wx (by show (_ : Int) ≤ _; omega) hv).mono fun e w' h => ⟨?_, eq_below h.2⟩
    rw [h.1, show pb p = true from hp]
  have KM : Hid (∀ wx : World, Calls Tryd.prog 49 #[.slice av nv cv, .int .i64 ((hh + np : Nat) : Int)] wx fun e w' => e = .returned (.bool (may v (hh + np))) ∧ Below wx.heap.size wx w') := fun wx => by
    subst hnv
    exact (mayhave_any v (hh + np) av cv wx).mono fun e w' h => ⟨h.1, eq_below h.2⟩
  have R0 : RL w.heap.size (.int .i64 1, .slice ap np cp, .slice av nv cv, .slice ak nk ck) p ap (w.alloc (.cells #[.int .i64 1, .slice ap np cp, .slice av nv cv, .slice ak nk ck] 32)) (w.alloc (.cells #[.int .i64 1, .slice ap np cp, .slice av nv cv, .slice ak nk ck] 32)).drew := ⟨Bx_below (Bx_new w (.int .i64 1, .slice ap np cp, .slice av nv cv, .slice ak nk ck)) (Below.refl _ _).drew, Sp.Vw_drew (Sp.Vw_al vw _), (Below.refl _ _).drew⟩
  clear hn hz hnv hh6 vw hp
  generalize may v (hh + np) = mv at *
  go_enter Tryd.func31, Tryd.ntmps31
  go_upto_region 5 with fail
  generalize (w.alloc (.cells #[.int .i64 1, .slice ap np cp, .slice av nv cv, .slice ak nk ck] 32)) = W0 at *
  have HG : Hid (w.heap.size ≤ W0.heap.size) := HB.size
  generalize hg0 : w.heap.size = g0 at *
  refine RS.wp_region_one (RL g0 (.int .i64 1, .slice ap np cp, .slice av nv cv, .slice ak nk ck) p ap W0) (by kernel_rfl) (by kernel_rfl) (R0) ?_
  dsimp only [List.toList_toArray]
  refine RS.go1 (v := ?_) (a' := ?_) rfl ?_ ?_ ?_
  rotate_left 2
  · intro K wx hS hK
    go_simp
    exact hK _ hS
  · simp only [Act.put, List.setIfInBounds_toArray, List.set_cons_succ, List.set_cons_zero]
    rfl
  refine RS.go1 (v := ?_) (a' := ?_) rfl ?_ ?_ ?_
  rotate_left 2
  · intro K wx hS hK
    have m1 := hS.bx.2.2.1
    go_simp
    exact hK _ hS
  · simp only [Act.put, List.setIfInBounds_toArray, List.set_cons_succ, List.set_cons_zero]
    rfl
  refine RS.go1 (v := ?_) (a' := ?_) rfl ?_ ?_ ?_
  rotate_left 2
  · intro K wx hS hK
    go_simp
    exact hK _ hS
  · simp only [Act.put, List.setIfInBounds_toArray, List.set_cons_succ, List.set_cons_zero]
    rfl
  refine RS.go1 (v := ?_) (a' := ?_) rfl ?_ ?_ ?_
  rotate_left 2
  · intro K wx hS hK
    have m2 := hS.bx.2.2.2.1
    go_simp
    exact hK _ hS
  · simp only [Act.put, List.setIfInBounds_toArray, List.set_cons_succ, List.set_cons_zero]
    rfl
  refine RS.go1 (v := ?_) (a' := ?_) rfl ?_ ?_ ?_
  rotate_left 2
  · intro K wx hS hK
    go_simp
    exact hK _ hS
  · simp only [Act.put, List.setIfInBounds_toArray, List.set_cons_succ, List.set_cons_zero]
    rfl
  refine RS.go1 (v := ?_) (a' := ?_) rfl ?_ ?_ ?_
  rotate_left 2
  · intro K wx hS hK
    go_simp
    exact hK _ hS
  · simp only [Act.put, List.setIfInBounds_toArray, List.set_cons_succ, List.set_cons_zero]
    rfl
  refine RS.go1 (v := ?_) (a' := ?_) rfl ?_ ?_ ?_
  rotate_left 2
  · intro K wx hS hK
    go_simp
    exact hK _ hS
  · simp only [Act.put, List.setIfInBounds_toArray, List.set_cons_succ, List.set_cons_zero]
    rfl
  refine RS.go1 (v := ?_) (a' := ?_) rfl ?_ ?_ ?_
  rotate_left 2
  · intro K wx hS hK
    have m1 := hS.bx.2.2.1
    go_simp
    exact hK _ hS
  · simp only [Act.put, List.setIfInBounds_toArray, List.set_cons_succ, List.set_cons_zero]
    rfl
  refine RS.go1 (v := ?_) (a' := ?_) rfl ?_ ?_ ?_
  rotate_left 2
  · intro K wx hS hK
    go_simp
    refine (KP.out _ hS.vw).mono (fun e w2 he => ?_)
    refine ⟨_, he.1, ?_⟩
    exact hK _ (RL_below hS he.2)
  · simp only [Act.put, List.setIfInBounds_toArray, List.set_cons_succ, List.set_cons_zero]
    rfl
  refine RS.go1 (v := ?_) (a' := ?_) rfl ?_ ?_ ?_
  rotate_left 2
  · intro K wx hS hK
    go_simp
    exact hK _ hS
  · simp only [Act.put, List.setIfInBounds_toArray, List.set_cons_succ, List.set_cons_zero]
    rfl
  refine RS.go1g (v := ?_) (a' := ?_) (by kernel_rfl) ?_ ?_ ?_
  rotate_left 2
  · intro K wx hS hK
    go_simp
    exact hK _ hS
  · simp only [Act.put, List.setIfInBounds_toArray, List.set_cons_succ, List.set_cons_zero]
    rfl
  refine RS.go1g (v := ?_) (a' := ?_) (by kernel_rfl) ?_ ?_ ?_
  rotate_left 2
  · intro K wx hS hK
    have m2 := hS.bx.2.2.2.1
    go_simp
    exact hK _ hS
  · simp only [Act.put, List.setIfInBounds_toArray, List.set_cons_succ, List.set_cons_zero]
    rfl
  refine RS.go1g (v := ?_) (a' := ?_) (by kernel_rfl) ?_ ?_ ?_
  rotate_left 2
  · intro K wx hS hK
    go_simp
    exact hK _ hS
  · simp only [Act.put, List.setIfInBounds_toArray, List.set_cons_succ, List.set_cons_zero]
    rfl
  refine RS.go1g (v := ?_) (a' := ?_) (by kernel_rfl) ?_ ?_ ?_
  rotate_left 2
  · intro K wx hS hK
    go_simp
    exact hK _ hS
  · simp only [Act.put, List.setIfInBounds_toArray, List.set_cons_succ, List.set_cons_zero]
    rfl
  refine RS.go1g (v := ?_) (a' := ?_) (by kernel_rfl) ?_ ?_ ?_
  rotate_left 2
  · intro K wx hS hK
    have m1 := hS.bx.2.2.1
    go_simp
    exact hK _ hS
  · simp only [Act.put, List.setIfInBounds_toArray, List.set_cons_succ, List.set_cons_zero]
    rfl
  refine RS.go1g (v := ?_) (a' := ?_) (by kernel_rfl) ?_ ?_ ?_
  rotate_left 2
  · intro K wx hS hK
    go_simp
    exact hK _ hS
  · simp only [Act.put, List.setIfInBounds_toArray, List.set_cons_succ, List.set_cons_zero]
    rfl
  refine RS.go1g (v := ?_) (a' := ?_) (by kernel_rfl) ?_ ?_ ?_
  rotate_left 2
  · intro K wx hS hK
    have e1 := E1.out
    go_simp
    exact hK _ hS
  · simp only [Act.put, List.setIfInBounds_toArray, List.set_cons_succ, List.set_cons_zero]
    rfl
  refine RS.go1g (v := ?_) (a' := ?_) (by kernel_rfl) ?_ ?_ ?_
  rotate_left 2
  · intro K wx hS hK
    go_simp
    refine (KM.out _).mono (fun e w2 he => ?_)
    refine ⟨_, he.1, ?_⟩
    exact hK _ (RL_below hS he.2)
  · simp only [Act.put, List.setIfInBounds_toArray, List.set_cons_succ, List.set_cons_zero]
    rfl
  refine RS.go1 (v := ?_) (a' := ?_) rfl ?_ ?_ ?_
  rotate_left 2
  · intro K wx hS hK
    go_simp
    exact hK _ hS
  · simp only [Act.put, List.setIfInBounds_toArray, List.set_cons_succ, List.set_cons_zero]
    rfl
  refine RS.go1 (v := ?_) (a' := ?_) rfl ?_ ?_ ?_
  rotate_left 2
  · intro K wx hS hK
    go_simp
    exact hK _ hS
  · simp only [Act.put, List.setIfInBounds_toArray, List.set_cons_succ, List.set_cons_zero]
    rfl
  refine RS.go1 (v := ?_) (a' := ?_) rfl ?_ ?_ ?_
  rotate_left 2
  · intro K wx hS hK
    go_simp
    exact hK _ hS
  · simp only [Act.put, List.setIfInBounds_toArray, List.set_cons_succ, List.set_cons_zero]
    rfl
  refine RS.go_end ?_
  intro w9 m9
  have HZ : Hid (Below w.heap.size w w9) := by show Below _ _ _; rw [hg0]; exact HB.trans (m9.b.mono HG.out)
  clear m9 R0
  go_wp2_with fail
  go_ret2
  exact ⟨rfl, HZ.out⟩
set_option maxHeartbeats 2000000 in
set_option maxRecDepth 100000 in
theorem read_leaf_no (ap av ak : Option Addr) (np cp nv cv nk ck hh : Nat) (w : World) (p v : By) (hn : np = p.length) (hz : np ≤ 4194304) (hnv : nv = v.length) (hh6 : hh ≤ 4194304) (vw : Sp.Vw p ap w) (hp : ptb p = false) :
    Calls Tryd.prog 31 #[.agg #[.int .i64 1, .slice ap np cp, .slice av nv cv, .slice ak nk ck], .int .i64 (hh : Int)] w fun e w' => e = .returned (.tuple #[.iface 97 (.agg #[.slice ap np cp, .slice av nv cv]), .bool (false)]) ∧ Below w.heap.size w w' := by
  have HB : Below w.heap.size w (w.alloc (.cells #[.int .i64 1, .slice ap np cp, .slice av nv cv, .slice ak nk ck] 32)) := (Below.refl _ _).alloc (Nat.le_refl _) _
  have E1 : Hid (IntKind.i64.wrap ((hh : Int) + (np : Int)) = ((hh + np : Nat) : Int)) := wrap_add _ _ (by omega) (by omega)
  have KP : Hid (∀ wx : World, Sp.Vw p ap wx → Calls Tryd.prog 22 #[.slice ap np cp] wx fun e w' => e = .returned (.bool false) ∧ Below wx.heap.size wx w') := fun wx hv => by
    subst hn
    refine (ispath_any p ap cp wx (by show (_ : Int) ≤ _; omega) hv).mono fun e w' h => ⟨?_, eq_below h.2⟩
    rw [h.1, show pb p = false from hp]
  have KM : Hid (∀ wx : World, Calls Tryd.prog 49 #[.slice av nv cv, .int .i64 ((hh + np : Nat) : Int)] wx fun e w' => e = .returned (.bool (may v (hh + np))) ∧ Below wx.heap.size wx w') := fun wx => by
    subst hnv
    exact (mayhave_any v (hh + np) av cv wx).mono fun e w' h => ⟨h.1, eq_below h.2⟩
  have R0 : RL w.heap.size (.int .i64 1, .slice ap np cp, .slice av nv cv, .slice ak nk ck) p ap (w.alloc (.cells #[.int .i64 1, .slice ap np cp, .slice av nv cv, .slice ak nk ck] 32)) (w.alloc (.cells #[.int .i64 1, .slice ap np cp, .slice av nv cv, .slice ak nk ck] 32)).drew := ⟨Bx_below (Bx_new w (.int .i64 1, .slice ap np cp, .slice av nv cv, .slice ak nk ck)) (Below.refl _ _).drew, Sp.Vw_drew (Sp.Vw_al vw _), (Below.refl _ _).drew⟩
  clear hn hz hnv hh6 vw hp
  generalize may v (hh + np) = mv at *
  go_enter Tryd.func31, Tryd.ntmps31
  go_upto_region 5 with fail
  generalize (w.alloc (.cells #[.int .i64 1, .slice ap np cp, .slice av nv cv, .slice ak nk ck] 32)) = W0 at *
  have HG : Hid (w.heap.size ≤ W0.heap.size) := HB.size
  generalize hg0 : w.heap.size = g0 at *
  refine RS.wp_region_one (RL g0 (.int .i64 1, .slice ap np cp, .slice av nv cv, .slice ak nk ck) p ap W0) (by kernel_rfl) (by kernel_rfl) (R0) ?_
  dsimp only [List.toList_toArray]
  refine RS.go1 (v := ?_) (a' := ?_) rfl ?_ ?_ ?_
  rotate_left 2
  · intro K wx hS hK
    go_simp
    exact hK _ hS
  · simp only [Act.put, List.setIfInBounds_toArray, List.set_cons_succ, List.set_cons_zero]
    rfl
  refine RS.go1 (v := ?_) (a' := ?_) rfl ?_ ?_ ?_
  rotate_left 2
  · intro K wx hS hK
    have m1 := hS.bx.2.2.1
    go_simp
    exact hK _ hS
  · simp only [Act.put, List.setIfInBounds_toArray, List.set_cons_succ, List.set_cons_zero]
    rfl
  refine RS.go1 (v := ?_) (a' := ?_) rfl ?_ ?_ ?_
  rotate_left 2
  · intro K wx hS hK
    go_simp
    exact hK _ hS
  · simp only [Act.put, List.setIfInBounds_toArray, List.set_cons_succ, List.set_cons_zero]
    rfl
  refine RS.go1 (v := ?_) (a' := ?_) rfl ?_ ?_ ?_
  rotate_left 2
  · intro K wx hS hK
    have m2 := hS.bx.2.2.2.1
    go_simp
    exact hK _ hS
  · simp only [Act.put, List.setIfInBounds_toArray, List.set_cons_succ, List.set_cons_zero]
    rfl
  refine RS.go1 (v := ?_) (a' := ?_) rfl ?_ ?_ ?_
  rotate_left 2
  · intro K wx hS hK
    go_simp
    exact hK _ hS
  · simp only [Act.put, List.setIfInBounds_toArray, List.set_cons_succ, List.set_cons_zero]
    rfl
  refine RS.go1 (v := ?_) (a' := ?_) rfl ?_ ?_ ?_
  rotate_left 2
  · intro K wx hS hK
    go_simp
    exact hK _ hS
  · simp only [Act.put, List.setIfInBounds_toArray, List.set_cons_succ, List.set_cons_zero]
    rfl
  refine RS.go1 (v := ?_) (a' := ?_) rfl ?_ ?_ ?_
  rotate_left 2
  · intro K wx hS hK
    go_simp
    exact hK _ hS
  · simp only [Act.put, List.setIfInBounds_toArray, List.set_cons_succ, List.set_cons_zero]
    rfl
  refine RS.go1 (v := ?_) (a' := ?_) rfl ?_ ?_ ?_
  rotate_left 2
  · intro K wx hS hK
    have m1 := hS.bx.2.2.1
    go_simp
    exact hK _ hS
  · simp only [Act.put, List.setIfInBounds_toArray, List.set_cons_succ, List.set_cons_zero]
    rfl
  refine RS.go1 (v := ?_) (a' := ?_) rfl ?_ ?_ ?_
  rotate_left 2
  · intro K wx hS hK
    go_simp
    refine (KP.out _ hS.vw).mono (fun e w2 he => ?_)
    refine ⟨_, he.1, ?_⟩
    exact hK _ (RL_below hS he.2)
  · simp only [Act.put, List.setIfInBounds_toArray, List.set_cons_succ, List.set_cons_zero]
    rfl
  refine RS.go1 (v := ?_) (a' := ?_) rfl ?_ ?_ ?_
  rotate_left 2
  · intro K wx hS hK
    go_simp
    exact hK _ hS
  · simp only [Act.put, List.setIfInBounds_toArray, List.set_cons_succ, List.set_cons_zero]
    rfl
  refine RS.go0 (a' := ?_) (by kernel_rfl) ?_ ?_
  rotate_left 1
  · simp only [Act.put, List.setIfInBounds_toArray, List.set_cons_succ, List.set_cons_zero]
    rfl
  refine RS.go0 (a' := ?_) (by kernel_rfl) ?_ ?_
  rotate_left 1
  · simp only [Act.put, List.setIfInBounds_toArray, List.set_cons_succ, List.set_cons_zero]
    rfl
  refine RS.go0 (a' := ?_) (by kernel_rfl) ?_ ?_
  rotate_left 1
  · simp only [Act.put, List.setIfInBounds_toArray, List.set_cons_succ, List.set_cons_zero]
    rfl
  refine RS.go0 (a' := ?_) (by kernel_rfl) ?_ ?_
  rotate_left 1
  · simp only [Act.put, List.setIfInBounds_toArray, List.set_cons_succ, List.set_cons_zero]
    rfl
  refine RS.go0 (a' := ?_) (by kernel_rfl) ?_ ?_
  rotate_left 1
  · simp only [Act.put, List.setIfInBounds_toArray, List.set_cons_succ, List.set_cons_zero]
    rfl
  refine RS.go0 (a' := ?_) (by kernel_rfl) ?_ ?_
  rotate_left 1
  · simp only [Act.put, List.setIfInBounds_toArray, List.set_cons_succ, List.set_cons_zero]
    rfl
  refine RS.go0 (a' := ?_) (by kernel_rfl) ?_ ?_
  rotate_left 1
  · simp only [Act.put, List.setIfInBounds_toArray, List.set_cons_succ, List.set_cons_zero]
    rfl
  refine RS.go0 (a' := ?_) (by kernel_rfl) ?_ ?_
  rotate_left 1
  · simp only [Act.put, List.setIfInBounds_toArray, List.set_cons_succ, List.set_cons_zero]
    rfl
  refine RS.go1 (v := ?_) (a' := ?_) rfl ?_ ?_ ?_
  rotate_left 2
  · intro K wx hS hK
    go_simp
    exact hK _ hS
  · simp only [Act.put, List.setIfInBounds_toArray, List.set_cons_succ, List.set_cons_zero]
    rfl
  refine RS.go1 (v := ?_) (a' := ?_) rfl ?_ ?_ ?_
  rotate_left 2
  · intro K wx hS hK
    go_simp
    exact hK _ hS
  · simp only [Act.put, List.setIfInBounds_toArray, List.set_cons_succ, List.set_cons_zero]
    rfl
  refine RS.go1 (v := ?_) (a' := ?_) rfl ?_ ?_ ?_
  rotate_left 2
  · intro K wx hS hK
    go_simp
    exact hK _ hS
  · simp only [Act.put, List.setIfInBounds_toArray, List.set_cons_succ, List.set_cons_zero]
    rfl
  refine RS.go_end ?_
  intro w9 m9
  have HZ : Hid (Below w.heap.size w w9) := by show Below _ _ _; rw [hg0]; exact HB.trans (m9.b.mono HG.out)
  clear m9 R0
  go_wp2_with fail
  go_ret2
  exact ⟨rfl, HZ.out⟩
set_option maxHeartbeats 1000000 in
set_option maxRecDepth 100000 in
theorem read_road (ap av ak : Option Addr) (np cp nv cv nk ck hh : Nat) (w : World) (ok : Bool) (Q : Value → World → Prop) (KR : Hid (∀ wx : World, Below w.heap.size w wx → Calls Tryd.prog 50 #[.agg #[.int .i64 2, .slice ap np cp, .slice av nv cv, .slice ak nk ck], .int .i64 (hh : Int)] wx fun e w' => ∃ x, e = .returned (.tuple #[x, .bool ok]) ∧ Q x w' ∧ Below wx.heap.size wx w')) :
    Calls Tryd.prog 31 #[.agg #[.int .i64 2, .slice ap np cp, .slice av nv cv, .slice ak nk ck], .int .i64 (hh : Int)] w fun e w' => ∃ x, e = .returned (.tuple #[x, .bool ok]) ∧ Q x w' ∧ Below w.heap.size w w' := by
  have HB : Hid (Below w.heap.size w (w.alloc (.cells #[.int .i64 2, .slice ap np cp, .slice av nv cv, .slice ak nk ck] 32))) := (Below.refl _ _).alloc (Nat.le_refl _) _
  have BX := Bx_new w (.int .i64 2, .slice ap np cp, .slice av nv cv, .slice ak nk ck)
  obtain ⟨_, q0, q1, q2, q3⟩ := BX
  dsimp only at q0 q1 q2 q3
  go_enter Tryd.func31, Tryd.ntmps31
  go_wp2_with fail
  refine (KR.out _ HB.out).mono ?_
  rintro e w1 ⟨x, rfl, hq, hb1⟩
  have HQ : Hid (Q x w1) := hq
  have HZ : Hid (Below w.heap.size w w1) := HB.out.trans (hb1.mono HB.out.size)
  clear hq hb1
  go_wp2_with fail
  go_ret2
  exact ⟨x, rfl, HQ.out, HZ.out⟩
set_option maxHeartbeats 1000000 in
set_option maxRecDepth 100000 in
theorem read_fork (ap av ak : Option Addr) (np cp nv cv nk ck hh : Nat) (w : World) (ok : Bool) (Q : Option Addr → World → Prop) (KR : Hid (∀ wx : World, Below w.heap.size w wx → Calls Tryd.prog 51 #[.agg #[.int .i64 3, .slice ap np cp, .slice av nv cv, .slice ak nk ck], .int .i64 (hh : Int)] wx fun e w' => ∃ x, e = .returned (.tuple #[.pointer x, .bool ok]) ∧ Q x w' ∧ Below wx.heap.size wx w')) :
    Calls Tryd.prog 31 #[.agg #[.int .i64 3, .slice ap np cp, .slice av nv cv, .slice ak nk ck], .int .i64 (hh : Int)] w fun e w' => ∃ x, e = .returned (.tuple #[.iface 99 (.pointer x), .bool ok]) ∧ Q x w' ∧ Below w.heap.size w w' := by
  have HB : Hid (Below w.heap.size w (w.alloc (.cells #[.int .i64 3, .slice ap np cp, .slice av nv cv, .slice ak nk ck] 32))) := (Below.refl _ _).alloc (Nat.le_refl _) _
  have BX := Bx_new w (.int .i64 3, .slice ap np cp, .slice av nv cv, .slice ak nk ck)
  obtain ⟨_, q0, q1, q2, q3⟩ := BX
  dsimp only at q0 q1 q2 q3
  go_enter Tryd.func31, Tryd.ntmps31
  go_wp2_with fail
  refine (KR.out _ HB.out).mono ?_
  rintro e w1 ⟨x, rfl, hq, hb1⟩
  have HQ : Hid (Q x w1) := hq
  have HZ : Hid (Below w.heap.size w w1) := HB.out.trans (hb1.mono HB.out.size)
  clear hq hb1
  go_wp2_with fail
  go_ret2
  exact ⟨x, rfl, HQ.out, HZ.out⟩
end Tr
end Go.Proofs.YtefgamhnikeekaaDoor
namespace Go.Proofs.YtefgamhnikeekaaDoor
namespace Tr
open Nb Go.RowKit
set_option maxHeartbeats 2000000 in
set_option maxRecDepth 100000 in
theorem rroad_empty (ap av ak : Option Addr) (cp nv cv nk ck hh : Nat) (w : World)  :
    Calls Tryd.prog 50 #[.agg #[.int .i64 2, .slice ap 0 cp, .slice av nv cv, .slice ak nk ck], .int .i64 (hh : Int)] w fun e w' => (∃ x, e = .returned (.tuple #[x, .bool false])) ∧ Below w.heap.size w w' := by
  have HB : Hid (Below w.heap.size w (w.alloc (.cells #[.int .i64 2, .slice ap 0 cp, .slice av nv cv, .slice ak nk ck] 32))) := (Below.refl _ _).alloc (Nat.le_refl _) _
  obtain ⟨hh0, q0, q1, q2, q3⟩ := Bx_new w (.int .i64 2, .slice ap 0 cp, .slice av nv cv, .slice ak nk ck)
  dsimp only at q0 q1 q2 q3
  go_enter Tryd.func50, Tryd.ntmps50
  go_wp2_with fail
  go_ret2
  exact ⟨⟨_, rfl⟩, HB.out⟩
set_option maxHeartbeats 2000000 in
set_option maxRecDepth 100000 in
theorem rroad_path (ap av ak : Option Addr) (np cp nv cv nk ck hh : Nat) (w : World) (p : By) (hn : np = p.length) (hz : np ≤ 4194304) (h0 : 0 < np) (vw : Sp.Vw p ap w) (hp : ptb p = false) :
    Calls Tryd.prog 50 #[.agg #[.int .i64 2, .slice ap np cp, .slice av nv cv, .slice ak nk ck], .int .i64 (hh : Int)] w fun e w' => (∃ x, e = .returned (.tuple #[x, .bool false])) ∧ Below w.heap.size w w' := by
  have HB : Hid (Below w.heap.size w (w.alloc (.cells #[.int .i64 2, .slice ap np cp, .slice av nv cv, .slice ak nk ck] 32))) := (Below.refl _ _).alloc (Nat.le_refl _) _
  obtain ⟨hh0, q0, q1, q2, q3⟩ := Bx_new w (.int .i64 2, .slice ap np cp, .slice av nv cv, .slice ak nk ck)
  dsimp only at q0 q1 q2 q3
  have e0 : ((np : Int) == 0) = false := beq_eq_false_iff_ne.2 (by omega)
  have e0' : (np == 0) = false := beq_eq_false_iff_ne.2 (by omega)
  have VW : Sp.Vw p ap (w.alloc (.cells #[.int .i64 2, .slice ap np cp, .slice av nv cv, .slice ak nk ck] 32)) := Sp.Vw_al vw _
  have KP : Hid (∀ wx : World, Sp.Vw p ap wx → Calls Tryd.prog 22 #[.slice ap np cp] wx fun e w' => e = .returned (.bool false) ∧ w' = wx) := fun wx hv => by
    subst hn
    refine (ispath_any p ap cp wx (by show (_ : Int) ≤ _; omega) hv).mono fun e w' h => ⟨?_, h.2⟩
    rw [h.1, show pb p = false from hp]
  clear hn hz h0 vw hp
  go_enter Tryd.func50, Tryd.ntmps50
  go_wp2_with fail
  refine (KP.out _ VW).mono ?_
  rintro e w1 ⟨rfl, rfl⟩
  go_wp2_with fail
  go_ret2
  exact ⟨⟨_, rfl⟩, HB.out⟩
set_option maxHeartbeats 2000000 in
set_option maxRecDepth 100000 in
theorem rroad_kids (ap av ak : Option Addr) (np cp nv cv nk ck hh : Nat) (w : World) (p : By) (hn : np = p.length) (hz : np ≤ 4194304) (h0 : 0 < np) (vw : Sp.Vw p ap w) (hp : ptb p = true) (hk : nk ≠ 1) :
    Calls Tryd.prog 50 #[.agg #[.int .i64 2, .slice ap np cp, .slice av nv cv, .slice ak nk ck], .int .i64 (hh : Int)] w fun e w' => (∃ x, e = .returned (.tuple #[x, .bool false])) ∧ Below w.heap.size w w' := by
  have HB : Hid (Below w.heap.size w (w.alloc (.cells #[.int .i64 2, .slice ap np cp, .slice av nv cv, .slice ak nk ck] 32))) := (Below.refl _ _).alloc (Nat.le_refl _) _
  obtain ⟨hh0, q0, q1, q2, q3⟩ := Bx_new w (.int .i64 2, .slice ap np cp, .slice av nv cv, .slice ak nk ck)
  dsimp only at q0 q1 q2 q3
  have e0 : ((np : Int) == 0) = false := beq_eq_false_iff_ne.2 (by omega)
  have e0' : (np == 0) = false := beq_eq_false_iff_ne.2 (by omega)
  have VW : Sp.Vw p ap (w.alloc (.cells #[.int .i64 2, .slice ap np cp, .slice av nv cv, .slice ak nk ck] 32)) := Sp.Vw_al vw _
  have KP : Hid (∀ wx : World, Sp.Vw p ap wx → Calls Tryd.prog 22 #[.slice ap np cp] wx fun e w' => e = .returned (.bool true) ∧ w' = wx) := fun wx hv => by
    subst hn
    refine (ispath_any p ap cp wx (by show (_ : Int) ≤ _; omega) hv).mono fun e w' h => ⟨?_, h.2⟩
    rw [h.1, show pb p = true from hp]
  have e1 : ((nk : Int) == 1) = false := beq_eq_false_iff_ne.2 (by omega)
  have e2 : (nk == 1) = false := beq_eq_false_iff_ne.2 hk
  have e3 : ((nk : Int) != 1) = true := bne_iff_ne.2 (by omega)
  have e4 : (nk != 1) = true := bne_iff_ne.2 hk
  clear hn hz h0 vw hp
  go_enter Tryd.func50, Tryd.ntmps50
  go_wp2_with fail
  refine (KP.out _ VW).mono ?_
  rintro e w1 ⟨rfl, rfl⟩
  go_wp2_with fail
  go_ret2
  exact ⟨⟨_, rfl⟩, HB.out⟩
set_option maxHeartbeats 2000000 in
set_option maxRecDepth 100000 in
theorem rroad_kind (ap av : Option Addr) (np cp nv cv ck hh gk off : Nat) (w : World) (p : By) (hn : np = p.length) (hz : np ≤ 4194304) (h0 : 0 < np) (vw : Sp.Vw p ap w) (hp : ptb p = true) (q : Int) (hgk0 : gk < w.heap.size) (c0 : w.cell? ⟨gk, off, none⟩ = some (.int .i64 q)) (hq : q ≠ 3) :
    Calls Tryd.prog 50 #[.agg #[.int .i64 2, .slice ap np cp, .slice av nv cv, .slice (some ⟨gk, off, none⟩) 1 ck], .int .i64 (hh : Int)] w fun e w' => (∃ x, e = .returned (.tuple #[x, .bool false])) ∧ Below w.heap.size w w' := by
  have HB : Hid (Below w.heap.size w (w.alloc (.cells #[.int .i64 2, .slice ap np cp, .slice av nv cv, .slice (some ⟨gk, off, none⟩) 1 ck] 32))) := (Below.refl _ _).alloc (Nat.le_refl _) _
  obtain ⟨hh0, q0, q1, q2, q3⟩ := Bx_new w (.int .i64 2, .slice ap np cp, .slice av nv cv, .slice (some ⟨gk, off, none⟩) 1 ck)
  dsimp only at q0 q1 q2 q3
  have e0 : ((np : Int) == 0) = false := beq_eq_false_iff_ne.2 (by omega)
  have e0' : (np == 0) = false := beq_eq_false_iff_ne.2 (by omega)
  have VW : Sp.Vw p ap (w.alloc (.cells #[.int .i64 2, .slice ap np cp, .slice av nv cv, .slice (some ⟨gk, off, none⟩) 1 ck] 32)) := Sp.Vw_al vw _
  have KP : Hid (∀ wx : World, Sp.Vw p ap wx → Calls Tryd.prog 22 #[.slice ap np cp] wx fun e w' => e = .returned (.bool true) ∧ w' = wx) := fun wx hv => by
    subst hn
    refine (ispath_any p ap cp wx (by show (_ : Int) ≤ _; omega) hv).mono fun e w' h => ⟨?_, h.2⟩
    rw [h.1, show pb p = true from hp]
  have k0 := (HB.out.cell (p := ⟨gk, off, none⟩) hgk0).trans c0
  have e3 : (q != 3) = true := bne_iff_ne.2 hq
  clear hn hz h0 vw hp c0
  go_enter Tryd.func50, Tryd.ntmps50
  go_wp2_with fail
  refine (KP.out _ VW).mono ?_
  rintro e w1 ⟨rfl, rfl⟩
  go_wp2_with fail
  go_ret2
  exact ⟨⟨_, rfl⟩, HB.out⟩
inductive RRI (W0 : World) (G : Option Addr → World → Prop) (ok : Bool) (ap av : Option Addr) (np cp nv cv ck hh gk off g0 : Nat) (b1 b2 b3 : Option Addr) (m1 d1 m2 d2 m3 d3 : Nat) (d : Nat → Bool) (x : Act) (wx : World) : Prop where
  | mk (u6 u7 u34 u35 u36 u37 u38 u39 u40 u41 u42 u43 u44 u45 u46 : Value) (hx : x = { tmps := #[.agg #[.int .i64 2, .slice ap np cp, .slice av nv cv, .slice (some ⟨gk, off, none⟩) 1 ck], .int .i64 (hh : Int), .pointer (some ⟨g0, 0, none⟩), undef, .nilIface, .bool false, u6, u7, .pointer (some ⟨g0, 1, none⟩), .slice ap np cp, .int .i64 (np : Int), .bool false, .bool false, .pointer (some ⟨g0, 1, none⟩), .slice ap np cp, .bool true, .bool false, .bool false, undef, undef, .pointer (some ⟨g0, 3, none⟩), .slice (some ⟨gk, off, none⟩) 1 ck, .int .i64 1, .bool false, .bool false, .pointer (some ⟨g0, 3, none⟩), .slice (some ⟨gk, off, none⟩) 1 ck, .pointer (some ⟨gk, off, none⟩), .pointer (some ⟨gk, off, none⟩), .int .i64 3, .bool false, .bool false, undef, undef, u34, u35, u36, u37, u38, u39, u40, u41, u42, u43, u44, u45, u46, undef, undef, undef, undef, undef, undef], defers := [] }) (hw : Below W0.heap.size W0 wx) (p0 : d 0 = true → u35 = .pointer (some ⟨g0, 3, none⟩)) (p1 : d 1 = true → u36 = .slice (some ⟨gk, off, none⟩) 1 ck) (p2 : d 2 = true → u37 = .pointer (some ⟨gk, off, none⟩)) (p3 : d 3 = true → u38 = .agg #[.int .i64 3, .slice b1 m1 d1, .slice b2 m2 d2, .slice b3 m3 d3]) (p4 : d 4 = true → u39 = .int .i64 (hh : Int)) (p5 : d 5 = true → u40 = .pointer (some ⟨g0, 1, none⟩)) (p6 : d 6 = true → u41 = .slice ap np cp) (p7 : d 7 = true → u42 = .int .i64 (np : Int)) (p8 : d 8 = true → u43 = .int .i64 ((hh + np : Nat) : Int)) (p12 : d 12 = true → u46 = .bool ok) (p14 : d 14 = true → u7 = .bool ok) (z9 : d 9 = true → ∃ x, u44 = .tuple #[.pointer x, .bool ok] ∧ G x wx) (z10 : d 10 = true → ∃ x, u34 = .tuple #[.pointer x, .bool ok] ∧ G x wx) (z11 : d 11 = true → ∃ x, u45 = .pointer x ∧ G x wx) (z13 : d 13 = true → ∃ x, u6 = .pointer x ∧ G x wx) : RRI W0 G ok ap av np cp nv cv ck hh gk off g0 b1 b2 b3 m1 d1 m2 d2 m3 d3 d x wx
set_option maxHeartbeats 2000000 in
set_option maxRecDepth 100000 in
theorem rroad_fork (ap av : Option Addr) (np cp nv cv ck hh gk off : Nat) (w : World) (p : By) (hn : np = p.length) (hz : np ≤ 4194304) (h0 : 0 < np) (vw : Sp.Vw p ap w) (hp : ptb p = true) (hh6 : hh ≤ 4194304) (b1 b2 b3 : Option Addr) (m1 d1 m2 d2 m3 d3 : Nat) (hgk0 : gk < w.heap.size) (c0 : w.cell? ⟨gk, off, none⟩ = some (.int .i64 3)) (c1 : w.cell? ⟨gk, off + 1, none⟩ = some (.slice b1 m1 d1)) (c2 : w.cell? ⟨gk, off + 2, none⟩ = some (.slice b2 m2 d2)) (c3 : w.cell? ⟨gk, off + 3, none⟩ = some (.slice b3 m3 d3)) (ok : Bool) (G : Option Addr → World → Prop) (GB : Hid (∀ x w w', G x w → Below w.heap.size w w' → G x w')) (KR0 : Hid (∀ wx : World, Below w.heap.size w wx → Calls Tryd.prog 51 #[.agg #[.int .i64 3, .slice b1 m1 d1, .slice b2 m2 d2, .slice b3 m3 d3], .int .i64 ((hh + np : Nat) : Int)] wx fun e w' => ∃ x, e = .returned (.tuple #[.pointer x, .bool ok]) ∧ G x w' ∧ Below wx.heap.size wx w')) :
    Calls Tryd.prog 50 #[.agg #[.int .i64 2, .slice ap np cp, .slice av nv cv, .slice (some ⟨gk, off, none⟩) 1 ck], .int .i64 (hh : Int)] w fun e w' => ∃ x, e = .returned (.tuple #[.iface 116 (.agg #[.slice ap np cp, .pointer x]), .bool ok]) ∧ G x w' ∧ Below w.heap.size w w' := by
  have HB : Hid (Below w.heap.size w (w.alloc (.cells #[.int .i64 2, .slice ap np cp, .slice av nv cv, .slice (some ⟨gk, off, none⟩) 1 ck] 32))) := (Below.refl _ _).alloc (Nat.le_refl _) _
  obtain ⟨hh0, q0, q1, q2, q3⟩ := Bx_new w (.int .i64 2, .slice ap np cp, .slice av nv cv, .slice (some ⟨gk, off, none⟩) 1 ck)
  dsimp only at q0 q1 q2 q3
  have e0 : ((np : Int) == 0) = false := beq_eq_false_iff_ne.2 (by omega)
  have e0' : (np == 0) = false := beq_eq_false_iff_ne.2 (by omega)
  have VW : Sp.Vw p ap (w.alloc (.cells #[.int .i64 2, .slice ap np cp, .slice av nv cv, .slice (some ⟨gk, off, none⟩) 1 ck] 32)) := Sp.Vw_al vw _
  have KP : Hid (∀ wx : World, Sp.Vw p ap wx → Calls Tryd.prog 22 #[.slice ap np cp] wx fun e w' => e = .returned (.bool true) ∧ w' = wx) := fun wx hv => by
    subst hn
    refine (ispath_any p ap cp wx (by show (_ : Int) ≤ _; omega) hv).mono fun e w' h => ⟨?_, h.2⟩
    rw [h.1, show pb p = true from hp]
  have k0 := (HB.out.cell (p := ⟨gk, off, none⟩) hgk0).trans c0
  have k1 := (HB.out.cell (p := ⟨gk, off + 1, none⟩) hgk0).trans c1
  have k2 := (HB.out.cell (p := ⟨gk, off + 2, none⟩) hgk0).trans c2
  have k3 := (HB.out.cell (p := ⟨gk, off + 3, none⟩) hgk0).trans c3
  have hgk : gk < (w.alloc (.cells #[.int .i64 2, .slice ap np cp, .slice av nv cv, .slice (some ⟨gk, off, none⟩) 1 ck] 32)).heap.size := Nat.lt_of_lt_of_le hgk0 HB.out.size
  have E1 : Hid (IntKind.i64.wrap ((hh : Int) + (np : Int)) = ((hh + np : Nat) : Int)) := wrap_add _ _ (by omega) (by omega)
  have KR : Hid (∀ wx : World, Below (w.alloc (.cells #[.int .i64 2, .slice ap np cp, .slice av nv cv, .slice (some ⟨gk, off, none⟩) 1 ck] 32)).heap.size (w.alloc (.cells #[.int .i64 2, .slice ap np cp, .slice av nv cv, .slice (some ⟨gk, off, none⟩) 1 ck] 32)) wx → Calls Tryd.prog 51 #[.agg #[.int .i64 3, .slice b1 m1 d1, .slice b2 m2 d2, .slice b3 m3 d3], .int .i64 ((hh + np : Nat) : Int)] wx fun e w' => ∃ x, e = .returned (.tuple #[.pointer x, .bool ok]) ∧ G x w' ∧ Below wx.heap.size wx w') := fun wx hb => KR0.out wx (HB.out.trans (hb.mono HB.out.size))
  clear hn hz h0 vw hp c0 c1 c2 c3 KR0 hgk0 hh6
  go_enter Tryd.func50, Tryd.ntmps50
  go_wp2_with fail
  refine (KP.out _ VW).mono ?_
  rintro e w1 ⟨rfl, rfl⟩
  go_upto_region 5 with fail
  have HB' := HB.out
  generalize (w.alloc (.cells #[.int .i64 2, .slice ap np cp, .slice av nv cv, .slice (some ⟨gk, off, none⟩) 1 ck] 32)) = W0 at *
  have HG : Hid (w.heap.size ≤ W0.heap.size) := HB'.size
  have hw0 : Below W0.heap.size W0 W0.drew := (Below.refl _ _).drew
  generalize hg0 : w.heap.size = g0 at *
  refine RI.wp_region_inv (RRI W0 G ok ap av np cp nv cv ck hh gk off g0 b1 b2 b3 m1 d1 m2 d2 m3 d3) (by kernel_rfl) (by kernel_rfl) ?_ ?_ ?_
  · exact ⟨undef, undef, undef, undef, undef, undef, undef, undef, undef, undef, undef, undef, undef, undef, undef, rfl, hw0, nofun, nofun, nofun, nofun, nofun, nofun, nofun, nofun, nofun, nofun, nofun, nofun, nofun, nofun, nofun⟩
  · skip
    intro d x wx i hI hi hm
    obtain ⟨u6, u7, u34, u35, u36, u37, u38, u39, u40, u41, u42, u43, u44, u45, u46, rfl, hw, p0, p1, p2, p3, p4, p5, p6, p7, p8, p12, p14, z9, z10, z11, z13⟩ := hI
    have hi' : i = 0 ∨ i = 1 ∨ i = 2 ∨ i = 3 ∨ i = 4 ∨ i = 5 ∨ i = 6 ∨ i = 7 ∨ i = 8 ∨ i = 9 ∨ i = 10 ∨ i = 11 ∨ i = 12 ∨ i = 13 ∨ i = 14 := by simp at hi; omega
    have hd := hm.2
    have hf := hm.1
    clear hm hi
    rcases hi' with rfl | rfl | rfl | rfl | rfl | rfl | rfl | rfl | rfl | rfl | rfl | rfl | rfl | rfl | rfl
    · refine RI.wpOp_plain rfl rfl ?_
      go_simp
      exact ⟨u6, u7, u34, _, u36, u37, u38, u39, u40, u41, u42, u43, u44, u45, u46, rfl, hw, fun _ => rfl, p1, p2, p3, p4, p5, p6, p7, p8, p12, p14, z9, z10, z11, z13⟩
    · have hd := hd _ rfl
      simp [Region.binds] at hd
      obtain rfl := p0 (by simp [hd])
      refine RI.wpOp_plain rfl rfl ?_
      have x0 := (hw.cell (p := ⟨g0, 3, none⟩) hh0).trans q3
      go_simp
      exact ⟨u6, u7, u34, _, _, u37, u38, u39, u40, u41, u42, u43, u44, u45, u46, rfl, hw, p0, fun _ => rfl, p2, p3, p4, p5, p6, p7, p8, p12, p14, z9, z10, z11, z13⟩
    · have hd := hd _ rfl
      simp [Region.binds] at hd
      obtain rfl := p1 (by simp [hd])
      refine RI.wpOp_plain rfl rfl ?_
      go_simp
      exact ⟨u6, u7, u34, u35, _, _, u38, u39, u40, u41, u42, u43, u44, u45, u46, rfl, hw, p0, p1, fun _ => rfl, p3, p4, p5, p6, p7, p8, p12, p14, z9, z10, z11, z13⟩
    · have hd := hd _ rfl
      simp [Region.binds] at hd
      obtain rfl := p2 (by simp [hd])
      refine RI.wpOp_plain rfl rfl ?_
      have x0 := (hw.cell (p := ⟨gk, off, none⟩) hgk).trans k0
      have x1 := (hw.cell (p := ⟨gk, off + 1, none⟩) hgk).trans k1
      have x2 := (hw.cell (p := ⟨gk, off + 2, none⟩) hgk).trans k2
      have x3 := (hw.cell (p := ⟨gk, off + 3, none⟩) hgk).trans k3
      go_simp
      exact ⟨u6, u7, u34, u35, u36, _, _, u39, u40, u41, u42, u43, u44, u45, u46, rfl, hw, p0, p1, p2, fun _ => rfl, p4, p5, p6, p7, p8, p12, p14, z9, z10, z11, z13⟩
    · refine RI.wpOp_plain rfl rfl ?_
      go_simp
      exact ⟨u6, u7, u34, u35, u36, u37, u38, _, u40, u41, u42, u43, u44, u45, u46, rfl, hw, p0, p1, p2, p3, fun _ => rfl, p5, p6, p7, p8, p12, p14, z9, z10, z11, z13⟩
    · refine RI.wpOp_plain rfl rfl ?_
      go_simp
      exact ⟨u6, u7, u34, u35, u36, u37, u38, u39, _, u41, u42, u43, u44, u45, u46, rfl, hw, p0, p1, p2, p3, p4, fun _ => rfl, p6, p7, p8, p12, p14, z9, z10, z11, z13⟩
    · have hd := hd _ rfl
      simp [Region.binds] at hd
      obtain rfl := p5 (by simp [hd])
      refine RI.wpOp_plain rfl rfl ?_
      have x0 := (hw.cell (p := ⟨g0, 1, none⟩) hh0).trans q1
      go_simp
      exact ⟨u6, u7, u34, u35, u36, u37, u38, u39, _, _, u42, u43, u44, u45, u46, rfl, hw, p0, p1, p2, p3, p4, p5, fun _ => rfl, p7, p8, p12, p14, z9, z10, z11, z13⟩
    · have hd := hd _ rfl
      simp [Region.binds] at hd
      obtain rfl := p6 (by simp [hd])
      refine RI.wpOp_plain rfl rfl ?_
      go_simp
      exact ⟨u6, u7, u34, u35, u36, u37, u38, u39, u40, _, _, u43, u44, u45, u46, rfl, hw, p0, p1, p2, p3, p4, p5, p6, fun _ => rfl, p8, p12, p14, z9, z10, z11, z13⟩
    · have hd := hd _ rfl
      simp [Region.binds] at hd
      obtain rfl := p4 (by simp [hd])
      obtain rfl := p7 (by simp [hd])
      refine RI.wpOp_plain rfl rfl ?_
      have e1 := E1.out
      go_simp
      exact ⟨u6, u7, u34, u35, u36, u37, u38, _, u40, u41, _, _, u44, u45, u46, rfl, hw, p0, p1, p2, p3, p4, p5, p6, p7, fun _ => rfl, p12, p14, z9, z10, z11, z13⟩
    · have hd := hd _ rfl
      simp [Region.binds] at hd
      obtain rfl := p3 (by simp [hd])
      obtain rfl := p8 (by simp [hd])
      refine RI.wpOp_plain rfl rfl ?_
      go_simp
      refine (KR.out _ hw).mono ?_
      rintro e w1 ⟨x9, rfl, g9, hb1⟩
      exact ⟨u6, u7, u34, u35, u36, u37, _, u39, u40, u41, u42, _, _, u45, u46, rfl, hw.trans (hb1.mono hw.size), p0, p1, p2, p3, p4, p5, p6, p7, p8, p12, p14, fun _ => ⟨_, rfl, g9⟩, (fun h => (z10 h).imp fun x hx => ⟨hx.1, GB.out _ _ _ hx.2 hb1⟩), (fun h => (z11 h).imp fun x hx => ⟨hx.1, GB.out _ _ _ hx.2 hb1⟩), (fun h => (z13 h).imp fun x hx => ⟨hx.1, GB.out _ _ _ hx.2 hb1⟩)⟩
    · have hd := hd _ rfl
      simp [Region.binds] at hd
      refine RI.wpOp_plain rfl rfl ?_
      obtain ⟨x9, rfl, g9⟩ := z9 (by simp [hd])
      go_simp
      exact ⟨u6, u7, _, u35, u36, u37, u38, u39, u40, u41, u42, u43, _, u45, u46, rfl, hw, p0, p1, p2, p3, p4, p5, p6, p7, p8, p12, p14, z9, fun _ => ⟨_, rfl, g9⟩, z11, z13⟩
    · have hd := hd _ rfl
      simp [Region.binds] at hd
      refine RI.wpOp_plain rfl rfl ?_
      obtain ⟨x9, rfl, g9⟩ := z10 (by simp [hd])
      go_simp
      exact ⟨u6, u7, _, u35, u36, u37, u38, u39, u40, u41, u42, u43, u44, _, u46, rfl, hw, p0, p1, p2, p3, p4, p5, p6, p7, p8, p12, p14, z9, z10, fun _ => ⟨_, rfl, g9⟩, z13⟩
    · have hd := hd _ rfl
      simp [Region.binds] at hd
      refine RI.wpOp_plain rfl rfl ?_
      obtain ⟨x9, rfl, g9⟩ := z10 (by simp [hd])
      go_simp
      exact ⟨u6, u7, _, u35, u36, u37, u38, u39, u40, u41, u42, u43, u44, u45, _, rfl, hw, p0, p1, p2, p3, p4, p5, p6, p7, p8, fun _ => rfl, p14, z9, z10, z11, z13⟩
    · have hd := hd _ rfl
      simp [Region.binds] at hd
      obtain rfl := p0 (by simp [hd])
      obtain rfl := p1 (by simp [hd])
      obtain rfl := p2 (by simp [hd])
      obtain rfl := p3 (by simp [hd])
      obtain rfl := p4 (by simp [hd])
      obtain rfl := p5 (by simp [hd])
      obtain rfl := p6 (by simp [hd])
      obtain rfl := p7 (by simp [hd])
      obtain rfl := p8 (by simp [hd])
      refine RI.wpOp_plain rfl rfl ?_
      obtain ⟨x9, rfl, g9⟩ := z11 (by simp [hd])
      go_simp
      exact ⟨_, u7, u34, _, _, _, _, _, _, _, _, _, u44, _, u46, rfl, hw, p0, p1, p2, p3, p4, p5, p6, p7, p8, p12, p14, z9, z10, z11, fun _ => ⟨_, rfl, g9⟩⟩
    · have hd := hd _ rfl
      simp [Region.binds] at hd
      obtain rfl := p0 (by simp [hd])
      obtain rfl := p1 (by simp [hd])
      obtain rfl := p2 (by simp [hd])
      obtain rfl := p3 (by simp [hd])
      obtain rfl := p4 (by simp [hd])
      obtain rfl := p5 (by simp [hd])
      obtain rfl := p6 (by simp [hd])
      obtain rfl := p7 (by simp [hd])
      obtain rfl := p8 (by simp [hd])
      obtain rfl := p12 (by simp [hd])
      refine RI.wpOp_plain rfl rfl ?_
      go_simp
      exact ⟨u6, _, u34, _, _, _, _, _, _, _, _, _, u44, u45, _, rfl, hw, p0, p1, p2, p3, p4, p5, p6, p7, p8, p12, fun _ => rfl, z9, z10, z11, z13⟩
  · skip
    intro d x wx hI hd
    obtain ⟨u6, u7, u34, u35, u36, u37, u38, u39, u40, u41, u42, u43, u44, u45, u46, rfl, hw, p0, p1, p2, p3, p4, p5, p6, p7, p8, p12, p14, z9, z10, z11, z13⟩ := hI
    obtain ⟨x6, rfl, g6⟩ := z13 (hd 13 (by decide))
    obtain rfl := p14 (hd 14 (by decide))
    clear p0 p1 p2 p3 p4 p5 p6 p7 p8 p12 z9 z10 z11 z13 p14
    have x0 := (hw.cell (p := ⟨g0, 1, none⟩) hh0).trans q1
    have HG6 : Hid (G x6 wx) := g6
    have HZ : Hid (Below w.heap.size w wx) := by show Below _ _ _; rw [hg0]; exact HB'.trans (hw.mono HG.out)
    clear g6 hw HB HB'
    go_wp2_with fail
    go_ret2
    exact ⟨x6, rfl, HG6.out, HZ.out⟩
end Tr
end Go.Proofs.YtefgamhnikeekaaDoor
