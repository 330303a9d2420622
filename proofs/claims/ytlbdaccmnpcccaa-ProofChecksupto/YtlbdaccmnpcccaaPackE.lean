import Derived.Test.YtlbdaccmnpcccaaPackD
import Derived.Test.YtlbdaccmnpcccaaPackA
import Derived.Lib.ConvBytes
import Derived.Laws.Concat
import Derived.Deep.AppendLies
import Derived.Deep.Cut
import Derived.Test.YtlbdaccmnpcccaaPackC
import Derived.ProofKit
import Derived.OpenShut
import Derived.ShutString
import Derived.ChangeOld
import Derived.Lib.SmallJoins
import Derived.SizedLaws
import Derived.Deep.Matrix
namespace Go.Proofs.Ytlbdaccmnpcccaa
namespace Nb
open Go.RowKit
theorem res3t (f : Func) (tm : Array Value) (W : World) (a b c : Nat) (p q r : Value) (hf : f.results = #[.tmp a, .tmp b, .tmp c]) (h1 : tm.getD a undef = p) (h2 : tm.getD b undef = q) (h3 : tm.getD c undef = r) : (results f tm).run Try.prog W = .ok (.tuple #[p, q, r]) W := by
 simp at h1 h2 h3
 simp [results, hf, go_sem, h1, h2, h3]
def un : List UInt8 → List UInt8 × Bool × Int
 | x :: y :: r => if x = 0 then (if y = 0 then (r, false, 0) else ([], false, 1)) else if x = 1 then (y :: r, false, 0) else if x = 2 then (if y = 0 then (r, true, 0) else ([], false, 1)) else if x = 3 then (y :: r, true, 0) else ([], false, 1)
 | _ => ([], false, 1)
theorem own_at {B : Nat} {l : List UInt8} {v : Value} {w : World} (h : w.ownsRow B 5 1 v l.length (Pk.bcs l)) (h0 : 0 < l.length) : ∃ g cap, v = .slice (some ⟨g, 0, none⟩) l.length cap ∧ l.length ≤ cap ∧ (cap : Int) ≤ 9223372036854775807 ∧ ∀ k (a' : Option Addr), k ≤ l.length → (0 < l.length - k → a' = some ⟨g, k, none⟩) → Pk.Sl (l.drop k) (.slice a' (l.length - k) (cap - k)) w := by
 rcases h.2 with ⟨_, h4⟩ | ⟨g, cap, cur, h3, h5⟩
 ·omega
 ·subst h3; refine ⟨g, cap, rfl, h5.2.2.1, by have := h5.2.2.2.1; unfold maxLen at this; omega, fun k a' hk ha => ?_⟩
  have ldr : (l.drop k).length = l.length - k := List.length_drop ..; refine ⟨a', cap - k, by rw [ldr], by rw [ldr]; have := h5.2.2.1; omega, fun h1 => ?_⟩
  rw [ldr] at h1; refine ⟨g, k, ha h1, Pk.lt_of_heap h5.2.1, fun j hj => ?_⟩
  rw [ldr] at hj; rw [h.cellAt (k + j) (by omega)]; have hkj : k + j < l.length := by omega
  simp [Pk.bcs, Sp.bz, List.getD_eq_getElem?_getD, List.getElem?_drop, hkj]
theorem cell_at {B g cap : Nat} {l : List UInt8} {w : World} (h : w.ownsRow B 5 1 (.slice (some ⟨g, 0, none⟩) l.length cap) l.length (Pk.bcs l)) (j : Nat) (hj : j < l.length) : w.cell? ⟨g, j, none⟩ = some (.int .u8 (Sp.bz l j)) := by
 rw [h.cellAt j (by omega)]; simp [Pk.bcs, hj, Sp.bz]
set_option maxHeartbeats 1000000 in
set_option maxRecDepth 100000 in
theorem untag_none (ao : Option Addr) (cap : Nat) (w : World) :
  Calls Try.prog 56 #[.slice ao 0 cap] w fun e w' => ∃ v, e = .returned (.tuple #[v, .bool false, .int .i64 1]) ∧ Pk.Sl [] v w' ∧ Below w.heap.size w w' := by
 have KH : Hid (∀ wx : World, Calls Try.prog 8 #[.slice ao 0 cap] wx fun e w' => ∃ v, e = .returned v ∧ w'.ownsRow wx.heap.size 5 1 v 0 (Pk.bcs []) ∧ Below wx.heap.size wx w') := fun wx => halves_any [] ao cap wx (Nat.zero_le _) (Sp.Vw_nil _ _)
 go_enter Try.func56, Try.ntmps56
 go_wp2_with fail
 refine (KH.out _).mono (fun e w2 he => ?_)
 obtain ⟨v0, rfl, own, b1⟩ := he; have hv0 : ∃ a c, v0 = .slice a 0 c := by
  rcases own.2 with ⟨h3, _⟩ | ⟨g, c, cur, h3, _⟩
  ·exact ⟨none, 0, h3⟩
  ·exact ⟨_, c, h3⟩
 obtain ⟨a, c, rfl⟩ := hv0; clear own; go_wp2_with fail
 exact bodyPost_ret (res3t _ _ _ 2 3 4 _ _ _ rfl rfl rfl rfl) rfl ⟨_, rfl, Pk.Sl_nil _, b1⟩
set_option maxHeartbeats 1000000 in
set_option maxRecDepth 100000 in
theorem untag_high (b : List UInt8) (ao : Option Addr) (cap : Nat) (X Y : Int) (w : World) (hn : Hid (b.length ≤ 2097152)) (vw : Sp.Vw b ao w) (h0 : 2 ≤ (hv b).length) (hX : Sp.bz (hv b) 0 = X) (hY : Sp.bz (hv b) 1 = Y) (hx : 3 < X)  :
  Calls Try.prog 56 #[.slice ao b.length cap] w fun e w' => ∃ v, e = .returned (.tuple #[v, .bool false, .int .i64 1]) ∧ Pk.Sl [] v w' ∧ Below w.heap.size w w' := by
 have KH : Hid (∀ wx : World, Sp.Vw b ao wx → Calls Try.prog 8 #[.slice ao b.length cap] wx fun e w' => ∃ v, e = .returned v ∧ w'.ownsRow wx.heap.size 5 1 v (hv b).length (Pk.bcs (hv b)) ∧ Below wx.heap.size wx w') := fun wx h => halves_any b ao cap wx hn h
 have VB : Hid (Sp.Vw b ao w) := vw; have HL : Hid (2 ≤ (hv b).length) := h0; have HX : Hid (Sp.bz (hv b) 0 = X ∧ Sp.bz (hv b) 1 = Y) := ⟨hX, hY⟩; have d0 : decide ((3 : Int) < X) = true := decide_eq_true hx; clear vw h0 hX hY hx; go_enter Try.func56, Try.ntmps56
 go_wp2_with fail
 refine (KH.out _ VB.out).mono (fun e w2 he => ?_)
 obtain ⟨v0, rfl, own, b1⟩ := he; obtain ⟨g, cp, rfl, hcp, hc6, SD⟩ := own_at own (by have := HL.out; omega)
 have c0 := cell_at own 0 (by have := HL.out; omega)
 have c1 := cell_at own 1 (by have := HL.out; omega)
 rw [HX.out.1] at c0; rw [HX.out.2] at c1; have SD : Hid (∀ k (a' : Option Addr), k ≤ (hv b).length → (0 < (hv b).length - k → a' = some ⟨g, k, none⟩) → Pk.Sl ((hv b).drop k) (.slice a' ((hv b).length - k) (cp - k)) w2) := SD; have hcp : Hid ((hv b).length ≤ cp) := hcp; clear own; generalize (hv b).length = n at *; have n0 : ((n : Int) == 0) = false := beq_false_of_ne (by have := HL.out; omega)
 have n1 : (0 : Int) < (n : Int) := by have := HL.out; omega
 have n2 : (1 : Int) < (n : Int) := by have := HL.out; omega
 have n3 : (1 : Int) ≤ (n : Int) := by omega
 have n4 : (2 : Int) ≤ (n : Int) := by omega
 have n5 : (1 : Int) < (cp : Int) := by have := HL.out; have := hcp.out; omega
 have n6 : (2 : Int) ≤ (cp : Int) := by omega
 go_wp2_with fail
 exact bodyPost_ret (res3t _ _ _ 2 3 4 _ _ _ rfl rfl rfl rfl) rfl ⟨_, rfl, Pk.Sl_nil _, b1⟩
set_option maxHeartbeats 1000000 in
set_option maxRecDepth 100000 in
theorem untag_1 (b : List UInt8) (ao : Option Addr) (cap : Nat) (Y : Int) (w : World) (hn : Hid (b.length ≤ 2097152)) (vw : Sp.Vw b ao w) (h0 : 2 ≤ (hv b).length) (hX : Sp.bz (hv b) 0 = (1 : Int)) (hY : Sp.bz (hv b) 1 = Y)   :
  Calls Try.prog 56 #[.slice ao b.length cap] w fun e w' => ∃ v, e = .returned (.tuple #[v, .bool false, .int .i64 0]) ∧ Pk.Sl ((hv b).drop 1) v w' ∧ Below w.heap.size w w' := by
 have KH : Hid (∀ wx : World, Sp.Vw b ao wx → Calls Try.prog 8 #[.slice ao b.length cap] wx fun e w' => ∃ v, e = .returned v ∧ w'.ownsRow wx.heap.size 5 1 v (hv b).length (Pk.bcs (hv b)) ∧ Below wx.heap.size wx w') := fun wx h => halves_any b ao cap wx hn h
 have VB : Hid (Sp.Vw b ao w) := vw; have HL : Hid (2 ≤ (hv b).length) := h0; have HX : Hid (Sp.bz (hv b) 0 = (1 : Int) ∧ Sp.bz (hv b) 1 = Y) := ⟨hX, hY⟩; have d0 : bits .and .u8 1 2 = 0 := by decide +kernel
 have d1 : bits .and .u8 1 1 = 1 := by decide +kernel
 clear vw h0 hX hY; go_enter Try.func56, Try.ntmps56
 go_wp2_with fail
 refine (KH.out _ VB.out).mono (fun e w2 he => ?_)
 obtain ⟨v0, rfl, own, b1⟩ := he; obtain ⟨g, cp, rfl, hcp, hc6, SD⟩ := own_at own (by have := HL.out; omega)
 have c0 := cell_at own 0 (by have := HL.out; omega)
 have c1 := cell_at own 1 (by have := HL.out; omega)
 rw [HX.out.1] at c0; rw [HX.out.2] at c1; have SD : Hid (∀ k (a' : Option Addr), k ≤ (hv b).length → (0 < (hv b).length - k → a' = some ⟨g, k, none⟩) → Pk.Sl ((hv b).drop k) (.slice a' ((hv b).length - k) (cp - k)) w2) := SD; have hcp : Hid ((hv b).length ≤ cp) := hcp; clear own; generalize (hv b).length = n at *; have n0 : ((n : Int) == 0) = false := beq_false_of_ne (by have := HL.out; omega)
 have n1 : (0 : Int) < (n : Int) := by have := HL.out; omega
 have n2 : (1 : Int) < (n : Int) := by have := HL.out; omega
 have n3 : (1 : Int) ≤ (n : Int) := by omega
 have n4 : (2 : Int) ≤ (n : Int) := by omega
 have n5 : (1 : Int) < (cp : Int) := by have := HL.out; have := hcp.out; omega
 have n6 : (2 : Int) ≤ (cp : Int) := by omega
 go_wp2_with fail
 exact bodyPost_ret (res3t _ _ _ 2 3 4 _ _ _ rfl rfl rfl rfl) rfl ⟨_, rfl, SD.out 1 _ (by omega) (fun _ => rfl), b1⟩
set_option maxHeartbeats 1000000 in
set_option maxRecDepth 100000 in
theorem untag_3 (b : List UInt8) (ao : Option Addr) (cap : Nat) (Y : Int) (w : World) (hn : Hid (b.length ≤ 2097152)) (vw : Sp.Vw b ao w) (h0 : 2 ≤ (hv b).length) (hX : Sp.bz (hv b) 0 = (3 : Int)) (hY : Sp.bz (hv b) 1 = Y)   :
  Calls Try.prog 56 #[.slice ao b.length cap] w fun e w' => ∃ v, e = .returned (.tuple #[v, .bool true, .int .i64 0]) ∧ Pk.Sl ((hv b).drop 1) v w' ∧ Below w.heap.size w w' := by
 have KH : Hid (∀ wx : World, Sp.Vw b ao wx → Calls Try.prog 8 #[.slice ao b.length cap] wx fun e w' => ∃ v, e = .returned v ∧ w'.ownsRow wx.heap.size 5 1 v (hv b).length (Pk.bcs (hv b)) ∧ Below wx.heap.size wx w') := fun wx h => halves_any b ao cap wx hn h
 have VB : Hid (Sp.Vw b ao w) := vw; have HL : Hid (2 ≤ (hv b).length) := h0; have HX : Hid (Sp.bz (hv b) 0 = (3 : Int) ∧ Sp.bz (hv b) 1 = Y) := ⟨hX, hY⟩; have d0 : bits .and .u8 3 2 = 2 := by decide +kernel
 have d1 : bits .and .u8 3 1 = 1 := by decide +kernel
 clear vw h0 hX hY; go_enter Try.func56, Try.ntmps56
 go_wp2_with fail
 refine (KH.out _ VB.out).mono (fun e w2 he => ?_)
 obtain ⟨v0, rfl, own, b1⟩ := he; obtain ⟨g, cp, rfl, hcp, hc6, SD⟩ := own_at own (by have := HL.out; omega)
 have c0 := cell_at own 0 (by have := HL.out; omega)
 have c1 := cell_at own 1 (by have := HL.out; omega)
 rw [HX.out.1] at c0; rw [HX.out.2] at c1; have SD : Hid (∀ k (a' : Option Addr), k ≤ (hv b).length → (0 < (hv b).length - k → a' = some ⟨g, k, none⟩) → Pk.Sl ((hv b).drop k) (.slice a' ((hv b).length - k) (cp - k)) w2) := SD; have hcp : Hid ((hv b).length ≤ cp) := hcp; clear own; generalize (hv b).length = n at *; have n0 : ((n : Int) == 0) = false := beq_false_of_ne (by have := HL.out; omega)
 have n1 : (0 : Int) < (n : Int) := by have := HL.out; omega
 have n2 : (1 : Int) < (n : Int) := by have := HL.out; omega
 have n3 : (1 : Int) ≤ (n : Int) := by omega
 have n4 : (2 : Int) ≤ (n : Int) := by omega
 have n5 : (1 : Int) < (cp : Int) := by have := HL.out; have := hcp.out; omega
 have n6 : (2 : Int) ≤ (cp : Int) := by omega
 go_wp2_with fail
 exact bodyPost_ret (res3t _ _ _ 2 3 4 _ _ _ rfl rfl rfl rfl) rfl ⟨_, rfl, SD.out 1 _ (by omega) (fun _ => rfl), b1⟩
set_option maxHeartbeats 1000000 in
set_option maxRecDepth 100000 in
theorem untag_0n (b : List UInt8) (ao : Option Addr) (cap : Nat) (Y : Int) (w : World) (hn : Hid (b.length ≤ 2097152)) (vw : Sp.Vw b ao w) (h0 : 2 ≤ (hv b).length) (hX : Sp.bz (hv b) 0 = (0 : Int)) (hY : Sp.bz (hv b) 1 = Y)  (hy : ¬ Y = 0) :
  Calls Try.prog 56 #[.slice ao b.length cap] w fun e w' => ∃ v, e = .returned (.tuple #[v, .bool false, .int .i64 1]) ∧ Pk.Sl [] v w' ∧ Below w.heap.size w w' := by
 have KH : Hid (∀ wx : World, Sp.Vw b ao wx → Calls Try.prog 8 #[.slice ao b.length cap] wx fun e w' => ∃ v, e = .returned v ∧ w'.ownsRow wx.heap.size 5 1 v (hv b).length (Pk.bcs (hv b)) ∧ Below wx.heap.size wx w') := fun wx h => halves_any b ao cap wx hn h
 have VB : Hid (Sp.Vw b ao w) := vw; have HL : Hid (2 ≤ (hv b).length) := h0; have HX : Hid (Sp.bz (hv b) 0 = (0 : Int) ∧ Sp.bz (hv b) 1 = Y) := ⟨hX, hY⟩; have d0 : bits .and .u8 0 2 = 0 := by decide +kernel
 have d1 : bits .and .u8 0 1 = 0 := by decide +kernel
 have d2 : (Y != 0) = true := by simpa using hy
 clear vw h0 hX hY hy; go_enter Try.func56, Try.ntmps56
 go_wp2_with fail
 refine (KH.out _ VB.out).mono (fun e w2 he => ?_)
 obtain ⟨v0, rfl, own, b1⟩ := he; obtain ⟨g, cp, rfl, hcp, hc6, SD⟩ := own_at own (by have := HL.out; omega)
 have c0 := cell_at own 0 (by have := HL.out; omega)
 have c1 := cell_at own 1 (by have := HL.out; omega)
 rw [HX.out.1] at c0; rw [HX.out.2] at c1; have SD : Hid (∀ k (a' : Option Addr), k ≤ (hv b).length → (0 < (hv b).length - k → a' = some ⟨g, k, none⟩) → Pk.Sl ((hv b).drop k) (.slice a' ((hv b).length - k) (cp - k)) w2) := SD; have hcp : Hid ((hv b).length ≤ cp) := hcp; clear own; generalize (hv b).length = n at *; have n0 : ((n : Int) == 0) = false := beq_false_of_ne (by have := HL.out; omega)
 have n1 : (0 : Int) < (n : Int) := by have := HL.out; omega
 have n2 : (1 : Int) < (n : Int) := by have := HL.out; omega
 have n3 : (1 : Int) ≤ (n : Int) := by omega
 have n4 : (2 : Int) ≤ (n : Int) := by omega
 have n5 : (1 : Int) < (cp : Int) := by have := HL.out; have := hcp.out; omega
 have n6 : (2 : Int) ≤ (cp : Int) := by omega
 go_wp2_with fail
 exact bodyPost_ret (res3t _ _ _ 2 3 4 _ _ _ rfl rfl rfl rfl) rfl ⟨_, rfl, Pk.Sl_nil _, b1⟩
set_option maxHeartbeats 1000000 in
set_option maxRecDepth 100000 in
theorem untag_0z (b : List UInt8) (ao : Option Addr) (cap : Nat) (w : World) (hn : Hid (b.length ≤ 2097152)) (vw : Sp.Vw b ao w) (h0 : 2 ≤ (hv b).length) (hX : Sp.bz (hv b) 0 = (0 : Int)) (hY : Sp.bz (hv b) 1 = 0)   :
  Calls Try.prog 56 #[.slice ao b.length cap] w fun e w' => ∃ v, e = .returned (.tuple #[v, .bool false, .int .i64 0]) ∧ Pk.Sl ((hv b).drop 2) v w' ∧ Below w.heap.size w w' := by
 have KH : Hid (∀ wx : World, Sp.Vw b ao wx → Calls Try.prog 8 #[.slice ao b.length cap] wx fun e w' => ∃ v, e = .returned v ∧ w'.ownsRow wx.heap.size 5 1 v (hv b).length (Pk.bcs (hv b)) ∧ Below wx.heap.size wx w') := fun wx h => halves_any b ao cap wx hn h
 have VB : Hid (Sp.Vw b ao w) := vw; have HL : Hid (2 ≤ (hv b).length) := h0; have HX : Hid (Sp.bz (hv b) 0 = (0 : Int) ∧ Sp.bz (hv b) 1 = 0) := ⟨hX, hY⟩; have d0 : bits .and .u8 0 2 = 0 := by decide +kernel
 have d1 : bits .and .u8 0 1 = 0 := by decide +kernel
 clear vw h0 hX hY; go_enter Try.func56, Try.ntmps56
 go_wp2_with fail
 refine (KH.out _ VB.out).mono (fun e w2 he => ?_)
 obtain ⟨v0, rfl, own, b1⟩ := he; obtain ⟨g, cp, rfl, hcp, hc6, SD⟩ := own_at own (by have := HL.out; omega)
 have c0 := cell_at own 0 (by have := HL.out; omega)
 have c1 := cell_at own 1 (by have := HL.out; omega)
 rw [HX.out.1] at c0; rw [HX.out.2] at c1; have SD : Hid (∀ k (a' : Option Addr), k ≤ (hv b).length → (0 < (hv b).length - k → a' = some ⟨g, k, none⟩) → Pk.Sl ((hv b).drop k) (.slice a' ((hv b).length - k) (cp - k)) w2) := SD; have hcp : Hid ((hv b).length ≤ cp) := hcp; clear own; generalize (hv b).length = n at *; have n0 : ((n : Int) == 0) = false := beq_false_of_ne (by have := HL.out; omega)
 have n1 : (0 : Int) < (n : Int) := by have := HL.out; omega
 have n2 : (1 : Int) < (n : Int) := by have := HL.out; omega
 have n3 : (1 : Int) ≤ (n : Int) := by omega
 have n4 : (2 : Int) ≤ (n : Int) := by omega
 have n5 : (1 : Int) < (cp : Int) := by have := HL.out; have := hcp.out; omega
 have n6 : (2 : Int) ≤ (cp : Int) := by omega
 by_cases e : cp = 2
 ·subst e; have hn2 : n = 2 := by have := HL.out; have := hcp.out; omega
  subst hn2; clear n0 n1 n2 n3 n4 n5 n6; go_wp2_with fail
  exact bodyPost_ret (res3t _ _ _ 2 3 4 _ _ _ rfl rfl rfl rfl) rfl ⟨_, rfl, SD.out 2 _ (Nat.le_refl _) (fun h => absurd h (by decide)), b1⟩
 ·have n7 : (2 : Int) < (cp : Int) := by omega
  go_wp2_with fail
  exact bodyPost_ret (res3t _ _ _ 2 3 4 _ _ _ rfl rfl rfl rfl) rfl ⟨_, rfl, SD.out 2 _ (by omega) (fun _ => rfl), b1⟩
set_option maxHeartbeats 1000000 in
set_option maxRecDepth 100000 in
theorem untag_2n (b : List UInt8) (ao : Option Addr) (cap : Nat) (Y : Int) (w : World) (hn : Hid (b.length ≤ 2097152)) (vw : Sp.Vw b ao w) (h0 : 2 ≤ (hv b).length) (hX : Sp.bz (hv b) 0 = (2 : Int)) (hY : Sp.bz (hv b) 1 = Y)  (hy : ¬ Y = 0) :
  Calls Try.prog 56 #[.slice ao b.length cap] w fun e w' => ∃ v, e = .returned (.tuple #[v, .bool false, .int .i64 1]) ∧ Pk.Sl [] v w' ∧ Below w.heap.size w w' := by
 have KH : Hid (∀ wx : World, Sp.Vw b ao wx → Calls Try.prog 8 #[.slice ao b.length cap] wx fun e w' => ∃ v, e = .returned v ∧ w'.ownsRow wx.heap.size 5 1 v (hv b).length (Pk.bcs (hv b)) ∧ Below wx.heap.size wx w') := fun wx h => halves_any b ao cap wx hn h
 have VB : Hid (Sp.Vw b ao w) := vw; have HL : Hid (2 ≤ (hv b).length) := h0; have HX : Hid (Sp.bz (hv b) 0 = (2 : Int) ∧ Sp.bz (hv b) 1 = Y) := ⟨hX, hY⟩; have d0 : bits .and .u8 2 2 = 2 := by decide +kernel
 have d1 : bits .and .u8 2 1 = 0 := by decide +kernel
 have d2 : (Y != 0) = true := by simpa using hy
 clear vw h0 hX hY hy; go_enter Try.func56, Try.ntmps56
 go_wp2_with fail
 refine (KH.out _ VB.out).mono (fun e w2 he => ?_)
 obtain ⟨v0, rfl, own, b1⟩ := he; obtain ⟨g, cp, rfl, hcp, hc6, SD⟩ := own_at own (by have := HL.out; omega)
 have c0 := cell_at own 0 (by have := HL.out; omega)
 have c1 := cell_at own 1 (by have := HL.out; omega)
 rw [HX.out.1] at c0; rw [HX.out.2] at c1; have SD : Hid (∀ k (a' : Option Addr), k ≤ (hv b).length → (0 < (hv b).length - k → a' = some ⟨g, k, none⟩) → Pk.Sl ((hv b).drop k) (.slice a' ((hv b).length - k) (cp - k)) w2) := SD; have hcp : Hid ((hv b).length ≤ cp) := hcp; clear own; generalize (hv b).length = n at *; have n0 : ((n : Int) == 0) = false := beq_false_of_ne (by have := HL.out; omega)
 have n1 : (0 : Int) < (n : Int) := by have := HL.out; omega
 have n2 : (1 : Int) < (n : Int) := by have := HL.out; omega
 have n3 : (1 : Int) ≤ (n : Int) := by omega
 have n4 : (2 : Int) ≤ (n : Int) := by omega
 have n5 : (1 : Int) < (cp : Int) := by have := HL.out; have := hcp.out; omega
 have n6 : (2 : Int) ≤ (cp : Int) := by omega
 go_wp2_with fail
 exact bodyPost_ret (res3t _ _ _ 2 3 4 _ _ _ rfl rfl rfl rfl) rfl ⟨_, rfl, Pk.Sl_nil _, b1⟩
set_option maxHeartbeats 1000000 in
set_option maxRecDepth 100000 in
theorem untag_2z (b : List UInt8) (ao : Option Addr) (cap : Nat) (w : World) (hn : Hid (b.length ≤ 2097152)) (vw : Sp.Vw b ao w) (h0 : 2 ≤ (hv b).length) (hX : Sp.bz (hv b) 0 = (2 : Int)) (hY : Sp.bz (hv b) 1 = 0)   :
  Calls Try.prog 56 #[.slice ao b.length cap] w fun e w' => ∃ v, e = .returned (.tuple #[v, .bool true, .int .i64 0]) ∧ Pk.Sl ((hv b).drop 2) v w' ∧ Below w.heap.size w w' := by
 have KH : Hid (∀ wx : World, Sp.Vw b ao wx → Calls Try.prog 8 #[.slice ao b.length cap] wx fun e w' => ∃ v, e = .returned v ∧ w'.ownsRow wx.heap.size 5 1 v (hv b).length (Pk.bcs (hv b)) ∧ Below wx.heap.size wx w') := fun wx h => halves_any b ao cap wx hn h
 have VB : Hid (Sp.Vw b ao w) := vw; have HL : Hid (2 ≤ (hv b).length) := h0; have HX : Hid (Sp.bz (hv b) 0 = (2 : Int) ∧ Sp.bz (hv b) 1 = 0) := ⟨hX, hY⟩; have d0 : bits .and .u8 2 2 = 2 := by decide +kernel
 have d1 : bits .and .u8 2 1 = 0 := by decide +kernel
 clear vw h0 hX hY; go_enter Try.func56, Try.ntmps56
 go_wp2_with fail
 refine (KH.out _ VB.out).mono (fun e w2 he => ?_)
 obtain ⟨v0, rfl, own, b1⟩ := he; obtain ⟨g, cp, rfl, hcp, hc6, SD⟩ := own_at own (by have := HL.out; omega)
 have c0 := cell_at own 0 (by have := HL.out; omega)
 have c1 := cell_at own 1 (by have := HL.out; omega)
 rw [HX.out.1] at c0; rw [HX.out.2] at c1; have SD : Hid (∀ k (a' : Option Addr), k ≤ (hv b).length → (0 < (hv b).length - k → a' = some ⟨g, k, none⟩) → Pk.Sl ((hv b).drop k) (.slice a' ((hv b).length - k) (cp - k)) w2) := SD; have hcp : Hid ((hv b).length ≤ cp) := hcp; clear own; generalize (hv b).length = n at *; have n0 : ((n : Int) == 0) = false := beq_false_of_ne (by have := HL.out; omega)
 have n1 : (0 : Int) < (n : Int) := by have := HL.out; omega
 have n2 : (1 : Int) < (n : Int) := by have := HL.out; omega
 have n3 : (1 : Int) ≤ (n : Int) := by omega
 have n4 : (2 : Int) ≤ (n : Int) := by omega
 have n5 : (1 : Int) < (cp : Int) := by have := HL.out; have := hcp.out; omega
 have n6 : (2 : Int) ≤ (cp : Int) := by omega
 by_cases e : cp = 2
 ·subst e; have hn2 : n = 2 := by have := HL.out; have := hcp.out; omega
  subst hn2; clear n0 n1 n2 n3 n4 n5 n6; go_wp2_with fail
  exact bodyPost_ret (res3t _ _ _ 2 3 4 _ _ _ rfl rfl rfl rfl) rfl ⟨_, rfl, SD.out 2 _ (Nat.le_refl _) (fun h => absurd h (by decide)), b1⟩
 ·have n7 : (2 : Int) < (cp : Int) := by omega
  go_wp2_with fail
  exact bodyPost_ret (res3t _ _ _ 2 3 4 _ _ _ rfl rfl rfl rfl) rfl ⟨_, rfl, SD.out 2 _ (by omega) (fun _ => rfl), b1⟩
theorem untag_sl (b : List UInt8) (ao : Option Addr) (cap : Nat) (w : World) (hn : Hid (b.length ≤ 2097152)) (vw : Sp.Vw b ao w) :
  Calls Try.prog 56 #[.slice ao b.length cap] w fun e w' => ∃ v, e = .returned (.tuple #[v, .bool (un (hv b)).2.1, .int .i64 (un (hv b)).2.2]) ∧ Pk.Sl (un (hv b)).1 v w' ∧ Below w.heap.size w w' := by
 cases b with
 | nil => exact untag_none ao cap w
 | cons c r =>
  have hc := UInt8.toNat_lt c; generalize hx : UInt8.ofNat (c.toNat / 16) = x; generalize hy : UInt8.ofNat (c.toNat % 16) = y; have e : hv (c :: r) = x :: y :: hv r := by rw [hv, hx, hy]
  have h0 : 2 ≤ (hv (c :: r)).length := by rw [e]; simp
  have nat0 : ∀ z : UInt8, ∀ m : UInt8, z.toNat = m.toNat → z = m := fun z m h => UInt8.toNat_inj.1 h
  have X0 : Sp.bz (hv (c :: r)) 0 = (x.toNat : Int) := by rw [e]; rfl
  have Y0 : Sp.bz (hv (c :: r)) 1 = (y.toNat : Int) := by rw [e]; rfl
  rw [e]; by_cases x0 : x = 0
  ·subst x0; by_cases y0 : y = 0
   ·subst y0; have k := untag_0z (c :: r) ao cap w hn vw h0 X0 Y0; rw [e] at k; exact k
   ·have k := untag_0n (c :: r) ao cap _ w hn vw h0 X0 Y0 (fun h => y0 (nat0 y 0 (by have : ((0 : UInt8).toNat) = 0 := rfl; omega)))
    have eu : un (0 :: y :: hv r) = ([], false, 1) := by simp [un, y0]
    rw [eu]; exact k
  ·by_cases x1 : x = 1
   ·subst x1; have k := untag_1 (c :: r) ao cap _ w hn vw h0 X0 Y0; rw [e] at k; exact k
   ·by_cases x2 : x = 2
    ·subst x2; by_cases y0 : y = 0
     ·subst y0; have k := untag_2z (c :: r) ao cap w hn vw h0 X0 Y0; rw [e] at k; exact k
     ·have k := untag_2n (c :: r) ao cap _ w hn vw h0 X0 Y0 (fun h => y0 (nat0 y 0 (by have : ((0 : UInt8).toNat) = 0 := rfl; omega)))
      have eu : un (2 :: y :: hv r) = ([], false, 1) := by simp [un, y0]
      rw [eu]; exact k
    ·by_cases x3 : x = 3
     ·subst x3; have k := untag_3 (c :: r) ao cap _ w hn vw h0 X0 Y0; rw [e] at k; exact k
     ·have hx3 : 3 < x.toNat := by
       rcases Nat.lt_or_ge 3 x.toNat with h | h
       ·exact h
       ·exfalso
        have : x.toNat = 0 ∨ x.toNat = 1 ∨ x.toNat = 2 ∨ x.toNat = 3 := by omega
        rcases this with h | h | h | h
        ·exact x0 (nat0 x 0 h)
        ·exact x1 (nat0 x 1 h)
        ·exact x2 (nat0 x 2 h)
        ·exact x3 (nat0 x 3 h)
      have k := untag_high (c :: r) ao cap _ _ w hn vw h0 X0 Y0 (by omega); have eu : un (x :: y :: hv r) = ([], false, 1) := by simp [un, x0, x1, x2, x3]
      rw [eu]; exact k
end Nb
end Go.Proofs.Ytlbdaccmnpcccaa
namespace Go.Proofs.Ytlbdaccmnpcccaa
namespace Nb
open Go.RowKit
theorem pick_lf (l2 lf : Bool) (k : Nat) (h : (if lf then 1 else 0) = k) (h1 : (if l2 then 1 else 0) < k + 1) (h2 : ¬ (if l2 then 1 else 0) < k) : l2 = lf := by
 subst h; cases l2 <;> cases lf <;> simp_all
theorem tagged2 (p b : List UInt8) (leaf : Bool) : (je (tg p leaf) = 0 ∧ jl (tg p leaf) = b) ↔ tg p leaf = hv b := by
 rw [← tagged]; by_cases h : JF (tg p leaf)
 ·rw [je_yes h, jl_yes h]; exact ⟨fun k => ⟨h, k.2⟩, fun k => ⟨rfl, k.2⟩⟩
 ·rw [je_no h]; exact ⟨fun k => absurd k.1 (by decide), fun k => absurd k.1 h⟩
theorem tagged3 (p b : List UInt8) (leaf : Bool) (h : ¬ tg p leaf = hv b) : je (tg p leaf) = 1 ∨ (je (tg p leaf) = 0 ∧ jl (tg p leaf) ≠ b) := by
 by_cases hj : JF (tg p leaf)
 ·exact .inr ⟨je_yes hj, fun e => h ((tagged2 p b leaf).1 ⟨je_yes hj, e⟩)⟩
 ·exact .inl (je_no hj)
theorem un_yes (b : List UInt8) (f : Nat) (leaf : Bool) (h1 : 1 ≤ f) (h2 : f ≤ 2) (h : tg ((hv b).drop f) leaf = hv b) : un (hv b) = ((hv b).drop f, leaf, 0) := by
 cases b with
 | nil =>
  exfalso
  have := congrArg List.length h; unfold tg hd at this
  simp [hv] at this
 | cons c r =>
  have hl := hv_len r; rw [hv] at h ⊢; generalize UInt8.ofNat (c.toNat / 16) = x at *; generalize UInt8.ofNat (c.toNat % 16) = y at *; have hf : f = 1 ∨ f = 2 := by omega
  rcases hf with rfl | rfl
  ·simp only [List.drop_succ_cons, List.drop_zero] at h ⊢; unfold tg hd at h
   rw [if_pos (by rw [List.length_cons, hl]; omega)] at h
   cases leaf
   ·simp at h
    subst h; rfl
   ·simp at h
    subst h; rfl
  ·simp only [List.drop_succ_cons, List.drop_zero] at h ⊢; unfold tg hd at h
   rw [if_neg (by rw [hl]; omega)] at h
   cases leaf
   ·simp at h
    obtain ⟨rfl, rfl⟩ := h; rfl
   ·simp at h
    obtain ⟨rfl, rfl⟩ := h; rfl
theorem un_no (b : List UInt8) (h : ∀ f, 1 ≤ f → f < 3 → ∀ leaf, tg ((hv b).drop f) leaf ≠ hv b) : un (hv b) = ([], false, 1) := by
 cases b with
 | nil => rfl
 | cons c r =>
  have hl := hv_len r; rw [hv] at h ⊢; generalize UInt8.ofNat (c.toNat / 16) = x at *; generalize UInt8.ofNat (c.toNat % 16) = y at *; have A := h 1 (by omega) (by omega); have B := h 2 (by omega) (by omega); simp only [List.drop_succ_cons, List.drop_zero] at A B; have A0 := A false; have A1 := A true; have B0 := B false; have B1 := B true; unfold tg hd at A0 A1 B0 B1
  rw [if_pos (by rw [List.length_cons, hl]; omega)] at A0 A1
  rw [if_neg (by rw [hl]; omega)] at B0 B1
  simp at A0 A1 B0 B1
  rw [un]; by_cases x0 : x = 0
  ·rw [if_pos x0, if_neg (fun e => B0 x0.symm e.symm)]
  ·rw [if_neg x0, if_neg (fun e => A0 e.symm)]
   by_cases x2 : x = 2
   ·rw [if_pos x2, if_neg (fun e => B1 x2.symm e.symm)]
   ·rw [if_neg x2, if_neg (fun e => A1 e.symm)]
set_option maxHeartbeats 2000000 in
set_option maxRecDepth 100000 in
theorem nuntag_none (ao : Option Addr) (cap : Nat) (w : World) :
  Calls Try.prog 24 #[.slice ao 0 cap] w fun e w' => ∃ v, e = .returned (.tuple #[v, .bool false, .int .i64 1]) ∧ Pk.Sl [] v w' ∧ Below w.heap.size w w' := by
 go_enter Try.func24, Try.ntmps24
 go_wp2
 refine wp_loop_rounds 1 ?_; rw [rounds_succ]; go_wp2
 exact bodyPost_ret (res3t _ _ _ 2 3 4 _ _ _ rfl rfl rfl rfl) rfl ⟨_, rfl, Pk.Sl_nil _, Below.refl _ _⟩
set_option maxHeartbeats 2000000 in
set_option maxRecDepth 100000 in
theorem nuntag_some (b : List UInt8) (ao : Option Addr) (cap : Nat) (w : World) (h0 : 0 < b.length) (hn : Hid (b.length ≤ 2097140)) (hcap : b.length ≤ cap) (vw : Sp.Vw b ao w) :
  Calls Try.prog 24 #[.slice ao b.length cap] w fun e w' => ∃ v, e = .returned (.tuple #[v, .bool (un (hv b)).2.1, .int .i64 (un (hv b)).2.2]) ∧ Pk.Sl (un (hv b)).1 v w' ∧ Below w.heap.size w w' := by
 have KN : Hid (∀ wx : World, Below w.heap.size w wx → Calls Try.prog 11 #[.slice ao b.length cap] wx fun e w' => ∃ v, e = .returned v ∧ w'.ownsRow wx.heap.size 5 1 v (hv b).length (Pk.bcs (hv b)) ∧ Below wx.heap.size wx w') := fun wx h => nhalves_any b ao cap wx (by have := hn.out; show _ ≤ _; omega) (Sp.Vw_below vw h)
 have KT : Hid (∀ (f : Nat) (leaf : Bool) (a : Option Addr) (c : Nat) (wx : World), Pk.Sl ((hv b).drop f) (.slice a ((hv b).length - f) c) wx → Calls Try.prog 36 #[.slice a ((hv b).length - f) c, .bool leaf] wx fun e w' => ∃ v, e = .returned (.tuple #[v, .int .i64 (je (tg ((hv b).drop f) leaf))]) ∧ Pk.Sl (jl (tg ((hv b).drop f) leaf)) v w' ∧ Below wx.heap.size wx w') := fun f leaf a c wx h => by
  obtain ⟨a2, c2, e2, h2, v2⟩ := h; have ldr : ((hv b).drop f).length = (hv b).length - f := List.length_drop ..; injection e2 with e3 e4 e5
  subst e3 e5; rw [← ldr]; exact ntag_sl _ leaf a c wx (by have := hn.out; have := hv_len b; show _ ≤ _; omega) h2 v2
 have HC : Hid (∀ wx : World, Below w.heap.size w wx → (convert 24 9 (.slice ao b.length cap)).run Try.prog wx = .ok (.string ⟨b.toArray⟩) wx) := fun wx hb => Pk.Sl_conv ⟨ao, cap, rfl, hcap, Sp.Vw_below vw hb⟩
 have HL : Hid ((hv b).length = 2 * b.length) := hv_len b; have H0 : Hid (0 < b.length) := h0; have hw2 : Hid (wrap64 (2 * (b.length : Int)) = 2 * (b.length : Int)) := by
  have hn' := hn.out; show _ = _
  unfold wrap64; omega
 clear vw hcap h0; go_enter Try.func24, Try.ntmps24
 go_wp2_with fail
 go_loopw [5] (fun i wr => ∃ f : Nat, 1 ≤ f ∧ f ≤ 3 ∧ i = .int .i64 (f : Int) ∧ Hid (∀ f', 1 ≤ f' → f' < f → ∀ leaf, tg ((hv b).drop f') leaf ≠ hv b) ∧ Below w.heap.size w wr) (fun i _ => ((3 : Int) - intOf i).toNat)
 case atStart => exact ⟨1, Nat.le_refl _, by decide, rfl, fun f' h1 h2 => by omega, Below.refl _ _⟩
 case round =>
  obtain ⟨f, hf1, hf3, rfl, hN, hb⟩ := hrel; by_cases hf2 : f ≤ 2
  ·have d1 : decide ((f : Int) ≤ 2) = true := decide_eq_true (by omega); have d2 : decide ((f : Int) ≤ 2 * (b.length : Int)) = true := decide_eq_true (by have := H0.out; omega)
   have hs := stp f (by show _ ≤ _; omega)
   have HF1 : Hid (1 ≤ f) := hf1; have HF2 : Hid (f ≤ 2) := hf2; have hw := hw2.out; go_wp2_with fail
   clear hw d1 d2; obtain ⟨G, eG⟩ : ∃ G, G = wr.heap.size := ⟨_, rfl⟩; have cA : (wr.alloc (.cells #[.bool false, .bool true] 4)).cell? ⟨wr.heap.size, 0, none⟩ = some (.bool false) := by simp [go_sem]
   have cB : (wr.alloc (.cells #[.bool false, .bool true] 4)).cell? ⟨wr.heap.size, 1, none⟩ = some (.bool true) := by simp [go_sem]
   have hA : wr.heap.size < (wr.alloc (.cells #[.bool false, .bool true] 4)).heap.size := by simp
   have bA : Below w.heap.size w (wr.alloc (.cells #[.bool false, .bool true] 4)) := hb.alloc hb.size _; rw [← eG] at cA cB hA ⊢; generalize wr.alloc (.cells #[.bool false, .bool true] 4) = WA at *; clear eG hb; go_loopw [24] (fun i wx => ∃ k : Nat, k ≤ 2 ∧ i = .int .i64 (k : Int) ∧ Hid (∀ l2 : Bool, (if l2 then 1 else 0) < k → tg ((hv b).drop f) l2 ≠ hv b) ∧ wx.cell? ⟨G, 0, none⟩ = some (.bool false) ∧ wx.cell? ⟨G, 1, none⟩ = some (.bool true) ∧ G < wx.heap.size ∧ Below w.heap.size w wx) (fun i _ => ((2 : Int) - intOf i).toNat)
   case atStart => exact ⟨0, Nat.zero_le _, rfl, fun l2 h => by omega, cA, cB, hA, bA⟩
   case round =>
    clear cA cB hA bA; obtain ⟨k, hk, rfl, hno, c20, c21, hG, b2⟩ := hrel; by_cases hk2 : k < 2
    ·have d1 : decide ((k : Int) < 2) = true := decide_eq_true (by omega); have dk : (k : Int) < 2 := by omega
     have hw := stp k (by show _ ≤ _; omega)
     obtain ⟨lf, HLF, ck⟩ : ∃ lf : Bool, Hid ((if lf then 1 else 0) = k) ∧ wr.cell? ⟨G, k, none⟩ = some (.bool lf) := by
      have : k = 0 ∨ k = 1 := by omega
      rcases this with rfl | rfl
      ·exact ⟨false, rfl, c20⟩
      ·exact ⟨true, rfl, c21⟩
     go_wp2_with fail
     refine (KN.out _ b2).mono (fun e w4 he => ?_)
     obtain ⟨v0, rfl, own, b3'⟩ := he; obtain ⟨g, cp, rfl, hcp, hc6, SD⟩ := own_at own (by rw [HL.out]; have := H0.out; omega)
     have b3 := b2.trans (b3'.mono b2.size); have c40 := (b3'.cell (p := ⟨G, 0, none⟩) hG).trans c20; have c41 := (b3'.cell (p := ⟨G, 1, none⟩) hG).trans c21; have hG3 := Nat.lt_of_lt_of_le hG b3'.size; have n4 : (f : Int) ≤ ((hv b).length : Int) := by rw [HL.out]; have := H0.out; omega
     have n3 : (0 : Int) ≤ (f : Int) := by omega
     have HCP : Hid ((hv b).length ≤ cp) := hcp; have n6 : (f : Int) ≤ (cp : Int) := by omega
     clear own b3' c20 c21 ck hG b2 hcp; by_cases e : cp = f
     ·have sd := SD f (some ⟨g, 0, none⟩) (by omega) (fun h => by have := HCP.out; omega)
      have e := e.symm; subst e; rw [Nat.sub_self] at sd; clear SD; go_wp2_with fail
      refine (KT.out f lf _ _ _ sd).mono (fun e w5 he => ?_)
      obtain ⟨v1, rfl, s1, b4⟩ := he; have bb := b3.trans (b4.mono b3.size); have hcv1 := Pk.Sl_conv s1; have hcv2 := HC.out _ bb; have SP := Pk.Sl_below sd b4; have SP : Hid _ := SP; have c6 := (b4.cell (p := ⟨G, 0, none⟩) hG3).trans c40; have c7 := (b4.cell (p := ⟨G, 1, none⟩) hG3).trans c41; have hG5 := Nat.lt_of_lt_of_le hG3 b4.size; clear s1 sd b4 b3 c40 c41; by_cases ok : tg ((hv b).drop f) lf = hv b
      ·obtain ⟨j0, j1⟩ := (tagged2 _ b lf).2 ok; have HU : Hid (un (hv b) = ((hv b).drop f, lf, 0)) := un_yes b f lf HF1.out HF2.out ok; rw [j1] at hcv1; rw [j0]; clear ok j0 j1 c6 c7; go_wp2_with fail
       exact bodyPost_ret (res3t _ _ _ 2 3 4 _ _ _ rfl rfl rfl rfl) rfl ⟨_, by rw [HU.out]; rfl, by rw [HU.out]; exact SP.out, bb⟩
      ·have HNO : Hid (∀ l2 : Bool, (if l2 then 1 else 0) < k + 1 → tg ((hv b).drop f) l2 ≠ hv b) := fun l2 h => by
        by_cases e2 : (if l2 then 1 else 0) < k
        ·exact hno.out l2 e2
        ·have : l2 = lf := pick_lf l2 lf k HLF.out h e2; rw [this]; exact ok
       rcases tagged3 _ b lf ok with j0 | ⟨j0, j1⟩
       ·rw [j0]; clear ok j0 hno SP; go_wp2_with fail
        have hw := hw.out; go_roundw
        case rel => exact ⟨k + 1, hk2, step_v k _ (by first | exact hw | rfl), HNO, c6, c7, hG5, bb⟩
        case measure => exact msr k 2 hk2 _ (by first | exact hw | rfl)
       ·rw [j0]; have hne : (jl (tg ((hv b).drop f) lf) == b) = false := beq_false_of_ne j1; clear ok j0 j1 hno SP; go_wp2_with fail
        have hw := hw.out; go_roundw
        case rel => exact ⟨k + 1, hk2, step_v k _ (by first | exact hw | rfl), HNO, c6, c7, hG5, bb⟩
        case measure => exact msr k 2 hk2 _ (by first | exact hw | rfl)
     ·have sd := SD f (some ⟨g, f, none⟩) (by omega) (fun _ => rfl)
      have n7 : (f : Int) < (cp : Int) := by omega
      clear SD e; go_wp2_with fail
      refine (KT.out f lf _ _ _ sd).mono (fun e w5 he => ?_)
      obtain ⟨v1, rfl, s1, b4⟩ := he; have bb := b3.trans (b4.mono b3.size); have hcv1 := Pk.Sl_conv s1; have hcv2 := HC.out _ bb; have SP := Pk.Sl_below sd b4; have SP : Hid _ := SP; have c6 := (b4.cell (p := ⟨G, 0, none⟩) hG3).trans c40; have c7 := (b4.cell (p := ⟨G, 1, none⟩) hG3).trans c41; have hG5 := Nat.lt_of_lt_of_le hG3 b4.size; clear s1 sd b4 b3 c40 c41; by_cases ok : tg ((hv b).drop f) lf = hv b
      ·obtain ⟨j0, j1⟩ := (tagged2 _ b lf).2 ok; have HU : Hid (un (hv b) = ((hv b).drop f, lf, 0)) := un_yes b f lf HF1.out HF2.out ok; rw [j1] at hcv1; rw [j0]; clear ok j0 j1 c6 c7; go_wp2_with fail
       exact bodyPost_ret (res3t _ _ _ 2 3 4 _ _ _ rfl rfl rfl rfl) rfl ⟨_, by rw [HU.out]; rfl, by rw [HU.out]; exact SP.out, bb⟩
      ·have HNO : Hid (∀ l2 : Bool, (if l2 then 1 else 0) < k + 1 → tg ((hv b).drop f) l2 ≠ hv b) := fun l2 h => by
        by_cases e2 : (if l2 then 1 else 0) < k
        ·exact hno.out l2 e2
        ·have : l2 = lf := pick_lf l2 lf k HLF.out h e2; rw [this]; exact ok
       rcases tagged3 _ b lf ok with j0 | ⟨j0, j1⟩
       ·rw [j0]; clear ok j0 hno SP; go_wp2_with fail
        have hw := hw.out; go_roundw
        case rel => exact ⟨k + 1, hk2, step_v k _ (by first | exact hw | rfl), HNO, c6, c7, hG5, bb⟩
        case measure => exact msr k 2 hk2 _ (by first | exact hw | rfl)
       ·rw [j0]; have hne : (jl (tg ((hv b).drop f) lf) == b) = false := beq_false_of_ne j1; clear ok j0 j1 hno SP; go_wp2_with fail
        have hw := hw.out; go_roundw
        case rel => exact ⟨k + 1, hk2, step_v k _ (by first | exact hw | rfl), HNO, c6, c7, hG5, bb⟩
        case measure => exact msr k 2 hk2 _ (by first | exact hw | rfl)
    ·obtain rfl : k = 2 := by omega
     have HN2 : Hid (∀ f', 1 ≤ f' → f' < f + 1 → ∀ leaf, tg ((hv b).drop f') leaf ≠ hv b) := fun f' h1 h2 leaf => by
      by_cases e : f' = f
      ·subst e; exact hno.out leaf (by cases leaf <;> decide)
      ·exact hN.out f' h1 (by omega) leaf
     clear hno hN c20 c21; go_wp2_with fail
     have hw := hs.out; go_roundw
     case rel => exact ⟨f + 1, by omega, by omega, step_v f _ (by first | exact hw | rfl), HN2, b2⟩
     case measure => exact msr f 3 (by omega) _ (by first | exact hw | rfl)
  ·obtain rfl : f = 3 := by omega
   have HU : Hid (un (hv b) = ([], false, 1)) := un_no b hN.out; clear hN; go_wp2_with fail
   exact bodyPost_ret (res3t _ _ _ 2 3 4 _ _ _ rfl rfl rfl rfl) rfl ⟨_, by rw [HU.out]; rfl, by rw [HU.out]; exact Pk.Sl_nil _, hb⟩
theorem nuntag_sl (b : List UInt8) (ao : Option Addr) (cap : Nat) (w : World) (hn : Hid (b.length ≤ 2097140)) (hcap : b.length ≤ cap) (vw : Sp.Vw b ao w) :
  Calls Try.prog 24 #[.slice ao b.length cap] w fun e w' => ∃ v, e = .returned (.tuple #[v, .bool (un (hv b)).2.1, .int .i64 (un (hv b)).2.2]) ∧ Pk.Sl (un (hv b)).1 v w' ∧ Below w.heap.size w w' := by
 by_cases h0 : 0 < b.length
 ·exact nuntag_some b ao cap w h0 hn hcap vw
 ·have e : b = [] := List.length_eq_zero_iff.1 (by omega); subst e; exact nuntag_none ao cap w
end Nb
end Go.Proofs.Ytlbdaccmnpcccaa
namespace Go.Proofs.Ytlbdaccmnpcccaa
namespace Pk
open Go.RowKit
def hdr (mark n : Nat) : List UInt8 := if n < 48 then [UInt8.ofNat (mark + n)] else UInt8.ofNat (mark + 47 + (nu n).length) :: nu n
mutual
def enc : It → List UInt8
 | .mk false t _ => if t.length = 1 ∧ Sp.bz t 0 < 128 then t else hdr 128 t.length ++ t
 | .mk true _ ks => hdr 192 (encs ks).length ++ encs ks
def encs : List It → List UInt8
 | [] => []
 | k :: r => enc k ++ encs r
end
mutual
def bar : It → It
 | .mk false t _ => .mk false t []
 | .mk true _ ks => .mk true [] (bars ks)
def bars : List It → List It
 | [] => []
 | k :: r => bar k :: bars r
end
theorem nu_8 (n : Nat) (h : n < 18446744073709551616) : (nu n).length ≤ 8 := by
 rcases Nat.lt_or_ge 8 (nu n).length with h1 | h1
 ·exfalso
  have k := cb_low (nu n) (nu_cb n) (by omega); have hv : vb 0 (nu n) = n := nu_vb n (Nat.lt_trans h (by decide)); rw [hv] at k; have k2 : 256 ^ 8 ≤ 256 ^ ((nu n).length - 1) := Nat.pow_le_pow_right (by decide) (by omega); have k3 : (256 : Nat) ^ 8 = 18446744073709551616 := by decide
  omega
 ·exact h1
theorem nu_pos (n : Nat) (h0 : 0 < n) (h : n < 18446744073709551616) : 0 < (nu n).length := by
 rcases Nat.eq_zero_or_pos (nu n).length with h1 | h1
 ·exfalso
  have e : nu n = [] := List.length_eq_zero_iff.1 h1; have hv : vb 0 (nu n) = n := nu_vb n (Nat.lt_trans h (by decide)); rw [e] at hv; have : vb 0 [] = 0 := rfl; omega
 ·exact h1
theorem u8_of (n : Nat) (h : n < 256) : (UInt8.ofNat n).toNat = n := by rw [UInt8.toNat_ofNat']; omega
theorem rsz_hdr (n : Nat) (r : List UInt8) (h : n < 18446744073709551616) (hr : n ≤ r.length) : ∃ s k, s < 64 ∧ (∀ mark, mark + 64 ≤ 256 → hdr mark n ++ r = UInt8.ofNat (mark + s) :: ((hdr mark n).drop 1 ++ r) ∧ rsz s ((hdr mark n).drop 1 ++ r) = some (n, k) ∧ ((hdr mark n).drop 1 ++ r).drop k = r) := by
 by_cases h48 : n < 48
 ·refine ⟨n, 0, by omega, fun mark _ => ?_⟩
  have e : hdr mark n = [UInt8.ofNat (mark + n)] := by unfold hdr; rw [if_pos h48]
  rw [e]; refine ⟨rfl, ?_, rfl⟩; unfold rsz
  rw [if_pos h48]
 ·have l8 := nu_8 n h; have l0 := nu_pos n (by omega) h; have hv : vb 0 (nu n) = n := nu_vb n (Nat.lt_trans h (by decide)); refine ⟨47 + (nu n).length, (nu n).length, by omega, fun mark _ => ?_⟩
  have e : hdr mark n = UInt8.ofNat (mark + 47 + (nu n).length) :: nu n := by unfold hdr; rw [if_neg h48]
  rw [e]; refine ⟨by rw [Nat.add_assoc]; rfl, ?_, ?_⟩
  ·have e1 : 47 + (nu n).length - 47 = (nu n).length := by omega
   simp only [List.drop_succ_cons, List.drop_zero]; unfold rsz
   rw [if_neg (by omega), e1, if_neg (by rw [List.length_append]; omega), List.take_left, if_neg (nu_cb n), hv, if_neg h48, List.drop_left, if_neg (by omega)]
  ·simp only [List.drop_succ_cons, List.drop_zero]; rw [List.drop_left]
theorem ritem_text (t r : List UInt8) (ks : List It) (h : t.length < 18446744073709551616) : ritem (enc (.mk false t ks) ++ r) = some (.mk false t [], r) := by
 unfold enc
 by_cases h1 : t.length = 1 ∧ Sp.bz t 0 < 128
 ·rw [if_pos h1]; match t, h1 with
  | [c], h1 =>
   have hc : c.toNat < 128 := by have := h1.2; simp [Sp.bz] at this; omega
   unfold ritem rit
   simp only [List.cons_append, List.nil_append]; rw [if_pos hc]
 ·rw [if_neg h1, List.append_assoc]; obtain ⟨s, k, hs, H⟩ := rsz_hdr t.length (t ++ r) h (by rw [List.length_append]; omega)
  obtain ⟨e1, e2, e3⟩ := H 128 (by decide); rw [e1]; have hu : (UInt8.ofNat (128 + s)).toNat = 128 + s := u8_of _ (by omega); unfold ritem rit
  dsimp only
  rw [hu, if_neg (by omega), if_pos (by omega), show 128 + s - 128 = s by omega]; unfold rtx
  rw [e2]; dsimp only
  rw [e3, if_neg (by rw [List.length_append]; omega)]
  rw [if_neg (fun h2 => h1 ⟨h2.1, by
   have hz : Sp.bz (t ++ r) 0 = Sp.bz t 0 := by
    simp only [Sp.bz, List.getD_eq_getElem?_getD]; rw [List.getElem?_append_left (by omega)]
   rw [← hz]; exact h2.2⟩)]
  simp
theorem ritem_lists (ks : List It) (a r : List UInt8) (h : (encs ks).length < 18446744073709551616) (hk : rkids (encs ks) = some (bars ks)) : ritem (enc (.mk true a ks) ++ r) = some (.mk true [] (bars ks), r) := by
 unfold enc
 rw [List.append_assoc]; obtain ⟨s, k, hs, H⟩ := rsz_hdr (encs ks).length (encs ks ++ r) h (by rw [List.length_append]; omega)
 obtain ⟨e1, e2, e3⟩ := H 192 (by decide); rw [e1]; have hu : (UInt8.ofNat (192 + s)).toNat = 192 + s := u8_of _ (by omega); unfold ritem rit
 dsimp only
 rw [hu, if_neg (by omega), if_neg (by omega), show 192 + s - 192 = s by omega, e2]; dsimp only
 rw [e3, if_neg (by rw [List.length_append]; omega), List.take_left, List.drop_left, hk]
 rfl
theorem enc_pos (t : It) : 0 < (enc t).length := by
 cases t with
 | mk l t ks =>
  have hh : ∀ m n, 0 < (hdr m n).length := fun m n => by unfold hdr; split <;> simp
  cases l
  ·unfold enc
   split
   ·rename_i h; omega
   ·rw [List.length_append]; have := hh 128 t.length; omega
  ·unfold enc
   rw [List.length_append]; have := hh 192 (encs ks).length; omega
mutual
theorem ritem_enc : ∀ (t : It) (r : List UInt8), (enc t).length < 18446744073709551616 → ritem (enc t ++ r) = some (bar t, r)
 | .mk false t ks, r, h => by
  have hl : t.length < 18446744073709551616 := by
   unfold enc at h
   split at h
   ·exact h
   ·rw [List.length_append] at h; omega
  rw [ritem_text t r ks hl]; rfl
 | .mk true a ks, r, h => by
  have hl : (encs ks).length < 18446744073709551616 := by
   unfold enc at h
   rw [List.length_append] at h; omega
  rw [ritem_lists ks a r hl (rkids_encs ks hl)]; rfl
theorem rkids_encs : ∀ ks : List It, (encs ks).length < 18446744073709551616 → rkids (encs ks) = some (bars ks)
 | [], _ => rkids_nil
 | k :: ks, h => by
  unfold encs at h ⊢
  rw [List.length_append] at h; have h0 := enc_pos k; rw [rkids_some (by rw [List.length_append]; omega) (ritem_enc k (encs ks) (by omega)), rkids_encs ks (by omega)]
  rfl
end
end Pk
end Go.Proofs.Ytlbdaccmnpcccaa
namespace Go.Proofs.Ytlbdaccmnpcccaa
namespace Pk
open Go.RowKit
theorem rsz_back {s n k : Nat} {q : List UInt8} (hs : s < 64) (h : rsz s q = some (n, k)) : ∀ mark, hdr mark n = UInt8.ofNat (mark + s) :: q.take k := by
 intro mark; unfold rsz at h
 split at h
 ·rename_i h48
  simp only [Option.some.injEq, Prod.mk.injEq] at h; obtain ⟨rfl, rfl⟩ := h; unfold hdr
  rw [if_pos h48]; rfl
 ·rename_i h48
  split at h
  ·cases h
  ·rename_i h1
   split at h
   ·cases h
   ·rename_i h2
    split at h
    ·cases h
    ·rename_i h3
     split at h
     ·cases h
     ·simp only [Option.some.injEq, Prod.mk.injEq] at h; obtain ⟨rfl, rfl⟩ := h; have lt : (q.take (s - 47)).length = s - 47 := by rw [List.length_take]; omega
      have e : nu (vb 0 (q.take (s - 47))) = q.take (s - 47) := nu_back _ h2 (by omega); unfold hdr
      rw [if_neg h3, e, lt, show mark + 47 + (s - 47) = mark + s by omega]
theorem head_u8 (c : UInt8) (m s : Nat) (h : c.toNat = m + s) : UInt8.ofNat (m + s) = c := by
 rw [← h]; exact UInt8.ofNat_toNat
mutual
theorem enc_back : ∀ (N : Nat) (b r : List UInt8) (t : It), b.length ≤ N → ritem b = some (t, r) → b = enc t ++ r
 | 0, [], _, _, _, h => by cases h
 | 0, _ :: _, _, _, hb, _ => by simp at hb
 | N + 1, [], _, _, _, h => by cases h
 | N + 1, c :: q, r, t, hb, h => by
  have h8 := UInt8.toNat_lt c; rw [List.length_cons] at hb; unfold ritem rit at h
  dsimp only at h; split at h
  ·rename_i h1
   simp only [Option.some.injEq, Prod.mk.injEq] at h; obtain ⟨rfl, rfl⟩ := h; unfold enc
   rw [if_pos ⟨rfl, by show ((c.toNat : Nat) : Int) < 128; omega⟩]
   rfl
  ·rename_i h1
   split at h
   ·rename_i h2
    cases hr : rtx (c.toNat - 128) q with
    | none => rw [hr] at h; simp at h
    | some p =>
     rw [hr] at h; simp only [Option.map_some, Option.some.injEq, Prod.mk.injEq] at h; unfold rtx at hr
     split at hr
     ·cases hr
     ·rename_i n k hz
      split at hr
      ·cases hr
      ·rename_i h3
       split at hr
       ·cases hr
       ·rename_i h4
        simp only [Option.some.injEq] at hr; subst hr; obtain ⟨rfl, rfl⟩ := h; have lt : ((q.drop k).take n).length = n := by rw [List.length_take]; omega
        unfold enc
        rw [if_neg (fun h5 => h4 ⟨by rw [lt] at h5; exact h5.1, by
         have h6 := h5.2; rw [lt] at h5; rwa [bz_take _ n 0 (by omega)] at h6⟩), lt, rsz_back (by omega) hz 128, head_u8 c 128 (c.toNat - 128) (by omega)]
        simp only [List.cons_append, List.append_assoc]; rw [List.take_append_drop, List.take_append_drop]
   ·rename_i h2
    split at h
    ·cases h
    ·rename_i n k hz
     split at h
     ·cases h
     ·rename_i h3
      cases hk : rkids ((q.drop k).take n) with
      | none => rw [hk] at h; simp at h
      | some ks =>
       rw [hk] at h; simp only [Option.map_some, Option.some.injEq, Prod.mk.injEq] at h; obtain ⟨rfl, rfl⟩ := h; have lt : ((q.drop k).take n).length = n := by rw [List.length_take]; omega
       have ek := encs_back N ((q.drop k).take n) ks (by rw [lt, ]; rw [List.length_drop] at h3; omega) hk
       unfold enc
       rw [← ek, lt, rsz_back (by omega) hz 192, head_u8 c 192 (c.toNat - 192) (by omega)]; simp only [List.cons_append, List.append_assoc]; rw [List.take_append_drop, List.take_append_drop]
theorem encs_back : ∀ (N : Nat) (b : List UInt8) (ks : List It), b.length ≤ N → rkids b = some ks → b = encs ks
 | _, [], ks, _, h => by
  rw [rkids_nil] at h; cases h
  rfl
 | 0, _ :: _, _, hb, _ => by simp at hb
 | N + 1, c :: q, ks, hb, h => by
  have hb' := hb; rw [List.length_cons] at hb'; cases hi : ritem (c :: q) with
  | none =>
   rw [rkids_none (by simp) hi] at h; cases h
  | some p =>
   obtain ⟨t, r⟩ := p; have hs := ritem_shorter hi; rw [List.length_cons] at hs; rw [rkids_some (by simp) hi] at h; cases hk : rkids r with
   | none => rw [hk] at h; cases h
   | some l =>
    rw [hk] at h; cases h
    have e1 := enc_back (N + 1) (c :: q) r t hb hi; have e2 := encs_back N r l (by omega) hk; unfold encs
    rw [← e2]; exact e1
end
end Pk
end Go.Proofs.Ytlbdaccmnpcccaa
namespace Go.Proofs.Ytlbdaccmnpcccaa
namespace Rs
open Nb Sp Pk Go.RowKit
theorem un_or' (b : List UInt8) : (∃ p leaf, un (hv b) = (p, leaf, 0) ∧ jl (tg p leaf) = b ∧ pb p = true) ∨ un (hv b) = ([], false, 1) := by
 by_cases h : ∀ f, 1 ≤ f → f < 3 → ∀ leaf, tg ((hv b).drop f) leaf ≠ hv b
 ·right; exact un_no b h
 ·left
  have : ∃ f leaf, 1 ≤ f ∧ f < 3 ∧ tg ((hv b).drop f) leaf = hv b := by
   apply Classical.byContradiction
   intro hn; exact h fun f h1 h2 leaf e => hn ⟨f, leaf, h1, h2, e⟩
  obtain ⟨f, leaf, h1, h2, e⟩ := this; refine ⟨_, _, un_yes b f leaf h1 (by omega) e, ((tagged2 _ b leaf).2 e).2, ?_⟩; rw [pb_iff]; exact (tg_jf _ leaf).1 (by rw [e]; exact jf_hv b)
def txt : It → List UInt8 | .mk _ b _ => b
def isL : It → Bool | .mk l _ _ => l
def kds : It → List It | .mk _ _ ks => ks
abbrev zS : Shp := (0, [], [], [])
def shp (t : It) : Option Shp :=
 if isL t = false then (if txt t = [] then some zS else none)
 else if (kds t).all (fun k => !isL k) then
  (if (kds t).length = 2 then
   (if (un (hv (txt ((kds t).getD 0 It.no)))).2.2 = 0 then some (if (un (hv (txt ((kds t).getD 0 It.no)))).2.1 then (1, (un (hv (txt ((kds t).getD 0 It.no)))).1, txt ((kds t).getD 1 It.no), []) else (2, (un (hv (txt ((kds t).getD 0 It.no)))).1, [], [txt ((kds t).getD 1 It.no)])) else none)
   else if (kds t).length = 17 then some (3, [], txt ((kds t).getD 16 It.no), ((kds t).map txt).take 16) else none)
 else none
def rdS (b : List UInt8) : Shp × Int := if (dc b).2 = 0 then (match shp (dc b).1 with | some s => if isS s then (s, 0) else (zS, 1) | none => (zS, 1)) else (zS, 1)
def tries (t : It) : List Shp :=
 if (kds t).length = 2 then [zS, if (un (hv (txt ((kds t).getD 0 It.no)))).2.1 then (1, (un (hv (txt ((kds t).getD 0 It.no)))).1, txt ((kds t).getD 1 It.no), []) else (2, (un (hv (txt ((kds t).getD 0 It.no)))).1, [], [txt ((kds t).getD 1 It.no)])]
 else if (kds t).length = 17 then [zS, (3, [], txt ((kds t).getD 16 It.no), ((kds t).map txt).take 16)] else [zS]
def fits (b : List UInt8) (s : Shp) : Bool := isS s && decide (enc (itS s) = b)
def hrd (b : List UInt8) : Shp × Int := if (dc b).2 = 0 then (match (tries (dc b).1).find? (fits b) with | some s => (s, 0) | none => (zS, 1)) else (zS, 1)
theorem bars_map : ∀ l : List (List UInt8), bars (l.map fun b => .mk false b []) = l.map fun b => .mk false b []
 | [] => by simp [bars]
 | b :: r => by rw [List.map_cons, bars, bars_map r, bar]
theorem bar_itS (s : Shp) : bar (itS s) = itS s := by
 unfold itS
 split
 ·simp [bar, bars]
 ·split
  ·simp [bar, bars]
  ·split
   ·rw [bar, bars_map]
   ·simp [bar]
theorem dc_yes {b : List UInt8} (h : (dc b).2 = 0) (hb : b.length < 18446744073709551616) : b = enc (dc b).1 ∧ bar (dc b).1 = (dc b).1 := by
 unfold dc at h ⊢
 cases hr : ritem b with
 | none => rw [hr] at h; simp at h
 | some p =>
  obtain ⟨t, r⟩ := p; rw [hr] at h; dsimp only at h ⊢; by_cases h0 : r.length = 0
  ·rw [if_pos h0] at h ⊢; have e0 : r = [] := List.length_eq_zero_iff.1 h0; subst e0; have e := enc_back b.length b [] t (Nat.le_refl _) hr; rw [List.append_nil] at e; refine ⟨e, ?_⟩; have k := ritem_enc t [] (by rw [← e]; exact hb)
   rw [List.append_nil, ← e, hr] at k; injection k with k
   injection k with k _
   exact k.symm
  ·rw [if_neg h0] at h; simp at h
theorem fits_iff {b : List UInt8} (h : (dc b).2 = 0) (hb : b.length < 18446744073709551616) (s : Shp) : fits b s = true ↔ isS s = true ∧ itS s = (dc b).1 := by
 obtain ⟨e, eb⟩ := dc_yes h hb; unfold fits
 rw [Bool.and_eq_true, decide_eq_true_iff]; constructor
 ·intro ⟨h1, h2⟩; refine ⟨h1, ?_⟩; have k1 := ritem_enc (itS s) [] (by rw [h2]; exact hb)
  have k2 := ritem_enc (dc b).1 [] (by rw [← e]; exact hb)
  rw [h2, e, k2, eb, bar_itS] at k1; injection k1 with k1
  injection k1 with k1 _
  exact k1.symm
 ·intro ⟨h1, h2⟩; exact ⟨h1, by rw [h2, ← e]⟩
theorem bars_eq : ∀ ks : List It, bars ks = ks.map bar
 | [] => by simp [bars]
 | k :: r => by rw [bars, bars_eq r, List.map_cons]
theorem text_bar (k : It) (h : bar k = k) (hl : isL k = false) : k = .mk false (txt k) [] := by
 obtain ⟨l, b, ks⟩ := k; cases l with
 | true => simp [isL] at hl
 | false => rw [bar] at h; rw [← h]; rfl
theorem bar_kids {t : It} (h : bar t = t) : ∀ k ∈ kds t, bar k = k := by
 obtain ⟨l, b, ks⟩ := t; cases l with
 | false =>
  rw [bar] at h; injection h with _ _ h
  subst h; intro k hk; cases hk
 | true =>
  rw [bar] at h; injection h with _ _ h
  rw [bars_eq] at h; intro k hk; obtain ⟨i, hi, rfl⟩ := List.getElem_of_mem hk; have hi2 : i < ks.length := hi; have e := congrArg (fun l => l[i]?) h
  simp only [List.getElem?_map, List.getElem?_eq_getElem hi2, Option.map_some, Option.some.injEq] at e; exact e
theorem list_bar {t : It} (h : bar t = t) (hl : isL t = true) : t = .mk true [] (kds t) := by
 obtain ⟨l, b, ks⟩ := t; cases l with
 | false => simp [isL] at hl
 | true =>
  rw [bar] at h; injection h with _ h _
  subst h; rfl
theorem kids_texts {t : It} (h : bar t = t) (hk : (kds t).all (fun k => !isL k) = true) : kds t = (kds t).map fun k => .mk false (txt k) [] := by
 have hb := bar_kids h; rw [List.all_eq_true] at hk; conv => lhs; rw [← List.map_id (kds t)]
 apply List.map_congr_left
 intro k hm; have := hk k hm; exact text_bar k (hb k hm) (by simpa using this)
theorem hrd_eq (b : List UInt8) (hb : b.length < 18446744073709551616) : hrd b = rdS b := by
 unfold hrd rdS
 by_cases h : (dc b).2 = 0
 ·rw [if_pos h, if_pos h]; obtain ⟨e, eb⟩ := dc_yes h hb; have hf := fits_iff h hb; generalize (dc b).1 = t at *; clear e h; have hz : fits b zS = true ↔ t = .mk false [] [] := by
   rw [hf]; have e1 : isS zS = true := rfl; have e2 : itS zS = .mk false [] [] := rfl; rw [e1, e2]; exact ⟨fun h => h.2.symm, fun h => ⟨rfl, h.symm⟩⟩
  cases hl : isL t with
  | false =>
   have et : t = .mk false (txt t) [] := text_bar t eb hl; have ek : kds t = [] := by rw [et]; rfl
   have e1 : tries t = [zS] := by unfold tries; rw [ek]; rfl
   have e2 : shp t = if txt t = [] then some zS else none := by unfold shp; rw [if_pos hl]
   rw [e1, e2]; by_cases h0 : txt t = []
   ·rw [if_pos h0]; have : fits b zS = true := hz.2 (by rw [et, h0]); rw [List.find?_cons_of_pos this]; rfl
   ·rw [if_neg h0]; have : ¬ fits b zS = true := fun hh => h0 (by rw [hz.1 hh]; rfl)
    rw [List.find?_cons_of_neg this]; rfl
  | true =>
   have hz2 : ¬ fits b zS = true := fun hh => by rw [hz.1 hh] at hl; simp [isL] at hl
   have et := list_bar eb hl; unfold shp
   rw [if_neg (by rw [hl]; decide)]
   cases hk : (kds t).all (fun k => !isL k) with
   | false =>
    rw [if_neg (by decide)]; have hn : (tries t).find? (fits b) = none := by
     rw [List.find?_eq_none]; intro s _ hs; have h1 := (hf s).1 hs; have h2 : (kds t).all (fun k => !isL k) = true := by
      rw [← h1.2]; unfold itS
      split
      ·rfl
      ·split
       ·rfl
       ·split
        ·simp [kds, isL]
        ·rfl
     rw [hk] at h2; cases h2
    rw [hn]
   | true =>
    rw [if_pos rfl]; have kt := kids_texts eb hk; unfold tries
    by_cases k2 : (kds t).length = 2
    ·rw [if_pos k2, if_pos k2]; have kt2 : kds t = [.mk false (txt ((kds t).getD 0 It.no)) [], .mk false (txt ((kds t).getD 1 It.no)) []] := by
      match hm : kds t, k2 with
      | [x, y], _ =>
       rw [hm] at kt; exact kt
     rw [List.find?_cons_of_neg hz2]; generalize hA : txt ((kds t).getD 0 It.no) = A at *; generalize hB : txt ((kds t).getD 1 It.no) = B at *; rcases un_or' A with ⟨p, leaf, e1, e2, e3⟩ | e1
     ·rw [e1]; dsimp only
      rw [if_pos rfl]; cases leaf with
      | true =>
       rw [if_pos rfl]; have ei : itS (1, p, B, []) = t := by
        rw [et, kt2, ← e2]; rfl
       dsimp only
       by_cases hs : isS (1, p, B, []) = true
       ·rw [if_pos hs, List.find?_cons_of_pos ((hf _).2 ⟨hs, ei⟩)]
       ·rw [if_neg hs, List.find?_cons_of_neg (fun hh => hs ((hf _).1 hh).1)]
        rfl
      | false =>
       rw [if_neg (by decide)]; have ei : itS (2, p, [], [B]) = t := by
        rw [et, kt2, ← e2]; rfl
       dsimp only
       by_cases hs : isS (2, p, [], [B]) = true
       ·rw [if_pos hs, List.find?_cons_of_pos ((hf _).2 ⟨hs, ei⟩)]
       ·rw [if_neg hs, List.find?_cons_of_neg (fun hh => hs ((hf _).1 hh).1)]
        rfl
     ·rw [e1]; dsimp only
      rw [if_neg (by decide), if_neg (by decide)]; have hs : ¬ isS (2, [], [], [B]) = true := by simp [isS]
      rw [List.find?_cons_of_neg (fun hh => hs ((hf _).1 hh).1)]
      rfl
    ·rw [if_neg k2, if_neg k2]; by_cases k3 : (kds t).length = 17
     ·rw [if_pos k3, if_pos k3, List.find?_cons_of_neg hz2]; have ei : itS (3, [], txt ((kds t).getD 16 It.no), ((kds t).map txt).take 16) = t := by
       have ew : ((kds t).map txt).take 16 ++ [txt ((kds t).getD 16 It.no)] = (kds t).map txt := by
        have e4 : ((kds t).map txt).length = 17 := by rw [List.length_map, k3]
        conv => rhs; rw [← List.take_append_drop 16 ((kds t).map txt)]
        congr 1
        rw [List.drop_eq_getElem_cons (by omega), List.drop_eq_nil_iff.2 (by omega)]; rw [List.getElem_map, List.getD_eq_getElem?_getD, List.getElem?_eq_getElem (by omega)]; rfl
       show It.mk true [] ((((kds t).map txt).take 16 ++ [txt ((kds t).getD 16 It.no)]).map fun b => .mk false b []) = t
       rw [ew, List.map_map]; conv => rhs; rw [et, kt]
       rfl
      dsimp only
      by_cases hs : isS (3, [], txt ((kds t).getD 16 It.no), ((kds t).map txt).take 16) = true
      ·rw [if_pos hs, List.find?_cons_of_pos ((hf _).2 ⟨hs, ei⟩)]
      ·rw [if_neg hs, List.find?_cons_of_neg (fun hh => hs ((hf _).1 hh).1)]
       rfl
     ·rw [if_neg k3, if_neg k3, List.find?_cons_of_neg hz2]; rfl
 ·rw [if_neg h, if_neg h]
end Rs
end Go.Proofs.Ytlbdaccmnpcccaa
namespace Go.Proofs.Ytlbdaccmnpcccaa
namespace Pf
open Rs Go.RowKit
abbrev Bs := List UInt8
def wk (s : Shp) (left : Bs) : Option (Nat × Bs) :=
 if s.1 = 2 then (if s.2.1.isPrefixOf left then some (0, left.drop s.2.1.length) else none)
 else if s.1 = 3 then (match left with | [] => none | a :: r => some (a.toNat, r))
 else none
def here (s : Shp) (left : Bs) : Bool := (decide (s.1 = 1) && decide (s.2.1 = left)) || (decide (s.1 = 3) && decide (left = []))
def nx (s : Shp) (left : Bs) : Option (Bs × Bs) := match wk s left with
 | some (k, rest) => if (s.2.2.2.getD k []).length = 0 then none else some (s.2.2.2.getD k [], rest)
 | none => none
def va (s : Shp) (left : Bs) : Bs := if here s left then s.2.2.1 else []
def sd : List Bs → Bool → (Nat → Int) → Bs → Bs × Int
 | [], _, _, _ => ([], 5)
 | c :: r, first, F, left =>
  if Sp.same 32 (Sp.sumf c) F = false then ([], 4)
  else if (rdS c).2 ≠ 0 ∨ (first = false ∧ (rdS c).1.1 = 0) then ([], 1)
  else match nx (rdS c).1 left with
   | some (k, rest) => sd r false (Sp.bz k) rest
   | none => if r = [] then (va (rdS c).1 left, 0) else ([], 6)
def Hf (l : Bs) : Prop := ∀ x ∈ l, x.toNat < 16
theorem rdS_isS {c : Bs} (h : (rdS c).2 = 0) : isS (rdS c).1 = true := by
 unfold rdS at h ⊢
 split at h
 ·rename_i h1
  rw [if_pos h1]; split at h
  ·rename_i s hs
   split at h
   ·rename_i h2
    rw [if_pos h2]; exact h2
   ·cases h
  ·cases h
 ·cases h
theorem wk_kid {s : Shp} (hs : isS s = true) {left rest : Bs} (hl : Hf left) {k : Nat} (h : wk s left = some (k, rest)) : k < s.2.2.2.length ∧ ((s.2.2.2.getD k []).length = 0 ∨ (s.2.2.2.getD k []).length = 32) ∧ Hf rest := by
 unfold wk at h
 unfold isS at hs
 split at h
 ·rename_i h2
  rw [if_neg (by omega), if_neg (by omega), if_pos h2] at hs; simp only [Bool.and_eq_true, decide_eq_true_eq] at hs; split at h
  ·injection h with h
   injection h with h3 h4
   subst h3 h4; exact ⟨by omega, .inr hs.2.2.2, fun x hx => hl x (List.mem_of_mem_drop hx)⟩
  ·cases h
 ·rename_i h2
  split at h
  ·rename_i h3
   rw [if_neg (by omega), if_neg (by omega), if_neg (by omega), if_pos h3] at hs; simp only [Bool.and_eq_true, decide_eq_true_eq] at hs; cases left with
   | nil => cases h
   | cons a r =>
    injection h with h
    injection h with h4 h5
    subst h4 h5; have ha := hl a (List.mem_cons_self ..); refine ⟨by omega, ?_, fun x hx => hl x (List.mem_cons_of_mem _ hx)⟩
    have hk : a.toNat < s.2.2.2.length := by omega
    have := List.all_eq_true.1 hs.2.2.1 (s.2.2.2.getD a.toNat []) (by rw [List.getD_eq_getElem?_getD, List.getElem?_eq_getElem hk]; exact List.getElem_mem _)
    unfold Rs.sm at this
    rw [Bool.or_eq_true, beq_iff_eq, beq_iff_eq] at this; exact this
  ·cases h
def pd : List Bs → Bool → (Nat → Int) → Bs → Int ⊕ (Shp × Bs × List Bs)
 | [], _, _, _ => .inl 5
 | c :: r, first, F, left =>
  if Sp.same 32 (Sp.sumf c) F = false then .inl 4
  else if (rdS c).2 ≠ 0 ∨ (first = false ∧ (rdS c).1.1 = 0) then .inl 1
  else match nx (rdS c).1 left with
   | some (k, rest) => pd r false (Sp.bz k) rest
   | none => .inr ((rdS c).1, left, r)
theorem sd_pd : ∀ (cs : List Bs) (first : Bool) (F : Nat → Int) (left : Bs), sd cs first F left = match pd cs first F left with | .inl e => ([], e) | .inr (s, lf, r) => if r = [] then (va s lf, 0) else ([], 6)
 | [], _, _, _ => rfl
 | c :: r, first, F, left => by
  rw [sd, pd]; split
  ·rfl
  ·split
   ·rfl
   ·split
    ·rename_i k rest _
     exact sd_pd r false (Sp.bz k) rest
    ·rfl
end Pf
end Go.Proofs.Ytlbdaccmnpcccaa
namespace Go.Proofs.Ytlbdaccmnpcccaa
namespace Tr
open Nb
abbrev By := List UInt8
abbrev Rt := List (By × By)
inductive Nd where
 | mk (kind : Int) (path value : By) (kids : List Nd)
mutual
def gt : Nd → By → By
 | .mk k p v ks, q =>
  if k = 1 then (if q = p then v else [])
  else if k = 2 then (if p.isPrefixOf q then gtk ks 0 (q.drop p.length) else [])
  else if k = 3 then (if q = [] then v else gtk ks (q.headD 0).toNat q.tail)
  else []
def gtk : List Nd → Nat → By → By
 | [], _, _ => []
 | t :: _, 0, q => gt t q
 | _ :: r, i + 1, q => gtk r i q
end
end Tr
end Go.Proofs.Ytlbdaccmnpcccaa
namespace Go.Proofs.Ytlbdaccmnpcccaa
namespace Tr
open Nb
def less (a b : By) : Prop := Op.bytesLess a b = true
def Srt (l : Rt) : Prop := l.Pairwise fun a b => less a.1 b.1
def Pts (l : Rt) : Prop := ∀ r ∈ l, Pt r.1
def lk : Rt → By → By
 | [], _ => []
 | (p, v) :: r, q => if q = p then v else lk r q
end Tr
end Go.Proofs.Ytlbdaccmnpcccaa
namespace Go.Proofs.Ytlbdaccmnpcccaa
namespace Tr
open Nb
def Sp (l : Rt) (t : Nd) : Prop := Srt l ∧ Pts l ∧ ∀ q, lk l q = gt t q
end Tr
end Go.Proofs.Ytlbdaccmnpcccaa
namespace Go.Proofs.Ytlbdaccmnpcccaa
namespace Tr
open Nb
end Tr
end Go.Proofs.Ytlbdaccmnpcccaa
namespace Go.Proofs.Ytlbdaccmnpcccaa
namespace Tr
open Nb
end Tr
end Go.Proofs.Ytlbdaccmnpcccaa
namespace Go.Proofs.Ytlbdaccmnpcccaa
namespace Tr
open Nb Go.RowKit
def st (l : By) : ByteArray := ⟨l.toArray⟩
theorem st_size (l : By) : (st l).size = l.length := by simp [st, ByteArray.size]
theorem st_list (l : By) : (st l).toList = l := by
 unfold st
 simp [ByteArray.toList_eq]
theorem Sl_st {b : By} {v : Value} {w : World} (h : Pk.Sl b v w) : (convert 24 9 v).run Try.prog w = .ok (.string (st b)) w := Pk.Sl_conv h
def c2 (l : Rt) : List Value := l.flatMap fun r => [.string (st r.1), .string (st r.2)]
end Tr
end Go.Proofs.Ytlbdaccmnpcccaa
namespace Go.Proofs.Ytlbdaccmnpcccaa
namespace Tr
open Nb Go.RowKit
end Tr
end Go.Proofs.Ytlbdaccmnpcccaa
namespace Go.Proofs.Ytlbdaccmnpcccaa
namespace Tr
open Nb Go.RowKit
def Bs (S : Nat → Prop) (b : By) (v : Value) (w : World) : Prop := ∃ (ao : Option Addr) (cap : Nat), v = .slice ao b.length cap ∧ b.length ≤ cap ∧ (0 < b.length → ∃ h off, ao = some ⟨h, off, none⟩ ∧ S h ∧ h < w.heap.size ∧ ∀ j, j < b.length → w.cell? ⟨h, off + j, none⟩ = some (.int .u8 (Sp.bz b j)))
theorem Bs_gb {S : Nat → Prop} {b : By} {v : Value} {w w' : World} {r : Option Nat} (h : Bs S b v w) (hb : w.grownBy w' r) (hr : ∀ k, S k → some k ≠ r) : Bs S b v w' := by
 obtain ⟨ao, cap, h1, h2, h4⟩ := h; refine ⟨ao, cap, h1, h2, fun h0 => ?_⟩
 obtain ⟨k, off, e, hne, hlt, hc⟩ := h4 h0; have hbk : w'.heap[k]? = w.heap[k]? := hb.block k hlt (hr k hne); exact ⟨k, off, e, hne, Nat.lt_of_lt_of_le hlt hb.size, fun j hj => (World.cell?_of_block (a := ⟨k, off + j, none⟩) hbk).trans (hc j hj)⟩
theorem Bs_mono {S S' : Nat → Prop} {b : By} {v : Value} {w : World} (h : Bs S b v w) (hs : ∀ k, S k → k < w.heap.size → S' k) : Bs S' b v w := by
 obtain ⟨ao, cap, h1, h2, h4⟩ := h; refine ⟨ao, cap, h1, h2, fun h0 => ?_⟩
 obtain ⟨k, off, e, hne, hlt, hc⟩ := h4 h0; exact ⟨k, off, e, hs k hne hlt, hlt, hc⟩
theorem Bs_sl {S : Nat → Prop} {b : By} {v : Value} {w : World} (h : Bs S b v w) : Pk.Sl b v w := by
 obtain ⟨ao, cap, h1, h2, h4⟩ := h; refine ⟨ao, cap, h1, h2, fun h0 => ?_⟩
 obtain ⟨k, off, e, hne, hlt, hc⟩ := h4 h0; exact ⟨k, off, e, hlt, hc⟩
theorem gb_below {a b : World} {r : Option Nat} (h : Below a.heap.size a b) : a.grownBy b r := ⟨h.os, h.tape, h.output, h.size, fun k hk _ => h.block k hk⟩
theorem Bs_below {S : Nat → Prop} {b : By} {v : Value} {w w' : World} (h : Bs S b v w) (hb : Below w.heap.size w w') : Bs S b v w' := Bs_gb (r := none) h (gb_below hb) (fun k _ e => by cases e)
end Tr
end Go.Proofs.Ytlbdaccmnpcccaa
namespace Go.Proofs.Ytlbdaccmnpcccaa
namespace Tr
open Nb Go.RowKit
theorem run_under {P : Program} {t : TypeId} {d : TypeDesc} (h : P.underlying t = some d) (w : World) : (underlying t).run P w = .ok d w := by
 unfold underlying
 simp [h]
end Tr
end Go.Proofs.Ytlbdaccmnpcccaa
namespace Go.Proofs.Ytlbdaccmnpcccaa
namespace Tr
open Nb Go.RowKit

end Tr
end Go.Proofs.Ytlbdaccmnpcccaa
namespace Go.Proofs.Ytlbdaccmnpcccaa
namespace Tr
open Nb Go.RowKit
def ns (b : By) : List Int := b.map fun c => (c.toNat : Int)
theorem ns_len (b : By) : (ns b).length = b.length := by simp [ns]
theorem ns_of (b : By) : Lib.bytesOf (ns b) = b := by
 unfold Lib.bytesOf ns
 rw [List.map_map]; conv => rhs; rw [← List.map_id b]
 apply List.map_congr_left
 intro c _; simp
theorem ns_bz (b : By) (j : Nat) (h : j < b.length) : (ns b).getD j 0 = Sp.bz b j := by
 unfold ns Sp.bz
 simp [List.getD_eq_getElem?_getD, h]
theorem Bs_in {S : Nat → Prop} {b : By} {ao : Option Addr} {n cap : Nat} {w : World} (h : Bs S b (.slice ao n cap) w) : n = b.length ∧ b.length ≤ cap ∧ Lib.BytesIn w ao b.length (ns b) := by
 obtain ⟨a, c, h1, h2, h3⟩ := h; injection h1 with e1 e2 e3
 subst e1 e2 e3; refine ⟨rfl, h2, fun h0 => ?_⟩
 obtain ⟨k, off, rfl, _, _, hc⟩ := h3 h0; exact ⟨k, off, rfl, fun i hi => by rw [hc i hi, ns_bz b i hi]⟩
theorem Bs_form {S : Nat → Prop} {b : By} {v : Value} {w : World} (h : Bs S b v w) : ∃ ao cap, v = .slice ao b.length cap ∧ b.length ≤ cap := by
 obtain ⟨a, c, h1, h2, _⟩ := h; exact ⟨a, c, h1, h2⟩
theorem equal_bs {S T : Nat → Prop} {p q : By} {u v : Value} {w : World} (hp : Bs S p u w) (hq : Bs T q v w) : Calls Try.prog 14 #[u, v] w fun e w' => e = .returned (.bool (p == q)) ∧ w' = w := by
 obtain ⟨a1, c1, rfl, _⟩ := Bs_form hp; obtain ⟨a2, c2, rfl, _⟩ := Bs_form hq; have k := Try.bytes_Equal_all a1 a2 p.length c1 q.length c2 (ns p) (ns q) w (ns_len p) (ns_len q) (Bs_in hp).2.2 (Bs_in hq).2.2; rwa [ns_of, ns_of] at k
def sfrom (ao : Option Addr) (n cap c : Nat) : Value := .slice (if cap = c then ao else ao.map (·.add c)) (n - c) (cap - c)
theorem Bs_from {S : Nat → Prop} {p : By} {ao : Option Addr} {n cap c : Nat} {w : World} (h : Bs S p (.slice ao n cap) w) (hc : c ≤ n) : Bs S (p.drop c) (sfrom ao n cap c) w := by
 obtain ⟨a, d, h1, h2, h3⟩ := h; injection h1 with e1 e2 e3
 subst e1 e2 e3; refine ⟨_, _, by unfold sfrom; rw [List.length_drop], by rw [List.length_drop]; omega, fun h0 => ?_⟩
 rw [List.length_drop] at h0; obtain ⟨k, off, rfl, hs, hlt, hcell⟩ := h3 (by omega); rw [if_neg (by omega)]; refine ⟨k, off + c, by simp [Go.WideShapes.add_plain], hs, hlt, fun j hj => ?_⟩
 rw [List.length_drop] at hj; have := hcell (c + j) (by omega); rw [← Nat.add_assoc] at this; rw [this]; unfold Sp.bz
 rw [List.getD_eq_getElem?_getD, List.getD_eq_getElem?_getD, List.getElem?_drop]
theorem run_from (ao : Option Addr) (n cap c : Nat) (hc : c ≤ n) (w : World) : (Instr.sliceAt 24 (.slice ao n cap) (some (.int .i64 (c : Int))) none none).run Try.prog w = .ok (sfrom ao n cap c) w := by
 have h1 : (0 : Int) ≤ (c : Int) ∧ (c : Int) ≤ (n : Int) := by omega
 unfold Instr.sliceAt Instr.slice
 simp only [Sem.run_bind, run_under Try.underlying24, Result.andThen_ok]; unfold Instr.sliceBounds Instr.sliceBound
 simp only [Sem.run_bind, Sem.run_pure, Result.andThen_ok, asIntOf, if_pos h1, Try.sizeOf5]; unfold sfrom
 simp
theorem sf_eq (b o n c k : Nat) : Lib.sliceFrom b o n c k = sfrom (some ⟨b, o, none⟩) n c k := by
 unfold Lib.sliceFrom sfrom
 simp [Go.WideShapes.add_plain]
theorem cut_bs {S T : Nat → Prop} {p q : By} {u v : Value} {w : World} (hp : Bs S p u w) (hq : Bs T q v w) : Calls Try.prog 20 #[u, v] w fun e w' => ∃ x, e = .returned (.tuple #[x, .bool (q.isPrefixOf p)]) ∧ (q.isPrefixOf p = true → Bs S (p.drop q.length) x w) ∧ w' = w := by
 have hp' := hp; obtain ⟨a1, c1, rfl, hc1⟩ := Bs_form hp; obtain ⟨a2, c2, rfl, _⟩ := Bs_form hq; have k := Try.bytes_CutPrefix_all a1 a2 p.length c1 q.length c2 (ns p) (ns q) w (ns_len p) (ns_len q) hc1 (Bs_in hp).2.2 (Bs_in hq).2.2; rw [ns_of, ns_of] at k; refine k.mono fun e w' he => ⟨_, he.1, fun hpre => ?_, he.2⟩
 have hpre' : q.isPrefixOf p = true := hpre; cases hqq : q with
 | nil =>
  subst hqq; have e1 : Lib.trimPrefixV a1 p.length c1 (ns p) (ns []) = .slice a1 p.length c1 := by
   unfold Lib.trimPrefixV
   rcases a1 with _ | ⟨b, o, _ | s⟩ <;> rfl
  rw [e1]; exact hp'
 | cons c r =>
  rw [← hqq]; have hl : 0 < p.length := by
   have := (List.isPrefixOf_iff_prefix.1 hpre').length_le; rw [hqq, List.length_cons] at this; omega
  obtain ⟨ax, cx, ex, _, h3⟩ := hp; injection ex with e1 e2 e3
  subst e1; obtain ⟨kk, off, rfl, _⟩ := h3 hl; have e1 : Lib.trimPrefixV (some ⟨kk, off, none⟩) p.length c1 (ns p) (ns q) = Lib.sliceFrom kk off p.length c1 q.length := by
   rw [hqq]; show Lib.bytesTrimPrefix kk off p.length c1 (ns p) (ns (c :: r)) = _
   unfold Lib.bytesTrimPrefix
   rw [ns_of, ns_of, ← hqq, if_pos (show Lib.hasPrefix p q = true from hpre'), ns_len]
  rw [e1, sf_eq]; exact Bs_from hp' (List.isPrefixOf_iff_prefix.1 hpre').length_le
end Tr
end Go.Proofs.Ytlbdaccmnpcccaa
namespace Go.Proofs.Ytlbdaccmnpcccaa
namespace Pf
open Rs Go.RowKit
theorem up_sl {P : Program} {o : Oper} {a : Act} {K : Value → World → Prop} {t : TypeId} {x : Operand} {lo hi : Option Operand} {v v' : Value} {l h : Option Value} {w w' : World} (ho : o.op = .slice t x lo hi none) (hx : a.eval x = v) (hl : lo.map a.eval = l) (hh : hi.map a.eval = h)
  (hr : (Instr.sliceAt t v l h none).run P w = .ok v' w') (k : K v' w') : RS.upv P K ((execOp a.eval o).run P w) := by
 unfold execOp
 simp only [ho, Sem.run_bind, Sem.run_pure, Result.andThen_ok, hx, hl, hh, Option.map_none, hr]; exact k
theorem sl_bs {b : Bs} {v : Value} {w : World} (h : Pk.Sl b v w) : Tr.Bs (fun _ => True) b v w := by
 obtain ⟨ao, cap, e, hc, hv⟩ := h; refine ⟨ao, cap, e, hc, fun h0 => ?_⟩
 obtain ⟨g, off, e2, hg, hc2⟩ := hv h0; exact ⟨g, off, e2, trivial, hg, hc2⟩
def OW (S : Nat → Prop) (s : Shp) (left : Bs) (w : World) (e : Ending) (w' : World) : Prop := ∃ (j : Nat) (rv : Value), e = .returned (.tuple #[.int .i64 (j : Int), rv, .bool (wk s left).isSome]) ∧ (∀ kr, wk s left = some kr → j = kr.1 ∧ Tr.Bs S kr.2 rv w') ∧ Below w.heap.size w w'
set_option maxHeartbeats 1000000 in
set_option maxRecDepth 100000 in
theorem on_other (S : Nat → Prop) (k : Int) (h2 : k ≠ 2) (h3 : k ≠ 3) (p : Bs) (z : Bs × List Bs) (left : Bs) (a1 a2 : Option Addr) (n1 c1 n2 c2 : Nat) (w : World) : Calls Try.prog 13 #[.int .i64 k, .slice a1 n1 c1, .slice a2 n2 c2] w (OW S (k, p, z) left w) := by
 have e2 : (k == 2) = false := beq_eq_false_iff_ne.2 h2; have e3 : (k == 3) = false := beq_eq_false_iff_ne.2 h3; have ew : wk (k, p, z) left = none := by unfold wk; rw [if_neg h2, if_neg h3]
 have HR : Hid (OW S (k, p, z) left w (.returned (.tuple #[.int .i64 ((0 : Nat) : Int), .slice none 0 0, .bool false])) w) := ⟨0, _, by rw [ew]; rfl, (fun kr h => by rw [ew] at h; cases h), Below.refl _ _⟩
 clear ew h2 h3; go_enter Try.func13, Try.ntmps13
 go_wp2_with fail
 go_ret3
 exact HR.out
set_option maxHeartbeats 1000000 in
set_option maxRecDepth 100000 in
theorem on_road (S : Nat → Prop) (p : Bs) (z : Bs × List Bs) (left : Bs) (a1 a2 : Option Addr) (n1 c1 n2 c2 : Nat) (w : World) (hp : Pk.Sl p (.slice a1 n1 c1) w) (hl : Tr.Bs S left (.slice a2 n2 c2) w) : Calls Try.prog 13 #[.int .i64 2, .slice a1 n1 c1, .slice a2 n2 c2] w (OW S (2, p, z) left w) := by
 have KC : Hid (Calls Try.prog 20 #[.slice a2 n2 c2, .slice a1 n1 c1] w fun e w' => ∃ x, e = .returned (.tuple #[x, .bool (p.isPrefixOf left)]) ∧ (p.isPrefixOf left = true → Tr.Bs S (left.drop p.length) x w) ∧ w' = w) := Tr.cut_bs hl (sl_bs hp)
 have ew : Hid ((wk (2, p, z) left).isSome = p.isPrefixOf left ∧ ∀ kr, wk (2, p, z) left = some kr → p.isPrefixOf left = true ∧ kr = (0, left.drop p.length)) := by
  unfold wk
  rw [if_pos rfl]; constructor
  ·show (if p.isPrefixOf left then some ((0 : Nat), left.drop p.length) else none).isSome = _
   cases p.isPrefixOf left <;> rfl
  ·intro kr h; split at h
   ·rename_i h1
    injection h with h
    exact ⟨h1, h.symm⟩
   ·cases h
 clear hp hl; go_enter Try.func13, Try.ntmps13
 go_wp2_with fail
 refine KC.out.mono ?_; rintro e w1 ⟨x, rfl, hx, rfl⟩; have HR : Hid (OW S (2, p, z) left w1 (.returned (.tuple #[.int .i64 ((0 : Nat) : Int), x, .bool (p.isPrefixOf left)])) w1) := ⟨0, x, by rw [ew.out.1], fun kr h => by
  obtain ⟨h1, rfl⟩ := ew.out.2 kr h; exact ⟨rfl, hx h1⟩, Below.refl _ _⟩
 clear KC hx ew; generalize p.isPrefixOf left = b at *; go_wp2_with fail
 go_ret3
 exact HR.out
set_option maxHeartbeats 1000000 in
set_option maxRecDepth 100000 in
theorem on_nil (S : Nat → Prop) (p : Bs) (z : Bs × List Bs) (a1 a2 : Option Addr) (n1 c1 c2 : Nat) (w : World) : Calls Try.prog 13 #[.int .i64 3, .slice a1 n1 c1, .slice a2 0 c2] w (OW S (3, p, z) [] w) := by
 have ew : wk (3, p, z) [] = none := by unfold wk; rw [if_neg (show ¬ ((3 : Int) = 2) by decide), if_pos (show (3 : Int) = 3 from rfl)]
 have HR : Hid (OW S (3, p, z) [] w (.returned (.tuple #[.int .i64 ((0 : Nat) : Int), .slice none 0 0, .bool false])) w) := ⟨0, _, by rw [ew]; rfl, (fun kr h => by rw [ew] at h; cases h), Below.refl _ _⟩
 clear ew; go_enter Try.func13, Try.ntmps13
 go_wp2_with fail
 go_ret3
 exact HR.out
set_option maxHeartbeats 1000000 in
set_option maxRecDepth 100000 in
theorem on_cons (S : Nat → Prop) (p : Bs) (z : Bs × List Bs) (a : UInt8) (r : Bs) (a1 a2 : Option Addr) (n1 c1 n2 c2 : Nat) (w : World) (hl : Tr.Bs S (a :: r) (.slice a2 n2 c2) w) : Calls Try.prog 13 #[.int .i64 3, .slice a1 n1 c1, .slice a2 n2 c2] w (OW S (3, p, z) (a :: r) w) := by
 have ew : wk (3, p, z) (a :: r) = some (a.toNat, r) := by unfold wk; rw [if_neg (show ¬ ((3 : Int) = 2) by decide), if_pos (show (3 : Int) = 3 from rfl)]
 have hb := hl; obtain ⟨ao, cap, e1, hcap, hv⟩ := hl; injection e1 with e2 e3 e4
 subst e2 e4; obtain ⟨g, off, e5, _, hg, hc⟩ := hv (by simp); subst e5; have H1 : Hid (1 ≤ n2) := by show _ ≤ _; rw [e3]; simp
 have d1 : (0 : Int) < (n2 : Int) := by have := H1.out; omega
 have c0 : w.cell? ⟨g, off, none⟩ = some (.int .u8 (a.toNat : Int)) := by
  have := hc 0 (by simp); rw [Nat.add_zero] at this; rw [this]; simp [Sp.bz]
 have Y : Hid (IntKind.i64.wrap (a.toNat : Int) = (a.toNat : Int)) := by show _ = _; rw [IntKind.wrap_i64]; have := a.toNat_lt; omega
 have hf : Tr.Bs S r (Tr.sfrom (some ⟨g, off, none⟩) n2 c2 1) w := Tr.Bs_from hb H1.out; have HR : Hid (∀ wx, Below w.heap.size w wx → OW S (3, p, z) (a :: r) w (.returned (.tuple #[.int .i64 (a.toNat : Int), Tr.sfrom (some ⟨g, off, none⟩) n2 c2 1, .bool true])) wx) := fun wx hb => ⟨a.toNat, _, by rw [ew]; rfl, fun kr h => by
  rw [ew] at h; injection h with h
  subst h; exact ⟨rfl, Tr.Bs_below hf hb⟩, hb⟩
 clear ew hb hcap hv hc hf e3; generalize (a.toNat : Int) = av at *; go_enter Try.func13, Try.ntmps13
 go_upto_region 7 with fail
 refine RS.wp_region_one (fun wx => Below w.heap.size w wx) (by kernel_rfl) (by kernel_rfl) ((Below.refl _ _).drew) ?_
 dsimp only [List.toList_toArray]
 iterate 2
  refine RS.go1 (v := ?_) (a' := ?_) rfl ?_ ?_ ?_; rotate_left 2
  ·intro K wx hS hK; go_simp; exact hK _ hS
  ·simp only [Act.put, zA, zB, zC]; rfl
 refine RS.go1 (v := ?_) (a' := ?_) rfl ?_ ?_ ?_; rotate_left 2
 ·intro K wx hS hK; have z0 := (hS.cell (p := ⟨g, off, none⟩) hg).trans c0; go_simp; exact hK _ hS
 ·simp only [Act.put, zA, zB, zC]; rfl
 refine RS.go1 (v := ?_) (a' := ?_) rfl ?_ ?_ ?_; rotate_left 2
 ·intro K wx hS hK; have yy := Y.out; go_simp; exact hK _ hS
 ·simp only [Act.put, zA, zB, zC]; rfl
 refine RS.go1 (v := ?_) (a' := ?_) rfl ?_ ?_ ?_; rotate_left 2
 ·intro K wx hS hK; go_simp; exact hK _ hS
 ·simp only [Act.put, zA, zB, zC]; rfl
 refine RS.go1 (v := ?_) (a' := ?_) rfl ?_ ?_ ?_; rotate_left 2
 ·intro K wx hS hK; refine up_sl rfl rfl rfl rfl (Tr.run_from (some ⟨g, off, none⟩) n2 c2 1 H1.out wx) ?_; exact hK _ hS
 ·simp only [Act.put, zA, zB, zC]; rfl
 iterate 3
  refine RS.go1 (v := ?_) (a' := ?_) rfl ?_ ?_ ?_; rotate_left 2
  ·intro K wx hS hK; go_simp; exact hK _ hS
  ·simp only [Act.put, zA, zB, zC]; rfl
 refine RS.go_end ?_; intro w9 m9; have HR2 : Hid _ := HR.out w9 m9; clear m9 HR; generalize Tr.sfrom (some ⟨g, off, none⟩) n2 c2 1 = sv at *; go_wp2_with fail
 go_ret3
 exact HR2.out
theorem onward_any (S : Nat → Prop) (s : Shp) (left : Bs) (a1 a2 : Option Addr) (n1 c1 n2 c2 : Nat) (w : World) (hp : Pk.Sl s.2.1 (.slice a1 n1 c1) w) (hl : Tr.Bs S left (.slice a2 n2 c2) w) : Calls Try.prog 13 #[.int .i64 s.1, .slice a1 n1 c1, .slice a2 n2 c2] w (OW S s left w) := by
 obtain ⟨k, p, z⟩ := s; by_cases h2 : k = 2
 ·subst h2; exact on_road S p z left a1 a2 n1 c1 n2 c2 w hp hl
 by_cases h3 : k = 3
 ·subst h3; cases left with
  | nil =>
   obtain ⟨ao, cap, e1, _, _⟩ := hl; injection e1 with _ e3 _
   subst e3; exact on_nil S p z a1 a2 n1 c1 c2 w
  | cons a r => exact on_cons S p z a r a1 a2 n1 c1 n2 c2 w hl
 ·exact on_other S k h2 h3 p z left a1 a2 n1 c1 n2 c2 w
end Pf
end Go.Proofs.Ytlbdaccmnpcccaa
namespace Go.Proofs.Ytlbdaccmnpcccaa
namespace Sp
open Go.ChangeShapes Go.WideShapes Go.ChangeAt Go.RowKit Go.Joins
theorem ownK : ownKnob Try.prog.godebug = none := by kernel_rfl
theorem laidOutK : laidOutB Try.prog = true := by kernel_rfl
theorem cellsU8 : Try.prog.cellsOf 5 = 1 := by kernel_rfl
def ub (zs : List Int) : List UInt8 := zs.map fun z => UInt8.ofNat z.toNat
theorem ub_length (zs : List Int) : (ub zs).length = zs.length := by simp [ub]
theorem ub_bz (zs : List Int) (hz : ∀ z ∈ zs, 0 ≤ z ∧ z < 256) (j : Nat) (h : j < zs.length) : bz (ub zs) j = zs.getD j 0 := by
 have hm := hz zs[j] (List.getElem_mem h); have h2 : j < (ub zs).length := by rw [ub_length]; exact h
 unfold bz
 rw [List.getD_eq_getElem?_getD, List.getD_eq_getElem?_getD, List.getElem?_eq_getElem h2, List.getElem?_eq_getElem h]; simp only [Option.getD_some, ub, List.getElem_map, UInt8.toNat_ofNat']; omega
set_option maxRecDepth 100000 in
theorem open_bytes {H : Type} {enc : TypeId × Value → H} {W : World} {r : Reach} {b0 : Nat} {v : Value} {d : DataW H} {p : List MemPlace}
  (hv : Value.okWide Try.prog W r b0 24 v) (h : DataW.Trod enc Try.prog W 0 (fun _ => true) true 24 v d p) :
  ∃ (l : List UInt8) (ao : Option Addr) (cap : Nat), v = .slice ao l.length cap ∧ l.length ≤ cap ∧ Vw l ao W ∧ (l = [] ∨ ∃ elems spare, d = .slice elems spare ∧ elems.length = l.length) := by
 obtain ⟨a0, len, cap, rfl⟩ := okWide_slice Try.underlying24 hv; obtain ⟨fuel, hf⟩ := h; rcases open_ints Try.underlying24 Try.underlying5 cellsU8 hf with ⟨hcs, hx⟩ | ⟨a, len', cap', zs, hcs, _, hl, hm, hz, hx, hcell, hwz⟩
 ·simp [Value.cells] at hcs
  obtain ⟨rfl, rfl, rfl⟩ := hcs; exact ⟨[], none, 0, rfl, Nat.le_refl _, Vw_nil _ _, .inl rfl⟩
 ·simp [Value.cells] at hcs
  obtain ⟨rfl, rfl, rfl⟩ := hcs; simp only [if_true] at hz; have hb : ∀ z ∈ zs, 0 ≤ z ∧ z < 256 := fun z hz' => by have := bounds_u8 (hwz z hz'); omega
  have hb' : ∀ z ∈ zs.take len, 0 ≤ z ∧ z < 256 := fun z hz' => hb z (List.mem_of_mem_take hz')
  have hlt : (ub (zs.take len)).length = len := by rw [ub_length, List.length_take]; omega
  simp only [Prod.mk.injEq] at hx; refine ⟨ub (zs.take len), some a, cap, by rw [hlt], by rw [hlt]; exact hl, ?_, .inr ⟨_, _, hx.1, by simp [lits, hlt]; omega⟩⟩
  intro h0; rw [hlt] at h0; obtain ⟨b, off, rfl, hc⟩ := ints_at hcell (by omega); refine ⟨b, off, rfl, ?_, fun j hj => ?_⟩
  ·exact World.block_lt_of_cell? W ⟨b, off + 0, none⟩ (hc 0 (by omega))
  ·rw [hlt] at hj; rw [hc j (by omega), ub_bz _ hb' j (by rw [List.length_take]; omega)]
   simp [List.getD_eq_getElem?_getD, hj]
end Sp
end Go.Proofs.Ytlbdaccmnpcccaa
namespace Go.Proofs.Ytlbdaccmnpcccaa
namespace Sp
open Go.ChangeShapes Go.WideShapes Go.ChangeAt Go.RowKit Go.Joins Go.Deep
theorem cellsBs : Try.prog.cellsOf 24 = 1 := by kernel_rfl
theorem blk_one {H : Type} (d : DataW H) : 1 ≤ Rows.uptoBulk d := by
 unfold Rows.uptoBulk
 split <;> omega
theorem blk_len {H : Type} : ∀ l : List (DataW H), l.length ≤ Rows.uptoBulkAll l
 | [] => Nat.zero_le _
 | d :: r => by
  have h1 := blk_one d; have h2 := blk_len r; rw [Rows.uptoBulkAll, List.length_cons]; omega
theorem blk_sum {H : Type} (f : Nat → DataW H) (g : Nat → List UInt8) (hf : ∀ r, (g r).length ≤ Rows.uptoBulk (f r)) : ∀ l : List Nat, ((l.map g).flatten).length ≤ Rows.uptoBulkAll (l.map f)
 | [] => Nat.zero_le _
 | r :: l => by
  have h1 := hf r; have h2 := blk_sum f g hf l; rw [List.map_cons, List.map_cons, List.flatten_cons, List.length_append, Rows.uptoBulkAll]; omega
theorem row_len {H : Type} (A : Option Addr) (L C : Nat) (zs : List Int) (hl : zs.length = C) (hL : L ≤ C) (hA : A = none → C = 0) : (ub (zs.take L)).length ≤ Rows.uptoBulk (intRow .u8 A L zs : DataW H) := by
 rw [ub_length, List.length_take]; cases A with
 | none => have := hA rfl; omega
 | some a =>
  have h := blk_len (lits (H := H) .u8 (zs.take L)); have e : (lits (H := H) .u8 (zs.take L)).length = (zs.take L).length := by simp [lits]
  rw [e, List.length_take] at h; show _ ≤ Rows.uptoBulk (.slice (lits .u8 (zs.take L)) (lits .u8 (zs.drop L)))
  rw [Rows.uptoBulk]; omega
end Sp
end Go.Proofs.Ytlbdaccmnpcccaa
namespace Go.Proofs.Ytlbdaccmnpcccaa
namespace Sp
open Go.ChangeShapes Go.WideShapes Go.ChangeAt Go.RowKit Go.Joins Go.Deep
def Lz (ps : List (List UInt8)) (v : Value) (w : World) : Prop := ∃ (ao : Option Addr) (cap : Nat), v = .slice ao ps.length cap ∧ ps.length ≤ cap ∧ (0 < ps.length → ∃ g off, ao = some ⟨g, off, none⟩ ∧ g < w.heap.size ∧ ∀ i, i < ps.length → ∃ bo c, w.cell? ⟨g, off + i, none⟩ = some (.slice bo (ps.getD i []).length c) ∧ (c : Int) ≤ 9223372036854775807 ∧ Pk.Sl (ps.getD i []) (.slice bo (ps.getD i []).length c) w)
theorem Lz_below {ps : List (List UInt8)} {v : Value} {w w' : World} (h : Lz ps v w) (hb : Below w.heap.size w w') : Lz ps v w' := by
 obtain ⟨ao, cap, h1, hc, h2⟩ := h; refine ⟨ao, cap, h1, hc, fun h0 => ?_⟩
 obtain ⟨g, off, h3, h4, h5⟩ := h2 h0; refine ⟨g, off, h3, Nat.lt_of_lt_of_le h4 hb.size, fun i hi => ?_⟩
 obtain ⟨bo, c, h6, h7, h8⟩ := h5 i hi; exact ⟨bo, c, (hb.cell (p := ⟨g, off + i, none⟩) h4).trans h6, h7, Pk.Sl_below h8 hb⟩
set_option maxRecDepth 100000 in
theorem open_texts2 {H : Type} {enc : TypeId × Value → H} {W : World} {r : Reach} {b0 : Nat} {v : Value} {d : DataW H} {p : List MemPlace}
  (hv : Value.okWide Try.prog W r b0 25 v) (h : DataW.Trod enc Try.prog W 0 (fun _ => true) true 25 v d p) :
  ∃ ps : List (List UInt8), Lz ps v W ∧ ps.length + 1 ≤ Rows.uptoBulk d ∧ ps.flatten.length ≤ Rows.uptoBulk d := by
 obtain ⟨a0, len, cap, rfl⟩ := okWide_slice Try.underlying25 hv; obtain ⟨fuel, hf⟩ := h; rcases open_int_rows Try.underlying25 Try.underlying24 Try.underlying5 cellsBs cellsU8 hf with ⟨hcs, hx⟩ | ⟨a, len', cap', A, L, C, Z, hcs, _, hl, hm, hx, hcell⟩
 ·simp [Value.cells] at hcs
  obtain ⟨rfl, rfl, rfl⟩ := hcs; exact ⟨[], ⟨none, 0, rfl, Nat.le_refl _, fun h => absurd h (by decide)⟩, blk_one d, Nat.zero_le _⟩
 ·simp [Value.cells] at hcs
  obtain ⟨rfl, rfl, rfl⟩ := hcs; simp only [Prod.mk.injEq] at hx; have hpl : ((List.range len).map fun r => ub ((Z r).take (L r))).length = len := by simp
  have hb : Rows.uptoBulk d = Rows.uptoBulkAll ((List.range len).map fun r => (intRow .u8 (A r) (L r) (Z r) : DataW H)) + Rows.uptoBulkAll ((List.range (cap - len)).map fun j => (intRow .u8 (A (len + j)) (L (len + j)) (Z (len + j)) : DataW H)) + 1 := by rw [hx.1, Rows.uptoBulk]
  refine ⟨(List.range len).map fun r => ub ((Z r).take (L r)), ⟨some a, cap, by rw [hpl], by rw [hpl]; exact hl, fun h0 => ?_⟩, ?_, ?_⟩
  ·rw [hpl] at h0; obtain ⟨b, off, spot⟩ := a; have hspot : spot = none := by simpa [Addr.add] using World.cell?_spot (hcell 0 (by omega)).1
   subst hspot; refine ⟨b, off, rfl, World.block_lt_of_cell? W _ (by have := (hcell 0 (by omega)).1; simpa [Addr.add] using this), fun i hi => ?_⟩
   rw [hpl] at hi; obtain ⟨q1, q2, q3, q4, q5, q6, q7⟩ := hcell i (by omega); rw [Go.WideShapes.add_plain] at q1; have e : (((List.range len).map fun r => ub ((Z r).take (L r))).getD i []) = ub ((Z i).take (L i)) := by simp [hi]
   rw [e]; have hlt : (ub ((Z i).take (L i))).length = L i := by rw [ub_length, List.length_take]; omega
   have hb1 : ∀ z ∈ Z i, 0 ≤ z ∧ z < 256 := fun z hz' => by have := bounds_u8 (q5 z hz'); omega
   have hb2 : ∀ z ∈ (Z i).take (L i), 0 ≤ z ∧ z < 256 := fun z hz' => hb1 z (List.mem_of_mem_take hz')
   refine ⟨A i, C i, by rw [hlt]; exact q1, by simp only [maxLen] at q3; omega, A i, C i, rfl, by rw [hlt]; exact q2, fun h1 => ?_⟩
   rw [hlt] at h1; cases hA : A i with
   | none => have := q6 hA; omega
   | some a' =>
    obtain ⟨_, hc⟩ := q7 a' hA; obtain ⟨b', off', rfl, hc'⟩ := ints_at (zs := Z i) (fun j hj => hc j (by omega)) (by omega)
    refine ⟨b', off', rfl, World.block_lt_of_cell? W ⟨b', off' + 0, none⟩ (hc' 0 (by omega)), fun j hj => ?_⟩
    rw [hlt] at hj; rw [hc' j (by omega), ub_bz _ hb2 j (by rw [List.length_take]; omega)]
    simp [List.getD_eq_getElem?_getD, hj]
  ·have := blk_len ((List.range len).map fun r => (intRow .u8 (A r) (L r) (Z r) : DataW H))
   rw [hpl, hb]; simp at this
   omega
  ·have hs := blk_sum (fun r => (if r < cap then intRow .u8 (A r) (L r) (Z r) else .nil : DataW H)) (fun r => if r < cap then ub ((Z r).take (L r)) else []) (fun r => by
    by_cases hr : r < cap
    ·obtain ⟨q1, q2, q3, q4, q5, q6, q7⟩ := hcell r hr; rw [if_pos hr, if_pos hr]; exact row_len (A r) (L r) (C r) (Z r) q4 q2 q6
    ·rw [if_neg hr, if_neg hr]; exact Nat.zero_le _) (List.range len)
   have e1 : ((List.range len).map fun r => if r < cap then ub ((Z r).take (L r)) else []) = (List.range len).map fun r => ub ((Z r).take (L r)) := List.map_congr_left (fun r hr => by rw [if_pos (by have := List.mem_range.1 hr; omega)])
   have e2 : ((List.range len).map fun r => (if r < cap then intRow .u8 (A r) (L r) (Z r) else .nil : DataW H)) = (List.range len).map fun r => (intRow .u8 (A r) (L r) (Z r) : DataW H) := List.map_congr_left (fun r hr => by rw [if_pos (by have := List.mem_range.1 hr; omega)])
   rw [e1, e2] at hs; rw [hb]; omega
end Sp
end Go.Proofs.Ytlbdaccmnpcccaa
namespace Go.Proofs.Ytlbdaccmnpcccaa
namespace Pk
open Go.RowKit
set_option maxHeartbeats 1000000 in
set_option maxRecDepth 100000 in
theorem psplit_no (n cap : Nat) (ao : Option Addr) (w : World)
  (KR : Hid (∀ wx : World, Below w.heap.size w wx → Calls Try.prog 48 #[.slice ao n cap] wx fun e w' => e = .returned (.tuple #[.int .i64 0, .int .i64 0, .bool false, .bool false]) ∧ Below wx.heap.size wx w')) :
  Calls Try.prog 35 #[.slice ao n cap] w fun e w' => ∃ v, e = .returned (.tuple #[v3 v, .int .i64 0, .int .i64 1]) ∧ Iv (w.heap.size ≤ ·) w' It.no v ∧ Below w.heap.size w w' := by
 have x0 := B3_new w; have l0 : Below w.heap.size w (w.alloc (.cells #[.bool false, .slice none 0 0, .slice none 0 0] 59)) := (Below.refl _ _).alloc (Nat.le_refl _) _; go_enter Try.func35, Try.ntmps35
 go_upto_region 1 with fail
 generalize w.alloc (.cells #[.bool false, .slice none 0 0, .slice none 0 0] 59) = W0 at *; obtain ⟨h, eh⟩ : ∃ h, h = w.heap.size := ⟨_, rfl⟩; have EH : Hid (h = w.heap.size) := eh; rw [← eh] at x0 ⊢; clear eh; go_wp2_with fail
 refine (KR.out _ l0).mono (fun e w1 he => ?_)
 obtain ⟨rfl, b1⟩ := he; have x1 : B3 h w1 := B3_gb (r := none) x0 (gb_below b1) nofun; have l1 := l0.trans (b1.mono l0.size); clear x0 l0 b1 KR; go_wp2_with (refine wpList_st3b rfl rfl rfl rfl x1 ?_)
 intro w2 g2 b2 z0 z1 z2; have l2 : Hid (Below w.heap.size w w2) := l1.trans ⟨g2.os, g2.tape, g2.output, g2.size, fun j hj => g2.block j (by have := l1.size; omega) (fun e => by injection e with e; have := EH.out; omega)⟩
 clear g2 b2 x1 l1; go_wp2_with fail
 exact bodyPost_ret (v := .tuple #[.agg #[.bool false, .slice none 0 0, .slice none 0 0], .int .i64 0, .int .i64 1]) (resI3 _ _ _ h 2 3 4 _ _ _ _ _ rfl rfl rfl rfl z0 z1 z2) rfl ⟨(.bool false, .slice none 0 0, .slice none 0 0), rfl, .mk _ _ _ _ _ [] (Ty_nil _ _) rfl (Kx_nil _ _) (fun j hj => absurd hj (by simp)), l2.out⟩
theorem sl_part {b : List UInt8} {g off cap f t : Nat} {w : World} (hft : f ≤ t) (ht : t ≤ b.length) (hcap : b.length ≤ cap) (hg : g < w.heap.size) (hc : ∀ j, j < b.length → w.cell? ⟨g, off + j, none⟩ = some (.int .u8 (Sp.bz b j))) (a' : Option Addr) (ha : f < t → a' = some ⟨g, off + f, none⟩) : Sl ((b.take t).drop f) (.slice a' (t - f) (cap - f)) w := by
 have ld : ((b.take t).drop f).length = t - f := by rw [List.length_drop, List.length_take]; omega
 refine ⟨a', cap - f, by rw [ld], by rw [ld]; omega, fun h0 => ?_⟩
 rw [ld] at h0; refine ⟨g, off + f, ha (by omega), hg, fun j hj => ?_⟩
 rw [ld] at hj; rw [Nat.add_assoc, hc (f + j) (by omega), bz_drop, bz_take b t (f + j) (by omega)]
set_option maxHeartbeats 1000000 in
set_option maxRecDepth 100000 in
theorem psplit_text (b : List UInt8) (g off cap f t : Nat) (w : World) (hb : b.length ≤ 4194304) (hcap : b.length ≤ cap) (hft : f ≤ t) (ht : t ≤ b.length) (hf : f < t ∨ f < cap) (hg : g < w.heap.size) (hc : ∀ j, j < b.length → w.cell? ⟨g, off + j, none⟩ = some (.int .u8 (Sp.bz b j)))
  (KR : Hid (∀ wx : World, Below w.heap.size w wx → Calls Try.prog 48 #[.slice (some ⟨g, off, none⟩) b.length cap] wx fun e w' => e = .returned (.tuple #[.int .i64 (f : Int), .int .i64 (t : Int), .bool false, .bool true]) ∧ Below wx.heap.size wx w')) :
  Calls Try.prog 35 #[.slice (some ⟨g, off, none⟩) b.length cap] w fun e w' => ∃ v, e = .returned (.tuple #[v3 v, .int .i64 (t : Int), .int .i64 0]) ∧ Iv (w.heap.size ≤ ·) w' (.mk false ((b.take t).drop f) []) v ∧ Below w.heap.size w w' := by
 have x0 := B3_new w; have l0 : Below w.heap.size w (w.alloc (.cells #[.bool false, .slice none 0 0, .slice none 0 0] 59)) := (Below.refl _ _).alloc (Nat.le_refl _) _; have KT : Hid (∀ (a : Option Addr) (n c : Nat) (wx : World), Calls Try.prog 49 #[.slice a n c] wx fun e w' => e = .returned (.agg #[.bool false, .slice a n c, .slice none 0 0]) ∧ Below wx.heap.size wx w') := ptext_any
 have HA : Hid (∀ wx : World, Below w.heap.size w wx → ∃ a3 c3 w', (Builtin.append_ #[24, 24] 24 #[.slice (some ⟨wx.heap.size, 0, none⟩) 0 0, .slice (some ⟨g, off + f, none⟩) (t - f) (cap - f)]).run Try.prog (wx.alloc (.cells #[] 5)) = .ok (.slice a3 (t - f) c3) w' ∧ Ty (wx.heap.size ≤ ·) ((b.take t).drop f) (.slice a3 (t - f) c3) w' ∧ Below wx.heap.size wx w') := fun wx hb => by
  have b1 : Below wx.heap.size wx (wx.alloc (.cells #[] 5)) := (Below.refl _ _).alloc (Nat.le_refl _) _; have ld : ((b.take t).drop f).length = t - f := by rw [List.length_drop, List.length_take]; omega
  have bw := hb.trans (b1.mono hb.size); have s1 := sl_part (w := wx.alloc (.cells #[] 5)) hft ht hcap (Nat.lt_of_lt_of_le hg bw.size) (fun j hj => (bw.cell (p := ⟨g, off + j, none⟩) hg).trans (hc j hj)) (some ⟨g, off + f, none⟩) (fun _ => rfl)
  obtain ⟨v', w', hap, hown, hbel⟩ := app_sl (x := []) 24 (own_nil_b (Nat.le_refl _)) s1 (by simp) (by rw [ld, List.length_nil]; omega)
  rw [List.nil_append] at hown; have tx := Tx_ty (own_tx hown); have tx' := tx; obtain ⟨a3, c3, rfl, _⟩ := tx; rw [ld] at hap tx'; exact ⟨a3, c3, w', hap, tx', b1.trans hbel⟩
 have i1 : (f : Int) ≤ (t : Int) := by omega
 have i2 : (t : Int) ≤ (cap : Int) := by omega
 have i3 : (0 : Int) ≤ (f : Int) := by omega
 have i4 : (f : Int) < (cap : Int) := by omega
 clear hb hcap hft ht hf hg hc; generalize b.length = L at *; go_enter Try.func35, Try.ntmps35
 go_upto_region 1 with fail
 generalize w.alloc (.cells #[.bool false, .slice none 0 0, .slice none 0 0] 59) = W0 at *; obtain ⟨h, eh⟩ : ∃ h, h = w.heap.size := ⟨_, rfl⟩; have EH : Hid (h = w.heap.size) := eh; rw [← eh] at x0 ⊢; clear eh; go_wp2_with fail
 refine (KR.out _ l0).mono (fun e w1 he => ?_)
 obtain ⟨rfl, b1⟩ := he; have x1 : B3 h w1 := B3_gb (r := none) x0 (gb_below b1) nofun; have l1 := l0.trans (b1.mono l0.size); obtain ⟨a3, c3, w3, hap, ty3, b3⟩ := HA.out _ l1; have x3 : B3 h w3 := B3_gb (r := none) x1 (gb_below b3) nofun; have l3 := l1.trans (b3.mono l1.size); have TY : Hid (Ty (h + 1 ≤ ·) ((b.take t).drop f) (.slice a3 (t - f) c3) w3) := Ty_mono ty3 (fun k hk _ => by have := x1.hi; omega)
 clear x0 l0 b1 KR HA x1 l1 ty3 b3; go_wp2_with (at_builtin; refine wpList_apw rfl rfl rfl rfl hap ?_)
 refine (KT.out _ _ _ _).mono (fun e w4 he => ?_)
 obtain ⟨rfl, b4⟩ := he; have x4 : B3 h w4 := B3_gb (r := none) x3 (gb_below b4) nofun; have l4 := l3.trans (b4.mono l3.size); have TY4 : Hid (Ty (h + 1 ≤ ·) ((b.take t).drop f) (.slice a3 (t - f) c3) w4) := Ty_gb (r := none) TY.out (gb_below b4) (fun _ _ => nofun)
 clear x3 l3 b4 TY hap KT; go_wp2_with (refine wpList_st3b rfl rfl rfl rfl x4 ?_)
 intro w5 g5 b5 z0 z1 z2; have l5 : Hid (Below w.heap.size w w5) := l4.trans ⟨g5.os, g5.tape, g5.output, g5.size, fun j hj => g5.block j (by have := l4.size; omega) (fun e => by injection e with e; have := EH.out; omega)⟩
 have TY5 : Hid (Ty (w.heap.size ≤ ·) ((b.take t).drop f) (.slice a3 (t - f) c3) w5) := Ty_mono (Ty_gb TY4.out g5 (fun k hk e => by injection e with e; omega)) (fun k hk _ => by have := EH.out; omega)
 clear g5 b5 x4 l4 TY4; go_wp2_with fail
 exact bodyPost_ret (v := .tuple #[.agg #[.bool false, .slice a3 (t - f) c3, .slice none 0 0], .int .i64 (t : Int), .int .i64 0]) (resI3 _ _ _ h 2 3 4 _ _ _ _ _ rfl rfl rfl rfl z0 z1 z2) rfl ⟨(.bool false, .slice a3 (t - f) c3, .slice none 0 0), rfl, .mk _ _ _ _ _ [] TY5.out rfl (Kx_nil _ _) (fun j hj => absurd hj (by simp)), l5.out⟩
set_option maxHeartbeats 1000000 in
set_option maxRecDepth 100000 in
theorem psplit_text0 (b : List UInt8) (g off t : Nat) (w : World) (ht : t = b.length) (hg : g < w.heap.size) (hc : ∀ j, j < b.length → w.cell? ⟨g, off + j, none⟩ = some (.int .u8 (Sp.bz b j)))
  (KR : Hid (∀ wx : World, Below w.heap.size w wx → Calls Try.prog 48 #[.slice (some ⟨g, off, none⟩) b.length t] wx fun e w' => e = .returned (.tuple #[.int .i64 (t : Int), .int .i64 (t : Int), .bool false, .bool true]) ∧ Below wx.heap.size wx w')) :
  Calls Try.prog 35 #[.slice (some ⟨g, off, none⟩) b.length t] w fun e w' => ∃ v, e = .returned (.tuple #[v3 v, .int .i64 (t : Int), .int .i64 0]) ∧ Iv (w.heap.size ≤ ·) w' (.mk false ((b.take t).drop t) []) v ∧ Below w.heap.size w w' := by
 have x0 := B3_new w; have l0 : Below w.heap.size w (w.alloc (.cells #[.bool false, .slice none 0 0, .slice none 0 0] 59)) := (Below.refl _ _).alloc (Nat.le_refl _) _; have KT : Hid (∀ (a : Option Addr) (n c : Nat) (wx : World), Calls Try.prog 49 #[.slice a n c] wx fun e w' => e = .returned (.agg #[.bool false, .slice a n c, .slice none 0 0]) ∧ Below wx.heap.size wx w') := ptext_any
 have HA : Hid (∀ wx : World, Below w.heap.size w wx → ∃ a3 c3 w', (Builtin.append_ #[24, 24] 24 #[.slice (some ⟨wx.heap.size, 0, none⟩) 0 0, .slice (some ⟨g, off, none⟩) 0 0]).run Try.prog (wx.alloc (.cells #[] 5)) = .ok (.slice a3 0 c3) w' ∧ Ty (wx.heap.size ≤ ·) ((b.take t).drop t) (.slice a3 0 c3) w' ∧ Below wx.heap.size wx w') := fun wx hb => by
  have b1 : Below wx.heap.size wx (wx.alloc (.cells #[] 5)) := (Below.refl _ _).alloc (Nat.le_refl _) _; have ld : ((b.take t).drop t).length = 0 := by rw [List.length_drop, List.length_take]; omega
  have bw := hb.trans (b1.mono hb.size); have s1 := sl_part (cap := t) (w := wx.alloc (.cells #[] 5)) (Nat.le_refl t) (by omega) (by omega) (Nat.lt_of_lt_of_le hg bw.size) (fun j hj => (bw.cell (p := ⟨g, off + j, none⟩) hg).trans (hc j hj)) (some ⟨g, off, none⟩) (fun h => by omega)
  rw [Nat.sub_self] at s1; obtain ⟨v', w', hap, hown, hbel⟩ := app_sl (x := []) 24 (own_nil_b (Nat.le_refl _)) s1 (by simp) (by rw [ld, List.length_nil]; omega)
  rw [List.nil_append] at hown; have tx := Tx_ty (own_tx hown); have tx' := tx; obtain ⟨a3, c3, rfl, _⟩ := tx; rw [ld] at hap tx'; exact ⟨a3, c3, w', hap, tx', b1.trans hbel⟩
 have i3 : (0 : Int) ≤ (t : Int) := by omega
 clear ht hg hc; generalize b.length = L at *; go_enter Try.func35, Try.ntmps35
 go_upto_region 1 with fail
 generalize w.alloc (.cells #[.bool false, .slice none 0 0, .slice none 0 0] 59) = W0 at *; obtain ⟨h, eh⟩ : ∃ h, h = w.heap.size := ⟨_, rfl⟩; have EH : Hid (h = w.heap.size) := eh; rw [← eh] at x0 ⊢; clear eh; go_wp2_with fail
 refine (KR.out _ l0).mono (fun e w1 he => ?_)
 obtain ⟨rfl, b1⟩ := he; have x1 : B3 h w1 := B3_gb (r := none) x0 (gb_below b1) nofun; have l1 := l0.trans (b1.mono l0.size); obtain ⟨a3, c3, w3, hap, ty3, b3⟩ := HA.out _ l1; have x3 : B3 h w3 := B3_gb (r := none) x1 (gb_below b3) nofun; have l3 := l1.trans (b3.mono l1.size); have TY : Hid (Ty (h + 1 ≤ ·) ((b.take t).drop t) (.slice a3 0 c3) w3) := Ty_mono ty3 (fun k hk _ => by have := x1.hi; omega)
 clear x0 l0 b1 KR HA x1 l1 ty3 b3; go_wp2_with (at_builtin; refine wpList_apw rfl rfl rfl rfl hap ?_)
 refine (KT.out _ _ _ _).mono (fun e w4 he => ?_)
 obtain ⟨rfl, b4⟩ := he; have x4 : B3 h w4 := B3_gb (r := none) x3 (gb_below b4) nofun; have l4 := l3.trans (b4.mono l3.size); have TY4 : Hid (Ty (h + 1 ≤ ·) ((b.take t).drop t) (.slice a3 0 c3) w4) := Ty_gb (r := none) TY.out (gb_below b4) (fun _ _ => nofun)
 clear x3 l3 b4 TY hap KT; go_wp2_with (refine wpList_st3b rfl rfl rfl rfl x4 ?_)
 intro w5 g5 b5 z0 z1 z2; have l5 : Hid (Below w.heap.size w w5) := l4.trans ⟨g5.os, g5.tape, g5.output, g5.size, fun j hj => g5.block j (by have := l4.size; omega) (fun e => by injection e with e; have := EH.out; omega)⟩
 have TY5 : Hid (Ty (w.heap.size ≤ ·) ((b.take t).drop t) (.slice a3 0 c3) w5) := Ty_mono (Ty_gb TY4.out g5 (fun k hk e => by injection e with e; omega)) (fun k hk _ => by have := EH.out; omega)
 clear g5 b5 x4 l4 TY4; go_wp2_with fail
 exact bodyPost_ret (v := .tuple #[.agg #[.bool false, .slice a3 0 c3, .slice none 0 0], .int .i64 (t : Int), .int .i64 0]) (resI3 _ _ _ h 2 3 4 _ _ _ _ _ rfl rfl rfl rfl z0 z1 z2) rfl ⟨(.bool false, .slice a3 0 c3, .slice none 0 0), rfl, .mk _ _ _ _ _ [] TY5.out rfl (Kx_nil _ _) (fun j hj => absurd hj (by simp)), l5.out⟩
end Pk
end Go.Proofs.Ytlbdaccmnpcccaa
