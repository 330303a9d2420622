import Derived.Test.YtlbdaccmnpcccaaPackA
import Derived.Lib.SliceRun
import Derived.Laws.BitsAllLaws
import Derived.Deep.AppendLies
import Derived.Deep.RegionWith
import Derived.BigRegion
import Derived.Lib.BitFns
import Derived.Deep.CutBlock
import Derived.Deep.DeepCutAuto
import Derived.ChangeKeysEq
import Derived.Lib.MinMax
namespace Go.Proofs.Ytlbdaccmnpcccaa
namespace Sp
open Go.RowKit
structure Hds (ps : List (List UInt8)) (hs : List Value) (w : World) : Prop where
 l : hs.length = ps.length
 s : ∀ i, i < ps.length → Pk.Sl (ps.getD i []) (hs.getD i undef) w
theorem Hds_below {ps : List (List UInt8)} {hs : List Value} {w w' : World} (h : Hds ps hs w) (hb : Below w.heap.size w w') : Hds ps hs w' := ⟨h.l, fun i hi => Pk.Sl_below (h.s i hi) hb⟩
theorem Hds_app {ps qs : List (List UInt8)} {hs ks : List Value} {w : World} (h : Hds ps hs w) (k : Hds qs ks w) : Hds (ps ++ qs) (hs ++ ks) w := by
 refine ⟨by rw [List.length_append, List.length_append, h.l, k.l], fun i hi => ?_⟩
 rw [List.length_append] at hi; simp only [List.getD_eq_getElem?_getD]; by_cases e : i < ps.length
 ·rw [List.getElem?_append_left e, List.getElem?_append_left (by rw [h.l]; exact e)]
  have := h.s i e; simpa only [List.getD_eq_getElem?_getD] using this
 ·rw [List.getElem?_append_right (by omega), List.getElem?_append_right (by rw [h.l]; omega), h.l]
  have := k.s (i - ps.length) (by omega); simpa only [List.getD_eq_getElem?_getD] using this
theorem Hds_one {p : List UInt8} {v : Value} {w : World} (h : Pk.Sl p v w) : Hds [p] [v] w := ⟨rfl, fun i hi => by
 have e : i = 0 := by simp at hi; omega
 subst e; exact h⟩
theorem Hds_one' {ps : List (List UInt8)} {hs : List Value} {w : World} (h : Hds ps hs w) : ∀ u ∈ hs, u.oneCell' = true := fun u hu => by
 obtain ⟨i, hi, rfl⟩ := List.getElem_of_mem hu; have hs1 := h.s i (by rw [← h.l]; exact hi)
 obtain ⟨ao, cap, e, _⟩ := hs1; have e2 : hs.getD i undef = hs[i] := by simp [hi]
 rw [e2] at e; rw [e]; rfl
theorem ls_heads {ps : List (List UInt8)} {v : Value} {w : World} (h : Ls ps v w) : ∃ hs, Hds ps hs w ∧ Vl hs v w := by
 obtain ⟨ao, cap, rfl, hL⟩ := h; by_cases h0 : 0 < ps.length
 ·obtain ⟨g, off, rfl, hg, hc⟩ := hL h0; have hx : ∀ i, ∃ vi, i < ps.length → w.cell? ⟨g, off + i, none⟩ = some vi ∧ Pk.Sl (ps.getD i []) vi w := fun i => by
   by_cases hi : i < ps.length
   ·obtain ⟨vi, h1, h2⟩ := hc i hi; exact ⟨vi, fun _ => ⟨h1, h2⟩⟩
   ·exact ⟨undef, fun h => absurd h hi⟩
  obtain ⟨V, hV⟩ := Classical.axiomOfChoice hx; have hl : ((List.range ps.length).map V).length = ps.length := by simp
  refine ⟨(List.range ps.length).map V, ⟨hl, fun i hi => ?_⟩, ⟨some ⟨g, off, none⟩, cap, by rw [hl], fun _ => ⟨g, off, rfl, hg, fun j hj => ?_⟩⟩⟩
  ·have e : ((List.range ps.length).map V).getD i undef = V i := by simp [hi]
   rw [e]; exact (hV i hi).2
  ·rw [hl] at hj; rw [(hV j hj).1]; simp [hj]
 ·have e : ps = [] := List.length_eq_zero_iff.1 (by omega); subst e; exact ⟨[], ⟨rfl, fun i hi => absurd hi (by simp)⟩, ⟨ao, cap, rfl, fun h => absurd h (by simp)⟩⟩
theorem own_ls {B : Nat} {ps : List (List UInt8)} {hs : List Value} {v : Value} {w : World} (h : w.ownsRow B 24 1 v hs.length hs) (hh : Hds ps hs w) : Ls ps v w := by
 rcases h.2 with ⟨h2, h3⟩ | ⟨g, cap, cur, h2, h3, h4, h5⟩
 ·have e : ps = [] := List.length_eq_zero_iff.1 (by rw [← hh.l]; exact h3)
  subst e; exact ⟨none, 0, h2, fun h => absurd h (by simp)⟩
 ·subst h2; refine ⟨some ⟨g, 0, none⟩, cap, by rw [hh.l], fun _ => ⟨g, 0, rfl, Pk.lt_of_heap h4, fun i hi => ⟨hs.getD i undef, ?_, hh.s i hi⟩⟩⟩
  have hi2 : i < hs.length := by rw [hh.l]; exact hi
  rw [Nat.zero_add, h.cellAt i (by omega)]; simp [hi2]
theorem own_nil_r {base : Nat} {w : World} (h : base ≤ w.heap.size) : (w.alloc (.cells #[] 24)).ownsRow base 24 1 (.slice (some ⟨w.heap.size, 0, none⟩) 0 0) ([] : List Value).length [] :=
 World.ownsRow_lit w #[] 0 h (Nat.zero_le _) rfl
set_option maxHeartbeats 400000 in
set_option maxRecDepth 100000 in
theorem clone_any (xs : List Value) (v : Value) (w : World) (hl : xs.length ≤ 1048576) (h1 : ∀ u ∈ xs, u.oneCell' = true) (h : Vl xs v w) :
  Calls Try.prog 44 #[v] w fun e w' => ∃ v', e = .returned v' ∧ w'.ownsRow w.heap.size 24 1 v' xs.length xs ∧ Below w.heap.size w w' := by
 have q0 : ∀ (w : World) (n c : Nat), (binOp .eql 25 (.slice none n c) (.slice none 0 0)).run Try.prog w = .ok (.bool true) w := fun w n c => Lib.run_eql_slice_nil w _ _ none n c 0 0 Try.underlying25
 have q1 : ∀ (w : World) (a : Addr) (n c : Nat), (binOp .eql 25 (.slice (some a) n c) (.slice none 0 0)).run Try.prog w = .ok (.bool false) w := fun w a n c => Lib.run_eql_slice_nil w _ _ (some a) n c 0 0 Try.underlying25
 have h' := h; obtain ⟨ao, cap, rfl, hv⟩ := h; cases ao with
 | none =>
  have e : xs = [] := by
   by_cases h0 : 0 < xs.length
   ·obtain ⟨g, off, e, _⟩ := hv h0; cases e
   ·exact List.length_eq_zero_iff.1 (by omega)
  subst e; clear h' hv h1 hl; go_enter Try.func44, Try.ntmps44
  go_wp2
  go_ret
  exact ⟨_, rfl, World.ownsRow_nil _ _ _ _, Below.refl _ _⟩
 | some a =>
  have hb : Below w.heap.size w (w.alloc (.cells #[] 24)) := (Below.refl _ _).alloc (Nat.le_refl _) _; obtain ⟨v2, w2, hap, ho, hb2⟩ := appv_r 25 (own_nil_r (Nat.le_refl _)) (Vl_below h' hb) h1 (by simp) (by rw [List.length_nil]; omega)
  rw [List.nil_append] at ho; have HO : Hid (w2.ownsRow w.heap.size 24 1 v2 xs.length xs) := ho; have HB : Hid (Below w.heap.size w w2) := hb.trans hb2; clear h' hv h1 hl hb hb2 ho; generalize xs.length = n at *; go_enter Try.func44, Try.ntmps44
  go_wp2_with (at_builtin; refine wpList_app rfl rfl rfl rfl hap ?_)
  go_ret
  exact ⟨_, rfl, HO.out, HB.out⟩
end Sp
end Go.Proofs.Ytlbdaccmnpcccaa
namespace Go.Proofs.Ytlbdaccmnpcccaa
namespace Rs
open Nb Sp Go.RowKit
theorem two (w : World) (o : Obj) (vk vv : Value) (kh : List Value) (hq : Vl kh vk w) (W : World)
  (hW : W = ((w.alloc o).alloc (.cells #[vv] 24)).alloc (.cells #[vk, .slice (some ⟨w.heap.size + 1, 0, none⟩) 1 1] 25)) :
  Below w.heap.size w W ∧ Vls [kh, [vv]] (.slice (some ⟨w.heap.size + 1 + 1, 0, none⟩) 2 2) W := by
 have z1 : (w.alloc o).heap.size = w.heap.size + 1 := by simp
 have z2 : ((w.alloc o).alloc (.cells #[vv] 24)).heap.size = w.heap.size + 1 + 1 := by simp
 have h2 := heap_alloc_new (w.alloc o) (.cells #[vv] 24); rw [z1] at h2; have h3 := heap_alloc_new ((w.alloc o).alloc (.cells #[vv] 24)) (.cells #[vk, .slice (some ⟨w.heap.size + 1, 0, none⟩) 1 1] 25); rw [z2, ← hW] at h3; have h4 : W.heap[w.heap.size + 1]? = some (.cells #[vv] 24) := by
  rw [hW, heap_alloc_old _ _ (by rw [z2]; omega)]
  exact h2
 have hb : Below w.heap.size w W := by
  rw [hW]; exact (((Below.refl _ _).alloc (Nat.le_refl _) _).alloc (by rw [z1]; omega) _).alloc (by rw [z2]; omega) _
 have cell : ∀ (g : Nat) (cs : Array Value) (T : TypeId), W.heap[g]? = some (.cells cs T) → ∀ j, W.cell? ⟨g, j, none⟩ = cs[j]? := fun g cs T h j => by
  simp only [World.cell?, h]; exact if_neg (by decide)
 refine ⟨hb, ⟨_, 2, rfl, fun _ => ⟨_, 0, rfl, Pk.lt_of_heap h3, fun i hi => ?_⟩⟩⟩
 have hi2 : i = 0 ∨ i = 1 := by simp at hi; omega
 rcases hi2 with rfl | rfl
 ·exact ⟨vk, by rw [cell _ _ _ h3]; rfl, Vl_below hq hb⟩
 ·refine ⟨_, by rw [cell _ _ _ h3]; rfl, ⟨_, 1, rfl, fun _ => ⟨_, 0, rfl, Pk.lt_of_heap h4, fun j hj => ?_⟩⟩⟩
  have e : j = 0 := by simp at hj; omega
  subst e; rw [cell _ _ _ h4]; rfl
theorem Ls_form {ps : List (List UInt8)} {v : Value} {w : World} (h : Ls ps v w) : ∃ a c, v = .slice a ps.length c := by
 obtain ⟨a, c, e, _⟩ := h; exact ⟨a, c, e⟩
set_option maxHeartbeats 1000000 in
set_option maxRecDepth 100000 in
theorem fork_any (s : Shp) (x : V4) (w : World) (h : Sh s x w) (hz : s.2.2.2.length ≤ 1048575) :
  Calls Try.prog 57 #[v4 x] w fun e w' => ∃ a n c, e = .returned (.slice a n c) ∧ n = (s.2.2.2 ++ [s.2.2.1]).length ∧ Ls (s.2.2.2 ++ [s.2.2.1]) (.slice a n c) w' ∧ Below w.heap.size w w' := by
 obtain ⟨a1, c1, a2, c2, a3, c3, rfl⟩ := Sh_form h; obtain ⟨k, p, v, ks⟩ := s; obtain ⟨kh, hk, vk⟩ := ls_heads h.2.2.2; have HS := h.2.2.1; dsimp only at hk vk HS hz ⊢; have KC : Hid (Calls Try.prog 65 #[.slice (some ⟨w.heap.size + 1 + 1, 0, none⟩) 2 2] (((w.alloc (.cells #[.int .i64 k, .slice a1 p.length c1, .slice a2 v.length c2, .slice a3 ks.length c3] 34)).alloc (.cells #[.slice a2 v.length c2] 24)).alloc (.cells #[.slice a3 ks.length c3, .slice (some ⟨w.heap.size + 1, 0, none⟩) 1 1] 25)) fun e w' => ∃ a n c, e = .returned (.slice a n c) ∧ n = (ks ++ [v]).length ∧ Ls (ks ++ [v]) (.slice a n c) w' ∧ Below w.heap.size w w') := by
  obtain ⟨bA, vs⟩ := two w (.cells #[.int .i64 k, .slice a1 p.length c1, .slice a2 v.length c2, .slice a3 ks.length c3] 34) (.slice a3 ks.length c3) (.slice a2 v.length c2) kh vk _ rfl; have e2 : ([kh, [.slice a2 v.length c2]] : List (List Value)).flatten = kh ++ [.slice a2 v.length c2] := by simp
  have hd := Hds_app (Hds_below hk bA) (Hds_one (Pk.Sl_below HS bA)); refine (concat_r [kh, [.slice a2 v.length c2]] _ _ (by show _ ≤ _; rw [e2, List.length_append, hk.l]; simp; omega) (by show (2 : Nat) ≤ 1048576; decide) (fun xs hxs u hu => by
   simp only [List.mem_cons, List.not_mem_nil, or_false] at hxs; rcases hxs with rfl | rfl
   ·exact Hds_one' hk u hu
   ·exact Hds_one' (Hds_one HS) u hu) vs).mono fun e w' he => ?_
  obtain ⟨v', h1, h2, h3⟩ := he; rw [e2] at h2; have hl := own_ls h2 (Hds_below hd h3); obtain ⟨a, c, rfl⟩ := Ls_form hl; exact ⟨a, _, c, h1, rfl, hl, bA.trans (h3.mono bA.size)⟩
 clear hk vk HS hz h; simp only [v4]; go_enter Try.func57, Try.ntmps57
 go_wp2_with fail
 refine KC.out.mono ?_; rintro e w1 ⟨a, n, c, rfl, hn, hl, hb⟩; have HZ : Hid (n = (ks ++ [v]).length ∧ Ls (ks ++ [v]) (.slice a n c) w1 ∧ Below w.heap.size w w1) := ⟨hn, hl, hb⟩; clear hn hl hb KC; go_wp2_with fail
 go_ret
 exact ⟨a, n, c, rfl, HZ.out.1, HZ.out.2.1, HZ.out.2.2⟩
end Rs
end Go.Proofs.Ytlbdaccmnpcccaa
namespace Go.Proofs.Ytlbdaccmnpcccaa
namespace Rs
open Nb Sp Go.RowKit
def np (l : List (List UInt8)) : Nat := l.countP (fun x => decide (0 < x.length))
theorem np_le (l : List (List UInt8)) : np l ≤ l.length := List.countP_le_length
theorem np_snoc (l : List (List UInt8)) (k : Nat) (h : k < l.length) : np (l.take (k + 1)) = np (l.take k) + if 0 < (l.getD k []).length then 1 else 0 := by
 unfold np
 rw [List.take_add_one, List.getElem?_eq_getElem h, List.countP_append, List.getD_eq_getElem?_getD, List.getElem?_eq_getElem h]; simp [List.countP_cons, List.countP_nil]
set_option maxHeartbeats 1000000 in
set_option maxRecDepth 100000 in
theorem parts_any (s : Shp) (x : V4) (w : World) (h : Sh s x w) (hz : s.2.2.2.length ≤ 1048575) :
  Calls Try.prog 47 #[v4 x] w fun e w' => e = .returned (.int .i64 (np (s.2.2.2 ++ [s.2.2.1]) : Int)) ∧ Below w.heap.size w w' := by
 obtain ⟨a1, c1, a2, c2, a3, c3, rfl⟩ := Sh_form h; have bA : Below w.heap.size w (w.alloc (.cells #[.int .i64 s.1, .slice a1 s.2.1.length c1, .slice a2 s.2.2.1.length c2, .slice a3 s.2.2.2.length c3] 34)) := (Below.refl _ _).alloc (Nat.le_refl _) _; have KF : Hid (Calls Try.prog 57 #[.agg #[.int .i64 s.1, .slice a1 s.2.1.length c1, .slice a2 s.2.2.1.length c2, .slice a3 s.2.2.2.length c3]] (w.alloc (.cells #[.int .i64 s.1, .slice a1 s.2.1.length c1, .slice a2 s.2.2.1.length c2, .slice a3 s.2.2.2.length c3] 34)) fun e w' => ∃ a n c, e = .returned (.slice a n c) ∧ n = (s.2.2.2 ++ [s.2.2.1]).length ∧ Ls (s.2.2.2 ++ [s.2.2.1]) (.slice a n c) w' ∧ Below w.heap.size w w') := by
  refine (fork_any s (.int .i64 s.1, .slice a1 s.2.1.length c1, .slice a2 s.2.2.1.length c2, .slice a3 s.2.2.2.length c3) _ (Sh_below h bA) hz).mono fun e w' he => ?_
  obtain ⟨a, n, c, h1, h2, h3, h4⟩ := he; exact ⟨a, n, c, h1, h2, h3, bA.trans (h4.mono bA.size)⟩
 have hl : (s.2.2.2 ++ [s.2.2.1]).length ≤ 1048576 := by rw [List.length_append, List.length_singleton]; omega
 clear h bA hz; generalize s.2.2.2 ++ [s.2.2.1] = l at *; simp only [v4]; generalize s.2.1.length = n1 at *; generalize s.2.2.1.length = n2 at *; generalize s.2.2.2.length = n3 at *; generalize s.1 = kk at *; go_enter Try.func47, Try.ntmps47
 go_wp2_with fail
 refine KF.out.mono ?_; rintro e w1 ⟨a, n, c, rfl, en, hL, hb⟩; have hn : Hid (n = l.length) := en; have HL : Hid (Ls l (.slice a n c) w1) := hL; have HB : Hid (Below w.heap.size w w1) := hb; have HZ : Hid (l.length ≤ 1048576) := hl; clear en hL hb KF hl; go_wp2_with fail
 go_loopw [3, 9] (fun m i wr => ∃ k : Nat, k ≤ n ∧ i = .int .i64 (k : Int) ∧ m = .int .i64 (np (l.take k) : Int) ∧ w1 = wr) (fun _ i _ => ((n : Int) - intOf i).toNat)
 case atStart => exact ⟨0, Nat.zero_le _, rfl, by rw [List.take_zero]; rfl, rfl⟩
 case round =>
  obtain ⟨k, hk, rfl, rfl, rfl⟩ := hrel; by_cases h1 : k < n
  ·have d0 : (k : Int) < (n : Int) := by omega
   have d1 : (0 : Int) ≤ (k : Int) := by omega
   have en := hn.out; obtain ⟨ao2, cap2, e2, hL2⟩ := HL.out; obtain ⟨g, off, hao, hg, hcell⟩ := hL2 (by omega); obtain ⟨vi, c1, hvl⟩ := hcell k (by omega); have hao2 : a = some ⟨g, off, none⟩ := by
    rw [← hao]; injection e2
   subst hao2; obtain ⟨ai, ci, rfl, _⟩ := hvl; have hw := stp k (by have := HZ.out; show _ ≤ _; omega)
   have hs := np_snoc l k (by omega); have hle := np_le (l.take (k + 1)); rw [List.length_take] at hle; have hzz := HZ.out; have HN : Hid (np (l.take (k + 1)) = np (l.take k) + if 0 < (l.getD k []).length then 1 else 0) := hs
   have HW : Hid (wrap64 ((np (l.take k) : Int) + 1) = (np (l.take k) : Int) + 1) := by
    show _ = _
    have := np_le (l.take k); rw [List.length_take] at this; unfold wrap64
    omega
   clear hcell hL2 e2 hao en hg hs hle hzz; generalize np (l.take k) = q at *; obtain ⟨q2, hq2⟩ : ∃ q2, q2 = np (l.take (k + 1)) := ⟨_, rfl⟩; have HQ : Hid (q2 = np (l.take (k + 1))) := hq2; rw [← hq2] at HN; clear hq2; generalize (l.getD k []).length = m at *; by_cases m0 : m = 0
   ·subst m0; have e : Hid (q2 = q) := by have := HN.out; rwa [if_neg (by decide)] at this
    clear HN HW; go_wp2_with fail
    have hw := hw.out; go_roundw
    case rel => exact ⟨k + 1, h1, step_v k _ hw, by rw [← HQ.out, e.out], trivial⟩
    case measure => exact msr k n h1 _ hw
   ·have e : Hid (q2 = q + 1) := by have := HN.out; rwa [if_pos (by omega)] at this
    have t0 : (0 : Int) < (m : Int) := by omega
    have t1 : 0 < m := by omega
    clear HN m0; go_wp2_with fail
    have hw := hw.out; go_roundw
    case rel => exact ⟨k + 1, h1, step_v k _ hw, by rw [← HQ.out, e.out]; first | rfl | (rw [HW.out]; rfl), trivial⟩
    case measure => exact msr k n h1 _ hw
  ·have hkl : k = n := by omega
   subst hkl; have d0 : (k : Int) ≤ (k : Int) := Int.le_refl _; have e : Hid (l.take k = l) := by show _ = _; rw [hn.out, List.take_length]
   go_wp2_with fail
   go_ret
   exact ⟨by rw [e.out]; rfl, HB.out⟩
end Rs
end Go.Proofs.Ytlbdaccmnpcccaa
namespace Go.Proofs.Ytlbdaccmnpcccaa
namespace Rs
open Nb Sp Go.RowKit
set_option maxHeartbeats 2000000 in
set_option maxRecDepth 100000 in
theorem is_none (a1 a2 a3 : Option Addr) (n1 c1 n2 c2 n3 c3 : Nat) (w : World) :
  Calls Try.prog 32 #[.agg #[.int .i64 0, .slice a1 n1 c1, .slice a2 n2 c2, .slice a3 n3 c3]] w fun e w' => e = .returned (.bool (true)) ∧ Below w.heap.size w w' := by
 have HB : Hid (Below w.heap.size w (w.alloc (.cells #[.int .i64 0, .slice a1 n1 c1, .slice a2 n2 c2, .slice a3 n3 c3] 34))) := (Below.refl _ _).alloc (Nat.le_refl _) _; go_enter Try.func32, Try.ntmps32
 go_wp2_with fail
 go_ret
 exact ⟨rfl, HB.out⟩
set_option maxHeartbeats 2000000 in
set_option maxRecDepth 100000 in
theorem is_other (a1 a2 a3 : Option Addr) (n1 c1 n2 c2 n3 c3 : Nat) (w : World) (kk : Int) (h0 : Hid (kk ≠ 0)) (h1 : Hid (kk ≠ 1)) (h2 : Hid (kk ≠ 2)) (h3 : Hid (kk ≠ 3)) :
  Calls Try.prog 32 #[.agg #[.int .i64 kk, .slice a1 n1 c1, .slice a2 n2 c2, .slice a3 n3 c3]] w fun e w' => e = .returned (.bool (false)) ∧ Below w.heap.size w w' := by
 have HB : Hid (Below w.heap.size w (w.alloc (.cells #[.int .i64 kk, .slice a1 n1 c1, .slice a2 n2 c2, .slice a3 n3 c3] 34))) := (Below.refl _ _).alloc (Nat.le_refl _) _; have e0 : (kk == 0) = false := beq_eq_false_iff_ne.2 h0.out; have e1 : (kk == 1) = false := beq_eq_false_iff_ne.2 h1.out; have e2 : (kk == 2) = false := beq_eq_false_iff_ne.2 h2.out; have e3 : (kk == 3) = false := beq_eq_false_iff_ne.2 h3.out; go_enter Try.func32, Try.ntmps32
 go_wp2_with fail
 go_ret
 exact ⟨rfl, HB.out⟩
set_option maxHeartbeats 2000000 in
set_option maxRecDepth 100000 in
theorem is_leaf (a1 a2 a3 : Option Addr) (n1 c1 n2 c2 n3 c3 : Nat) (w : World) (B : Bool) (KP : Hid (Calls Try.prog 45 #[.slice a1 n1 c1] (w.alloc (.cells #[.int .i64 1, .slice a1 n1 c1, .slice a2 n2 c2, .slice a3 n3 c3] 34)) fun e w' => e = .returned (.bool B) ∧ w' = (w.alloc (.cells #[.int .i64 1, .slice a1 n1 c1, .slice a2 n2 c2, .slice a3 n3 c3] 34)))) :
  Calls Try.prog 32 #[.agg #[.int .i64 1, .slice a1 n1 c1, .slice a2 n2 c2, .slice a3 n3 c3]] w fun e w' => e = .returned (.bool (B && (decide (0 < n2) && decide (n2 ≤ 1024)))) ∧ Below w.heap.size w w' := by
 have HB : Hid (Below w.heap.size w (w.alloc (.cells #[.int .i64 1, .slice a1 n1 c1, .slice a2 n2 c2, .slice a3 n3 c3] 34))) := (Below.refl _ _).alloc (Nat.le_refl _) _; cases B with
 | false =>
  go_enter Try.func32, Try.ntmps32
  go_wp2_with fail
  refine KP.out.mono ?_; rintro e w1 ⟨rfl, rfl⟩; clear KP; go_wp2_with fail
  go_ret
  exact ⟨rfl, HB.out⟩
 | true =>
  by_cases m0 : n2 = 0
  ·subst m0; go_enter Try.func32, Try.ntmps32
   go_wp2_with fail
   refine KP.out.mono ?_; rintro e w1 ⟨rfl, rfl⟩; clear KP; go_wp2_with fail
   go_ret
   exact ⟨rfl, HB.out⟩
  ·have t0 : (0 : Int) < (n2 : Int) := by omega
   have t1 : 0 < n2 := by omega
   by_cases m1 : n2 ≤ 1024
   ·have t2 : (n2 : Int) ≤ 1024 := by omega
    have HE : Hid ((true && (decide (0 < n2) && decide (n2 ≤ 1024))) = true) := by show _ = _; simp [t1, m1]
    rw [HE.out]; go_enter Try.func32, Try.ntmps32
    go_wp2_with fail
    refine KP.out.mono ?_; rintro e w1 ⟨rfl, rfl⟩; clear KP; go_wp2_with fail
    go_ret
    exact ⟨rfl, HB.out⟩
   ·have t2 : decide ((n2 : Int) ≤ 1024) = false := decide_eq_false (by omega); have t3 : decide (n2 ≤ 1024) = false := decide_eq_false m1; have HE : Hid ((true && (decide (0 < n2) && decide (n2 ≤ 1024))) = false) := by show _ = _; simp [m1]
    clear m1; rw [HE.out]; go_enter Try.func32, Try.ntmps32
    go_wp2_with fail
    refine KP.out.mono ?_; rintro e w1 ⟨rfl, rfl⟩; clear KP; go_wp2_with fail
    go_ret
    exact ⟨rfl, HB.out⟩
set_option maxHeartbeats 2000000 in
set_option maxRecDepth 100000 in
theorem is_road (a1 a2 a3 : Option Addr) (n1 c1 n2 c2 n3 c3 : Nat) (w : World) (B : Bool) (KP : Hid (Calls Try.prog 45 #[.slice a1 n1 c1] (w.alloc (.cells #[.int .i64 2, .slice a1 n1 c1, .slice a2 n2 c2, .slice a3 n3 c3] 34)) fun e w' => e = .returned (.bool B) ∧ w' = (w.alloc (.cells #[.int .i64 2, .slice a1 n1 c1, .slice a2 n2 c2, .slice a3 n3 c3] 34)))) (m : Nat) (HC : Hid (n3 = 1 → ∃ (g off : Nat) (ai : Option Addr) (ci : Nat), a3 = some ⟨g, off, none⟩ ∧ (w.alloc (.cells #[.int .i64 2, .slice a1 n1 c1, .slice a2 n2 c2, .slice a3 n3 c3] 34)).cell? ⟨g, off, none⟩ = some (.slice ai m ci))) :
  Calls Try.prog 32 #[.agg #[.int .i64 2, .slice a1 n1 c1, .slice a2 n2 c2, .slice a3 n3 c3]] w fun e w' => e = .returned (.bool (decide (0 < n1) && (B && (decide (n3 = 1) && decide (m = 32))))) ∧ Below w.heap.size w w' := by
 have HB : Hid (Below w.heap.size w (w.alloc (.cells #[.int .i64 2, .slice a1 n1 c1, .slice a2 n2 c2, .slice a3 n3 c3] 34))) := (Below.refl _ _).alloc (Nat.le_refl _) _; by_cases m0 : n1 = 0
 ·subst m0; clear KP HC; have HE : Hid ((decide (0 < 0) && (B && (decide (n3 = 1) && decide (m = 32)))) = false) := by show _ = _; simp []
  rw [HE.out]; go_enter Try.func32, Try.ntmps32
  go_wp2_with fail
  go_ret
  exact ⟨rfl, HB.out⟩
 ·cases B with
  | false =>
   have t0 : (0 : Int) < (n1 : Int) := by omega
   have t1 : 0 < n1 := by omega
   clear m0; have HE : Hid ((decide (0 < n1) && (false && (decide (n3 = 1) && decide (m = 32)))) = false) := by show _ = _; simp []
   rw [HE.out]; go_enter Try.func32, Try.ntmps32
   go_wp2_with fail
   refine KP.out.mono ?_; rintro e w1 ⟨rfl, rfl⟩; clear KP; go_wp2_with fail
   go_ret
   exact ⟨rfl, HB.out⟩
  | true =>
   by_cases m1 : n3 = 1
   ·subst m1; obtain ⟨g, off, ai, ci, rfl, c0⟩ := HC.out rfl; clear HC; by_cases m2 : m = 32
    ·subst m2; have t0 : (0 : Int) < (n1 : Int) := by omega
     have t1 : 0 < n1 := by omega
     have HE : Hid ((decide (0 < n1) && (true && (decide (1 = 1) && decide (32 = 32)))) = true) := by show _ = _; simp [t1]
     rw [HE.out]; go_enter Try.func32, Try.ntmps32
     go_wp2_with fail
     refine KP.out.mono ?_; rintro e w1 ⟨rfl, rfl⟩; clear KP; go_wp2_with fail
     go_ret
     exact ⟨rfl, HB.out⟩
    ·have t0 : (0 : Int) < (n1 : Int) := by omega
     have t1 : 0 < n1 := by omega
     have e1 : ((m : Int) == 32) = false := beq_eq_false_iff_ne.2 (by omega); have e2 : (m == 32) = false := beq_eq_false_iff_ne.2 m2; have HE : Hid ((decide (0 < n1) && (true && (decide (1 = 1) && decide (m = 32)))) = false) := by show _ = _; simp [m2]
     rw [HE.out]; go_enter Try.func32, Try.ntmps32
     go_wp2_with fail
     refine KP.out.mono ?_; rintro e w1 ⟨rfl, rfl⟩; clear KP; go_wp2_with fail
     go_ret
     exact ⟨rfl, HB.out⟩
   ·have t0 : (0 : Int) < (n1 : Int) := by omega
    have t1 : 0 < n1 := by omega
    have e1 : ((n3 : Int) == 1) = false := beq_eq_false_iff_ne.2 (by omega); have e2 : (n3 == 1) = false := beq_eq_false_iff_ne.2 m1; clear HC; have HE : Hid ((decide (0 < n1) && (true && (decide (n3 = 1) && decide (m = 32)))) = false) := by show _ = _; simp [m1]
    rw [HE.out]; go_enter Try.func32, Try.ntmps32
    go_wp2_with fail
    refine KP.out.mono ?_; rintro e w1 ⟨rfl, rfl⟩; clear KP; go_wp2_with fail
    go_ret
    exact ⟨rfl, HB.out⟩
set_option maxHeartbeats 2000000 in
set_option maxRecDepth 100000 in
theorem is_fork (a1 a2 a3 : Option Addr) (n1 c1 n2 c2 n3 c3 : Nat) (w : World) (B : Bool) (q : Nat) (KA : Hid (Calls Try.prog 46 #[.slice a3 n3 c3] (w.alloc (.cells #[.int .i64 3, .slice a1 n1 c1, .slice a2 n2 c2, .slice a3 n3 c3] 34)) fun e w' => e = .returned (.bool B) ∧ Below (w.alloc (.cells #[.int .i64 3, .slice a1 n1 c1, .slice a2 n2 c2, .slice a3 n3 c3] 34)).heap.size (w.alloc (.cells #[.int .i64 3, .slice a1 n1 c1, .slice a2 n2 c2, .slice a3 n3 c3] 34)) w')) (KQ : Hid (∀ wx : World, Below (w.alloc (.cells #[.int .i64 3, .slice a1 n1 c1, .slice a2 n2 c2, .slice a3 n3 c3] 34)).heap.size (w.alloc (.cells #[.int .i64 3, .slice a1 n1 c1, .slice a2 n2 c2, .slice a3 n3 c3] 34)) wx → Calls Try.prog 47 #[.agg #[.int .i64 3, .slice a1 n1 c1, .slice a2 n2 c2, .slice a3 n3 c3]] wx fun e w' => e = .returned (.int .i64 (q : Int)) ∧ Below wx.heap.size wx w')) :
  Calls Try.prog 32 #[.agg #[.int .i64 3, .slice a1 n1 c1, .slice a2 n2 c2, .slice a3 n3 c3]] w fun e w' => e = .returned (.bool (decide (n3 = 16) && (decide (n2 ≤ 1024) && (B && decide (2 ≤ q))))) ∧ Below w.heap.size w w' := by
 have HB : Hid (Below w.heap.size w (w.alloc (.cells #[.int .i64 3, .slice a1 n1 c1, .slice a2 n2 c2, .slice a3 n3 c3] 34))) := (Below.refl _ _).alloc (Nat.le_refl _) _; by_cases m0 : n3 = 16
 ·subst m0; by_cases m1 : n2 ≤ 1024
  ·cases B with
   | false =>
    have t2 : (n2 : Int) ≤ 1024 := by omega
    have HE : Hid ((decide (16 = 16) && (decide (n2 ≤ 1024) && (false && decide (2 ≤ q)))) = false) := by show _ = _; simp []
    rw [HE.out]; go_enter Try.func32, Try.ntmps32
    go_wp2_with fail
    refine KA.out.mono ?_; rintro e w1 ⟨rfl, hb⟩; have HC := heap_alloc_new w (.cells #[.int .i64 3, .slice a1 n1 c1, .slice a2 n2 c2, .slice a3 16 c3] 34); have hlt : w.heap.size < (w.alloc (.cells #[.int .i64 3, .slice a1 n1 c1, .slice a2 n2 c2, .slice a3 16 c3] 34)).heap.size := by simp
    have q0 : w1.cell? ⟨w.heap.size, 0, none⟩ = some (.int .i64 3) := (hb.cell (p := ⟨w.heap.size, 0, none⟩) hlt).trans (by simp only [World.cell?, HC]; rfl)
    have q1 : w1.cell? ⟨w.heap.size, 1, none⟩ = some (.slice a1 n1 c1) := (hb.cell (p := ⟨w.heap.size, 1, none⟩) hlt).trans (by simp only [World.cell?, HC]; rfl)
    have q2 : w1.cell? ⟨w.heap.size, 2, none⟩ = some (.slice a2 n2 c2) := (hb.cell (p := ⟨w.heap.size, 2, none⟩) hlt).trans (by simp only [World.cell?, HC]; rfl)
    have q3 : w1.cell? ⟨w.heap.size, 3, none⟩ = some (.slice a3 16 c3) := (hb.cell (p := ⟨w.heap.size, 3, none⟩) hlt).trans (by simp only [World.cell?, HC]; rfl)
    have HB1 : Hid (Below w.heap.size w w1) := HB.out.trans (hb.mono HB.out.size); have KQ1 : Hid (Calls Try.prog 47 #[.agg #[.int .i64 3, .slice a1 n1 c1, .slice a2 n2 c2, .slice a3 16 c3]] w1 fun e w' => e = .returned (.int .i64 (q : Int)) ∧ Below w1.heap.size w1 w') := KQ.out w1 hb
    clear HC hlt hb KA KQ; go_wp2_with fail
    go_ret
    exact ⟨rfl, HB1.out⟩
   | true =>
    by_cases m2 : 2 ≤ q
    ·have t2 : (n2 : Int) ≤ 1024 := by omega
     have t4 : (2 : Int) ≤ (q : Int) := by omega
     have HE : Hid ((decide (16 = 16) && (decide (n2 ≤ 1024) && (true && decide (2 ≤ q)))) = true) := by show _ = _; simp [m1, m2]
     rw [HE.out]; go_enter Try.func32, Try.ntmps32
     go_wp2_with fail
     refine KA.out.mono ?_; rintro e w1 ⟨rfl, hb⟩; have HC := heap_alloc_new w (.cells #[.int .i64 3, .slice a1 n1 c1, .slice a2 n2 c2, .slice a3 16 c3] 34); have hlt : w.heap.size < (w.alloc (.cells #[.int .i64 3, .slice a1 n1 c1, .slice a2 n2 c2, .slice a3 16 c3] 34)).heap.size := by simp
     have q0 : w1.cell? ⟨w.heap.size, 0, none⟩ = some (.int .i64 3) := (hb.cell (p := ⟨w.heap.size, 0, none⟩) hlt).trans (by simp only [World.cell?, HC]; rfl)
     have q1 : w1.cell? ⟨w.heap.size, 1, none⟩ = some (.slice a1 n1 c1) := (hb.cell (p := ⟨w.heap.size, 1, none⟩) hlt).trans (by simp only [World.cell?, HC]; rfl)
     have q2 : w1.cell? ⟨w.heap.size, 2, none⟩ = some (.slice a2 n2 c2) := (hb.cell (p := ⟨w.heap.size, 2, none⟩) hlt).trans (by simp only [World.cell?, HC]; rfl)
     have q3 : w1.cell? ⟨w.heap.size, 3, none⟩ = some (.slice a3 16 c3) := (hb.cell (p := ⟨w.heap.size, 3, none⟩) hlt).trans (by simp only [World.cell?, HC]; rfl)
     have HB1 : Hid (Below w.heap.size w w1) := HB.out.trans (hb.mono HB.out.size); have KQ1 : Hid (Calls Try.prog 47 #[.agg #[.int .i64 3, .slice a1 n1 c1, .slice a2 n2 c2, .slice a3 16 c3]] w1 fun e w' => e = .returned (.int .i64 (q : Int)) ∧ Below w1.heap.size w1 w') := KQ.out w1 hb
     clear HC hlt hb KA KQ; go_wp2_with fail
     refine KQ1.out.mono ?_; rintro e w2 ⟨rfl, hb2⟩; have HB2 : Hid (Below w.heap.size w w2) := HB1.out.trans (hb2.mono HB1.out.size); clear hb2 KQ1 q0 q1 q2 q3; go_wp2_with fail
     go_ret
     exact ⟨rfl, HB2.out⟩
    ·have t2 : (n2 : Int) ≤ 1024 := by omega
     have t4 : decide ((2 : Int) ≤ (q : Int)) = false := decide_eq_false (by omega); have t5 : decide (2 ≤ q) = false := decide_eq_false m2; have HE : Hid ((decide (16 = 16) && (decide (n2 ≤ 1024) && (true && decide (2 ≤ q)))) = false) := by show _ = _; simp [m2]
     rw [HE.out]; clear m2; go_enter Try.func32, Try.ntmps32
     go_wp2_with fail
     refine KA.out.mono ?_; rintro e w1 ⟨rfl, hb⟩; have HC := heap_alloc_new w (.cells #[.int .i64 3, .slice a1 n1 c1, .slice a2 n2 c2, .slice a3 16 c3] 34); have hlt : w.heap.size < (w.alloc (.cells #[.int .i64 3, .slice a1 n1 c1, .slice a2 n2 c2, .slice a3 16 c3] 34)).heap.size := by simp
     have q0 : w1.cell? ⟨w.heap.size, 0, none⟩ = some (.int .i64 3) := (hb.cell (p := ⟨w.heap.size, 0, none⟩) hlt).trans (by simp only [World.cell?, HC]; rfl)
     have q1 : w1.cell? ⟨w.heap.size, 1, none⟩ = some (.slice a1 n1 c1) := (hb.cell (p := ⟨w.heap.size, 1, none⟩) hlt).trans (by simp only [World.cell?, HC]; rfl)
     have q2 : w1.cell? ⟨w.heap.size, 2, none⟩ = some (.slice a2 n2 c2) := (hb.cell (p := ⟨w.heap.size, 2, none⟩) hlt).trans (by simp only [World.cell?, HC]; rfl)
     have q3 : w1.cell? ⟨w.heap.size, 3, none⟩ = some (.slice a3 16 c3) := (hb.cell (p := ⟨w.heap.size, 3, none⟩) hlt).trans (by simp only [World.cell?, HC]; rfl)
     have HB1 : Hid (Below w.heap.size w w1) := HB.out.trans (hb.mono HB.out.size); have KQ1 : Hid (Calls Try.prog 47 #[.agg #[.int .i64 3, .slice a1 n1 c1, .slice a2 n2 c2, .slice a3 16 c3]] w1 fun e w' => e = .returned (.int .i64 (q : Int)) ∧ Below w1.heap.size w1 w') := KQ.out w1 hb
     clear HC hlt hb KA KQ; go_wp2_with fail
     refine KQ1.out.mono ?_; rintro e w2 ⟨rfl, hb2⟩; have HB2 : Hid (Below w.heap.size w w2) := HB1.out.trans (hb2.mono HB1.out.size); clear hb2 KQ1 q0 q1 q2 q3; go_wp2_with fail
     go_ret
     exact ⟨rfl, HB2.out⟩
  ·have t2 : decide ((n2 : Int) ≤ 1024) = false := decide_eq_false (by omega); have t3 : decide (n2 ≤ 1024) = false := decide_eq_false m1; clear KA KQ; have HE : Hid ((decide (16 = 16) && (decide (n2 ≤ 1024) && (B && decide (2 ≤ q)))) = false) := by show _ = _; simp [m1]
   rw [HE.out]; clear m1; go_enter Try.func32, Try.ntmps32
   go_wp2_with fail
   go_ret
   exact ⟨rfl, HB.out⟩
 ·have e1 : ((n3 : Int) == 16) = false := beq_eq_false_iff_ne.2 (by omega); have e2 : (n3 == 16) = false := beq_eq_false_iff_ne.2 m0; clear KA KQ; have HE : Hid ((decide (n3 = 16) && (decide (n2 ≤ 1024) && (B && decide (2 ≤ q)))) = false) := by show _ = _; simp [m0]
  rw [HE.out]; go_enter Try.func32, Try.ntmps32
  go_wp2_with fail
  go_ret
  exact ⟨rfl, HB.out⟩
end Rs
end Go.Proofs.Ytlbdaccmnpcccaa
namespace Go.Proofs.Ytlbdaccmnpcccaa
namespace Rs
open Nb Sp Go.RowKit
def isS (s : Shp) : Bool :=
 if s.1 = 0 then true
 else if s.1 = 1 then pb s.2.1 && (decide (0 < s.2.2.1.length) && decide (s.2.2.1.length ≤ 1024))
 else if s.1 = 2 then decide (0 < s.2.1.length) && (pb s.2.1 && (decide (s.2.2.2.length = 1) && decide ((s.2.2.2.getD 0 []).length = 32)))
 else if s.1 = 3 then decide (s.2.2.2.length = 16) && (decide (s.2.2.1.length ≤ 1024) && (s.2.2.2.all sm && decide (2 ≤ np (s.2.2.2 ++ [s.2.2.1]))))
 else false
theorem isshape_any (s : Shp) (x : V4) (w : World) (h : Sh s x w) (hp : s.2.1.length ≤ 4194300) (hz : s.2.2.2.length ≤ 1048575) :
  Calls Try.prog 32 #[v4 x] w fun e w' => e = .returned (.bool (isS s)) ∧ Below w.heap.size w w' := by
 obtain ⟨a1, c1, a2, c2, a3, c3, rfl⟩ := Sh_form h; obtain ⟨kk, p, v, ks⟩ := s; dsimp only at hp hz; have bA : Below w.heap.size w (w.alloc (.cells #[.int .i64 kk, .slice a1 p.length c1, .slice a2 v.length c2, .slice a3 ks.length c3] 34)) := (Below.refl _ _).alloc (Nat.le_refl _) _; have hA := Sh_below h bA; have vw : Sp.Vw p a1 (w.alloc (.cells #[.int .i64 kk, .slice a1 p.length c1, .slice a2 v.length c2, .slice a3 ks.length c3] 34)) := by
  obtain ⟨ao, cap, e, _, hv⟩ := hA.2.1; injection e with e1 _ _
  rwa [← e1] at hv
 have KP := ispath_any p a1 c1 _ (by show _ ≤ _; omega) vw
 by_cases k0 : kk = 0
 ·subst k0; exact is_none a1 a2 a3 _ c1 _ c2 _ c3 w
 by_cases k1 : kk = 1
 ·subst k1; exact is_leaf a1 a2 a3 _ c1 _ c2 _ c3 w (pb p) KP
 by_cases k2 : kk = 2
 ·subst k2; refine is_road a1 a2 a3 _ c1 _ c2 _ c3 w (pb p) KP (ks.getD 0 []).length (fun e => ?_)
  obtain ⟨ao, cap, e2, hL⟩ := hA.2.2.2; dsimp only at e2 hL; obtain ⟨g, off, rfl, _, hc⟩ := hL (by omega); obtain ⟨vi, h1, ai, ci, rfl, _⟩ := hc 0 (by omega); injection e2 with e3 _ _
  exact ⟨g, off, ai, ci, e3, h1⟩
 by_cases k3 : kk = 3
 ·subst k3; refine is_fork a1 a2 a3 _ c1 _ c2 _ c3 w (ks.all sm) (np (ks ++ [v])) ?_ (fun wx hb => ?_)
  ·exact sums_any ks a3 ks.length c3 _ rfl (by show _ ≤ _; omega) hA.2.2.2
  ·exact parts_any (3, p, v, ks) (.int .i64 3, .slice a1 p.length c1, .slice a2 v.length c2, .slice a3 ks.length c3) wx (Sh_below hA hb) hz
 ·have e : isS (kk, p, v, ks) = false := by unfold isS; simp [k0, k1, k2, k3]
  rw [e]; exact is_other a1 a2 a3 _ c1 _ c2 _ c3 w kk k0 k1 k2 k3
end Rs
end Go.Proofs.Ytlbdaccmnpcccaa
namespace Go.Proofs.Ytlbdaccmnpcccaa
namespace Rs
open Nb Sp Go.RowKit
def bs (l : List UInt8) : ByteArray := ⟨l.toArray⟩
theorem bs_list (l : List UInt8) : (bs l).toList = l := by
 unfold bs
 simp [ByteArray.toList_eq]
theorem bs_eq (a b : List UInt8) : ((bs a).toList == (bs b).toList) = decide (a = b) := by
 rw [bs_list, bs_list]; by_cases h : a = b
 ·subst h; simp
 ·simp [h]
end Rs
end Go.Proofs.Ytlbdaccmnpcccaa
namespace Go.Proofs.Ytlbdaccmnpcccaa
namespace Rs
open Nb Sp Go.RowKit

end Rs
end Go.Proofs.Ytlbdaccmnpcccaa
namespace Go.Proofs.Ytlbdaccmnpcccaa
theorem pow_split (p : Nat) : 2 ^ (64 * (p / 8)) * 2 ^ (8 * (p % 8)) = 2 ^ (8 * p) := by
 rw [← Nat.pow_add]; congr 1; omega
theorem dg_nat (n i : Nat) : dg n i = ((n / 2 ^ (64 * i) % 18446744073709551616 : Nat) : Int) := rfl
theorem byte_in_below (N x k o : Nat) (ho : o < k / 8) : dg (N + x * 2 ^ (8 * k)) o = dg N o := by
 rw [dg_nat, dg_nat]; obtain ⟨d, hd⟩ : ∃ d, 8 * k = 64 * o + (64 + d) := ⟨8 * k - 64 * o - 64, by omega⟩; rw [hd, Nat.pow_add, Nat.pow_add, Nat.mul_left_comm, Nat.add_mul_div_left _ _ (Nat.two_pow_pos _), Nat.mul_left_comm, show (2 : Nat) ^ 64 = 18446744073709551616 by decide, Nat.add_mul_mod_self_left]
theorem byte_in_above (N x k o : Nat) (hN : N < 2 ^ (8 * k)) (hx : x < 256) (ho : k / 8 < o) : dg (N + x * 2 ^ (8 * k)) o = dg N o := by
 have h1 : N + x * 2 ^ (8 * k) < 2 ^ (8 * k + 8) := by
  rw [Nat.pow_add, show (2 : Nat) ^ 8 = 256 by decide]; have := Nat.mul_le_mul_right (2 ^ (8 * k)) (show x + 1 ≤ 256 from hx); rw [Nat.add_mul] at this; omega
 have h2 : 2 ^ (8 * k + 8) ≤ 2 ^ (64 * o) := Nat.pow_le_pow_right (by decide) (by omega); have h3 : 2 ^ (8 * k) ≤ 2 ^ (64 * o) := Nat.pow_le_pow_right (by decide) (by omega); rw [dg_nat, dg_nat, Nat.div_eq_of_lt (by omega), Nat.div_eq_of_lt (by omega)]
theorem byte_in_at (N x k : Nat) (hN : N < 2 ^ (8 * k)) (hx : x < 256) : bits .or .u64 (dg N (k / 8)) (IntKind.u64.wrap ((x : Int) * 2 ^ (8 * (k % 8)))) = dg (N + x * 2 ^ (8 * k)) (k / 8) := by
 have hs : 8 * (k % 8) ≤ 56 := by omega
 have e1 : N / 2 ^ (64 * (k / 8)) < 2 ^ (8 * (k % 8)) := by
  rw [Nat.div_lt_iff_lt_mul (Nat.two_pow_pos _), Nat.mul_comm, pow_split]; exact hN
 have e2 : (N + x * 2 ^ (8 * k)) / 2 ^ (64 * (k / 8)) = N / 2 ^ (64 * (k / 8)) + x * 2 ^ (8 * (k % 8)) := by
  rw [← pow_split, Nat.mul_left_comm, Nat.add_mul_div_left _ _ (Nat.two_pow_pos _)]
 generalize hq : N / 2 ^ (64 * (k / 8)) = q at *; generalize 8 * (k % 8) = s at *; have p56 : 2 ^ s ≤ 2 ^ 56 := Nat.pow_le_pow_right (by decide) hs; have hb : q + x * 2 ^ s < 18446744073709551616 := by
  have := Nat.mul_le_mul (show x ≤ 255 by omega) p56; have : (2 : Nat) ^ 56 = 72057594037927936 := by decide
  omega
 rw [dg_nat, dg_nat, e2, hq, IntKind.wrap_u64]; have e3 : (x : Int) * 2 ^ s % 18446744073709551616 = ((x * 2 ^ s : Nat) : Int) := by
  have : (x : Int) * 2 ^ s = ((x * 2 ^ s : Nat) : Int) := by simp
  rw [this]; omega
 rw [e3, Nat.mod_eq_of_lt (show q < 18446744073709551616 by omega), u64_or_nat _ _ (by omega) (by omega), Nat.mod_eq_of_lt hb, Nat.or_comm, nat_join s _ _ (Nat.mul_mod_left _ _) e1, Nat.add_comm]
end Go.Proofs.Ytlbdaccmnpcccaa
namespace Go.Proofs.Ytlbdaccmnpcccaa
open Go.RowKit Go.Shelf
attribute [local go_sem ↓] Go.wp_at_zero Go.wp_at_succ

end Go.Proofs.Ytlbdaccmnpcccaa
namespace Go.Proofs.Ytlbdaccmnpcccaa
open Go.RowKit Go.Shelf
end Go.Proofs.Ytlbdaccmnpcccaa
namespace Go.Proofs.Ytlbdaccmnpcccaa
open Go.RowKit Go.Shelf
def bt (n j : Nat) : Int := ((n / 2 ^ (8 * (31 - j)) % 256 : Nat) : Int)
def BL (n k : Nat) : List Value := (List.range k).map fun j => .int .u8 (bt n j)
theorem BL_succ (n k : Nat) : BL n (k + 1) = BL n k ++ [.int .u8 (bt n k)] := by simp [BL, List.range_succ]
theorem bt_dg (a j m : Nat) (hj : j < 4) (hm : m < 8) : dg a (3 - j) / 2 ^ (56 - 8 * m) % 256 = bt a (8 * j + m) := by
 have hj' : j = 0 ∨ j = 1 ∨ j = 2 ∨ j = 3 := by omega
 have hm' : m = 0 ∨ m = 1 ∨ m = 2 ∨ m = 3 ∨ m = 4 ∨ m = 5 ∨ m = 6 ∨ m = 7 := by omega
 rcases hj' with rfl | rfl | rfl | rfl <;> rcases hm' with rfl | rfl | rfl | rfl | rfl | rfl | rfl | rfl <;> simp [dg, bt] <;> omega
theorem Try.info5 : (Try.prog.info? 5).map (fun i => (i.zero, i.size, i.bytes)) = some (some (.int .u8 0), 1, 1) := by kernel_rfl
set_option maxHeartbeats 1000000 in
set_option maxRecDepth 100000 in
theorem wbytes_any (a : Nat) (w : World) :
  Calls Try.prog 67 #[Wd a] w fun e w' => ∃ g cap, e = .returned (.slice (some ⟨g, 0, none⟩) 32 cap) ∧ w'.ownsRow (w.heap.size + 1) 5 1 (.slice (some ⟨g, 0, none⟩) 32 cap) 32 (BL a 32) ∧ Below w.heap.size w w' := by
 obtain ⟨i0, hi, hz0, hz1, hz2⟩ := info_parts Try.info5; conv => arg 3; unfold Wd
 go_enter Try.func67, Try.ntmps67
 go_wp2
 go_loopw [3, 4] (fun v i wr => ∃ j : Nat, j ≤ 4 ∧ i = .int .i64 (3 - j) ∧ wr.ownsRow (w.heap.size + 1) 5 1 v (8 * j) (BL a (8 * j)) ∧ Below (w.heap.size + 1) (w.alloc (.cells #[.int .u64 (dg a 0), .int .u64 (dg a 1), .int .u64 (dg a 2), .int .u64 (dg a 3)] 106)) wr) (fun _ i _ => (intOf i + 1).toNat)
 case atStart => exact ⟨0, by omega, rfl, World.ownsRow_nil _ _ _ _, Below.refl _ _⟩
 case round =>
  obtain ⟨j, hj, rfl, hown, hb⟩ := hrel; have hjs : j = 0 ∨ j = 1 ∨ j = 2 ∨ j = 3 ∨ j = 4 := by omega
  clear hj; rcases hjs with rfl | rfl | rfl | rfl | rfl
  ·go_wp2
   go_loopw [3, 5] (fun v s wx => ∃ m : Nat, m ≤ 8 ∧ s = .int .i64 (56 - 8 * m) ∧ wx.ownsRow (w.heap.size + 1) 5 1 v m (BL a m) ∧ Below (w.heap.size + 1) (w.alloc (.cells #[.int .u64 (dg a 0), .int .u64 (dg a 1), .int .u64 (dg a 2), .int .u64 (dg a 3)] 106)) wx) (fun _ s _ => (intOf s + 8).toNat)
   case atStart => exact ⟨0, by omega, rfl, hown, hb⟩
   case round =>
    clear hown hb; obtain ⟨m, hm, rfl, hown, hb⟩ := hrel; have hcell : wr.cell? ⟨w.heap.size, 3, none⟩ = some (.int .u64 (dg a 3)) := by
     rw [hb.cell (p := ⟨w.heap.size, 3, none⟩) (by simp)]; simp
    have hn := dg_nn a 3; by_cases hlm : m < 8
    ·go_wp2_with (at_builtin; refine wpList_append_own _ rfl _ _ 24 rfl (w.heap.size + 1) 5 i0 (.int .u8 0) 1 1 Try.underlying24 hi hz0 hz1 hz2 rfl (by decide) _ _ _ rfl (hown.alloc _) ⟨wr.heap.size, 0, none⟩ 1 1 [.int .u8 (dg a 3 / 2 ^ (56 - 8 * m) % 256)] rfl rfl ?c1 ?c2 ?c3 ?c4 ?c5 ?_)
     case c1 =>
      intro j u hj; match j, hj with
      | 0, hj => simp at hj; subst hj; simp [Addr.add]
     case c2 => intro u hu; simp at hu; subst hu; rfl
     case c3 => unfold maxLen; omega
     case c4 => omega
     case c5 => have := hb.size; simp at this; simp; omega
     intro v' w1 hown' hgrow _; have hsz := hb.size; simp at hsz
     have hb1 : Below (w.heap.size + 1) (w.alloc (.cells #[.int .u64 (dg a 0), .int .u64 (dg a 1), .int .u64 (dg a 2), .int .u64 (dg a 3)] 106)) w1 := (hb.alloc (by omega) _).grown hgrow (by simp; omega) (fun k hk => (hown.lt k hk).1)
     have R : Hid (w1.ownsRow (w.heap.size + 1) 5 1 v' (m + 1) (BL a (m + 1))) := by
      have eb := bt_dg a 0 m (by decide) hlm; rw [show 8 * 0 + m = m by omega] at eb; rw [BL_succ, ← eb]; exact hown'
     clear hown' hgrow hown hb hcell hsz; go_wp2
     go_roundw
     case rel => first | exact ⟨m + 1, by omega, by go_num, R.out, hb1⟩ | ((repeat apply Exists.intro); exact ⟨⟨m + 1, by omega, by go_num, R.out, hb1⟩, rfl⟩)
     case measure => simp [intOf]; omega
    ·have hm8 : m = 8 := by omega
     subst hm8; clear hn hcell; go_wp2
     go_roundw
     case rel => exact ⟨1, by omega, by go_num, hown, hb⟩
     case measure => simp [intOf]
  ·go_wp2
   go_loopw [3, 5] (fun v s wx => ∃ m : Nat, m ≤ 8 ∧ s = .int .i64 (56 - 8 * m) ∧ wx.ownsRow (w.heap.size + 1) 5 1 v (8 + m) (BL a (8 + m)) ∧ Below (w.heap.size + 1) (w.alloc (.cells #[.int .u64 (dg a 0), .int .u64 (dg a 1), .int .u64 (dg a 2), .int .u64 (dg a 3)] 106)) wx) (fun _ s _ => (intOf s + 8).toNat)
   case atStart => exact ⟨0, by omega, rfl, hown, hb⟩
   case round =>
    clear hown hb; obtain ⟨m, hm, rfl, hown, hb⟩ := hrel; have hcell : wr.cell? ⟨w.heap.size, 2, none⟩ = some (.int .u64 (dg a 2)) := by
     rw [hb.cell (p := ⟨w.heap.size, 2, none⟩) (by simp)]; simp
    have hn := dg_nn a 2; by_cases hlm : m < 8
    ·go_wp2_with (at_builtin; refine wpList_append_own _ rfl _ _ 24 rfl (w.heap.size + 1) 5 i0 (.int .u8 0) 1 1 Try.underlying24 hi hz0 hz1 hz2 rfl (by decide) _ _ _ rfl (hown.alloc _) ⟨wr.heap.size, 0, none⟩ 1 1 [.int .u8 (dg a 2 / 2 ^ (56 - 8 * m) % 256)] rfl rfl ?c1 ?c2 ?c3 ?c4 ?c5 ?_)
     case c1 =>
      intro j u hj; match j, hj with
      | 0, hj => simp at hj; subst hj; simp [Addr.add]
     case c2 => intro u hu; simp at hu; subst hu; rfl
     case c3 => unfold maxLen; omega
     case c4 => omega
     case c5 => have := hb.size; simp at this; simp; omega
     intro v' w1 hown' hgrow _; have hsz := hb.size; simp at hsz
     have hb1 : Below (w.heap.size + 1) (w.alloc (.cells #[.int .u64 (dg a 0), .int .u64 (dg a 1), .int .u64 (dg a 2), .int .u64 (dg a 3)] 106)) w1 := (hb.alloc (by omega) _).grown hgrow (by simp; omega) (fun k hk => (hown.lt k hk).1)
     have R : Hid (w1.ownsRow (w.heap.size + 1) 5 1 v' (8 + (m + 1)) (BL a (8 + (m + 1)))) := by
      have eb := bt_dg a 1 m (by decide) hlm; rw [← Nat.add_assoc, BL_succ, ← eb]; exact hown'
     clear hown' hgrow hown hb hcell hsz; go_wp2
     go_roundw
     case rel => first | exact ⟨m + 1, by omega, by go_num, R.out, hb1⟩ | ((repeat apply Exists.intro); exact ⟨⟨m + 1, by omega, by go_num, R.out, hb1⟩, rfl⟩)
     case measure => simp [intOf]; omega
    ·have hm8 : m = 8 := by omega
     subst hm8; clear hn hcell; go_wp2
     go_roundw
     case rel => exact ⟨2, by omega, by go_num, hown, hb⟩
     case measure => simp [intOf]
  ·go_wp2
   go_loopw [3, 5] (fun v s wx => ∃ m : Nat, m ≤ 8 ∧ s = .int .i64 (56 - 8 * m) ∧ wx.ownsRow (w.heap.size + 1) 5 1 v (16 + m) (BL a (16 + m)) ∧ Below (w.heap.size + 1) (w.alloc (.cells #[.int .u64 (dg a 0), .int .u64 (dg a 1), .int .u64 (dg a 2), .int .u64 (dg a 3)] 106)) wx) (fun _ s _ => (intOf s + 8).toNat)
   case atStart => exact ⟨0, by omega, rfl, hown, hb⟩
   case round =>
    clear hown hb; obtain ⟨m, hm, rfl, hown, hb⟩ := hrel; have hcell : wr.cell? ⟨w.heap.size, 1, none⟩ = some (.int .u64 (dg a 1)) := by
     rw [hb.cell (p := ⟨w.heap.size, 1, none⟩) (by simp)]; simp
    have hn := dg_nn a 1; by_cases hlm : m < 8
    ·go_wp2_with (at_builtin; refine wpList_append_own _ rfl _ _ 24 rfl (w.heap.size + 1) 5 i0 (.int .u8 0) 1 1 Try.underlying24 hi hz0 hz1 hz2 rfl (by decide) _ _ _ rfl (hown.alloc _) ⟨wr.heap.size, 0, none⟩ 1 1 [.int .u8 (dg a 1 / 2 ^ (56 - 8 * m) % 256)] rfl rfl ?c1 ?c2 ?c3 ?c4 ?c5 ?_)
     case c1 =>
      intro j u hj; match j, hj with
      | 0, hj => simp at hj; subst hj; simp [Addr.add]
     case c2 => intro u hu; simp at hu; subst hu; rfl
     case c3 => unfold maxLen; omega
     case c4 => omega
     case c5 => have := hb.size; simp at this; simp; omega
     intro v' w1 hown' hgrow _; have hsz := hb.size; simp at hsz
     have hb1 : Below (w.heap.size + 1) (w.alloc (.cells #[.int .u64 (dg a 0), .int .u64 (dg a 1), .int .u64 (dg a 2), .int .u64 (dg a 3)] 106)) w1 := (hb.alloc (by omega) _).grown hgrow (by simp; omega) (fun k hk => (hown.lt k hk).1)
     have R : Hid (w1.ownsRow (w.heap.size + 1) 5 1 v' (16 + (m + 1)) (BL a (16 + (m + 1)))) := by
      have eb := bt_dg a 2 m (by decide) hlm; rw [← Nat.add_assoc, BL_succ, ← eb]; exact hown'
     clear hown' hgrow hown hb hcell hsz; go_wp2
     go_roundw
     case rel => first | exact ⟨m + 1, by omega, by go_num, R.out, hb1⟩ | ((repeat apply Exists.intro); exact ⟨⟨m + 1, by omega, by go_num, R.out, hb1⟩, rfl⟩)
     case measure => simp [intOf]; omega
    ·have hm8 : m = 8 := by omega
     subst hm8; clear hn hcell; go_wp2
     go_roundw
     case rel => exact ⟨3, by omega, by go_num, hown, hb⟩
     case measure => simp [intOf]
  ·go_wp2
   go_loopw [3, 5] (fun v s wx => ∃ m : Nat, m ≤ 8 ∧ s = .int .i64 (56 - 8 * m) ∧ wx.ownsRow (w.heap.size + 1) 5 1 v (24 + m) (BL a (24 + m)) ∧ Below (w.heap.size + 1) (w.alloc (.cells #[.int .u64 (dg a 0), .int .u64 (dg a 1), .int .u64 (dg a 2), .int .u64 (dg a 3)] 106)) wx) (fun _ s _ => (intOf s + 8).toNat)
   case atStart => exact ⟨0, by omega, rfl, hown, hb⟩
   case round =>
    clear hown hb; obtain ⟨m, hm, rfl, hown, hb⟩ := hrel; have hcell : wr.cell? ⟨w.heap.size, 0, none⟩ = some (.int .u64 (dg a 0)) := by
     rw [hb.cell (p := ⟨w.heap.size, 0, none⟩) (by simp)]; simp
    have hn := dg_nn a 0; by_cases hlm : m < 8
    ·go_wp2_with (at_builtin; refine wpList_append_own _ rfl _ _ 24 rfl (w.heap.size + 1) 5 i0 (.int .u8 0) 1 1 Try.underlying24 hi hz0 hz1 hz2 rfl (by decide) _ _ _ rfl (hown.alloc _) ⟨wr.heap.size, 0, none⟩ 1 1 [.int .u8 (dg a 0 / 2 ^ (56 - 8 * m) % 256)] rfl rfl ?c1 ?c2 ?c3 ?c4 ?c5 ?_)
     case c1 =>
      intro j u hj; match j, hj with
      | 0, hj => simp at hj; subst hj; simp [Addr.add]
     case c2 => intro u hu; simp at hu; subst hu; rfl
     case c3 => unfold maxLen; omega
     case c4 => omega
     case c5 => have := hb.size; simp at this; simp; omega
     intro v' w1 hown' hgrow _; have hsz := hb.size; simp at hsz
     have hb1 : Below (w.heap.size + 1) (w.alloc (.cells #[.int .u64 (dg a 0), .int .u64 (dg a 1), .int .u64 (dg a 2), .int .u64 (dg a 3)] 106)) w1 := (hb.alloc (by omega) _).grown hgrow (by simp; omega) (fun k hk => (hown.lt k hk).1)
     have R : Hid (w1.ownsRow (w.heap.size + 1) 5 1 v' (24 + (m + 1)) (BL a (24 + (m + 1)))) := by
      have eb := bt_dg a 3 m (by decide) hlm; rw [← Nat.add_assoc, BL_succ, ← eb]; exact hown'
     clear hown' hgrow hown hb hcell hsz; go_wp2
     go_roundw
     case rel => first | exact ⟨m + 1, by omega, by go_num, R.out, hb1⟩ | ((repeat apply Exists.intro); exact ⟨⟨m + 1, by omega, by go_num, R.out, hb1⟩, rfl⟩)
     case measure => simp [intOf]; omega
    ·have hm8 : m = 8 := by omega
     subst hm8; clear hn hcell; go_wp2
     go_roundw
     case rel => exact ⟨4, by omega, by go_num, hown, hb⟩
     case measure => simp [intOf]
  ·go_wp2
   obtain ⟨g, cap, hv, hg1, hg2⟩ := World.ownsRow.form (n := 32) hown (by omega); rw [hv] at hown ⊢; go_ret
   refine ⟨g, cap, rfl, hown, ?_⟩; exact ((Below.refl _ _).alloc (Nat.le_refl _) _).trans (hb.mono (by omega))
end Go.Proofs.Ytlbdaccmnpcccaa
namespace Go.Proofs.Ytlbdaccmnpcccaa
open Go.RowKit Go.Shelf
def rv (f : Nat → Nat) (s : Nat) : Nat → Nat
 | 0 => 0
 | k + 1 => rv f s k * 256 + f (s + k)
theorem rv_lt (f : Nat → Nat) (hf : ∀ j, f j < 256) (s : Nat) : ∀ k, rv f s k < 256 ^ k
 | 0 => by simp [rv]
 | k + 1 => by
  have := rv_lt f hf s k; have := hf (s + k); rw [rv, Nat.pow_succ]; omega
theorem wrap64u (n : Int) (h0 : 0 ≤ n) (h1 : n < 18446744073709551616) : IntKind.u64.wrap n = n := by rw [IntKind.wrap_u64]; omega
theorem or_byte (d x : Int) (hx : 0 ≤ x) (hx' : x < 256) : bits .or .u64 (IntKind.u64.wrap (d * 256)) x = d * 256 % 18446744073709551616 + x := by
 rw [IntKind.wrap_u64]; exact bits_join .u64 64 (by decide) (fun n h0 h1 => wrap64u n h0 (by simpa using h1)) 8 _ _ (by omega) (by omega) (by omega) hx (by simpa using hx') (by omega)
theorem step0 (n x : Nat) (hx : x < 256) : bits .or .u64 (IntKind.u64.wrap (dg n 0 * 256)) (IntKind.u64.wrap (x : Int)) = dg (n * 256 + x) 0 := by
 rw [wrap64u (x : Int) (by omega) (by omega), or_byte _ _ (by omega) (by omega)]; simp only [dg0]; omega
theorem step1 (n x : Nat) (hx : x < 256) : bits .or .u64 (IntKind.u64.wrap (dg n 1 * 256)) (dg n 0 / 72057594037927936) = dg (n * 256 + x) 1 := by
 have := dg_nn n 0; have := dg_lt n 0; rw [or_byte _ _ (by omega) (by omega)]; simp only [dg0, dg1]; omega
theorem step2 (n x : Nat) (hx : x < 256) : bits .or .u64 (IntKind.u64.wrap (dg n 2 * 256)) (dg n 1 / 72057594037927936) = dg (n * 256 + x) 2 := by
 have := dg_nn n 1; have := dg_lt n 1; rw [or_byte _ _ (by omega) (by omega)]; simp only [dg1, dg2]; omega
theorem step3 (n x : Nat) (hx : x < 256) : bits .or .u64 (IntKind.u64.wrap (dg n 3 * 256)) (dg n 2 / 72057594037927936) = dg (n * 256 + x) 3 := by
 have := dg_nn n 2; have := dg_lt n 2; rw [or_byte _ _ (by omega) (by omega)]; simp only [dg2, dg3]; omega
set_option maxHeartbeats 1000000 in
set_option maxRecDepth 100000 in
theorem wread_any (g off L cap : Nat) (f : Nat → Nat) (w : World) (hL : (L : Int) ≤ 9223372036854775807) (h1 : 1 ≤ L) (hcap : L ≤ cap) (hg : g < w.heap.size) (hf : ∀ j, f j < 256)
  (hc : ∀ j, j < L → w.cell? ⟨g, off + j, none⟩ = some (.int .u8 (f j))) :
  Calls Try.prog 66 #[.slice (some ⟨g, off, none⟩) L cap] w fun e w' => e = .returned (Wd (rv f (L - 32) (min L 32))) ∧ Below w.heap.size w w' := by
 have hc' : ∀ o1 o2 j, j < L → ((w.alloc o1).alloc o2).cell? ⟨g, off + j, none⟩ = some (.int .u8 (f j)) := by
  intro o1 o2 j hj; rw [World.cell?_alloc_past _ _ _ (by simp; omega), World.cell?_alloc_past _ _ _ hg, hc j hj]
 clear hc; by_cases h32 : L ≤ 32
 ·have e32 : Hid (L - 32 = 0) := by show L - 32 = 0; omega
  have e33 : Hid (min L 32 = L) := by show min L 32 = L; omega
  have hmx : max 0 ((L : Int) - 32) = 0 := by omega
  go_enter Try.func66, Try.ntmps66
  go_wp2
  go_loopw [14] (fun i wr => ∃ k : Nat, k ≤ L ∧ i = .int .i64 k ∧ wr = ((w.alloc (.cells #[.int .u64 0, .int .u64 0, .int .u64 0, .int .u64 0] 106)).alloc (.cells #[.int .u64 (dg (rv f 0 k) 0), .int .u64 (dg (rv f 0 k) 1), .int .u64 (dg (rv f 0 k) 2), .int .u64 (dg (rv f 0 k) 3)] 106))) (fun i _ => L - (intOf i).toNat)
  case atStart => exact ⟨0, by omega, rfl, by simp [rv, dg]⟩
  case round =>
   obtain ⟨k, hk, rfl, rfl⟩ := hrel; by_cases hlt : k < L
   ·go_wp2
    go_roundw
    case rel =>
     refine ⟨k + 1, by omega, by go_num, ?_⟩; rw [step0 _ _ (hf k), step1 _ _ (hf k), step2 _ _ (hf k), step3 _ _ (hf k)]; simp [rv]
    case measure => simp [intOf]; omega
   ·have hkL : k = L := by omega
    subst hkL; go_wp2
    refine bodyPost_ret (v := Wd (rv f 0 k)) (by simp [Wd, results, Try.results66, go_sem]) rfl ⟨by rw [e32.out, e33.out], ?_⟩; repeat (first | exact Below.refl _ _ | refine Below.drew ?_ | refine Below.setCell ?_ (by simp <;> omega) _ | refine Below.alloc ?_ (by simp <;> omega) _)
 ·obtain ⟨t, rfl⟩ : ∃ t, L = t + 32 := ⟨L - 32, by omega⟩; have e32 : Hid (t + 32 - 32 = t) := by show t + 32 - 32 = t; omega
  have e33 : Hid (min (t + 32) 32 = 32) := by show min (t + 32) 32 = 32; omega
  have hc2 : ∀ o1 o2 j, j < 32 → ((w.alloc o1).alloc o2).cell? ⟨g, off + t + j, none⟩ = some (.int .u8 (f (t + j))) := fun o1 o2 j hj => by
   rw [Nat.add_assoc]; exact hc' o1 o2 (t + j) (by omega)
  have hmx : max 0 (t : Int) = t := by omega
  have ht : (t : Int) ≤ 9223372036854775775 := by omega
  have ht0 : 0 < t := by omega
  clear hc' hL h1 h32; go_enter Try.func66, Try.ntmps66
  go_wp2
  go_loopw [14] (fun i wr => ∃ k : Nat, k ≤ 32 ∧ i = .int .i64 k ∧ wr = ((w.alloc (.cells #[.int .u64 0, .int .u64 0, .int .u64 0, .int .u64 0] 106)).alloc (.cells #[.int .u64 (dg (rv f t k) 0), .int .u64 (dg (rv f t k) 1), .int .u64 (dg (rv f t k) 2), .int .u64 (dg (rv f t k) 3)] 106))) (fun i _ => 32 - (intOf i).toNat)
  case atStart => exact ⟨0, by omega, rfl, by simp [rv, dg]⟩
  case round =>
   obtain ⟨k, hk, rfl, rfl⟩ := hrel; by_cases hlt : k < 32
   ·go_wp2
    go_roundw
    case rel =>
     refine ⟨k + 1, by omega, by go_num, ?_⟩; rw [step0 _ _ (hf (t + k)), step1 _ _ (hf (t + k)), step2 _ _ (hf (t + k)), step3 _ _ (hf (t + k))]; simp [rv]
    case measure => simp [intOf]; omega
   ·have hkL : k = 32 := by omega
    subst hkL; go_wp2
    refine bodyPost_ret (v := Wd (rv f t 32)) (by simp [Wd, results, Try.results66, go_sem]) rfl ⟨by rw [e32.out, e33.out], ?_⟩; repeat (first | exact Below.refl _ _ | refine Below.drew ?_ | refine Below.setCell ?_ (by simp <;> omega) _ | refine Below.alloc ?_ (by simp <;> omega) _)
set_option maxHeartbeats 1000000 in
set_option maxRecDepth 100000 in
theorem wread_none (ao : Option Addr) (cap : Nat) (w : World) :
  Calls Try.prog 66 #[.slice ao 0 cap] w fun e w' => e = .returned (Wd 0) ∧ Below w.heap.size w w' := by
 go_enter Try.func66, Try.ntmps66
 go_wp2
 all_goals
  refine wp_loop_rounds 1 ?_; rw [rounds_succ]; go_wp2
  refine bodyPost_ret (v := Wd 0) (by simp [Wd, dg, results, Try.results66, go_sem]) rfl ⟨rfl, ?_⟩; repeat (first | exact Below.refl _ _ | refine Below.drew ?_ | refine Below.setCell ?_ (by simp <;> omega) _ | refine Below.alloc ?_ (by simp <;> omega) _)
theorem rv_bt (a : Nat) (ha : a < 2 ^ 256) : ∀ k, k ≤ 32 → rv (fun j => a / 2 ^ (8 * (31 - j)) % 256) 0 k = a / 2 ^ (8 * (32 - k))
 | 0, _ => by
  simp only [rv]; rw [Nat.div_eq_of_lt (by simpa using ha)]
 | k + 1, hk => by
  rw [rv, rv_bt a ha k (by omega), Nat.zero_add, show 8 * (32 - k) = 8 * (32 - (k + 1)) + 8 by omega, Nat.pow_add, ← Nat.div_div_eq_div_mul, show 31 - k = 32 - (k + 1) by omega]; omega
end Go.Proofs.Ytlbdaccmnpcccaa
namespace Go.Proofs.Ytlbdaccmnpcccaa
open Go.RowKit
def le (f : Nat → Nat) (e : Nat) : Nat → Nat
 | 0 => 0
 | n + 1 => le f e n + f (e - 1 - n) * 2 ^ (8 * n)
theorem le_lt (f : Nat → Nat) (hf : ∀ j, f j < 256) (e : Nat) : ∀ n, le f e n < 2 ^ (8 * n)
 | 0 => by simp [le]
 | n + 1 => by
  have h1 := le_lt f hf e n; have h2 := hf (e - 1 - n); rw [le, Nat.mul_add, Nat.pow_add]; have := Nat.mul_le_mul_right (2 ^ (8 * n)) (show f (e - 1 - n) + 1 ≤ 256 from h2); rw [Nat.add_mul] at this; have e8 : (2 : Nat) ^ (8 * 1) = 256 := by decide
  rw [e8]; omega
theorem le_succ (f : Nat → Nat) (e : Nat) : ∀ n, n ≤ e → le f (e + 1) (n + 1) = f e + 256 * le f e n
 | 0, _ => by simp [le]
 | n + 1, h => by
  have e8 : (2 : Nat) ^ (8 * (n + 1)) = 256 * 2 ^ (8 * n) := by rw [Nat.mul_add, Nat.pow_add, Nat.mul_comm]
  rw [le, le_succ f e n (by omega), le, e8, show e + 1 - 1 - (n + 1) = e - 1 - n by omega, Nat.mul_add, Nat.add_assoc, Nat.mul_left_comm]
theorem le_rv (f : Nat → Nat) (s : Nat) : ∀ n, le f (s + n) n = rv f s n
 | 0 => rfl
 | n + 1 => by rw [← Nat.add_assoc, le_succ f (s + n) n (by omega), le_rv f s n, rv]; omega
end Go.Proofs.Ytlbdaccmnpcccaa
namespace Go.Proofs.Ytlbdaccmnpcccaa
namespace Pk
open Go.RowKit
def vb (n : Nat) : List UInt8 → Nat
 | [] => n
 | c :: r => vb (256 * n + c.toNat) r
theorem vb_app : ∀ (n : Nat) (x y : List UInt8), vb n (x ++ y) = vb (vb n x) y
 | _, [], _ => rfl
 | n, c :: r, y => vb_app (256 * n + c.toNat) r y
theorem vb_eq : ∀ (n : Nat) (l : List UInt8), vb n l = n * 256 ^ l.length + vb 0 l
 | n, [] => by simp [vb]
 | n, c :: r => by
  rw [vb, vb_eq (256 * n + c.toNat) r, vb, vb_eq (256 * 0 + c.toNat) r, List.length_cons, Nat.pow_succ, Nat.mul_zero, Nat.zero_add, Nat.add_mul, Nat.add_assoc]; congr 1
  rw [Nat.mul_comm 256 n, Nat.mul_assoc, Nat.mul_comm 256]
theorem vb_cons (c : UInt8) (r : List UInt8) : vb 0 (c :: r) = c.toNat * 256 ^ r.length + vb 0 r := by
 rw [vb, vb_eq, Nat.mul_zero, Nat.zero_add]
theorem vb_lt : ∀ l : List UInt8, vb 0 l < 256 ^ l.length
 | [] => by simp [vb]
 | c :: r => by
  have h1 := vb_lt r; have h2 := c.toNat_lt; rw [vb_cons, List.length_cons, Nat.pow_succ]; have h3 : c.toNat * 256 ^ r.length ≤ 255 * 256 ^ r.length := Nat.mul_le_mul_right _ (by omega); omega
theorem vb_inj : ∀ (x y : List UInt8), x.length = y.length → vb 0 x = vb 0 y → x = y
 | [], [], _, _ => rfl
 | c :: x, e :: y, h, hh => by
  have hl : x.length = y.length := by simpa using h
  have b1 := vb_lt x; have b2 := vb_lt y; rw [vb_cons, vb_cons, hl] at hh; rw [hl] at b1; have hq : c.toNat = e.toNat ∧ vb 0 x = vb 0 y := by
   generalize 256 ^ y.length = P at *; rcases Nat.lt_trichotomy c.toNat e.toNat with h1 | h1 | h1
   ·have h3 : (c.toNat + 1) * P ≤ e.toNat * P := Nat.mul_le_mul_right _ h1; rw [Nat.add_mul] at h3; omega
   ·rw [h1] at hh; exact ⟨h1, by omega⟩
   ·have h3 : (e.toNat + 1) * P ≤ c.toNat * P := Nat.mul_le_mul_right _ h1; rw [Nat.add_mul] at h3; omega
  rw [UInt8.toNat_inj.1 hq.1, vb_inj x y hl hq.2]
def Cb (l : List UInt8) : Prop := l.head? ≠ some 0
theorem cb_low (l : List UInt8) (h : Cb l) (h0 : 0 < l.length) : 256 ^ (l.length - 1) ≤ vb 0 l := by
 cases l with
 | nil => simp at h0
 | cons c r =>
  have hc : c ≠ 0 := fun e => h (by rw [e]; rfl)
  have h1 : 0 < c.toNat := by
   rcases Nat.eq_zero_or_pos c.toNat with h2 | h2
   ·exact absurd (UInt8.toNat_inj.1 (show c.toNat = (0 : UInt8).toNat from h2)) hc
   ·exact h2
  rw [vb_cons, List.length_cons, Nat.add_sub_cancel]; have : 1 * 256 ^ r.length ≤ c.toNat * 256 ^ r.length := Nat.mul_le_mul_right _ h1; omega
theorem cb_shorter (x y : List UInt8) (hy : Cb y) (h : x.length < y.length) : vb 0 x < vb 0 y := by
 have h1 := vb_lt x; have h3 := cb_low y hy (by omega); have h4 : 256 ^ x.length ≤ 256 ^ (y.length - 1) := Nat.pow_le_pow_right (by omega) (by omega); omega
theorem cb_inj (x y : List UInt8) (hx : Cb x) (hy : Cb y) (h : vb 0 x = vb 0 y) : x = y := by
 rcases Nat.lt_trichotomy x.length y.length with h1 | h1 | h1
 ·have := cb_shorter x y hy h1; omega
 ·exact vb_inj x y h1 h
 ·have := cb_shorter y x hx h1; omega
def nz : List UInt8 → List UInt8
 | [] => []
 | c :: r => if c = 0 then nz r else c :: r
theorem vb_nz : ∀ l : List UInt8, vb 0 (nz l) = vb 0 l
 | [] => rfl
 | c :: r => by
  unfold nz
  split
  ·rename_i h
   subst h; rw [vb_nz r, vb_cons]; simp
  ·rfl
theorem nz_len : ∀ l : List UInt8, (nz l).length ≤ l.length
 | [] => Nat.le_refl _
 | c :: r => by
  unfold nz
  split
  ·exact Nat.le_succ_of_le (nz_len r)
  ·exact Nat.le_refl _
theorem cb_nz : ∀ l : List UInt8, Cb (nz l)
 | [] => by simp [nz, Cb]
 | c :: r => by
  unfold nz
  split
  ·exact cb_nz r
  ·rename_i h
   simpa [Cb] using h
def wb (a : Nat) : List UInt8 := (List.range 32).map fun j => UInt8.ofNat (bt a j).toNat
theorem wb_len (a : Nat) : (wb a).length = 32 := by simp [wb]
theorem bt_bd (a j : Nat) : 0 ≤ bt a j ∧ bt a j < 256 := by unfold bt; omega
theorem wb_bz (a j : Nat) (h : j < 32) : Sp.bz (wb a) j = bt a j := by
 have := bt_bd a j; simp [Sp.bz, wb, h, UInt8.toNat_ofNat']
 omega
theorem vb_rv (f : Nat → Nat) (hf : ∀ j, f j < 256) : ∀ k, vb 0 ((List.range k).map fun j => UInt8.ofNat (f j)) = rv f 0 k
 | 0 => rfl
 | k + 1 => by
  have h := hf k; rw [List.range_succ, List.map_append, vb_app, vb_rv f hf k, List.map_cons, List.map_nil, vb, vb, rv, Nat.zero_add, UInt8.toNat_ofNat', Nat.mod_eq_of_lt (by omega)]; omega
theorem vb_wb (a : Nat) (ha : a < 2 ^ 256) : vb 0 (wb a) = a := by
 have h := vb_rv (fun j => (bt a j).toNat) (fun j => by have := bt_bd a j; omega) 32
 have e : (fun j => (bt a j).toNat) = fun j => a / 2 ^ (8 * (31 - j)) % 256 := by funext j; rfl
 rw [e, rv_bt a ha 32 (Nat.le_refl _)] at h; have h2 : vb 0 (wb a) = a / 2 ^ (8 * (32 - 32)) := h; rw [h2]; simp
def nu (a : Nat) : List UInt8 := nz (wb a)
theorem nu_len (a : Nat) : (nu a).length ≤ 32 := by have := nz_len (wb a); rwa [wb_len] at this
theorem nu_cb (a : Nat) : Cb (nu a) := cb_nz _
theorem nu_vb (a : Nat) (ha : a < 2 ^ 256) : vb 0 (nu a) = a := (vb_nz _).trans (vb_wb a ha)
theorem pow_32 : (256 : Nat) ^ 32 = 2 ^ 256 := by decide
theorem vb_256 (d : List UInt8) (h : d.length ≤ 32) : vb 0 d < 2 ^ 256 := by
 have h1 := vb_lt d; have h2 : (256 : Nat) ^ d.length ≤ 256 ^ 32 := Nat.pow_le_pow_right (by omega) h; rw [pow_32] at h2; exact Nat.lt_of_lt_of_le h1 h2
theorem nu_back (d : List UInt8) (hc : Cb d) (h : d.length ≤ 32) : nu (vb 0 d) = d := cb_inj _ _ (nu_cb _) hc (nu_vb _ (vb_256 d h))
theorem vb_bz (l : List UInt8) : rv (fun j => (Sp.bz l j).toNat) 0 l.length = vb 0 l := by
 have h := vb_rv (fun j => (Sp.bz l j).toNat) (fun j => by have := Sp.bz_lt l j; have := Sp.bz_nn l j; omega) l.length
 rw [← h]; congr 1
 apply List.ext_getElem (by simp)
 intro j h1 h2; simp [Sp.bz, h2]
end Pk
end Go.Proofs.Ytlbdaccmnpcccaa
namespace Go.Proofs.Ytlbdaccmnpcccaa
open Go.RowKit Go.Shelf
end Go.Proofs.Ytlbdaccmnpcccaa
namespace Go.Proofs.Ytlbdaccmnpcccaa
open Go.RowKit Go.Shelf
end Go.Proofs.Ytlbdaccmnpcccaa
namespace Go.Proofs.Ytlbdaccmnpcccaa
open Go.RowKit
def cb (a b k : Nat) : Int := (((a % 2 ^ (8 * (32 - k)) + b % 2 ^ (8 * (32 - k))) / 2 ^ (8 * (32 - k)) : Nat) : Int)
def bb (a b k : Nat) : Int := if a % 2 ^ (8 * (32 - k)) < b % 2 ^ (8 * (32 - k)) then 1 else 0
def lt1 (x y : Nat) : Nat := if x < y then 1 else 0
def Fz (g : Nat) (w : World) : Prop := ∀ j, w.frozen? ⟨g, j, none⟩ = false
theorem Fz_below {B g : Nat} {w w' : World} (h : Fz g w) (hb : Below B w w') (hg : g < B) : Fz g w' := fun j => (hb.frozen (p := ⟨g, j, none⟩) hg).trans (h j)
theorem Fz_set {g : Nat} {w : World} {a : Addr} {v : Value} (h : Fz g w) : Fz g (w.setCell a v) := fun j => by
 rw [World.frozen?_setCell]; exact h j
theorem own_cap {base e g cap n size : Nat} {xs : List Value} {w : World} (h : w.ownsRow base e size (.slice (some ⟨g, 0, none⟩) n cap) n xs) : n ≤ cap := by
 rcases h.2 with ⟨h0, _⟩ | ⟨g', cap', cur, hv, _, _, hc, _⟩
 ·cases h0
 ·cases hv; exact hc
theorem Fz_drewN {g m : Nat} {w : World} (h : Fz g w) : Fz g (w.drewN m) := fun j => by
 have := h j; simpa using this
end Go.Proofs.Ytlbdaccmnpcccaa
namespace Go.Proofs.Ytlbdaccmnpcccaa
open Go.RowKit Go.Shelf
attribute [local go_sem ↓] Go.wp_at_zero Go.wp_at_succ

end Go.Proofs.Ytlbdaccmnpcccaa
namespace Go.Proofs.Ytlbdaccmnpcccaa
open Go.RowKit Go.Shelf
attribute [local go_sem ↓] Go.wp_at_zero Go.wp_at_succ

end Go.Proofs.Ytlbdaccmnpcccaa
namespace Go.Proofs.Ytlbdaccmnpcccaa
open Go.RowKit Go.Shelf
def wb (a i : Nat) : Bool := decide (a / 2 ^ i % 2 = 1)
end Go.Proofs.Ytlbdaccmnpcccaa
namespace Go.Proofs.Ytlbdaccmnpcccaa
open Go.RowKit Go.Shelf
def C4 (g n : Nat) (w : World) : Prop := ∀ o, o < 4 → w.cell? ⟨g, o, none⟩ = some (.int .u64 (dg n o))
theorem C4_alloc (n : Nat) (w : World) (T : TypeId) : C4 w.heap.size n (w.alloc (.cells #[.int .u64 (dg n 0), .int .u64 (dg n 1), .int .u64 (dg n 2), .int .u64 (dg n 3)] T)) := fun o ho => by
 have : o = 0 ∨ o = 1 ∨ o = 2 ∨ o = 3 := by omega
 rcases this with rfl | rfl | rfl | rfl <;> simp
theorem Fz_alloc (w : World) (c : Array Value) (T : TypeId) : Fz w.heap.size (w.alloc (.cells c T)) := fun o => by simp [go_sem]
end Go.Proofs.Ytlbdaccmnpcccaa
namespace Go.Proofs.Ytlbdaccmnpcccaa
open Go.RowKit
def U (x : Int) : Prop := 0 ≤ x ∧ x < 18446744073709551616
def val8 (F : Nat → Int) : Int := F 0 + F 1 * 18446744073709551616 + F 2 * 340282366920938463463374607431768211456 + F 3 * 6277101735386680763835789423207666416102355444464034512896 + F 4 * 115792089237316195423570985008687907853269984665640564039457584007913129639936 + F 5 * 2135987035920910082395021706169552114602704522356652769947041607822219725780640550022962086936576 + F 6 * 39402006196394479212279040100143613805079739270465446667948293404245721771497210611414266254884915640806627990306816 + F 7 * 726838724295606890549323807888004534353641360687318060281490199180639288113397923326191050713763565560762521606266177933534601628614656
def upd (F : Nat → Int) (k : Nat) (v : Int) : Nat → Int := fun o => if o = k then v else F o
def Mp (k : Nat) : Int := ((2 ^ (64 * k) : Nat) : Int)
def lowp (n k : Nat) : Int := ((n % 2 ^ (64 * k) : Nat) : Int)
def PI (a b i j : Nat) (F : Nat → Int) (c : Int) : Prop := (∀ o, U (F o)) ∧ U c ∧ (∀ o, i + 4 ≤ o → F o = 0) ∧ val8 F + c * Mp (i + j) = lowp a i * b + dg a i * lowp b j * Mp i
end Go.Proofs.Ytlbdaccmnpcccaa
namespace Go.Proofs.Ytlbdaccmnpcccaa
open Go.RowKit Go.Shelf
attribute [local go_sem ↓] Go.wp_at_zero Go.wp_at_succ
def CF (g n : Nat) (F : Nat → Int) (w : World) : Prop := ∀ o, o < n → w.cell? ⟨g, o, none⟩ = some (.int .u64 (F o))
theorem CF_set {g n k : Nat} {F : Nat → Int} {w : World} {v : Int} (h : CF g n F w) (hk : k < n) : CF g n (upd F k v) (w.setCell ⟨g, k, none⟩ (.int .u64 v)) := fun o ho => by
 unfold upd
 by_cases e : o = k
 ·subst e; rw [World.cell?_setCell_same _ _ _ (h o hk), if_pos rfl]
 ·rw [World.cell?_setCell_other w ⟨g, k, none⟩ ⟨g, o, none⟩ _ (fun e' => e (by simpa using e'.symm)), h o ho, if_neg e]
theorem CF_below {B g n : Nat} {F : Nat → Int} {w w' : World} (h : CF g n F w) (hb : Below B w w') (hg : g < B) : CF g n F w' := fun j hj => (hb.cell (p := ⟨g, j, none⟩) hg).trans (h j hj)
theorem CF_other {g n : Nat} {F : Nat → Int} {w : World} {a : Addr} {v : Value} (h : CF g n F w) (hne : a.block ≠ g) : CF g n F (w.setCell a v) := fun j hj => by
 rw [World.cell?_setCell_other w a _ v (fun e => hne (by rw [e]))]; exact h j hj
theorem C4_drew {g n : Nat} {w : World} (h : C4 g n w) : C4 g n w.drew := h
theorem CF_ext {g n : Nat} {F G : Nat → Int} {w : World} (h : CF g n F w) (e : ∀ o, o < n → F o = G o) : CF g n G w := fun o ho => by rw [h o ho, e o ho]
end Go.Proofs.Ytlbdaccmnpcccaa
namespace Go.Proofs.Ytlbdaccmnpcccaa
open Go.RowKit Go.Shelf
end Go.Proofs.Ytlbdaccmnpcccaa
namespace Go.Proofs.Ytlbdaccmnpcccaa
end Go.Proofs.Ytlbdaccmnpcccaa
namespace Go.Proofs.Ytlbdaccmnpcccaa
def vr (F : Nat → Int) (j : Nat) : Nat → Int
 | 0 => 0
 | k + 1 => vr F j k + F (j + k) * Mp k
def LI (F b : Nat → Int) (j n : Nat) (t : Int) (G : Nat → Int) (d : Int) : Prop := (∀ o, U (G o)) ∧ (d = 0 ∨ d = 1) ∧ (∀ o, o < j ∨ j + n < o → G o = F o) ∧ vr G j (n + 1) - d * Mp (n + 1) = vr F j (n + 1) - t * vr b 0 n
end Go.Proofs.Ytlbdaccmnpcccaa
namespace Go.Proofs.Ytlbdaccmnpcccaa
end Go.Proofs.Ytlbdaccmnpcccaa
namespace Go.Proofs.Ytlbdaccmnpcccaa
open Go.RowKit Go.Shelf
theorem dg_small (n : Nat) (h : n < 18446744073709551616) : dg n 0 = (n : Int) ∧ dg n 1 = 0 ∧ dg n 2 = 0 ∧ dg n 3 = 0 := by
 rw [dg0, dg1, dg2, dg3]; omega
theorem wd_small (n : Nat) (h : n < 18446744073709551616) : Value.agg #[.int .u64 (n : Int), .int .u64 0, .int .u64 0, .int .u64 0] = Wd n := by
 obtain ⟨h0, h1, h2, h3⟩ := dg_small n h; exact wd_of h0.symm h1.symm h2.symm h3.symm
set_option maxHeartbeats 400000 in
theorem int_any (n : Nat) (h : n < 18446744073709551616) (w : World) :
  Calls Try.prog 74 #[.int .u64 n] w fun e w' => e = .returned (Wd n) ∧ Below w.heap.size w w' := by
 rw [← wd_small n h]; clear h; go_enter Try.func74, Try.ntmps74
 go_wp2
 refine bodyPost_ret (v := .agg #[.int .u64 (n : Int), .int .u64 0, .int .u64 0, .int .u64 0]) (by simp [results, Try.results74, go_sem]) rfl ⟨rfl, ?_⟩; exact (Below.refl _ _).alloc (Nat.le_refl _) _
set_option maxHeartbeats 400000 in
theorem wint_any (n : Nat) (h : n < 18446744073709551616) (w : World) :
  Calls Try.prog 60 #[.int .u64 n] w fun e w' => e = .returned (Wd n) ∧ Below w.heap.size w w' := by
 rw [← wd_small n h]; clear h; go_enter Try.func60, Try.ntmps60
 go_wp2
 refine bodyPost_ret (v := .agg #[.int .u64 (n : Int), .int .u64 0, .int .u64 0, .int .u64 0]) (by simp [results, Try.results60, go_sem]) rfl ⟨rfl, ?_⟩; exact (Below.refl _ _).alloc (Nat.le_refl _) _
end Go.Proofs.Ytlbdaccmnpcccaa
namespace Go.Proofs.Ytlbdaccmnpcccaa
open Go.RowKit Go.Shelf
end Go.Proofs.Ytlbdaccmnpcccaa
namespace Go.Proofs.Ytlbdaccmnpcccaa
open Go.RowKit Go.Shelf
end Go.Proofs.Ytlbdaccmnpcccaa
namespace Go.Proofs.Ytlbdaccmnpcccaa
open Go.RowKit Go.Shelf
attribute [local go_sem ↓] Go.wp_at_zero Go.wp_at_succ
structure E0 (w : World) (a b k : Nat) (w1 : World) : Prop where
 sz : w.heap.size + 1 + 1 + 1 + k ≤ w1.heap.size
 cA : C4 w.heap.size a w1
 cB : C4 (w.heap.size + 1) b w1
 cR : C4 (w.heap.size + 1 + 1) 0 w1
 fR : Fz (w.heap.size + 1 + 1) w1
 cZ : ∀ j, j < k → C4 (w.heap.size + 1 + 1 + 1 + j) 0 w1 ∧ Fz (w.heap.size + 1 + 1 + 1 + j) w1
 bel : Below w.heap.size w w1
theorem Bel_set4 {h m B : Nat} {w w1 : World} (c : Below B w w1) (hB : B ≤ h) : Below B w ((((w1.setCell ⟨h, 0, none⟩ (.int .u64 (dg m 0))).setCell ⟨h, 1, none⟩ (.int .u64 (dg m 1))).setCell ⟨h, 2, none⟩ (.int .u64 (dg m 2))).setCell ⟨h, 3, none⟩ (.int .u64 (dg m 3))) := (((c.setCell hB _).setCell hB _).setCell hB _).setCell hB _
end Go.Proofs.Ytlbdaccmnpcccaa
namespace Go.Proofs.Ytlbdaccmnpcccaa
open Go.RowKit Go.Shelf
attribute [local go_sem ↓] Go.wp_at_zero Go.wp_at_succ
theorem gb_refl (w : World) (r : Option Nat) : w.grownBy w r := ⟨rfl, rfl, rfl, Nat.le_refl _, fun _ _ _ => rfl⟩
theorem gb_trans {a b c : World} {r : Option Nat} (h : a.grownBy b r) (k : b.grownBy c r) : a.grownBy c r := ⟨k.os.trans h.os, k.tape.trans h.tape, k.output.trans h.output, Nat.le_trans h.size k.size, fun i hi hne => (k.block i (Nat.lt_of_lt_of_le hi h.size) hne).trans (h.block i hi hne)⟩
theorem gb_below {a b : World} {r : Option Nat} (h : Below a.heap.size a b) : a.grownBy b r := ⟨h.os, h.tape, h.output, h.size, fun k hk _ => h.block k hk⟩
theorem gb_drew (a : World) (r : Option Nat) : a.grownBy a.drew r := gb_below (Below.refl _ _).drew
theorem gb_set (a : World) (g o : Nat) (v : Value) : a.grownBy (a.setCell ⟨g, o, none⟩ v) (some g) := ⟨rfl, rfl, rfl, by simp [World.setCell], fun k _ hne => Below.heap_setCell _ _ _ _ (fun e => hne (by rw [e]))⟩
end Go.Proofs.Ytlbdaccmnpcccaa
namespace Go.Proofs.Ytlbdaccmnpcccaa
open Go.RowKit Go.Shelf
attribute [local go_sem ↓] Go.wp_at_zero Go.wp_at_succ
end Go.Proofs.Ytlbdaccmnpcccaa
namespace Go.Proofs.Ytlbdaccmnpcccaa
open Go.RowKit Go.Shelf
attribute [local go_sem ↓] Go.wp_at_zero Go.wp_at_succ
theorem Fz_gb {g h : Nat} {w w' : World} (c : Fz h w) (k : w.grownBy w' (some g)) (hne : h ≠ g) (hlt : h < w.heap.size) : Fz h w' := fun o => (World.frozen?_of_block (a := ⟨h, o, none⟩) (k.block h hlt (fun e => hne (by simpa using e)))).trans (c o)
end Go.Proofs.Ytlbdaccmnpcccaa
namespace Go.Proofs.Ytlbdaccmnpcccaa
open Go.RowKit Go.Shelf
attribute [local go_sem ↓] Go.wp_at_zero Go.wp_at_succ
def Rs (n : Nat) : Value := .agg #[.int .u64 (dg n 0), .int .u64 (dg n 1), .int .u64 (dg n 2), .int .u64 (dg n 3), .int .u64 (dg n 4), .int .u64 (dg n 5), .int .u64 (dg n 6), .int .u64 (dg n 7), .int .u64 (dg n 8)]
end Go.Proofs.Ytlbdaccmnpcccaa
namespace Go.Proofs.Ytlbdaccmnpcccaa
open Go.RowKit Go.Shelf
attribute [local go_sem ↓] Go.wp_at_zero Go.wp_at_succ
end Go.Proofs.Ytlbdaccmnpcccaa
namespace Go.Proofs.Ytlbdaccmnpcccaa
end Go.Proofs.Ytlbdaccmnpcccaa
namespace Go.Proofs.Ytlbdaccmnpcccaa
open Go.RowKit Go.Shelf
attribute [local go_sem ↓] Go.wp_at_zero Go.wp_at_succ

end Go.Proofs.Ytlbdaccmnpcccaa
namespace Go.Proofs.Ytlbdaccmnpcccaa
open Go.RowKit Go.Shelf
attribute [local go_sem ↓] Go.wp_at_zero Go.wp_at_succ
end Go.Proofs.Ytlbdaccmnpcccaa
namespace Go.Proofs.Ytlbdaccmnpcccaa
open Go.RowKit Go.Shelf
attribute [local go_sem ↓] Go.wp_at_zero Go.wp_at_succ
structure D0 (w : World) (a b : Nat) (Q : Nat → Int) (wx : World) : Prop where
 sz : w.heap.size + 1 + 1 + 1 < wx.heap.size
 cA : CF w.heap.size 8 (dg a) wx
 cB : C4 (w.heap.size + 1) b wx
 cQ : CF (w.heap.size + 1 + 1) 8 Q wx
 cR : C4 (w.heap.size + 1 + 1 + 1) 0 wx
 fB : Fz (w.heap.size + 1) wx
 fQ : Fz (w.heap.size + 1 + 1) wx
 fR : Fz (w.heap.size + 1 + 1 + 1) wx
 bel : Below w.heap.size w wx
theorem CF_gb {g h n : Nat} {F : Nat → Int} {w w' : World} (c : CF h n F w) (k : w.grownBy w' (some g)) (hne : h ≠ g) (hlt : h < w.heap.size) : CF h n F w' := fun o ho => (World.cell?_of_block (a := ⟨h, o, none⟩) (k.block h hlt (fun e => hne (by simpa using e)))).trans (c o ho)
end Go.Proofs.Ytlbdaccmnpcccaa
namespace Go.Proofs.Ytlbdaccmnpcccaa
open Go.RowKit Go.Shelf
attribute [local go_sem ↓] Go.wp_at_zero Go.wp_at_succ

end Go.Proofs.Ytlbdaccmnpcccaa
namespace Go.Proofs.Ytlbdaccmnpcccaa
open Go.RowKit Go.Shelf
structure Vb (B g n : Nat) (F : Nat → Int) (wx : World) : Prop where
 lo : B ≤ g
 hi : g < wx.heap.size
 c : CF g n F wx
 f : Fz g wx
theorem Vb_below {B g n : Nat} {F : Nat → Int} {w1 w2 : World} (h : Vb B g n F w1) (hb : Below w1.heap.size w1 w2) : Vb B g n F w2 := ⟨h.lo, Nat.lt_of_lt_of_le h.hi hb.size, CF_below h.c hb h.hi, Fz_below h.f hb h.hi⟩
theorem Vb_al {B g n : Nat} {F : Nat → Int} {w1 : World} (h : Vb B g n F w1) (o : Obj) : Vb B g n F (w1.alloc o) := Vb_below h ((Below.refl _ _).alloc (Nat.le_refl _) o)
theorem Vb_drew {B g n : Nat} {F : Nat → Int} {w1 : World} (h : Vb B g n F w1) : Vb B g n F w1.drew := Vb_below h (Below.refl _ _).drew
theorem Vb_gb {B g n k : Nat} {F : Nat → Int} {w1 w2 : World} (h : Vb B g n F w1) (hb : w1.grownBy w2 (some k)) (hne : g ≠ k) : Vb B g n F w2 := ⟨h.lo, Nat.lt_of_lt_of_le h.hi hb.size, CF_gb h.c hb hne h.hi, Fz_gb h.f hb hne h.hi⟩
theorem Vb_other {B g n : Nat} {F : Nat → Int} {w1 : World} {a : Addr} {v : Value} (h : Vb B g n F w1) (hne : a.block ≠ g) : Vb B g n F (w1.setCell a v) := ⟨h.lo, by simpa using h.hi, CF_other h.c hne, Fz_set h.f⟩
theorem Vb_set {B g n k : Nat} {F : Nat → Int} {w1 : World} {v : Int} (h : Vb B g n F w1) (hk : k < n) : Vb B g n (upd F k v) (w1.setCell ⟨g, k, none⟩ (.int .u64 v)) := ⟨h.lo, by simpa using h.hi, CF_set h.c hk, Fz_set h.f⟩
theorem Vb_set4 {B g m : Nat} {F : Nat → Int} {w1 : World} (h : Vb B g 4 F w1) : Vb B g 4 (dg m) ((((w1.setCell ⟨g, 0, none⟩ (.int .u64 (dg m 0))).setCell ⟨g, 1, none⟩ (.int .u64 (dg m 1))).setCell ⟨g, 2, none⟩ (.int .u64 (dg m 2))).setCell ⟨g, 3, none⟩ (.int .u64 (dg m 3))) := by
 have k := Vb_set (v := dg m 3) (Vb_set (v := dg m 2) (Vb_set (v := dg m 1) (Vb_set (v := dg m 0) h (show 0 < 4 by omega)) (show 1 < 4 by omega)) (show 2 < 4 by omega)) (show 3 < 4 by omega); refine ⟨k.lo, k.hi, CF_ext k.c fun o ho => ?_, k.f⟩
 have : o = 0 ∨ o = 1 ∨ o = 2 ∨ o = 3 := by omega
 rcases this with rfl | rfl | rfl | rfl <;> simp [upd]
theorem Vb_new4 (B n : Nat) (w1 : World) (T : TypeId) (hB : B ≤ w1.heap.size) : Vb B w1.heap.size 4 (dg n) (w1.alloc (.cells #[.int .u64 (dg n 0), .int .u64 (dg n 1), .int .u64 (dg n 2), .int .u64 (dg n 3)] T)) := ⟨hB, by simp, C4_alloc n w1 T, Fz_alloc w1 _ T⟩
theorem Vb_new0 (B : Nat) (w1 : World) (T : TypeId) (hB : B ≤ w1.heap.size) : Vb B w1.heap.size 4 (dg 0) (w1.alloc (.cells #[.int .u64 0, .int .u64 0, .int .u64 0, .int .u64 0] T)) := Vb_new4 B 0 w1 T hB
theorem Vb_new8 (B n : Nat) (w1 : World) (T : TypeId) (hB : B ≤ w1.heap.size) : Vb B w1.heap.size 8 (dg n) (w1.alloc (.cells #[.int .u64 (dg n 0), .int .u64 (dg n 1), .int .u64 (dg n 2), .int .u64 (dg n 3), .int .u64 (dg n 4), .int .u64 (dg n 5), .int .u64 (dg n 6), .int .u64 (dg n 7)] T)) := ⟨hB, by simp, fun o ho => by
 have : o = 0 ∨ o = 1 ∨ o = 2 ∨ o = 3 ∨ o = 4 ∨ o = 5 ∨ o = 6 ∨ o = 7 := by omega
 rcases this with rfl | rfl | rfl | rfl | rfl | rfl | rfl | rfl <;> simp, Fz_alloc w1 _ T⟩
theorem Vb_new0e {B g : Nat} {w1 : World} {T : TypeId} (hg : g = w1.heap.size) (hB : B ≤ g) : Vb B g 4 (dg 0) (w1.alloc (.cells #[.int .u64 0, .int .u64 0, .int .u64 0, .int .u64 0] T)) := by subst hg; exact Vb_new0 B w1 T hB
theorem Bel_set8 {h m B : Nat} {w w1 : World} (c : Below B w w1) (hB : B ≤ h) : Below B w ((((((((w1.setCell ⟨h, 0, none⟩ (.int .u64 (dg m 0))).setCell ⟨h, 1, none⟩ (.int .u64 (dg m 1))).setCell ⟨h, 2, none⟩ (.int .u64 (dg m 2))).setCell ⟨h, 3, none⟩ (.int .u64 (dg m 3))).setCell ⟨h, 4, none⟩ (.int .u64 (dg m 4))).setCell ⟨h, 5, none⟩ (.int .u64 (dg m 5))).setCell ⟨h, 6, none⟩ (.int .u64 (dg m 6))).setCell ⟨h, 7, none⟩ (.int .u64 (dg m 7))) := (((((((c.setCell hB _).setCell hB _).setCell hB _).setCell hB _).setCell hB _).setCell hB _).setCell hB _).setCell hB _
end Go.Proofs.Ytlbdaccmnpcccaa
namespace Go.Proofs.Ytlbdaccmnpcccaa
open Go.RowKit Go.Shelf
theorem Vb_byte_in {B g N x k : Nat} {w1 : World} (h : Vb B g 4 (dg N) w1) (hk : k < 32) (hN : N < 2 ^ (8 * k)) (hx : x < 256) : Vb B g 4 (dg (N + x * 2 ^ (8 * k))) (w1.setCell ⟨g, k / 8, none⟩ (.int .u64 (bits .or .u64 (dg N (k / 8)) (IntKind.u64.wrap ((x : Int) * 2 ^ (8 * (k % 8))))))) := by
 rw [byte_in_at N x k hN hx]; have v := Vb_set (v := dg (N + x * 2 ^ (8 * k)) (k / 8)) h (show k / 8 < 4 by omega); refine ⟨v.lo, v.hi, CF_ext v.c fun o ho => ?_, v.f⟩
 unfold upd
 split
 ·rename_i e; rw [e]
 ·rename_i e
  rcases Nat.lt_or_gt_of_ne e with h1 | h1
  ·rw [byte_in_below N x k o h1]
  ·rw [byte_in_above N x k o hN hx h1]
theorem res4 (f : Func) (tm : Array Value) (W : World) (g y s : Nat) (hf : f.results = #[.cell s 106]) (h : tm.getD s undef = .pointer (some ⟨g, 0, none⟩)) (c : CF g 4 (dg y) W) : (results f tm).run Try.prog W = .ok (Wd y) W := by
 have c2 : ∀ o, o < 4 → W.cell? ⟨g, o, none⟩ = some (.int .u64 (dg y o)) := c; simp at h
 simp [Wd, results, hf, go_sem, h, c2]
set_option maxHeartbeats 2000000 in
set_option maxRecDepth 100000 in
theorem read_any (g off L cap : Nat) (f : Nat → Nat) (w : World) (hL : (L : Int) ≤ 9223372036854775807) (h1 : 1 ≤ L) (hg : g < w.heap.size) (hf : ∀ j, f j < 256)
  (hc : ∀ j, j < L → w.cell? ⟨g, off + j, none⟩ = some (.int .u8 (f j))) :
  Calls Try.prog 75 #[.slice (some ⟨g, off, none⟩) L cap] w fun e w' => e = .returned (Wd (le f L (min L 32))) ∧ Below w.heap.size w w' := by
 obtain ⟨M, hM⟩ : ∃ M, M = min L 32 := ⟨_, rfl⟩; have m1 : M ≤ 32 := by omega
 have m2 : M ≤ L := by omega
 have hmn : min (L : Int) 32 = (M : Int) := by omega
 rw [← hM]; have HC : Hid (∀ j, j < L → w.cell? ⟨g, off + j, none⟩ = some (.int .u8 (f j))) := hc; have HF : Hid (∀ j, f j < 256) := hf; clear hM hc hf; go_enter Try.func75, Try.ntmps75
 go_wp2_with fail
 go_loopw [8] (fun s wr => ∃ k : Nat, k ≤ M ∧ s = .int .i64 k ∧ Vb w.heap.size w.heap.size 4 (dg 0) wr ∧ Vb w.heap.size (w.heap.size + 1) 4 (dg (le f L k)) wr ∧ Below w.heap.size w wr) (fun s _ => (M - intOf s).toNat)
 case atStart =>
  refine ⟨0, Nat.zero_le _, rfl, Vb_al (Vb_new0 _ w _ (Nat.le_refl _)) _, ?_, ?_⟩
  ·exact Vb_new0e (by simp) (by omega)
  ·repeat (first | exact Below.refl _ _ | refine Below.alloc ?_ (by simp <;> omega) _)
 case round =>
  obtain ⟨k, hk, rfl, v0, v1, hb0⟩ := hrel; by_cases hlt : k < M
  ·obtain ⟨q, hq⟩ : ∃ q, q + k + 1 = L := ⟨L - k - 1, by omega⟩; have E : Hid (L - 1 - k = q) := by show L - 1 - k = q; omega
   have c1 := (hb0.cell (p := ⟨g, off + q, none⟩) hg).trans (HC.out q (by omega)); have c0 := v1.c (k / 8) (by omega); have f0 := v1.f (k / 8); have hx := HF.out q; have y1 : IntKind.i64.wrap ((L : Int) - 1) = (L : Int) - 1 := by rw [IntKind.wrap_i64]; omega
   have y2 : IntKind.i64.wrap ((L : Int) - 1 - (k : Int)) = (q : Int) := by rw [IntKind.wrap_i64]; omega
   have y3 : IntKind.i64.wrap (8 * ((k : Int) % 8)) = 8 * ((k : Int) % 8) := by rw [IntKind.wrap_i64]; omega
   have y4 : IntKind.u64.wrap ((f q : Nat) : Int) = ((f q : Nat) : Int) := by rw [IntKind.wrap_u64]; omega
   have d0 : (q : Int) < (L : Int) := by omega
   have d1 : (k : Int) < 32 := by omega
   have d2 : (0 : Int) ≤ (k : Int) / 8 := by omega
   have d3 : (k : Int) / 8 < 4 := by omega
   have t1 : ((k : Int) / 8).toNat = k / 8 := by omega
   have d4 : (0 : Int) ≤ 8 * ((k : Int) % 8) := by omega
   have d5 : 8 * ((k : Int) % 8) ≤ 64 := by omega
   have t2 : (8 * ((k : Int) % 8)).toNat = 8 * (k % 8) := by omega
   have V : Hid (Vb w.heap.size (w.heap.size + 1) 4 (dg (le f L (k + 1))) (wr.setCell ⟨w.heap.size + 1, k / 8, none⟩ (.int .u64 (bits .or .u64 (dg (le f L k) (k / 8)) (IntKind.u64.wrap ((f q : Int) * 2 ^ (8 * (k % 8)))))))) := by
    show Vb _ _ _ _ _
    rw [le, E.out]; exact Vb_byte_in v1 (by omega) (le_lt f HF.out L k) hx
   clear hq hx; go_wp2_with fail
   go_region
   all_goals
    go_wp2_with fail
    go_roundw
    case rel => first | exact ⟨k + 1, by omega, by go_num, Vb_drew (Vb_other v0 (by dsimp only; omega)), Vb_drew V.out, (hb0.setCell (by dsimp only; omega) _).drew⟩ | ((repeat apply Exists.intro); exact ⟨⟨k + 1, by omega, by go_num, Vb_drew (Vb_other v0 (by dsimp only; omega)), Vb_drew V.out, (hb0.setCell (by dsimp only; omega) _).drew⟩, rfl⟩)
    case measure => simp [intOf]; omega
  ·have hkM : k = M := by omega
   subst hkM; have c1 : ∀ o, o < 4 → wr.cell? ⟨w.heap.size + 1, o, none⟩ = some (.int .u64 (dg (le f L k) o)) := v1.c; have c0 : ∀ o, o < 4 → wr.cell? ⟨w.heap.size, o, none⟩ = some (.int .u64 (dg 0 o)) := v0.c; have f0 : ∀ o, wr.frozen? ⟨w.heap.size, o, none⟩ = false := v0.f; have V := Vb_set4 (m := le f L k) v0; have HV : Hid (CF w.heap.size 4 (dg (le f L k)) ((((wr.setCell ⟨w.heap.size, 0, none⟩ (.int .u64 (dg (le f L k) 0))).setCell ⟨w.heap.size, 1, none⟩ (.int .u64 (dg (le f L k) 1))).setCell ⟨w.heap.size, 2, none⟩ (.int .u64 (dg (le f L k) 2))).setCell ⟨w.heap.size, 3, none⟩ (.int .u64 (dg (le f L k) 3)))) := V.c; have HB : Hid (Below w.heap.size w wr) := hb0; clear v0 v1 V hb0 HC HF; go_wp2_with fail
   exact bodyPost_ret (v := Wd (le f L k)) (res4 _ _ _ w.heap.size _ 2 rfl rfl HV.out) rfl ⟨rfl, Bel_set4 HB.out (Nat.le_refl _)⟩
set_option maxHeartbeats 1000000 in
set_option maxRecDepth 100000 in
theorem read_none (ao : Option Addr) (cap : Nat) (w : World) :
  Calls Try.prog 75 #[.slice ao 0 cap] w fun e w' => e = .returned (Wd 0) ∧ Below w.heap.size w w' := by
 go_enter Try.func75, Try.ntmps75
 go_wp2_with fail
 refine wp_loop_rounds 1 ?_; rw [rounds_succ]; go_wp2_with fail
 refine bodyPost_ret (v := Wd 0) (by simp [Wd, dg, results, Try.results75, go_sem]) rfl ⟨rfl, ?_⟩; repeat (first | exact Below.refl _ _ | refine Below.drew ?_ | refine Below.setCell ?_ (by simp <;> omega) _ | refine Below.alloc ?_ (by simp <;> omega) _)
end Go.Proofs.Ytlbdaccmnpcccaa
namespace Go.Proofs.Ytlbdaccmnpcccaa
namespace Pk
open Go.RowKit
def slen : Value → Nat
 | .slice _ n _ => n
 | _ => 0
theorem bz_head (c : UInt8) (r : List UInt8) : Sp.bz (c :: r) 0 = (c.toNat : Int) := by simp [Sp.bz]
end Pk
end Go.Proofs.Ytlbdaccmnpcccaa
namespace Go.Proofs.Ytlbdaccmnpcccaa
namespace Pk
open Go.RowKit

end Pk
end Go.Proofs.Ytlbdaccmnpcccaa
namespace Go.Proofs.Ytlbdaccmnpcccaa
namespace RS
open RI
def upv (P : Program) (K : Value → World → Prop) : Result Next → Prop
 | .ok (.value v) w => K v w
 | .ok .skip w => K undef w
 | .ok (.enter f args) w => Calls P f args w fun e w' => ∃ v, e = .returned v ∧ K v w'
 | .ok (.row row args) w => Rows P row args w K
 | _ => False
@[simp] theorem upv_value (P : Program) (K : Value → World → Prop) (v : Value) (w : World) : upv P K (.ok (.value v) w) = K v w := rfl
@[simp] theorem upv_skip (P : Program) (K : Value → World → Prop) (w : World) : upv P K (.ok .skip w) = K undef w := rfl
@[simp] theorem upv_enter (P : Program) (K : Value → World → Prop) (f : FuncId) (args : Array Value) (w : World) : upv P K (.ok (.enter f args) w) = Calls P f args w fun e w' => ∃ v, e = .returned v ∧ K v w' := rfl
def Step (P : Program) (ops : Array Oper) (I : (Nat → Bool) → World → Prop) (i : Nat) (o : Oper) (v : Value) (a : Act) : Prop :=
 (Region.wanted o (yielded ops a.tmps) = true ∧ ∀ (K : Value → World → Prop) d w, I d w → may ops d i → (∀ w', I (don d i) w' → K v w') → upv P K ((execOp a.eval o).run P w)) ∨
 (Region.wanted o (yielded ops a.tmps) = false ∧ v = undef ∧ ∀ d w, I d w → may ops d i → I (don d i) w)
def Seq (P : Program) (ops : Array Oper) (I : (Nat → Bool) → World → Prop) (E : Act → Prop) : Nat → List Oper → Act → Prop
 | _, [], a => E a
 | i, o :: r, a => ∃ v, Step P ops I i o v a ∧ Seq P ops I E (i + 1) r (a.put o.dst v)
def bindsOn (o : Oper) (j : Nat) : Bool := o.after.any fun e => Region.binds .any e && e.on == j
def isSel : Op → Bool
 | .select _ _ => true
 | _ => false
def pairOk (ops : Array Oper) (i j : Nat) : Bool :=
 match ops[i]?, ops[j]? with
 | some x, some y =>
  match y.dst with
  | none => true
  | some t => (x.dst != some t || i == j) && (!(x.looksAt ops).contains t || (decide (j < i) && bindsOn x j) || (decide (i < j) && bindsOn y i))
 | _, _ => true
def okOps (ops : Array Oper) : Bool :=
 RI.early ops && (List.range ops.size).all fun i => ((ops[i]?).map fun o => !isSel o.op).getD true && (List.range ops.size).all fun j => pairOk ops i j
def fr (ops : Array Oper) (V : Nat → Value) (d : Nat → Bool) (a : Act) : Nat → Act
 | 0 => a
 | k + 1 => if d k then (fr ops V d a k).put ((ops[k]?).bind (·.dst)) (V k) else fr ops V d a k
def tt : Nat → Bool := fun _ => true
variable {P : Program} {ops : Array Oper} {Q : Exit → Act → World → Prop}
theorem put_get (a : Act) (x : Option Tmp) (v : Value) (t : Nat) : (a.put x v).tmps[t]? = if x = some t then (if t < a.tmps.size then some v else none) else a.tmps[t]? := by
 cases x with
 | none => simp [Act.put]
 | some d =>
  simp only [Act.put, Array.getElem?_setIfInBounds]; by_cases e : d = t
  ·subst e; simp
  ·simp [e]
theorem get_size {a b : Act} {t : Nat} (h : a.tmps[t]? = b.tmps[t]?) : (t < a.tmps.size) = (t < b.tmps.size) := by
 apply propext
 have ha := Array.getElem?_eq_none_iff (xs := a.tmps) (i := t); have hb := Array.getElem?_eq_none_iff (xs := b.tmps) (i := t); rw [h] at ha; have := ha.symm.trans hb; omega
theorem fr_congr (V : Nat → Value) (a : Act) (d e : Nat → Bool) : ∀ k, (∀ j, j < k → d j = e j) → fr ops V d a k = fr ops V e a k
 | 0, _ => rfl
 | k + 1, h => by rw [fr, fr, fr_congr V a d e k (fun j hj => h j (by omega)), h k (by omega)]
theorem fr_get (V : Nat → Value) (a : Act) (d : Nat → Bool) (i t : Nat) : ∀ k, (∀ j, j < k → (ops[j]?).bind (·.dst) = some t → (j < i ∧ d j = true) ∨ (i < j ∧ d j = false)) → (fr ops V d a k).tmps[t]? = (fr ops V tt a (min k i)).tmps[t]?
 | 0, _ => by simp [fr]
 | k + 1, h => by
  have ih := fr_get V a d i t k (fun j hj => h j (by omega))
  have hk := h k (by omega); by_cases hi : k < i
  ·rw [show min (k + 1) i = k + 1 by omega, fr, fr]; rw [show min k i = k by omega] at ih; simp only [tt, if_true]; cases hd : d k with
   | true => simp only [if_true]; rw [put_get, put_get]; simp only [get_size ih, ih]
   | false =>
    simp only [Bool.false_eq_true, if_false]; rw [put_get, ih]; by_cases e : (ops[k]?).bind (·.dst) = some t
    ·rcases hk e with ⟨_, h2⟩ | ⟨h1, _⟩
     ·rw [hd] at h2; cases h2
     ·omega
    ·rw [if_neg e]
  ·rw [show min (k + 1) i = i by omega, fr]; rw [show min k i = i by omega] at ih; cases hd : d k with
   | false => simp only [Bool.false_eq_true, if_false]; exact ih
   | true =>
    simp only [if_true]; rw [put_get, ih]; by_cases e : (ops[k]?).bind (·.dst) = some t
    ·rcases hk e with ⟨h1, _⟩ | ⟨_, h2⟩
     ·omega
     ·rw [hd] at h2; cases h2
    ·rw [if_neg e]
theorem fr_put (V : Nat → Value) (a : Act) (d : Nat → Bool) (i : Nat) (hd : d i = false) : ∀ k, (∀ j, j < k → j ≠ i → ∀ t, (ops[i]?).bind (·.dst) = some t → (ops[j]?).bind (·.dst) ≠ some t) →
  fr ops V (don d i) a k = if i < k then (fr ops V d a k).put ((ops[i]?).bind (·.dst)) (V i) else fr ops V d a k
 | 0, _ => by simp [fr]
 | k + 1, h => by
  have ih := fr_put V a d i hd k (fun j hj => h j (by omega))
  rw [fr, fr]; by_cases e : k = i
  ·subst e; rw [don_same, hd, ih, if_neg (show ¬ k < k by omega), if_pos (show k < k + 1 by omega)]; simp
  ·rw [don_other _ _ _ e, ih]; by_cases h1 : i < k
   ·rw [if_pos h1, if_pos (show i < k + 1 by omega)]; cases hk : d k with
    | false => simp
    | true =>
     simp only [if_true]; exact Act.put_comm _ _ _ (fun t ht => h k (by omega) e t ht)
   ·rw [if_neg h1, if_neg (show ¬ i < k + 1 by omega)]
theorem seq_vals {I : (Nat → Bool) → World → Prop} {E : Act → Prop} (a : Act) : ∀ (l : List Oper) (k : Nat) (V : Nat → Value), (∀ j, l[j]? = ops[k + j]?) → Seq P ops I E k l (fr ops V tt a k) →
  ∃ V', (∀ j, j < k → V' j = V j) ∧ (∀ j o, l[j]? = some o → Step P ops I (k + j) o (V' (k + j)) (fr ops V' tt a (k + j))) ∧ E (fr ops V' tt a (k + l.length))
 | [], k, V, _, h => ⟨V, fun _ _ => rfl, fun j o hj => by simp at hj, by simpa [Seq] using h⟩
 | o :: r, k, V, hl, h => by
  obtain ⟨v, h1, h2⟩ := h; have hk : ops[k]? = some o := by simpa using (hl 0).symm
  have frV : ∀ V1 V2 : Nat → Value, ∀ n, (∀ j, j < n → V1 j = V2 j) → fr ops V1 tt a n = fr ops V2 tt a n := by
   intro V1 V2 n; induction n with
   | zero => intro _; rfl
   | succ n ih => intro hv; rw [fr, fr, ih (fun j hj => hv j (by omega)), hv n (by omega)]
  let W : Nat → Value := fun j => if j = k then v else V j
  have hW : fr ops W tt a (k + 1) = (fr ops V tt a k).put o.dst v := by
   rw [fr, frV W V k (fun j hj => by simp only [W]; rw [if_neg (by omega)])]
   simp [tt, hk, W]
  rw [← hW] at h2; obtain ⟨V', e1, e2, e3⟩ := seq_vals a r (k + 1) W (fun j => by have := hl (j + 1); rw [show k + (j + 1) = k + 1 + j by omega] at this; simpa using this) h2
  refine ⟨V', fun j hj => ?_, fun j o' hj => ?_, ?_⟩
  ·rw [e1 j (by omega)]; simp only [W]; rw [if_neg (by omega)]
  ·cases j with
   | zero =>
    have : o' = o := by simpa using hj.symm
    subst this; rw [Nat.add_zero, e1 k (by omega), frV V' V k (fun j hj => by rw [e1 j (by omega)]; simp only [W]; rw [if_neg (by omega)])]
    simpa [W] using h1
   | succ j => rw [show k + (j + 1) = k + 1 + j by omega]; exact e2 j o' (by simpa using hj)
  ·rw [show k + (o :: r).length = k + 1 + r.length by simp; omega]; exact e3
theorem upv_upon {o : Oper} {a : Act} {K : Act → World → Prop} : ∀ {r : Result Next}, upv P (fun v w => K (a.put o.dst v) w) r → o.upon P a K Q r
 | .ok (.value _) _, h => h
 | .ok .skip _, h => h
 | .ok (.enter _ _) _, h => Calls.mono h fun e w' he => by obtain ⟨v, rfl, hk⟩ := he; exact hk
 | .ok (.row _ _) _, h => h
 | .ok (.defer _) _, h => h.elim
 | .ok (.round ..) _, h => h.elim
 | .ok .recover _, h => h.elim
 | .ok (.spawn _) _, h => h.elim
 | .halt _ _, h => h.elim
theorem mem_looks {x : Oper} {t : Nat} (h : .tmp t ∈ x.op.operands) : t ∈ x.looksAt ops := List.mem_append_left _ (List.mem_filterMap.2 ⟨.tmp t, by simpa using h, rfl⟩)
theorem eval_get {a b : Act} {t : Nat} (h : a.tmps[t]? = b.tmps[t]?) : a.eval (.tmp t) = b.eval (.tmp t) := by simp only [Act.eval, Array.getD_eq_getD_getElem?, h]
theorem wanted_get {a b : Act} {o : Oper} (h : ∀ t, t ∈ o.looksAt ops → a.tmps[t]? = b.tmps[t]?) : Region.wanted o (yielded ops a.tmps) = Region.wanted o (yielded ops b.tmps) := by
 unfold Region.wanted
 cases hg : o.guard with
 | none => rfl
 | some gw =>
  obtain ⟨g, want⟩ := gw; have : yielded ops a.tmps g = yielded ops b.tmps g := by
   unfold yielded
   cases ht : (ops[g]?).bind (·.dst) with
   | none => rfl
   | some t => simp only [Option.bind_some]; rw [h t (by simp [Oper.looksAt, hg, ht])]
  simp only [this]
theorem wp_region_seq {id : Nat} {a : Act} {w : World} (I : (Nat → Bool) → World → Prop) (hm : P.follows .mixedOrders = true) (hok : okOps ops = true) (h0 : I (fun _ => false) w.drew)
  (hs : Seq P ops I (fun a' => ∀ d w', I d w' → (∀ i, i < ops.size → d i = true) → Q .normal a' w') 0 ops.toList a) : (Code.region id ops true).wp P Q a w := by
 have hok' := hok; unfold okOps at hok'
 rw [Bool.and_eq_true] at hok'; obtain ⟨he, hp⟩ := hok'; obtain ⟨V, _, hst, hE⟩ := seq_vals (P := P) (ops := ops) (I := I) a ops.toList 0 (fun _ => undef) (fun j => by simp) hs
 simp only [Nat.zero_add] at hst hE; have pair : ∀ (i j : Nat) (x y : Oper) (t : Nat), ops[i]? = some x → ops[j]? = some y → y.dst = some t → (x.dst = some t → i = j) ∧ (t ∈ x.looksAt ops → (j < i ∧ bindsOn x j = true) ∨ (i < j ∧ bindsOn y i = true)) := by
  intro i j x y t hx hy ht; have hi : i < ops.size := (Array.getElem?_eq_some_iff.1 hx).1; have hj : j < ops.size := (Array.getElem?_eq_some_iff.1 hy).1; have h1 := List.all_eq_true.1 hp i (List.mem_range.2 hi); rw [Bool.and_eq_true] at h1; have h2 := List.all_eq_true.1 h1.2 j (List.mem_range.2 hj); unfold pairOk at h2
  simp only [hx, hy, ht] at h2; simp at h2
  refine ⟨fun e => h2.1.resolve_left (fun h => h e), fun hm => ?_⟩
  rcases h2.2 with (h | h) | h
  ·exact absurd hm h
  ·exact .inl h
  ·exact .inr h
 have nosel : ∀ (i : Nat) (x : Oper) cs b, ops[i]? = some x → x.op ≠ .select cs b := by
  intro i x cs b hx hc; have hi : i < ops.size := (Array.getElem?_eq_some_iff.1 hx).1; have h1 := List.all_eq_true.1 hp i (List.mem_range.2 hi); rw [Bool.and_eq_true, hx] at h1; simp [hc, isSel] at h1
 have bon : ∀ {x : Oper} {j : Nat}, bindsOn x j = true → ∃ e, e ∈ x.after ∧ Region.binds .any e = true ∧ e.on = j := by
  intro x j h; unfold bindsOn at h
  rw [Array.any_eq_true'] at h; obtain ⟨e, h1, h2⟩ := h; rw [Bool.and_eq_true, beq_iff_eq] at h2; exact ⟨e, h1, h2.1, h2.2⟩
 refine wp_region_inv (fun d x wx => x = fr ops V d a ops.size ∧ I d wx ∧ ∀ j o, ops[j]? = some o → d j = true → ∀ e, e ∈ o.after → Region.binds .any e = true → d e.on = true) hm he ?_ ?_ ?_
 ·refine ⟨?_, h0, fun _ _ _ h => by cases h⟩
  have : ∀ k, fr ops V (fun _ => false) a k = a := by
   intro k; induction k with
   | zero => rfl
   | succ k ih => rw [fr, ih]; simp
  exact (this _).symm
 ·rintro d x wx i ⟨rfl, hI, hcl⟩ hi hmay; obtain ⟨o, ho⟩ : ∃ o, ops[i]? = some o := ⟨ops[i], Array.getElem?_eq_getElem hi⟩; have hdeps : ∀ e, e ∈ o.after → Region.binds .any e = true → d e.on = true := by
   intro e h1 h2; have := hmay.2 o ho; rw [Array.all_eq_true_iff_forall_mem] at this; have := this e h1; rw [h2] at this; simpa using this
  have hsame : ∀ t, t ∈ o.looksAt ops → (fr ops V d a ops.size).tmps[t]? = (fr ops V tt a i).tmps[t]? := by
   intro t ht; have := fr_get (ops := ops) V a d i t ops.size (fun j hj hjt => by
    obtain ⟨y, hy⟩ : ∃ y, ops[j]? = some y := ⟨ops[j], Array.getElem?_eq_getElem hj⟩; rw [hy] at hjt; rcases (pair i j o y t ho hy hjt).2 ht with ⟨h1, h2⟩ | ⟨h1, h2⟩
    ·obtain ⟨e, e1, e2, e3⟩ := bon h2; exact .inl ⟨h1, e3 ▸ hdeps e e1 e2⟩
    ·refine .inr ⟨h1, ?_⟩; cases hdj : d j with
     | false => rfl
     | true =>
      obtain ⟨e, e1, e2, e3⟩ := bon h2; have := hcl j y hy hdj e e1 e2; rw [e3, hmay.1] at this; cases this)
   rw [this, show min ops.size i = i by omega]
  have hex : execOp (fr ops V d a ops.size).eval o = execOp (fr ops V tt a i).eval o := by
   refine execOp_congr o (fun cs b => nosel i o cs b ho) (fun x hx => ?_)
   cases x with
   | tmp t => exact eval_get (hsame t (mem_looks hx))
   | _ => rfl
  have hwa := wanted_get hsame; have hput : ∀ v, v = V i → (fr ops V d a ops.size).put o.dst v = fr ops V (don d i) a ops.size := by
   rintro v rfl; rw [fr_put V a d i hmay.1 ops.size (fun j hj hne t ht => fun hjt => ?_), if_pos hi, ho]
   ·rfl
   ·obtain ⟨y, hy⟩ : ∃ y, ops[j]? = some y := ⟨ops[j], Array.getElem?_eq_getElem hj⟩; rw [hy] at hjt; rw [ho] at ht; exact hne ((pair i j o y t ho hy hjt).1 ht).symm
  have hclo : ∀ j o', ops[j]? = some o' → don d i j = true → ∀ e, e ∈ o'.after → Region.binds .any e = true → don d i e.on = true := by
   intro j o' hj hdj e e1 e2; have : d e.on = true := by
    by_cases hji : j = i
    ·subst hji; rw [ho] at hj; cases hj
     exact hdeps e e1 e2
    ·rw [don_other _ _ _ hji] at hdj; exact hcl j o' hj hdj e e1 e2
   unfold don; split
   ·rfl
   ·exact this
  unfold wpOp
  rw [ho]; simp only
  rcases hst i o (by simpa using ho) with ⟨h1, h2⟩ | ⟨h1, h2, h3⟩
  ·rw [hwa, h1, if_pos rfl]; refine .inl ?_; unfold Oper.wp
   rw [hex]; exact upv_upon (h2 _ d wx hI hmay (fun w' hI' => ⟨hput _ rfl, hI', hclo⟩))
  ·rw [hwa, h1]; simp only [Bool.false_eq_true, if_false]; exact ⟨hput _ h2.symm, h3 d wx hI hmay, hclo⟩
 ·rintro d x wx ⟨rfl, hI, _⟩ hall; rw [fr_congr V a d tt ops.size (fun j hj => hall j hj)]
  exact hE d wx hI hall
theorem go1 {S : World → Prop} {E : Act → Prop} {i : Nat} {o : Oper} {r : List Oper} {a a' : Act} {v : Value} (hg : o.guard = none)
  (h : ∀ (K : Value → World → Prop) w, S w → (∀ w', S w' → K v w') → upv P K ((execOp a.eval o).run P w)) (he : a.put o.dst v = a')
  (hr : Seq P ops (fun _ => S) E (i + 1) r a') : Seq P ops (fun _ => S) E i (o :: r) a :=
 ⟨v, .inl ⟨by simp [Region.wanted, hg], fun K _ w hS _ hK => h K w hS hK⟩, he ▸ hr⟩
theorem go1g {S : World → Prop} {E : Act → Prop} {i : Nat} {o : Oper} {r : List Oper} {a a' : Act} {v : Value} (hg : Region.wanted o (yielded ops a.tmps) = true)
  (h : ∀ (K : Value → World → Prop) w, S w → (∀ w', S w' → K v w') → upv P K ((execOp a.eval o).run P w)) (he : a.put o.dst v = a')
  (hr : Seq P ops (fun _ => S) E (i + 1) r a') : Seq P ops (fun _ => S) E i (o :: r) a :=
 ⟨v, .inl ⟨hg, fun K _ w hS _ hK => h K w hS hK⟩, he ▸ hr⟩
theorem go0 {S : World → Prop} {E : Act → Prop} {i : Nat} {o : Oper} {r : List Oper} {a a' : Act} (hg : Region.wanted o (yielded ops a.tmps) = false) (he : a.put o.dst undef = a')
  (hr : Seq P ops (fun _ => S) E (i + 1) r a') : Seq P ops (fun _ => S) E i (o :: r) a :=
 ⟨undef, .inr ⟨hg, rfl, fun _ _ h _ => h⟩, he ▸ hr⟩
theorem go_end {I : (Nat → Bool) → World → Prop} {E : Act → Prop} {i : Nat} {a : Act} (h : E a) : Seq P ops I E i [] a := h
end RS
end Go.Proofs.Ytlbdaccmnpcccaa
