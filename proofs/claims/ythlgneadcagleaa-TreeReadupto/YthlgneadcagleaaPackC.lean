import Derived.Test.YthlgneadcagleaaPackB
import Derived.Deep.Cut
namespace Go.Proofs.Ythlgneadcagleaa
namespace Tr
open Nb Go.RowKit
end Tr
end Go.Proofs.Ythlgneadcagleaa
namespace Go.Proofs.Ythlgneadcagleaa
namespace Tr
open Nb Go.RowKit
end Tr
end Go.Proofs.Ythlgneadcagleaa
namespace Go.Proofs.Ythlgneadcagleaa
namespace Tr
open Nb Go.RowKit
theorem pre_pre (p q : By) (l : Rt) : pre p (pre q l) = pre (p ++ q) l := by
  unfold pre
  rw [List.map_map]
  apply List.map_congr_left
  intro r _
  show (p ++ (q ++ r.1), r.2) = (p ++ q ++ r.1, r.2)
  rw [List.append_assoc]
theorem pre_app (p : By) (a b : Rt) : pre p (a ++ b) = pre p a ++ pre p b := by simp [pre]
theorem pre_len' (p : By) (a : Rt) : (pre p a).length = a.length := by simp [pre]
theorem rtk_snoc (t : Nd) : ∀ (ks : List Nd) (i : Nat), rtk i (ks ++ [t]) = match rtk i ks, rt t with
    | some L, some a => some (L ++ pre [UInt8.ofNat (i + ks.length)] a)
    | _, _ => none
  | [], i => by
    show rtk i [t] = _
    unfold rtk
    cases h : rt t with
    | none => simp
    | some a => simp [rtk]
  | k :: ks, i => by
    rw [List.cons_append]
    unfold rtk
    rw [rtk_snoc t ks (i + 1)]
    cases rt k with
    | none => rfl
    | some a =>
      cases rtk (i + 1) ks with
      | none => rfl
      | some L =>
        cases rt t with
        | none => rfl
        | some b =>
          show some (pre [UInt8.ofNat i] a ++ (L ++ pre [UInt8.ofNat (i + 1 + ks.length)] b)) = some ((pre [UInt8.ofNat i] a ++ L) ++ pre [UInt8.ofNat (i + (k :: ks).length)] b)
          rw [List.append_assoc, List.length_cons, show i + 1 + ks.length = i + (ks.length + 1) by omega]
theorem rtk_take (ks : List Nd) (k : Nat) (hk : k < ks.length) (L a : Rt) (hL : rtk 0 (ks.take k) = some L) (ha : rt (ks.getD k Nd.no) = some a) : rtk 0 (ks.take (k + 1)) = some (L ++ pre [UInt8.ofNat k] a) := by
  have e : ks.take (k + 1) = ks.take k ++ [ks.getD k Nd.no] := by
    rw [List.take_add_one, List.getD_eq_getElem?_getD, List.getElem?_eq_getElem hk]
    rfl
  rw [e, rtk_snoc, hL, ha, List.length_take, show 0 + min k ks.length = k by omega]
theorem rt_three (p v : By) (ks : List Nd) (hl : ks.length = 16) : rt (.mk 3 p v ks) = (rtk 0 ks).map fun l => (if v = [] then [] else [([], v)]) ++ l := by
  rw [rt, if_neg (fun h => by rcases h.1 with h | h <;> exact absurd h (by decide)), if_neg (by decide), if_neg (by decide), if_neg (fun h => absurd h.1 (by decide)), if_pos ⟨rfl, hl⟩]
theorem lit_b (k : Nat) (h : k < 16) (w : World) : Pk.Sl [UInt8.ofNat k] (.slice (some ⟨w.heap.size, 0, none⟩) 1 1) (w.alloc (.cells #[.int .u8 (k : Int)] 5)) := by
  have HA := heap_alloc_new w (.cells #[.int .u8 (k : Int)] 5)
  refine ⟨_, _, rfl, Nat.le_refl _, fun _ => ⟨_, _, rfl, by simp, fun j hj => ?_⟩⟩
  have e : j = 0 := by simpa using hj
  subst e
  have e2 : Sp.bz [UInt8.ofNat k] 0 = (k : Int) := by
    show (((UInt8.ofNat k).toNat : Nat) : Int) = _
    rw [u8_toNat k h]
  rw [e2]
  simp only [World.cell?, HA]
  rfl
end Tr
end Go.Proofs.Ythlgneadcagleaa
namespace Go.Proofs.Ythlgneadcagleaa
namespace Tr
open Nb Go.RowKit
mutual
def wn : Nd → Nat
  | .mk _ p v ks => 4 + p.length + v.length + wnk ks
def wnk : List Nd → Nat
  | [] => 0
  | t :: r => wn t + wnk r
end
theorem wnk_one : ∀ (ks : List Nd) (j : Nat), j < ks.length → wn (ks.getD j Nd.no) ≤ wnk ks
  | [], j, h => absurd h (by simp)
  | k :: r, 0, _ => by unfold wnk; rw [List.getD_cons_zero]; omega
  | k :: r, j + 1, h => by
    have := wnk_one r j (by simpa using h)
    unfold wnk
    rw [List.getD_cons_succ]; omega
theorem rtk_count : ∀ (ks : List Nd) (i : Nat) (L : Rt), (∀ j, j < ks.length → ∀ a, rt (ks.getD j Nd.no) = some a → a.length ≤ wn (ks.getD j Nd.no)) → rtk i ks = some L → L.length ≤ wnk ks
  | [], i, L, _, h => by unfold rtk at h; cases h; exact Nat.zero_le _
  | t :: r, i, L, hk, h => by
    unfold rtk at h
    cases ha : rt t with
    | none => rw [ha] at h; cases h
    | some a =>
      cases hb : rtk (i + 1) r with
      | none => rw [ha, hb] at h; cases h
      | some b =>
        rw [ha, hb] at h
        cases h
        have h1 := hk 0 (by simp) a (by rw [List.getD_cons_zero]; exact ha)
        rw [List.getD_cons_zero] at h1
        have h2 := rtk_count r (i + 1) b (fun j hj c hc => by
          have := hk (j + 1) (by simpa using hj) c
          rw [List.getD_cons_succ] at this
          exact this hc) hb
        unfold wnk
        rw [List.length_append, pre_len']
        omega
theorem rt_two (p v : By) (t : Nd) (hp : Pt p) : rt (.mk 2 p v [t]) = (rt t).map (pre p) := by
  rw [rt, if_neg (fun h => by rw [(ptb_iff p).2 hp] at h; cases h.2), if_neg (by decide), if_neg (by decide), if_pos ⟨rfl, rfl⟩, rt0]
theorem rt_count {t : Nd} (h : Wf t) : ∀ l, rt t = some l → l.length ≤ wn t := by
  induction h with
  | mk k p v ks _ ih =>
    intro l h
    unfold rt at h
    split at h
    · cases h
    split at h
    · cases h; exact Nat.zero_le _
    split at h
    · cases h
      unfold wn
      rw [List.length_singleton]; omega
    split at h
    · rename_i h2
      obtain ⟨t, rfl⟩ := List.length_eq_one_iff.1 h2.2
      rw [rt0] at h
      cases ha : rt t with
      | none => rw [ha] at h; cases h
      | some a =>
        rw [ha] at h
        cases h
        have := ih 0 (by simp) a ha
        rw [List.getD_cons_zero] at this
        unfold wn wnk wnk
        rw [pre_len']; omega
    split at h
    · rename_i h3
      cases ha : rtk 0 ks with
      | none => rw [ha] at h; cases h
      | some a =>
        rw [ha] at h
        cases h
        have := rtk_count ks 0 a ih ha
        unfold wn
        rw [List.length_append]
        split
        · rw [List.length_nil]; omega
        · rw [List.length_singleton]; omega
    · cases h
end Tr
end Go.Proofs.Ythlgneadcagleaa
namespace Go.Proofs.Ythlgneadcagleaa
namespace Tr
open Nb Go.RowKit
structure RL (h : Nat) (u : V4) (p : By) (ap : Option Addr) (W wx : World) : Prop where
  bx : Bx h u wx
  vw : Sp.Vw p ap wx
  b : Below W.heap.size W wx
theorem RL_below {h : Nat} {u : V4} {p : By} {ap : Option Addr} {W wx w2 : World} (k : RL h u p ap W wx) (b : Below wx.heap.size wx w2) : RL h u p ap W w2 := ⟨Bx_below k.bx b, Sp.Vw_below k.vw b, k.b.trans (b.mono k.b.size)⟩
theorem eq_below {w w' : World} (h : w' = w) : Below w.heap.size w w' := by subst h; exact Below.refl _ _
theorem wrap_add (a b : Nat) (ha : a ≤ 1099511627776) (hb : b ≤ 1099511627776) : IntKind.i64.wrap ((a : Int) + (b : Int)) = ((a + b : Nat) : Int) := by rw [IntKind.wrap_i64]; omega
set_option maxHeartbeats 1000000 in
set_option maxRecDepth 100000 in
theorem read_none (ap av ak : Option Addr) (np cp nv cv nk ck hh : Nat) (w : World) :
    Calls Try.prog 22 #[.agg #[.int .i64 0, .slice ap np cp, .slice av nv cv, .slice ak nk ck], .int .i64 (hh : Int)] w fun e w' => e = .returned (.tuple #[.iface 69 (.agg #[]), .bool true]) ∧ Below w.heap.size w w' := by
  have HB : Hid (Below w.heap.size w (w.alloc (.cells #[.int .i64 0, .slice ap np cp, .slice av nv cv, .slice ak nk ck] 25))) := (Below.refl _ _).alloc (Nat.le_refl _) _
  go_enter Try.func22, Try.ntmps22
  go_wp2_with fail
  go_ret2
  exact ⟨rfl, HB.out⟩
set_option maxHeartbeats 1000000 in
set_option maxRecDepth 100000 in
theorem read_other (k : Int) (ap av ak : Option Addr) (np cp nv cv nk ck hh : Nat) (w : World) (k0 : k ≠ 0) (k1 : k ≠ 1) (k2 : k ≠ 2) (k3 : k ≠ 3) :
    Calls Try.prog 22 #[.agg #[.int .i64 k, .slice ap np cp, .slice av nv cv, .slice ak nk ck], .int .i64 (hh : Int)] w fun e w' => e = .returned (.tuple #[.iface 69 (.agg #[]), .bool false]) ∧ Below w.heap.size w w' := by
  have HB : Hid (Below w.heap.size w (w.alloc (.cells #[.int .i64 k, .slice ap np cp, .slice av nv cv, .slice ak nk ck] 25))) := (Below.refl _ _).alloc (Nat.le_refl _) _
  have e0 : (k == 0) = false := beq_eq_false_iff_ne.2 k0
  have e1 : (k == 1) = false := beq_eq_false_iff_ne.2 k1
  have e2 : (k == 2) = false := beq_eq_false_iff_ne.2 k2
  have e3 : (k == 3) = false := beq_eq_false_iff_ne.2 k3
  go_enter Try.func22, Try.ntmps22
  go_wp2_with fail
  go_ret2
  exact ⟨rfl, HB.out⟩
set_option maxHeartbeats 2000000 in
set_option maxRecDepth 100000 in
theorem read_leaf_ok (ap av ak : Option Addr) (np cp nv cv nk ck hh : Nat) (w : World) (p v : By) (hn : np = p.length) (hz : np ≤ 4194304) (hnv : nv = v.length) (hh6 : hh ≤ 4194304) (vw : Sp.Vw p ap w) (hp : ptb p = true) :
    Calls Try.prog 22 #[.agg #[.int .i64 1, .slice ap np cp, .slice av nv cv, .slice ak nk ck], .int .i64 (hh : Int)] w fun e w' => e = .returned (.tuple #[.iface 71 (.agg #[.slice ap np cp, .slice av nv cv]), .bool (may v (hh + np))]) ∧ Below w.heap.size w w' := by
  have HB : Below w.heap.size w (w.alloc (.cells #[.int .i64 1, .slice ap np cp, .slice av nv cv, .slice ak nk ck] 25)) := (Below.refl _ _).alloc (Nat.le_refl _) _
  have E1 : Hid (IntKind.i64.wrap ((hh : Int) + (np : Int)) = ((hh + np : Nat) : Int)) := wrap_add _ _ (by omega) (by omega)
  have KP : Hid (∀ wx : World, Sp.Vw p ap wx → Calls Try.prog 39 #[.slice ap np cp] wx fun e w' => e = .returned (.bool true) ∧ Below wx.heap.size wx w') := fun wx hv => by
    subst hn
    refine (ispath_any p ap cp wx (by show (_ : Int) ≤ _; omega) hv).mono fun e w' h => ⟨?_, eq_below h.2⟩
    rw [h.1, show pb p = true from hp]
  have KM : Hid (∀ wx : World, Calls Try.prog 40 #[.slice av nv cv, .int .i64 ((hh + np : Nat) : Int)] wx fun e w' => e = .returned (.bool (may v (hh + np))) ∧ Below wx.heap.size wx w') := fun wx => by
    subst hnv
    exact (mayhave_any v (hh + np) av cv wx).mono fun e w' h => ⟨h.1, eq_below h.2⟩
  have R0 : RL w.heap.size (.int .i64 1, .slice ap np cp, .slice av nv cv, .slice ak nk ck) p ap (w.alloc (.cells #[.int .i64 1, .slice ap np cp, .slice av nv cv, .slice ak nk ck] 25)) (w.alloc (.cells #[.int .i64 1, .slice ap np cp, .slice av nv cv, .slice ak nk ck] 25)).drew := ⟨Bx_below (Bx_new w (.int .i64 1, .slice ap np cp, .slice av nv cv, .slice ak nk ck)) (Below.refl _ _).drew, Sp.Vw_drew (Sp.Vw_al vw _), (Below.refl _ _).drew⟩
  clear hn hz hnv hh6 vw hp
  generalize may v (hh + np) = mv at *
  go_enter Try.func22, Try.ntmps22
  go_upto_region 5 with fail
  generalize (w.alloc (.cells #[.int .i64 1, .slice ap np cp, .slice av nv cv, .slice ak nk ck] 25)) = W0 at *
  have HG : Hid (w.heap.size ≤ W0.heap.size) := HB.size
  generalize hg0 : w.heap.size = g0 at *
  refine RS.wp_region_one (RL g0 (.int .i64 1, .slice ap np cp, .slice av nv cv, .slice ak nk ck) p ap W0) (by kernel_rfl) (by kernel_rfl) (R0) ?_
  dsimp only [List.toList_toArray]
  refine RS.go1 (v := ?_) (a' := ?_) rfl ?_ ?_ ?_
  rotate_left 2
  · intro K wx hS hK
    go_simp
    exact hK _ hS
  · simp only [Act.put, List.setIfInBounds_toArray, List.set_cons_succ, List.set_cons_zero]
    rfl
  refine RS.go1 (v := ?_) (a' := ?_) rfl ?_ ?_ ?_
  rotate_left 2
  · intro K wx hS hK
    have m1 := hS.bx.2.2.1
    go_simp
    exact hK _ hS
  · simp only [Act.put, List.setIfInBounds_toArray, List.set_cons_succ, List.set_cons_zero]
    rfl
  refine RS.go1 (v := ?_) (a' := ?_) rfl ?_ ?_ ?_
  rotate_left 2
  · intro K wx hS hK
    go_simp
    exact hK _ hS
  · simp only [Act.put, List.setIfInBounds_toArray, List.set_cons_succ, List.set_cons_zero]
    rfl
  refine RS.go1 (v := ?_) (a' := ?_) rfl ?_ ?_ ?_
  rotate_left 2
  · intro K wx hS hK
    have m2 := hS.bx.2.2.2.1
    go_simp
    exact hK _ hS
  · simp only [Act.put, List.setIfInBounds_toArray, List.set_cons_succ, List.set_cons_zero]
    rfl
  refine RS.go1 (v := ?_) (a' := ?_) rfl ?_ ?_ ?_
  rotate_left 2
  · intro K wx hS hK
    go_simp
    exact hK _ hS
  · simp only [Act.put, List.setIfInBounds_toArray, List.set_cons_succ, List.set_cons_zero]
    rfl
  refine RS.go1 (v := ?_) (a' := ?_) rfl ?_ ?_ ?_
  rotate_left 2
  · intro K wx hS hK
    go_simp
    exact hK _ hS
  · simp only [Act.put, List.setIfInBounds_toArray, List.set_cons_succ, List.set_cons_zero]
    rfl
  refine RS.go1 (v := ?_) (a' := ?_) rfl ?_ ?_ ?_
  rotate_left 2
  · intro K wx hS hK
    go_simp
    exact hK _ hS
  · simp only [Act.put, List.setIfInBounds_toArray, List.set_cons_succ, List.set_cons_zero]
    rfl
  refine RS.go1 (v := ?_) (a' := ?_) rfl ?_ ?_ ?_
  rotate_left 2
  · intro K wx hS hK
    have m1 := hS.bx.2.2.1
    go_simp
    exact hK _ hS
  · simp only [Act.put, List.setIfInBounds_toArray, List.set_cons_succ, List.set_cons_zero]
    rfl
  refine RS.go1 (v := ?_) (a' := ?_) rfl ?_ ?_ ?_
  rotate_left 2
  · intro K wx hS hK
    go_simp
    refine (KP.out _ hS.vw).mono (fun e w2 he => ?_)
    refine ⟨_, he.1, ?_⟩
    exact hK _ (RL_below hS he.2)
  · simp only [Act.put, List.setIfInBounds_toArray, List.set_cons_succ, List.set_cons_zero]
    rfl
  refine RS.go1 (v := ?_) (a' := ?_) rfl ?_ ?_ ?_
  rotate_left 2
  · intro K wx hS hK
    go_simp
    exact hK _ hS
  · simp only [Act.put, List.setIfInBounds_toArray, List.set_cons_succ, List.set_cons_zero]
    rfl
  refine RS.go1g (v := ?_) (a' := ?_) (by kernel_rfl) ?_ ?_ ?_
  rotate_left 2
  · intro K wx hS hK
    go_simp
    exact hK _ hS
  · simp only [Act.put, List.setIfInBounds_toArray, List.set_cons_succ, List.set_cons_zero]
    rfl
  refine RS.go1g (v := ?_) (a' := ?_) (by kernel_rfl) ?_ ?_ ?_
  rotate_left 2
  · intro K wx hS hK
    have m2 := hS.bx.2.2.2.1
    go_simp
    exact hK _ hS
  · simp only [Act.put, List.setIfInBounds_toArray, List.set_cons_succ, List.set_cons_zero]
    rfl
  refine RS.go1g (v := ?_) (a' := ?_) (by kernel_rfl) ?_ ?_ ?_
  rotate_left 2
  · intro K wx hS hK
    go_simp
    exact hK _ hS
  · simp only [Act.put, List.setIfInBounds_toArray, List.set_cons_succ, List.set_cons_zero]
    rfl
  refine RS.go1g (v := ?_) (a' := ?_) (by kernel_rfl) ?_ ?_ ?_
  rotate_left 2
  · intro K wx hS hK
    go_simp
    exact hK _ hS
  · simp only [Act.put, List.setIfInBounds_toArray, List.set_cons_succ, List.set_cons_zero]
    rfl
  refine RS.go1g (v := ?_) (a' := ?_) (by kernel_rfl) ?_ ?_ ?_
  rotate_left 2
  · intro K wx hS hK
    have m1 := hS.bx.2.2.1
    go_simp
    exact hK _ hS
  · simp only [Act.put, List.setIfInBounds_toArray, List.set_cons_succ, List.set_cons_zero]
    rfl
  refine RS.go1g (v := ?_) (a' := ?_) (by kernel_rfl) ?_ ?_ ?_
  rotate_left 2
  · intro K wx hS hK
    go_simp
    exact hK _ hS
  · simp only [Act.put, List.setIfInBounds_toArray, List.set_cons_succ, List.set_cons_zero]
    rfl
  refine RS.go1g (v := ?_) (a' := ?_) (by kernel_rfl) ?_ ?_ ?_
  rotate_left 2
  · intro K wx hS hK
    have e1 := E1.out
    go_simp
    exact hK _ hS
  · simp only [Act.put, List.setIfInBounds_toArray, List.set_cons_succ, List.set_cons_zero]
    rfl
  refine RS.go1g (v := ?_) (a' := ?_) (by kernel_rfl) ?_ ?_ ?_
  rotate_left 2
  · intro K wx hS hK
    go_simp
    refine (KM.out _).mono (fun e w2 he => ?_)
    refine ⟨_, he.1, ?_⟩
    exact hK _ (RL_below hS he.2)
  · simp only [Act.put, List.setIfInBounds_toArray, List.set_cons_succ, List.set_cons_zero]
    rfl
  refine RS.go1 (v := ?_) (a' := ?_) rfl ?_ ?_ ?_
  rotate_left 2
  · intro K wx hS hK
    go_simp
    exact hK _ hS
  · simp only [Act.put, List.setIfInBounds_toArray, List.set_cons_succ, List.set_cons_zero]
    rfl
  refine RS.go1 (v := ?_) (a' := ?_) rfl ?_ ?_ ?_
  rotate_left 2
  · intro K wx hS hK
    go_simp
    exact hK _ hS
  · simp only [Act.put, List.setIfInBounds_toArray, List.set_cons_succ, List.set_cons_zero]
    rfl
  refine RS.go1 (v := ?_) (a' := ?_) rfl ?_ ?_ ?_
  rotate_left 2
  · intro K wx hS hK
    go_simp
    exact hK _ hS
  · simp only [Act.put, List.setIfInBounds_toArray, List.set_cons_succ, List.set_cons_zero]
    rfl
  refine RS.go_end ?_
  intro w9 m9
  have HZ : Hid (Below w.heap.size w w9) := by show Below _ _ _; rw [hg0]; exact HB.trans (m9.b.mono HG.out)
  clear m9 R0
  go_wp2_with fail
  go_ret2
  exact ⟨rfl, HZ.out⟩
set_option maxHeartbeats 2000000 in
set_option maxRecDepth 100000 in
theorem read_leaf_no (ap av ak : Option Addr) (np cp nv cv nk ck hh : Nat) (w : World) (p v : By) (hn : np = p.length) (hz : np ≤ 4194304) (hnv : nv = v.length) (hh6 : hh ≤ 4194304) (vw : Sp.Vw p ap w) (hp : ptb p = false) :
    Calls Try.prog 22 #[.agg #[.int .i64 1, .slice ap np cp, .slice av nv cv, .slice ak nk ck], .int .i64 (hh : Int)] w fun e w' => e = .returned (.tuple #[.iface 71 (.agg #[.slice ap np cp, .slice av nv cv]), .bool (false)]) ∧ Below w.heap.size w w' := by
  have HB : Below w.heap.size w (w.alloc (.cells #[.int .i64 1, .slice ap np cp, .slice av nv cv, .slice ak nk ck] 25)) := (Below.refl _ _).alloc (Nat.le_refl _) _
  have E1 : Hid (IntKind.i64.wrap ((hh : Int) + (np : Int)) = ((hh + np : Nat) : Int)) := wrap_add _ _ (by omega) (by omega)
  have KP : Hid (∀ wx : World, Sp.Vw p ap wx → Calls Try.prog 39 #[.slice ap np cp] wx fun e w' => e = .returned (.bool false) ∧ Below wx.heap.size wx w') := fun wx hv => by
    subst hn
    refine (ispath_any p ap cp wx (by show (_ : Int) ≤ _; omega) hv).mono fun e w' h => ⟨?_, eq_below h.2⟩
    rw [h.1, show pb p = false from hp]
  have KM : Hid (∀ wx : World, Calls Try.prog 40 #[.slice av nv cv, .int .i64 ((hh + np : Nat) : Int)] wx fun e w' => e = .returned (.bool (may v (hh + np))) ∧ Below wx.heap.size wx w') := fun wx => by
    subst hnv
    exact (mayhave_any v (hh + np) av cv wx).mono fun e w' h => ⟨h.1, eq_below h.2⟩
  have R0 : RL w.heap.size (.int .i64 1, .slice ap np cp, .slice av nv cv, .slice ak nk ck) p ap (w.alloc (.cells #[.int .i64 1, .slice ap np cp, .slice av nv cv, .slice ak nk ck] 25)) (w.alloc (.cells #[.int .i64 1, .slice ap np cp, .slice av nv cv, .slice ak nk ck] 25)).drew := ⟨Bx_below (Bx_new w (.int .i64 1, .slice ap np cp, .slice av nv cv, .slice ak nk ck)) (Below.refl _ _).drew, Sp.Vw_drew (Sp.Vw_al vw _), (Below.refl _ _).drew⟩
  clear hn hz hnv hh6 vw hp
  generalize may v (hh + np) = mv at *
  go_enter Try.func22, Try.ntmps22
  go_upto_region 5 with fail
  generalize (w.alloc (.cells #[.int .i64 1, .slice ap np cp, .slice av nv cv, .slice ak nk ck] 25)) = W0 at *
  have HG : Hid (w.heap.size ≤ W0.heap.size) := HB.size
  generalize hg0 : w.heap.size = g0 at *
  refine RS.wp_region_one (RL g0 (.int .i64 1, .slice ap np cp, .slice av nv cv, .slice ak nk ck) p ap W0) (by kernel_rfl) (by kernel_rfl) (R0) ?_
  dsimp only [List.toList_toArray]
  refine RS.go1 (v := ?_) (a' := ?_) rfl ?_ ?_ ?_
  rotate_left 2
  · intro K wx hS hK
    go_simp
    exact hK _ hS
  · simp only [Act.put, List.setIfInBounds_toArray, List.set_cons_succ, List.set_cons_zero]
    rfl
  refine RS.go1 (v := ?_) (a' := ?_) rfl ?_ ?_ ?_
  rotate_left 2
  · intro K wx hS hK
    have m1 := hS.bx.2.2.1
    go_simp
    exact hK _ hS
  · simp only [Act.put, List.setIfInBounds_toArray, List.set_cons_succ, List.set_cons_zero]
    rfl
  refine RS.go1 (v := ?_) (a' := ?_) rfl ?_ ?_ ?_
  rotate_left 2
  · intro K wx hS hK
    go_simp
    exact hK _ hS
  · simp only [Act.put, List.setIfInBounds_toArray, List.set_cons_succ, List.set_cons_zero]
    rfl
  refine RS.go1 (v := ?_) (a' := ?_) rfl ?_ ?_ ?_
  rotate_left 2
  · intro K wx hS hK
    have m2 := hS.bx.2.2.2.1
    go_simp
    exact hK _ hS
  · simp only [Act.put, List.setIfInBounds_toArray, List.set_cons_succ, List.set_cons_zero]
    rfl
  refine RS.go1 (v := ?_) (a' := ?_) rfl ?_ ?_ ?_
  rotate_left 2
  · intro K wx hS hK
    go_simp
    exact hK _ hS
  · simp only [Act.put, List.setIfInBounds_toArray, List.set_cons_succ, List.set_cons_zero]
    rfl
  refine RS.go1 (v := ?_) (a' := ?_) rfl ?_ ?_ ?_
  rotate_left 2
  · intro K wx hS hK
    go_simp
    exact hK _ hS
  · simp only [Act.put, List.setIfInBounds_toArray, List.set_cons_succ, List.set_cons_zero]
    rfl
  refine RS.go1 (v := ?_) (a' := ?_) rfl ?_ ?_ ?_
  rotate_left 2
  · intro K wx hS hK
    go_simp
    exact hK _ hS
  · simp only [Act.put, List.setIfInBounds_toArray, List.set_cons_succ, List.set_cons_zero]
    rfl
  refine RS.go1 (v := ?_) (a' := ?_) rfl ?_ ?_ ?_
  rotate_left 2
  · intro K wx hS hK
    have m1 := hS.bx.2.2.1
    go_simp
    exact hK _ hS
  · simp only [Act.put, List.setIfInBounds_toArray, List.set_cons_succ, List.set_cons_zero]
    rfl
  refine RS.go1 (v := ?_) (a' := ?_) rfl ?_ ?_ ?_
  rotate_left 2
  · intro K wx hS hK
    go_simp
    refine (KP.out _ hS.vw).mono (fun e w2 he => ?_)
    refine ⟨_, he.1, ?_⟩
    exact hK _ (RL_below hS he.2)
  · simp only [Act.put, List.setIfInBounds_toArray, List.set_cons_succ, List.set_cons_zero]
    rfl
  refine RS.go1 (v := ?_) (a' := ?_) rfl ?_ ?_ ?_
  rotate_left 2
  · intro K wx hS hK
    go_simp
    exact hK _ hS
  · simp only [Act.put, List.setIfInBounds_toArray, List.set_cons_succ, List.set_cons_zero]
    rfl
  refine RS.go0 (a' := ?_) (by kernel_rfl) ?_ ?_
  rotate_left 1
  · simp only [Act.put, List.setIfInBounds_toArray, List.set_cons_succ, List.set_cons_zero]
    rfl
  refine RS.go0 (a' := ?_) (by kernel_rfl) ?_ ?_
  rotate_left 1
  · simp only [Act.put, List.setIfInBounds_toArray, List.set_cons_succ, List.set_cons_zero]
    rfl
  refine RS.go0 (a' := ?_) (by kernel_rfl) ?_ ?_
  rotate_left 1
  · simp only [Act.put, List.setIfInBounds_toArray, List.set_cons_succ, List.set_cons_zero]
    rfl
  refine RS.go0 (a' := ?_) (by kernel_rfl) ?_ ?_
  rotate_left 1
  · simp only [Act.put, List.setIfInBounds_toArray, List.set_cons_succ, List.set_cons_zero]
    rfl
  refine RS.go0 (a' := ?_) (by kernel_rfl) ?_ ?_
  rotate_left 1
  · simp only [Act.put, List.setIfInBounds_toArray, List.set_cons_succ, List.set_cons_zero]
    rfl
  refine RS.go0 (a' := ?_) (by kernel_rfl) ?_ ?_
  rotate_left 1
  · simp only [Act.put, List.setIfInBounds_toArray, List.set_cons_succ, List.set_cons_zero]
    rfl
  refine RS.go0 (a' := ?_) (by kernel_rfl) ?_ ?_
  rotate_left 1
  · simp only [Act.put, List.setIfInBounds_toArray, List.set_cons_succ, List.set_cons_zero]
    rfl
  refine RS.go0 (a' := ?_) (by kernel_rfl) ?_ ?_
  rotate_left 1
  · simp only [Act.put, List.setIfInBounds_toArray, List.set_cons_succ, List.set_cons_zero]
    rfl
  refine RS.go1 (v := ?_) (a' := ?_) rfl ?_ ?_ ?_
  rotate_left 2
  · intro K wx hS hK
    go_simp
    exact hK _ hS
  · simp only [Act.put, List.setIfInBounds_toArray, List.set_cons_succ, List.set_cons_zero]
    rfl
  refine RS.go1 (v := ?_) (a' := ?_) rfl ?_ ?_ ?_
  rotate_left 2
  · intro K wx hS hK
    go_simp
    exact hK _ hS
  · simp only [Act.put, List.setIfInBounds_toArray, List.set_cons_succ, List.set_cons_zero]
    rfl
  refine RS.go1 (v := ?_) (a' := ?_) rfl ?_ ?_ ?_
  rotate_left 2
  · intro K wx hS hK
    go_simp
    exact hK _ hS
  · simp only [Act.put, List.setIfInBounds_toArray, List.set_cons_succ, List.set_cons_zero]
    rfl
  refine RS.go_end ?_
  intro w9 m9
  have HZ : Hid (Below w.heap.size w w9) := by show Below _ _ _; rw [hg0]; exact HB.trans (m9.b.mono HG.out)
  clear m9 R0
  go_wp2_with fail
  go_ret2
  exact ⟨rfl, HZ.out⟩
set_option maxHeartbeats 1000000 in
set_option maxRecDepth 100000 in
theorem read_road (ap av ak : Option Addr) (np cp nv cv nk ck hh : Nat) (w : World) (ok : Bool) (Q : Value → World → Prop) (KR : Hid (∀ wx : World, Below w.heap.size w wx → Calls Try.prog 41 #[.agg #[.int .i64 2, .slice ap np cp, .slice av nv cv, .slice ak nk ck], .int .i64 (hh : Int)] wx fun e w' => ∃ x, e = .returned (.tuple #[x, .bool ok]) ∧ Q x w' ∧ Below wx.heap.size wx w')) :
    Calls Try.prog 22 #[.agg #[.int .i64 2, .slice ap np cp, .slice av nv cv, .slice ak nk ck], .int .i64 (hh : Int)] w fun e w' => ∃ x, e = .returned (.tuple #[x, .bool ok]) ∧ Q x w' ∧ Below w.heap.size w w' := by
  have HB : Hid (Below w.heap.size w (w.alloc (.cells #[.int .i64 2, .slice ap np cp, .slice av nv cv, .slice ak nk ck] 25))) := (Below.refl _ _).alloc (Nat.le_refl _) _
  have BX := Bx_new w (.int .i64 2, .slice ap np cp, .slice av nv cv, .slice ak nk ck)
  obtain ⟨_, q0, q1, q2, q3⟩ := BX
  dsimp only at q0 q1 q2 q3
  go_enter Try.func22, Try.ntmps22
  go_wp2_with fail
  refine (KR.out _ HB.out).mono ?_
  rintro e w1 ⟨x, rfl, hq, hb1⟩
  have HQ : Hid (Q x w1) := hq
  have HZ : Hid (Below w.heap.size w w1) := HB.out.trans (hb1.mono HB.out.size)
  clear hq hb1
  go_wp2_with fail
  go_ret2
  exact ⟨x, rfl, HQ.out, HZ.out⟩
set_option maxHeartbeats 1000000 in
set_option maxRecDepth 100000 in
theorem read_fork (ap av ak : Option Addr) (np cp nv cv nk ck hh : Nat) (w : World) (ok : Bool) (Q : Option Addr → World → Prop) (KR : Hid (∀ wx : World, Below w.heap.size w wx → Calls Try.prog 42 #[.agg #[.int .i64 3, .slice ap np cp, .slice av nv cv, .slice ak nk ck], .int .i64 (hh : Int)] wx fun e w' => ∃ x, e = .returned (.tuple #[.pointer x, .bool ok]) ∧ Q x w' ∧ Below wx.heap.size wx w')) :
    Calls Try.prog 22 #[.agg #[.int .i64 3, .slice ap np cp, .slice av nv cv, .slice ak nk ck], .int .i64 (hh : Int)] w fun e w' => ∃ x, e = .returned (.tuple #[.iface 73 (.pointer x), .bool ok]) ∧ Q x w' ∧ Below w.heap.size w w' := by
  have HB : Hid (Below w.heap.size w (w.alloc (.cells #[.int .i64 3, .slice ap np cp, .slice av nv cv, .slice ak nk ck] 25))) := (Below.refl _ _).alloc (Nat.le_refl _) _
  have BX := Bx_new w (.int .i64 3, .slice ap np cp, .slice av nv cv, .slice ak nk ck)
  obtain ⟨_, q0, q1, q2, q3⟩ := BX
  dsimp only at q0 q1 q2 q3
  go_enter Try.func22, Try.ntmps22
  go_wp2_with fail
  refine (KR.out _ HB.out).mono ?_
  rintro e w1 ⟨x, rfl, hq, hb1⟩
  have HQ : Hid (Q x w1) := hq
  have HZ : Hid (Below w.heap.size w w1) := HB.out.trans (hb1.mono HB.out.size)
  clear hq hb1
  go_wp2_with fail
  go_ret2
  exact ⟨x, rfl, HQ.out, HZ.out⟩
end Tr
end Go.Proofs.Ythlgneadcagleaa
namespace Go.Proofs.Ythlgneadcagleaa
namespace Tr
open Nb Go.RowKit
set_option maxHeartbeats 2000000 in
set_option maxRecDepth 100000 in
theorem rroad_empty (ap av ak : Option Addr) (cp nv cv nk ck hh : Nat) (w : World)  :
    Calls Try.prog 41 #[.agg #[.int .i64 2, .slice ap 0 cp, .slice av nv cv, .slice ak nk ck], .int .i64 (hh : Int)] w fun e w' => (∃ x, e = .returned (.tuple #[x, .bool false])) ∧ Below w.heap.size w w' := by
  have HB : Hid (Below w.heap.size w (w.alloc (.cells #[.int .i64 2, .slice ap 0 cp, .slice av nv cv, .slice ak nk ck] 25))) := (Below.refl _ _).alloc (Nat.le_refl _) _
  obtain ⟨hh0, q0, q1, q2, q3⟩ := Bx_new w (.int .i64 2, .slice ap 0 cp, .slice av nv cv, .slice ak nk ck)
  dsimp only at q0 q1 q2 q3
  go_enter Try.func41, Try.ntmps41
  go_wp2_with fail
  go_ret2
  exact ⟨⟨_, rfl⟩, HB.out⟩
set_option maxHeartbeats 2000000 in
set_option maxRecDepth 100000 in
theorem rroad_path (ap av ak : Option Addr) (np cp nv cv nk ck hh : Nat) (w : World) (p : By) (hn : np = p.length) (hz : np ≤ 4194304) (h0 : 0 < np) (vw : Sp.Vw p ap w) (hp : ptb p = false) :
    Calls Try.prog 41 #[.agg #[.int .i64 2, .slice ap np cp, .slice av nv cv, .slice ak nk ck], .int .i64 (hh : Int)] w fun e w' => (∃ x, e = .returned (.tuple #[x, .bool false])) ∧ Below w.heap.size w w' := by
  have HB : Hid (Below w.heap.size w (w.alloc (.cells #[.int .i64 2, .slice ap np cp, .slice av nv cv, .slice ak nk ck] 25))) := (Below.refl _ _).alloc (Nat.le_refl _) _
  obtain ⟨hh0, q0, q1, q2, q3⟩ := Bx_new w (.int .i64 2, .slice ap np cp, .slice av nv cv, .slice ak nk ck)
  dsimp only at q0 q1 q2 q3
  have e0 : ((np : Int) == 0) = false := beq_eq_false_iff_ne.2 (by omega)
  have e0' : (np == 0) = false := beq_eq_false_iff_ne.2 (by omega)
  have VW : Sp.Vw p ap (w.alloc (.cells #[.int .i64 2, .slice ap np cp, .slice av nv cv, .slice ak nk ck] 25)) := Sp.Vw_al vw _
  have KP : Hid (∀ wx : World, Sp.Vw p ap wx → Calls Try.prog 39 #[.slice ap np cp] wx fun e w' => e = .returned (.bool false) ∧ w' = wx) := fun wx hv => by
    subst hn
    refine (ispath_any p ap cp wx (by show (_ : Int) ≤ _; omega) hv).mono fun e w' h => ⟨?_, h.2⟩
    rw [h.1, show pb p = false from hp]
  clear hn hz h0 vw hp
  go_enter Try.func41, Try.ntmps41
  go_wp2_with fail
  refine (KP.out _ VW).mono ?_
  rintro e w1 ⟨rfl, rfl⟩
  go_wp2_with fail
  go_ret2
  exact ⟨⟨_, rfl⟩, HB.out⟩
set_option maxHeartbeats 2000000 in
set_option maxRecDepth 100000 in
theorem rroad_kids (ap av ak : Option Addr) (np cp nv cv nk ck hh : Nat) (w : World) (p : By) (hn : np = p.length) (hz : np ≤ 4194304) (h0 : 0 < np) (vw : Sp.Vw p ap w) (hp : ptb p = true) (hk : nk ≠ 1) :
    Calls Try.prog 41 #[.agg #[.int .i64 2, .slice ap np cp, .slice av nv cv, .slice ak nk ck], .int .i64 (hh : Int)] w fun e w' => (∃ x, e = .returned (.tuple #[x, .bool false])) ∧ Below w.heap.size w w' := by
  have HB : Hid (Below w.heap.size w (w.alloc (.cells #[.int .i64 2, .slice ap np cp, .slice av nv cv, .slice ak nk ck] 25))) := (Below.refl _ _).alloc (Nat.le_refl _) _
  obtain ⟨hh0, q0, q1, q2, q3⟩ := Bx_new w (.int .i64 2, .slice ap np cp, .slice av nv cv, .slice ak nk ck)
  dsimp only at q0 q1 q2 q3
  have e0 : ((np : Int) == 0) = false := beq_eq_false_iff_ne.2 (by omega)
  have e0' : (np == 0) = false := beq_eq_false_iff_ne.2 (by omega)
  have VW : Sp.Vw p ap (w.alloc (.cells #[.int .i64 2, .slice ap np cp, .slice av nv cv, .slice ak nk ck] 25)) := Sp.Vw_al vw _
  have KP : Hid (∀ wx : World, Sp.Vw p ap wx → Calls Try.prog 39 #[.slice ap np cp] wx fun e w' => e = .returned (.bool true) ∧ w' = wx) := fun wx hv => by
    subst hn
    refine (ispath_any p ap cp wx (by show (_ : Int) ≤ _; omega) hv).mono fun e w' h => ⟨?_, h.2⟩
    rw [h.1, show pb p = true from hp]
  have e1 : ((nk : Int) == 1) = false := beq_eq_false_iff_ne.2 (by omega)
  have e2 : (nk == 1) = false := beq_eq_false_iff_ne.2 hk
  have e3 : ((nk : Int) != 1) = true := bne_iff_ne.2 (by omega)
  have e4 : (nk != 1) = true := bne_iff_ne.2 hk
  clear hn hz h0 vw hp
  go_enter Try.func41, Try.ntmps41
  go_wp2_with fail
  refine (KP.out _ VW).mono ?_
  rintro e w1 ⟨rfl, rfl⟩
  go_wp2_with fail
  go_ret2
  exact ⟨⟨_, rfl⟩, HB.out⟩
set_option maxHeartbeats 2000000 in
set_option maxRecDepth 100000 in
theorem rroad_kind (ap av : Option Addr) (np cp nv cv ck hh gk off : Nat) (w : World) (p : By) (hn : np = p.length) (hz : np ≤ 4194304) (h0 : 0 < np) (vw : Sp.Vw p ap w) (hp : ptb p = true) (q : Int) (hgk0 : gk < w.heap.size) (c0 : w.cell? ⟨gk, off, none⟩ = some (.int .i64 q)) (hq : q ≠ 3) :
    Calls Try.prog 41 #[.agg #[.int .i64 2, .slice ap np cp, .slice av nv cv, .slice (some ⟨gk, off, none⟩) 1 ck], .int .i64 (hh : Int)] w fun e w' => (∃ x, e = .returned (.tuple #[x, .bool false])) ∧ Below w.heap.size w w' := by
  have HB : Hid (Below w.heap.size w (w.alloc (.cells #[.int .i64 2, .slice ap np cp, .slice av nv cv, .slice (some ⟨gk, off, none⟩) 1 ck] 25))) := (Below.refl _ _).alloc (Nat.le_refl _) _
  obtain ⟨hh0, q0, q1, q2, q3⟩ := Bx_new w (.int .i64 2, .slice ap np cp, .slice av nv cv, .slice (some ⟨gk, off, none⟩) 1 ck)
  dsimp only at q0 q1 q2 q3
  have e0 : ((np : Int) == 0) = false := beq_eq_false_iff_ne.2 (by omega)
  have e0' : (np == 0) = false := beq_eq_false_iff_ne.2 (by omega)
  have VW : Sp.Vw p ap (w.alloc (.cells #[.int .i64 2, .slice ap np cp, .slice av nv cv, .slice (some ⟨gk, off, none⟩) 1 ck] 25)) := Sp.Vw_al vw _
  have KP : Hid (∀ wx : World, Sp.Vw p ap wx → Calls Try.prog 39 #[.slice ap np cp] wx fun e w' => e = .returned (.bool true) ∧ w' = wx) := fun wx hv => by
    subst hn
    refine (ispath_any p ap cp wx (by show (_ : Int) ≤ _; omega) hv).mono fun e w' h => ⟨?_, h.2⟩
    rw [h.1, show pb p = true from hp]
  have k0 := (HB.out.cell (p := ⟨gk, off, none⟩) hgk0).trans c0
  have e3 : (q != 3) = true := bne_iff_ne.2 hq
  clear hn hz h0 vw hp c0
  go_enter Try.func41, Try.ntmps41
  go_wp2_with fail
  refine (KP.out _ VW).mono ?_
  rintro e w1 ⟨rfl, rfl⟩
  go_wp2_with fail
  go_ret2
  exact ⟨⟨_, rfl⟩, HB.out⟩
inductive RRI (W0 : World) (G : Option Addr → World → Prop) (ok : Bool) (ap av : Option Addr) (np cp nv cv ck hh gk off g0 : Nat) (b1 b2 b3 : Option Addr) (m1 d1 m2 d2 m3 d3 : Nat) (d : Nat → Bool) (x : Act) (wx : World) : Prop where
  | mk (u6 u7 u34 u35 u36 u37 u38 u39 u40 u41 u42 u43 u44 u45 u46 : Value) (hx : x = { tmps := #[.agg #[.int .i64 2, .slice ap np cp, .slice av nv cv, .slice (some ⟨gk, off, none⟩) 1 ck], .int .i64 (hh : Int), .pointer (some ⟨g0, 0, none⟩), undef, .nilIface, .bool false, u6, u7, .pointer (some ⟨g0, 1, none⟩), .slice ap np cp, .int .i64 (np : Int), .bool false, .bool false, .pointer (some ⟨g0, 1, none⟩), .slice ap np cp, .bool true, .bool false, .bool false, undef, undef, .pointer (some ⟨g0, 3, none⟩), .slice (some ⟨gk, off, none⟩) 1 ck, .int .i64 1, .bool false, .bool false, .pointer (some ⟨g0, 3, none⟩), .slice (some ⟨gk, off, none⟩) 1 ck, .pointer (some ⟨gk, off, none⟩), .pointer (some ⟨gk, off, none⟩), .int .i64 3, .bool false, .bool false, undef, undef, u34, u35, u36, u37, u38, u39, u40, u41, u42, u43, u44, u45, u46, undef, undef, undef, undef, undef, undef], defers := [] }) (hw : Below W0.heap.size W0 wx) (p0 : d 0 = true → u35 = .pointer (some ⟨g0, 3, none⟩)) (p1 : d 1 = true → u36 = .slice (some ⟨gk, off, none⟩) 1 ck) (p2 : d 2 = true → u37 = .pointer (some ⟨gk, off, none⟩)) (p3 : d 3 = true → u38 = .agg #[.int .i64 3, .slice b1 m1 d1, .slice b2 m2 d2, .slice b3 m3 d3]) (p4 : d 4 = true → u39 = .int .i64 (hh : Int)) (p5 : d 5 = true → u40 = .pointer (some ⟨g0, 1, none⟩)) (p6 : d 6 = true → u41 = .slice ap np cp) (p7 : d 7 = true → u42 = .int .i64 (np : Int)) (p8 : d 8 = true → u43 = .int .i64 ((hh + np : Nat) : Int)) (p12 : d 12 = true → u46 = .bool ok) (p14 : d 14 = true → u7 = .bool ok) (z9 : d 9 = true → ∃ x, u44 = .tuple #[.pointer x, .bool ok] ∧ G x wx) (z10 : d 10 = true → ∃ x, u34 = .tuple #[.pointer x, .bool ok] ∧ G x wx) (z11 : d 11 = true → ∃ x, u45 = .pointer x ∧ G x wx) (z13 : d 13 = true → ∃ x, u6 = .pointer x ∧ G x wx) : RRI W0 G ok ap av np cp nv cv ck hh gk off g0 b1 b2 b3 m1 d1 m2 d2 m3 d3 d x wx
set_option maxHeartbeats 2000000 in
set_option maxRecDepth 100000 in
theorem rroad_fork (ap av : Option Addr) (np cp nv cv ck hh gk off : Nat) (w : World) (p : By) (hn : np = p.length) (hz : np ≤ 4194304) (h0 : 0 < np) (vw : Sp.Vw p ap w) (hp : ptb p = true) (hh6 : hh ≤ 4194304) (b1 b2 b3 : Option Addr) (m1 d1 m2 d2 m3 d3 : Nat) (hgk0 : gk < w.heap.size) (c0 : w.cell? ⟨gk, off, none⟩ = some (.int .i64 3)) (c1 : w.cell? ⟨gk, off + 1, none⟩ = some (.slice b1 m1 d1)) (c2 : w.cell? ⟨gk, off + 2, none⟩ = some (.slice b2 m2 d2)) (c3 : w.cell? ⟨gk, off + 3, none⟩ = some (.slice b3 m3 d3)) (ok : Bool) (G : Option Addr → World → Prop) (GB : Hid (∀ x w w', G x w → Below w.heap.size w w' → G x w')) (KR0 : Hid (∀ wx : World, Below w.heap.size w wx → Calls Try.prog 42 #[.agg #[.int .i64 3, .slice b1 m1 d1, .slice b2 m2 d2, .slice b3 m3 d3], .int .i64 ((hh + np : Nat) : Int)] wx fun e w' => ∃ x, e = .returned (.tuple #[.pointer x, .bool ok]) ∧ G x w' ∧ Below wx.heap.size wx w')) :
    Calls Try.prog 41 #[.agg #[.int .i64 2, .slice ap np cp, .slice av nv cv, .slice (some ⟨gk, off, none⟩) 1 ck], .int .i64 (hh : Int)] w fun e w' => ∃ x, e = .returned (.tuple #[.iface 82 (.agg #[.slice ap np cp, .pointer x]), .bool ok]) ∧ G x w' ∧ Below w.heap.size w w' := by
  have HB : Hid (Below w.heap.size w (w.alloc (.cells #[.int .i64 2, .slice ap np cp, .slice av nv cv, .slice (some ⟨gk, off, none⟩) 1 ck] 25))) := (Below.refl _ _).alloc (Nat.le_refl _) _
  obtain ⟨hh0, q0, q1, q2, q3⟩ := Bx_new w (.int .i64 2, .slice ap np cp, .slice av nv cv, .slice (some ⟨gk, off, none⟩) 1 ck)
  dsimp only at q0 q1 q2 q3
  have e0 : ((np : Int) == 0) = false := beq_eq_false_iff_ne.2 (by omega)
  have e0' : (np == 0) = false := beq_eq_false_iff_ne.2 (by omega)
  have VW : Sp.Vw p ap (w.alloc (.cells #[.int .i64 2, .slice ap np cp, .slice av nv cv, .slice (some ⟨gk, off, none⟩) 1 ck] 25)) := Sp.Vw_al vw _
  have KP : Hid (∀ wx : World, Sp.Vw p ap wx → Calls Try.prog 39 #[.slice ap np cp] wx fun e w' => e = .returned (.bool true) ∧ w' = wx) := fun wx hv => by
    subst hn
    refine (ispath_any p ap cp wx (by show (_ : Int) ≤ _; omega) hv).mono fun e w' h => ⟨?_, h.2⟩
    rw [h.1, show pb p = true from hp]
  have k0 := (HB.out.cell (p := ⟨gk, off, none⟩) hgk0).trans c0
  have k1 := (HB.out.cell (p := ⟨gk, off + 1, none⟩) hgk0).trans c1
  have k2 := (HB.out.cell (p := ⟨gk, off + 2, none⟩) hgk0).trans c2
  have k3 := (HB.out.cell (p := ⟨gk, off + 3, none⟩) hgk0).trans c3
  have hgk : gk < (w.alloc (.cells #[.int .i64 2, .slice ap np cp, .slice av nv cv, .slice (some ⟨gk, off, none⟩) 1 ck] 25)).heap.size := Nat.lt_of_lt_of_le hgk0 HB.out.size
  have E1 : Hid (IntKind.i64.wrap ((hh : Int) + (np : Int)) = ((hh + np : Nat) : Int)) := wrap_add _ _ (by omega) (by omega)
  have KR : Hid (∀ wx : World, Below (w.alloc (.cells #[.int .i64 2, .slice ap np cp, .slice av nv cv, .slice (some ⟨gk, off, none⟩) 1 ck] 25)).heap.size (w.alloc (.cells #[.int .i64 2, .slice ap np cp, .slice av nv cv, .slice (some ⟨gk, off, none⟩) 1 ck] 25)) wx → Calls Try.prog 42 #[.agg #[.int .i64 3, .slice b1 m1 d1, .slice b2 m2 d2, .slice b3 m3 d3], .int .i64 ((hh + np : Nat) : Int)] wx fun e w' => ∃ x, e = .returned (.tuple #[.pointer x, .bool ok]) ∧ G x w' ∧ Below wx.heap.size wx w') := fun wx hb => KR0.out wx (HB.out.trans (hb.mono HB.out.size))
  clear hn hz h0 vw hp c0 c1 c2 c3 KR0 hgk0 hh6
  go_enter Try.func41, Try.ntmps41
  go_wp2_with fail
  refine (KP.out _ VW).mono ?_
  rintro e w1 ⟨rfl, rfl⟩
  go_upto_region 5 with fail
  have HB' := HB.out
  generalize (w.alloc (.cells #[.int .i64 2, .slice ap np cp, .slice av nv cv, .slice (some ⟨gk, off, none⟩) 1 ck] 25)) = W0 at *
  have HG : Hid (w.heap.size ≤ W0.heap.size) := HB'.size
  have hw0 : Below W0.heap.size W0 W0.drew := (Below.refl _ _).drew
  generalize hg0 : w.heap.size = g0 at *
  refine RI.wp_region_inv (RRI W0 G ok ap av np cp nv cv ck hh gk off g0 b1 b2 b3 m1 d1 m2 d2 m3 d3) (by kernel_rfl) (by kernel_rfl) ?_ ?_ ?_
  · exact ⟨undef, undef, undef, undef, undef, undef, undef, undef, undef, undef, undef, undef, undef, undef, undef, rfl, hw0, nofun, nofun, nofun, nofun, nofun, nofun, nofun, nofun, nofun, nofun, nofun, nofun, nofun, nofun, nofun⟩
  · skip
    intro d x wx i hI hi hm
    obtain ⟨u6, u7, u34, u35, u36, u37, u38, u39, u40, u41, u42, u43, u44, u45, u46, rfl, hw, p0, p1, p2, p3, p4, p5, p6, p7, p8, p12, p14, z9, z10, z11, z13⟩ := hI
    have hi' : i = 0 ∨ i = 1 ∨ i = 2 ∨ i = 3 ∨ i = 4 ∨ i = 5 ∨ i = 6 ∨ i = 7 ∨ i = 8 ∨ i = 9 ∨ i = 10 ∨ i = 11 ∨ i = 12 ∨ i = 13 ∨ i = 14 := by simp at hi; omega
    have hd := hm.2
    have hf := hm.1
    clear hm hi
    rcases hi' with rfl | rfl | rfl | rfl | rfl | rfl | rfl | rfl | rfl | rfl | rfl | rfl | rfl | rfl | rfl
    · refine RI.wpOp_plain rfl rfl ?_
      go_simp
      exact ⟨u6, u7, u34, _, u36, u37, u38, u39, u40, u41, u42, u43, u44, u45, u46, rfl, hw, fun _ => rfl, p1, p2, p3, p4, p5, p6, p7, p8, p12, p14, z9, z10, z11, z13⟩
    · have hd := hd _ rfl
      simp [Region.binds] at hd
      obtain rfl := p0 (by simp [hd])
      refine RI.wpOp_plain rfl rfl ?_
      have x0 := (hw.cell (p := ⟨g0, 3, none⟩) hh0).trans q3
      go_simp
      exact ⟨u6, u7, u34, _, _, u37, u38, u39, u40, u41, u42, u43, u44, u45, u46, rfl, hw, p0, fun _ => rfl, p2, p3, p4, p5, p6, p7, p8, p12, p14, z9, z10, z11, z13⟩
    · have hd := hd _ rfl
      simp [Region.binds] at hd
      obtain rfl := p1 (by simp [hd])
      refine RI.wpOp_plain rfl rfl ?_
      go_simp
      exact ⟨u6, u7, u34, u35, _, _, u38, u39, u40, u41, u42, u43, u44, u45, u46, rfl, hw, p0, p1, fun _ => rfl, p3, p4, p5, p6, p7, p8, p12, p14, z9, z10, z11, z13⟩
    · have hd := hd _ rfl
      simp [Region.binds] at hd
      obtain rfl := p2 (by simp [hd])
      refine RI.wpOp_plain rfl rfl ?_
      have x0 := (hw.cell (p := ⟨gk, off, none⟩) hgk).trans k0
      have x1 := (hw.cell (p := ⟨gk, off + 1, none⟩) hgk).trans k1
      have x2 := (hw.cell (p := ⟨gk, off + 2, none⟩) hgk).trans k2
      have x3 := (hw.cell (p := ⟨gk, off + 3, none⟩) hgk).trans k3
      go_simp
      exact ⟨u6, u7, u34, u35, u36, _, _, u39, u40, u41, u42, u43, u44, u45, u46, rfl, hw, p0, p1, p2, fun _ => rfl, p4, p5, p6, p7, p8, p12, p14, z9, z10, z11, z13⟩
    · refine RI.wpOp_plain rfl rfl ?_
      go_simp
      exact ⟨u6, u7, u34, u35, u36, u37, u38, _, u40, u41, u42, u43, u44, u45, u46, rfl, hw, p0, p1, p2, p3, fun _ => rfl, p5, p6, p7, p8, p12, p14, z9, z10, z11, z13⟩
    · refine RI.wpOp_plain rfl rfl ?_
      go_simp
      exact ⟨u6, u7, u34, u35, u36, u37, u38, u39, _, u41, u42, u43, u44, u45, u46, rfl, hw, p0, p1, p2, p3, p4, fun _ => rfl, p6, p7, p8, p12, p14, z9, z10, z11, z13⟩
    · have hd := hd _ rfl
      simp [Region.binds] at hd
      obtain rfl := p5 (by simp [hd])
      refine RI.wpOp_plain rfl rfl ?_
      have x0 := (hw.cell (p := ⟨g0, 1, none⟩) hh0).trans q1
      go_simp
      exact ⟨u6, u7, u34, u35, u36, u37, u38, u39, _, _, u42, u43, u44, u45, u46, rfl, hw, p0, p1, p2, p3, p4, p5, fun _ => rfl, p7, p8, p12, p14, z9, z10, z11, z13⟩
    · have hd := hd _ rfl
      simp [Region.binds] at hd
      obtain rfl := p6 (by simp [hd])
      refine RI.wpOp_plain rfl rfl ?_
      go_simp
      exact ⟨u6, u7, u34, u35, u36, u37, u38, u39, u40, _, _, u43, u44, u45, u46, rfl, hw, p0, p1, p2, p3, p4, p5, p6, fun _ => rfl, p8, p12, p14, z9, z10, z11, z13⟩
    · have hd := hd _ rfl
      simp [Region.binds] at hd
      obtain rfl := p4 (by simp [hd])
      obtain rfl := p7 (by simp [hd])
      refine RI.wpOp_plain rfl rfl ?_
      have e1 := E1.out
      go_simp
      exact ⟨u6, u7, u34, u35, u36, u37, u38, _, u40, u41, _, _, u44, u45, u46, rfl, hw, p0, p1, p2, p3, p4, p5, p6, p7, fun _ => rfl, p12, p14, z9, z10, z11, z13⟩
    · have hd := hd _ rfl
      simp [Region.binds] at hd
      obtain rfl := p3 (by simp [hd])
      obtain rfl := p8 (by simp [hd])
      refine RI.wpOp_plain rfl rfl ?_
      go_simp
      refine (KR.out _ hw).mono ?_
      rintro e w1 ⟨x9, rfl, g9, hb1⟩
      exact ⟨u6, u7, u34, u35, u36, u37, _, u39, u40, u41, u42, _, _, u45, u46, rfl, hw.trans (hb1.mono hw.size), p0, p1, p2, p3, p4, p5, p6, p7, p8, p12, p14, fun _ => ⟨_, rfl, g9⟩, (fun h => (z10 h).imp fun x hx => ⟨hx.1, GB.out _ _ _ hx.2 hb1⟩), (fun h => (z11 h).imp fun x hx => ⟨hx.1, GB.out _ _ _ hx.2 hb1⟩), (fun h => (z13 h).imp fun x hx => ⟨hx.1, GB.out _ _ _ hx.2 hb1⟩)⟩
    · have hd := hd _ rfl
      simp [Region.binds] at hd
      refine RI.wpOp_plain rfl rfl ?_
      obtain ⟨x9, rfl, g9⟩ := z9 (by simp [hd])
      go_simp
      exact ⟨u6, u7, _, u35, u36, u37, u38, u39, u40, u41, u42, u43, _, u45, u46, rfl, hw, p0, p1, p2, p3, p4, p5, p6, p7, p8, p12, p14, z9, fun _ => ⟨_, rfl, g9⟩, z11, z13⟩
    · have hd := hd _ rfl
      simp [Region.binds] at hd
      refine RI.wpOp_plain rfl rfl ?_
      obtain ⟨x9, rfl, g9⟩ := z10 (by simp [hd])
      go_simp
      exact ⟨u6, u7, _, u35, u36, u37, u38, u39, u40, u41, u42, u43, u44, _, u46, rfl, hw, p0, p1, p2, p3, p4, p5, p6, p7, p8, p12, p14, z9, z10, fun _ => ⟨_, rfl, g9⟩, z13⟩
    · have hd := hd _ rfl
      simp [Region.binds] at hd
      refine RI.wpOp_plain rfl rfl ?_
      obtain ⟨x9, rfl, g9⟩ := z10 (by simp [hd])
      go_simp
      exact ⟨u6, u7, _, u35, u36, u37, u38, u39, u40, u41, u42, u43, u44, u45, _, rfl, hw, p0, p1, p2, p3, p4, p5, p6, p7, p8, fun _ => rfl, p14, z9, z10, z11, z13⟩
    · have hd := hd _ rfl
      simp [Region.binds] at hd
      obtain rfl := p0 (by simp [hd])
      obtain rfl := p1 (by simp [hd])
      obtain rfl := p2 (by simp [hd])
      obtain rfl := p3 (by simp [hd])
      obtain rfl := p4 (by simp [hd])
      obtain rfl := p5 (by simp [hd])
      obtain rfl := p6 (by simp [hd])
      obtain rfl := p7 (by simp [hd])
      obtain rfl := p8 (by simp [hd])
      refine RI.wpOp_plain rfl rfl ?_
      obtain ⟨x9, rfl, g9⟩ := z11 (by simp [hd])
      go_simp
      exact ⟨_, u7, u34, _, _, _, _, _, _, _, _, _, u44, _, u46, rfl, hw, p0, p1, p2, p3, p4, p5, p6, p7, p8, p12, p14, z9, z10, z11, fun _ => ⟨_, rfl, g9⟩⟩
    · have hd := hd _ rfl
      simp [Region.binds] at hd
      obtain rfl := p0 (by simp [hd])
      obtain rfl := p1 (by simp [hd])
      obtain rfl := p2 (by simp [hd])
      obtain rfl := p3 (by simp [hd])
      obtain rfl := p4 (by simp [hd])
      obtain rfl := p5 (by simp [hd])
      obtain rfl := p6 (by simp [hd])
      obtain rfl := p7 (by simp [hd])
      obtain rfl := p8 (by simp [hd])
      obtain rfl := p12 (by simp [hd])
      refine RI.wpOp_plain rfl rfl ?_
      go_simp
      exact ⟨u6, _, u34, _, _, _, _, _, _, _, _, _, u44, u45, _, rfl, hw, p0, p1, p2, p3, p4, p5, p6, p7, p8, p12, fun _ => rfl, z9, z10, z11, z13⟩
  · skip
    intro d x wx hI hd
    obtain ⟨u6, u7, u34, u35, u36, u37, u38, u39, u40, u41, u42, u43, u44, u45, u46, rfl, hw, p0, p1, p2, p3, p4, p5, p6, p7, p8, p12, p14, z9, z10, z11, z13⟩ := hI
    obtain ⟨x6, rfl, g6⟩ := z13 (hd 13 (by decide))
    obtain rfl := p14 (hd 14 (by decide))
    clear p0 p1 p2 p3 p4 p5 p6 p7 p8 p12 z9 z10 z11 z13 p14
    have x0 := (hw.cell (p := ⟨g0, 1, none⟩) hh0).trans q1
    have HG6 : Hid (G x6 wx) := g6
    have HZ : Hid (Below w.heap.size w wx) := by show Below _ _ _; rw [hg0]; exact HB'.trans (hw.mono HG.out)
    clear g6 hw HB HB'
    go_wp2_with fail
    go_ret2
    exact ⟨x6, rfl, HG6.out, HZ.out⟩
end Tr
end Go.Proofs.Ythlgneadcagleaa
namespace Go.Proofs.Ythlgneadcagleaa
namespace Tr
open Nb Go.RowKit
def FL (lo g : Nat) (vv : Value) (ks : List Nd) (k : Nat) (wr : World) : Prop :=
  ∃ (c : Array Value) (D : Nat → Nat → Prop), wr.heap[g]? = some (.cells c 98 (0, 0)) ∧ c.size = 17 ∧ c.getD 0 undef = vv ∧ (∀ j, j < k → In lo wr (ks.getD j Nd.no) (c.getD (j + 1) undef) (D j)) ∧ (∀ j x, j < k → D j x → g < x ∧ x < wr.heap.size) ∧ ∀ i j x, i < k → j < k → D i x → D j x → i = j
theorem heap_setCell_same {w : World} {g o : Nat} {c : Array Value} {ty : TypeId} {fz : Nat × Nat} (h : w.heap[g]? = some (.cells c ty fz)) (x : Value) : (w.setCell ⟨g, o, none⟩ x).heap[g]? = some (.cells (c.setIfInBounds o x) ty fz) := by
  unfold World.setCell
  simp only [Array.getElem?_modify, h]
  simp
theorem heap_setCell_other {w : World} {g o k : Nat} (x : Value) (h : k ≠ g) : (w.setCell ⟨g, o, none⟩ x).heap[k]? = w.heap[k]? := by
  unfold World.setCell
  simp only [Array.getElem?_modify]
  rw [if_neg (fun e => h e.symm)]
theorem setCell_size {w : World} {a : Addr} (x : Value) : (w.setCell a x).heap.size = w.heap.size := by
  unfold World.setCell
  simp
theorem ch_set {lo g o : Nat} {w : World} {c : Array Value} (x : Value) (hlo : lo ≤ g) (h : w.heap[g]? = some (.cells c 98 (0, 0))) : Ch lo (· = g) w (w.setCell ⟨g, o, none⟩ x) := by
  refine ⟨rfl, rfl, rfl, by rw [setCell_size]; exact Nat.le_refl _, fun k hk hn => ?_⟩
  by_cases e : k = g
  · subst e
    exact absurd ⟨rfl, hlo, c, h⟩ hn
  · exact heap_setCell_other x e
theorem FL_below {lo g : Nat} {vv : Value} {ks : List Nd} {k : Nat} {wr w' : World} (h : FL lo g vv ks k wr) (hb : Below wr.heap.size wr w') : FL lo g vv ks k w' := by
  obtain ⟨c, D, h1, h2, h3, h4, h5, h6⟩ := h
  refine ⟨c, D, by rw [hb.block g (Pk.lt_of_heap h1)]; exact h1, h2, h3, fun j hj => In_below (h4 j hj) hb, fun j x hj hx => ⟨(h5 j x hj hx).1, Nat.lt_of_lt_of_le (h5 j x hj hx).2 hb.size⟩, h6⟩
theorem FL_lt {lo g : Nat} {vv : Value} {ks : List Nd} {k : Nat} {wr : World} (h : FL lo g vv ks k wr) : g < wr.heap.size := by
  obtain ⟨c, D, h1, _⟩ := h
  exact Pk.lt_of_heap h1
theorem getD_setIf (c : Array Value) (i j : Nat) (x : Value) (hi : i < c.size) : (c.setIfInBounds i x).getD j undef = if j = i then x else c.getD j undef := by
  rw [Array.getD_eq_getD_getElem?, Array.getD_eq_getD_getElem?, Array.getElem?_setIfInBounds]
  by_cases e : i = j
  · rw [if_pos e, if_pos e.symm, if_pos hi]; rfl
  · rw [if_neg e, if_neg (fun h => e h.symm)]
theorem FL_step {lo g : Nat} {vv x : Value} {ks : List Nd} {k : Nat} {wa w1 : World} (hk : k < 16) (hlo : lo ≤ g) (h : FL lo g vv ks k wa) (hb : Below wa.heap.size wa w1) (hx : In lo w1 (ks.getD k Nd.no) x (fun y => wa.heap.size ≤ y)) : FL lo g vv ks (k + 1) (w1.setCell ⟨g, 1 + k, none⟩ x) := by
  have hga := FL_lt h
  obtain ⟨c, D, h1, h2, h3, h4, h5, h6⟩ := h
  have b1 : w1.heap[g]? = some (.cells c 98 (0, 0)) := by rw [hb.block g hga]; exact h1
  have hch : Ch lo (· = g) w1 (w1.setCell ⟨g, 1 + k, none⟩ x) := ch_set x hlo b1
  have hx' := In_lt hx
  refine ⟨c.setIfInBounds (1 + k) x, fun j y => if j = k then (wa.heap.size ≤ y ∧ y < w1.heap.size) else D j y, heap_setCell_same b1 x, by simp [h2], by rw [getD_setIf _ _ _ _ (by omega), if_neg (by omega)]; exact h3, fun j hj => ?_, fun j y hj hy => ?_, fun i j y hi hj hy hz => ?_⟩
  · rw [getD_setIf _ _ _ _ (by omega)]
    by_cases e : j = k
    · subst e
      rw [if_pos (by omega)]
      simp only [if_true]
      exact In_ch hx' hch (fun y _ hy e => by have := hy.1; omega)
    · rw [if_neg (by omega)]
      simp only [if_neg e]
      exact In_ch (In_below (h4 j (by omega)) hb) hch (fun y _ hy e => by have := (h5 j y (by omega) hy).1; omega)
  · rw [setCell_size]
    by_cases e : j = k
    · simp only [if_pos e] at hy
      omega
    · simp only [if_neg e] at hy
      have := h5 j y (by omega) hy
      have := hb.size
      omega
  · by_cases e : i = k
    · by_cases e2 : j = k
      · omega
      · simp only [if_pos e, if_neg e2] at hy hz
        have := (h5 j y (by omega) hz).2
        omega
    · by_cases e2 : j = k
      · simp only [if_neg e, if_pos e2] at hy hz
        have := (h5 i y (by omega) hy).2
        omega
      · simp only [if_neg e, if_neg e2] at hy hz
        exact h6 i j y (by omega) (by omega) hy hz
theorem FL_start {lo g : Nat} {vv : Value} {ks : List Nd} {w : World} {c : Array Value} (h1 : w.heap[g]? = some (.cells c 98 (0, 0))) (h2 : c.size = 17) (h3 : c.getD 0 undef = vv) : FL lo g vv ks 0 w :=
  ⟨c, fun _ _ => False, h1, h2, h3, fun j hj => absurd hj (by omega), fun j x hj => absurd hj (by omega), fun i j x hi => absurd hi (by omega)⟩
theorem FL_in {lo g : Nat} {p v : By} {vv : Value} {ks : List Nd} {w : World} {B : Nat} (h : FL lo g vv ks 16 w) (hl : ks.length = 16) (hlo : lo ≤ g) (hv : Bs (Sb lo w) v vv w) (hB : B ≤ g) : In lo w (.mk 3 p v ks) (.iface 73 (.pointer (some ⟨g, 0, none⟩))) (fun x => B ≤ x) := by
  obtain ⟨c, D, h1, h2, h3, h4, h5, h6⟩ := h
  exact .fork p v ks g c _ D hl hlo h1 h2 hB (by rw [h3]; exact hv) h4 (fun j hj hg => by have := (h5 j g hj hg).1; omega) h6 (fun j x hj hx => by have := (h5 j x hj hx).1; omega)
theorem dec2 (n : Nat) : decide (2 ≤ n) = decide ((2 : Int) ≤ (n : Int)) := by
  rw [decide_eq_decide]; omega
theorem FL_cell {lo g : Nat} {vv : Value} {ks : List Nd} {k : Nat} {w : World} (h : FL lo g vv ks k w) {j : Nat} (hj : j < 16) : ∃ x, w.cell? ⟨g, 1 + j, none⟩ = some x := by
  obtain ⟨c, D, h1, h2, _⟩ := h
  exact ⟨_, cell_fork h1 (1 + j) (by omega)⟩
theorem FL_frozen {lo g : Nat} {vv : Value} {ks : List Nd} {k : Nat} {w : World} (h : FL lo g vv ks k w) (o : Nat) : w.frozen? ⟨g, o, none⟩ = false := by
  obtain ⟨c, D, h1, h2, _⟩ := h
  unfold World.frozen?
  simp [h1]
theorem all_no {okf : Nat → Bool} {k : Nat} {b : Bool} (hk : k < 16) (h : okf k = false) : ((List.range 16).all okf && b) = false := by
  rw [Bool.and_eq_false_iff]
  left
  rw [List.all_eq_false]
  exact ⟨k, List.mem_range.2 hk, by rw [h]; decide⟩
set_option maxHeartbeats 2000000 in
set_option maxRecDepth 100000 in
theorem rfork_ok (ap av : Option Addr) (np cp nv cv ck hh gk off : Nat) (w : World) (lo : Nat) (hlo : lo ≤ w.heap.size) (ks : List Nd) (vs : List V4) (p v : By) (hl : ks.length = 16) (hh6 : hh ≤ 64) (hnv : nv = v.length) (hmv : v = [] ∨ may v hh = true)
    (hv : Bs (· < lo) v (.slice av nv cv) w) (hgk : gk < w.heap.size)
    (hc : Hid (∀ j, j < 16 → w.cell? ⟨gk, off + 4 * j, none⟩ = some (vs.getD j n4).1 ∧ w.cell? ⟨gk, off + 4 * j + 1, none⟩ = some (vs.getD j n4).2.1 ∧ w.cell? ⟨gk, off + 4 * j + 2, none⟩ = some (vs.getD j n4).2.2.1 ∧ w.cell? ⟨gk, off + 4 * j + 3, none⟩ = some (vs.getD j n4).2.2.2))
    (okf : Nat → Bool) (hf : Hid (∀ j, j < 16 → ∃ k a1 n1 c1 a2 n2 c2 a3 n3 c3, vs.getD j n4 = (.int .i64 k, .slice a1 n1 c1, .slice a2 n2 c2, .slice a3 n3 c3)))
    (KR : Hid (∀ j, j < 16 → ∀ wx : World, Below w.heap.size w wx → Calls Try.prog 22 #[v4 (vs.getD j n4), .int .i64 ((hh + 1 : Nat) : Int)] wx fun e w' => ∃ x, e = .returned (.tuple #[x, .bool (okf j)]) ∧ (okf j = true → In lo w' (ks.getD j Nd.no) x (fun y => wx.heap.size ≤ y)) ∧ Below wx.heap.size wx w')) :
    Calls Try.prog 42 #[.agg #[.int .i64 3, .slice ap np cp, .slice av nv cv, .slice (some ⟨gk, off, none⟩) 16 ck], .int .i64 (hh : Int)] w fun e w' => ∃ x, e = .returned (.tuple #[.pointer x, .bool ((List.range 16).all okf && decide (2 ≤ pts v ks))]) ∧ (((List.range 16).all okf && decide (2 ≤ pts v ks)) = true → ∃ g, x = some ⟨g, 0, none⟩ ∧ In lo w' (.mk 3 p v ks) (.iface 73 (.pointer (some ⟨g, 0, none⟩))) (fun y => w.heap.size ≤ y)) ∧ Below w.heap.size w w' := by
  have HB : Below w.heap.size w (w.alloc (.cells #[.int .i64 3, .slice ap np cp, .slice av nv cv, .slice (some ⟨gk, off, none⟩) 16 ck] 25)) := (Below.refl _ _).alloc (Nat.le_refl _) _
  obtain ⟨hh0, q0, q1, q2, q3⟩ := Bx_new w (.int .i64 3, .slice ap np cp, .slice av nv cv, .slice (some ⟨gk, off, none⟩) 16 ck)
  dsimp only at q0 q1 q2 q3
  have d64 : decide ((64 : Int) < (hh : Int)) = false := decide_eq_false (by omega)
  have E1 : Hid (wrap64 ((hh : Int) + 1) = ((hh + 1 : Nat) : Int)) := by show _ = _; unfold wrap64; omega
  have KM : Hid (∀ wx : World, Calls Try.prog 40 #[.slice av nv cv, .int .i64 (hh : Int)] wx fun e w' => e = .returned (.bool (may v hh)) ∧ w' = wx) := fun wx => by
    subst hnv
    exact mayhave_any v hh av cv wx
  have hS1 : (w.alloc (.cells #[.int .i64 3, .slice ap np cp, .slice av nv cv, .slice (some ⟨gk, off, none⟩) 16 ck] 25)).heap.size = w.heap.size + 1 := by simp
  have HB2 : Hid (Below w.heap.size w ((w.alloc (.cells #[.int .i64 3, .slice ap np cp, .slice av nv cv, .slice (some ⟨gk, off, none⟩) 16 ck] 25)).alloc (.cells #[.slice av nv cv, .nilIface, .nilIface, .nilIface, .nilIface, .nilIface, .nilIface, .nilIface, .nilIface, .nilIface, .nilIface, .nilIface, .nilIface, .nilIface, .nilIface, .nilIface, .nilIface] 98))) := HB.alloc (by rw [hS1]; omega) _
  have HA := heap_alloc_new (w.alloc (.cells #[.int .i64 3, .slice ap np cp, .slice av nv cv, .slice (some ⟨gk, off, none⟩) 16 ck] 25)) (.cells #[.slice av nv cv, .nilIface, .nilIface, .nilIface, .nilIface, .nilIface, .nilIface, .nilIface, .nilIface, .nilIface, .nilIface, .nilIface, .nilIface, .nilIface, .nilIface, .nilIface, .nilIface] 98)
  rw [hS1] at HA
  have F0 : FL lo (w.heap.size + 1) (.slice av nv cv) ks 0 ((w.alloc (.cells #[.int .i64 3, .slice ap np cp, .slice av nv cv, .slice (some ⟨gk, off, none⟩) 16 ck] 25)).alloc (.cells #[.slice av nv cv, .nilIface, .nilIface, .nilIface, .nilIface, .nilIface, .nilIface, .nilIface, .nilIface, .nilIface, .nilIface, .nilIface, .nilIface, .nilIface, .nilIface, .nilIface, .nilIface] 98)) := FL_start HA rfl rfl
  have HV : Hid (Bs (· < lo) v (.slice av nv cv) w) := hv
  have HN : Hid (nv = v.length) := hnv
  have KP : Hid (∀ wx : World, FL lo (w.heap.size + 1) (.slice av nv cv) ks 16 wx → Calls Try.prog 59 #[.pointer (some ⟨w.heap.size + 1, 0, none⟩)] wx fun e w' => e = .returned (.int .i64 (pts v ks : Nat)) ∧ Below wx.heap.size wx w') := fun wx hF => by
    obtain ⟨c, D, h1, h2, h3, h4, h5, h6⟩ := hF
    exact parts_any v ks (w.heap.size + 1) c wx av cv hl h1 h2 (by rw [h3, hnv]) (fun j hj w2 => isnone_in (h4 j hj) w2)
  have HR : Hid (lo ≤ w.heap.size) := hlo
  have HL : Hid (ks.length = 16) := hl
  clear hv HA hnv hlo hl
  by_cases h0 : nv = 0
  · have dn : decide ((0 : Int) < (nv : Int)) = false := decide_eq_false (by omega)
    have dn' : decide (0 < nv) = false := decide_eq_false (by omega)
    clear h0 hmv KM
    go_enter Try.func42, Try.ntmps42
    go_wp2_with fail
    generalize (w.alloc (.cells #[.int .i64 3, .slice ap np cp, .slice av nv cv, .slice (some ⟨gk, off, none⟩) 16 ck] 25)).alloc (.cells #[.slice av nv cv, .nilIface, .nilIface, .nilIface, .nilIface, .nilIface, .nilIface, .nilIface, .nilIface, .nilIface, .nilIface, .nilIface, .nilIface, .nilIface, .nilIface, .nilIface, .nilIface] 98) = W1 at *
    clear q0 q1 q2 q3 hh0 HB hS1
    go_loopw [37] (fun i wr => ∃ k : Nat, k ≤ 16 ∧ i = .int .i64 (k : Int) ∧ FL lo (w.heap.size + 1) (.slice av nv cv) ks k wr ∧ Below w.heap.size w wr ∧ ∀ j, j < k → okf j = true) (fun i _ => ((16 : Int) - intOf i).toNat)
    case atStart => exact ⟨0, Nat.zero_le _, rfl, F0, HB2.out, fun j hj => absurd hj (by omega)⟩
    case round =>
      obtain ⟨k, hk, rfl, hF, hB, hok⟩ := hrel
      by_cases hlt : k < 16
      · have d1 : decide ((k : Int) < 16) = true := decide_eq_true (by omega)
        have d2 : (0 : Int) ≤ (k : Int) := by omega
        have d3 : (k : Int) < 16 := by omega
        obtain ⟨y0, y1, y2, y3⟩ := hc.out k hlt
        obtain ⟨kk, b1, m1, d1', b2, m2, d2', b3, m3, d3', eF⟩ := hf.out k hlt
        have KRk := KR.out k hlt
        rw [eF] at y0 y1 y2 y3 KRk
        dsimp only [v4] at y0 y1 y2 y3 KRk
        have ec : ((hh + 1 : Nat) : Int) = (hh : Int) + 1 := by omega
        rw [ec] at KRk
        clear ec
        have z0 := (hB.cell (p := ⟨gk, off + 4 * k, none⟩) hgk).trans y0
        have z1 := (hB.cell (p := ⟨gk, off + 4 * k + 1, none⟩) hgk).trans y1
        have z2 := (hB.cell (p := ⟨gk, off + 4 * k + 2, none⟩) hgk).trans y2
        have z3 := (hB.cell (p := ⟨gk, off + 4 * k + 3, none⟩) hgk).trans y3
        rw [Nat.mul_comm 4 k] at z0 z1 z2 z3
        have HK : Hid (∀ wx : World, Below w.heap.size w wx → Calls Try.prog 22 #[.agg #[.int .i64 kk, .slice b1 m1 d1', .slice b2 m2 d2', .slice b3 m3 d3'], .int .i64 ((hh : Int) + 1)] wx fun e w' => ∃ x, e = .returned (.tuple #[x, .bool (okf k)]) ∧ (okf k = true → In lo w' (ks.getD k Nd.no) x (fun y => wx.heap.size ≤ y)) ∧ Below wx.heap.size wx w') := KRk
        have E5 : Hid (wrap64 ((k : Int) + 1) = ((k + 1 : Nat) : Int)) := by show _ = _; unfold wrap64; omega
        have HFk : Hid (FL lo (w.heap.size + 1) (.slice av nv cv) ks k wr) := hF
        have bA : Below wr.heap.size wr (wr.alloc (.cells #[.int .i64 kk, .slice b1 m1 d1', .slice b2 m2 d2', .slice b3 m3 d3'] 25)) := (Below.refl _ _).alloc (Nat.le_refl _) _
        have HFa : Hid (FL lo (w.heap.size + 1) (.slice av nv cv) ks k (wr.alloc (.cells #[.int .i64 kk, .slice b1 m1 d1', .slice b2 m2 d2', .slice b3 m3 d3'] 25))) := FL_below hF bA
        have HBa : Hid (Below w.heap.size w (wr.alloc (.cells #[.int .i64 kk, .slice b1 m1 d1', .slice b2 m2 d2', .slice b3 m3 d3'] 25))) := hB.trans (bA.mono hB.size)
        have HOK : Hid (∀ j, j < k → okf j = true) := hok
        clear y0 y1 y2 y3 KRk eF hF hok bA hB
        go_wp2_with fail
        refine (HK.out _ HBa.out).mono ?_
        rintro e w1 ⟨x, rfl, hi, hb1⟩
        have HI : Hid (okf k = true → In lo w1 (ks.getD k Nd.no) x (fun y => (wr.alloc (.cells #[.int .i64 kk, .slice b1 m1 d1', .slice b2 m2 d2', .slice b3 m3 d3'] 25)).heap.size ≤ y)) := hi
        have HB1 : Hid (Below (wr.alloc (.cells #[.int .i64 kk, .slice b1 m1 d1', .slice b2 m2 d2', .slice b3 m3 d3'] 25)).heap.size (wr.alloc (.cells #[.int .i64 kk, .slice b1 m1 d1', .slice b2 m2 d2', .slice b3 m3 d3'] 25)) w1) := hb1
        clear hi hb1 HK z0 z1 z2 z3
        generalize (wr.alloc (.cells #[.int .i64 kk, .slice b1 m1 d1', .slice b2 m2 d2', .slice b3 m3 d3'] 25)) = wa at *
        have HZ : Hid (Below w.heap.size w w1) := HBa.out.trans (HB1.out.mono HBa.out.size)
        cases hkk : okf k with
        | false =>
          have HA : Hid (((List.range 16).all okf && decide (2 ≤ pts v ks)) = false) := all_no hlt hkk
          go_wp2_with fail
          go_ret2
          exact ⟨none, by rw [HA.out]; rfl, fun h => absurd (HA.out.symm.trans h) (by decide), HZ.out⟩
        | true =>
          obtain ⟨ty, y, rfl⟩ := In_form (HI.out hkk)
          have HS : Hid (FL lo (w.heap.size + 1) (.slice av nv cv) ks (k + 1) (w1.setCell ⟨w.heap.size + 1, 1 + k, none⟩ (.iface ty y))) := FL_step hlt (by have := HR.out; omega) HFa.out HB1.out (HI.out hkk)
          have HBs : Hid (Below w.heap.size w (w1.setCell ⟨w.heap.size + 1, 1 + k, none⟩ (.iface ty y))) := HZ.out.setCell (by dsimp only; omega) _
          obtain ⟨cc, hcc⟩ := FL_cell (FL_below HFa.out HB1.out) hlt
          have hz := FL_frozen (FL_below HFa.out HB1.out) (1 + k)
          go_wp2_with fail
          exact ⟨⟨k + 1, hlt, by rw [Int.natCast_succ], HS.out, HBs.out, fun j hj => by
            by_cases e : j = k
            · rw [e]; exact hkk
            · exact HOK.out j (by omega)⟩, by simp only [intOf]; omega⟩
      · have d1 : decide ((k : Int) < 16) = false := decide_eq_false (by omega)
        have ek : k = 16 := by omega
        subst ek
        have HFk : Hid (FL lo (w.heap.size + 1) (.slice av nv cv) ks 16 wr) := hF
        have HBk : Hid (Below w.heap.size w wr) := hB
        have HOK : Hid ((List.range 16).all okf = true) := List.all_eq_true.2 (fun j hj => hok j (List.mem_range.1 hj))
        clear hF hB hok d1
        go_wp2_with fail
        refine (KP.out _ HFk.out).mono ?_
        rintro e w1 ⟨rfl, hb1⟩
        have HF1 : Hid (FL lo (w.heap.size + 1) (.slice av nv cv) ks 16 w1) := FL_below HFk.out hb1
        have HZ : Hid (Below w.heap.size w w1) := HBk.out.trans (hb1.mono HBk.out.size)
        clear hb1
        go_wp2_with fail
        go_ret2
        exact ⟨some ⟨w.heap.size + 1, 0, none⟩, by rw [HOK.out, Bool.true_and, dec2]; rfl, fun _ => ⟨_, rfl, FL_in HF1.out HL.out (by have := HR.out; omega) (Bs_lo (Bs_below HV.out HZ.out)) (by omega)⟩, HZ.out⟩
  · have hm : may v hh = true := by
      rcases hmv with h | h
      · have := HN.out
        rw [h] at this
        exact absurd this h0
      · exact h
    rw [hm] at KM
    have dn : decide ((0 : Int) < (nv : Int)) = true := decide_eq_true (by omega)
    have dn' : decide (0 < nv) = true := decide_eq_true (by omega)
    clear h0 hmv hm
    go_enter Try.func42, Try.ntmps42
    go_wp2_with fail
    refine (KM.out _).mono ?_
    rintro e w1 ⟨rfl, rfl⟩
    go_wp2_with fail
    generalize (w.alloc (.cells #[.int .i64 3, .slice ap np cp, .slice av nv cv, .slice (some ⟨gk, off, none⟩) 16 ck] 25)).alloc (.cells #[.slice av nv cv, .nilIface, .nilIface, .nilIface, .nilIface, .nilIface, .nilIface, .nilIface, .nilIface, .nilIface, .nilIface, .nilIface, .nilIface, .nilIface, .nilIface, .nilIface, .nilIface] 98) = W1 at *
    clear q0 q1 q2 q3 hh0 HB hS1
    go_loopw [37] (fun i wr => ∃ k : Nat, k ≤ 16 ∧ i = .int .i64 (k : Int) ∧ FL lo (w.heap.size + 1) (.slice av nv cv) ks k wr ∧ Below w.heap.size w wr ∧ ∀ j, j < k → okf j = true) (fun i _ => ((16 : Int) - intOf i).toNat)
    case atStart => exact ⟨0, Nat.zero_le _, rfl, F0, HB2.out, fun j hj => absurd hj (by omega)⟩
    case round =>
      obtain ⟨k, hk, rfl, hF, hB, hok⟩ := hrel
      by_cases hlt : k < 16
      · have d1 : decide ((k : Int) < 16) = true := decide_eq_true (by omega)
        have d2 : (0 : Int) ≤ (k : Int) := by omega
        have d3 : (k : Int) < 16 := by omega
        obtain ⟨y0, y1, y2, y3⟩ := hc.out k hlt
        obtain ⟨kk, b1, m1, d1', b2, m2, d2', b3, m3, d3', eF⟩ := hf.out k hlt
        have KRk := KR.out k hlt
        rw [eF] at y0 y1 y2 y3 KRk
        dsimp only [v4] at y0 y1 y2 y3 KRk
        have ec : ((hh + 1 : Nat) : Int) = (hh : Int) + 1 := by omega
        rw [ec] at KRk
        clear ec
        have z0 := (hB.cell (p := ⟨gk, off + 4 * k, none⟩) hgk).trans y0
        have z1 := (hB.cell (p := ⟨gk, off + 4 * k + 1, none⟩) hgk).trans y1
        have z2 := (hB.cell (p := ⟨gk, off + 4 * k + 2, none⟩) hgk).trans y2
        have z3 := (hB.cell (p := ⟨gk, off + 4 * k + 3, none⟩) hgk).trans y3
        rw [Nat.mul_comm 4 k] at z0 z1 z2 z3
        have HK : Hid (∀ wx : World, Below w.heap.size w wx → Calls Try.prog 22 #[.agg #[.int .i64 kk, .slice b1 m1 d1', .slice b2 m2 d2', .slice b3 m3 d3'], .int .i64 ((hh : Int) + 1)] wx fun e w' => ∃ x, e = .returned (.tuple #[x, .bool (okf k)]) ∧ (okf k = true → In lo w' (ks.getD k Nd.no) x (fun y => wx.heap.size ≤ y)) ∧ Below wx.heap.size wx w') := KRk
        have E5 : Hid (wrap64 ((k : Int) + 1) = ((k + 1 : Nat) : Int)) := by show _ = _; unfold wrap64; omega
        have HFk : Hid (FL lo (w.heap.size + 1) (.slice av nv cv) ks k wr) := hF
        have bA : Below wr.heap.size wr (wr.alloc (.cells #[.int .i64 kk, .slice b1 m1 d1', .slice b2 m2 d2', .slice b3 m3 d3'] 25)) := (Below.refl _ _).alloc (Nat.le_refl _) _
        have HFa : Hid (FL lo (w.heap.size + 1) (.slice av nv cv) ks k (wr.alloc (.cells #[.int .i64 kk, .slice b1 m1 d1', .slice b2 m2 d2', .slice b3 m3 d3'] 25))) := FL_below hF bA
        have HBa : Hid (Below w.heap.size w (wr.alloc (.cells #[.int .i64 kk, .slice b1 m1 d1', .slice b2 m2 d2', .slice b3 m3 d3'] 25))) := hB.trans (bA.mono hB.size)
        have HOK : Hid (∀ j, j < k → okf j = true) := hok
        clear y0 y1 y2 y3 KRk eF hF hok bA hB
        go_wp2_with fail
        refine (HK.out _ HBa.out).mono ?_
        rintro e w1 ⟨x, rfl, hi, hb1⟩
        have HI : Hid (okf k = true → In lo w1 (ks.getD k Nd.no) x (fun y => (wr.alloc (.cells #[.int .i64 kk, .slice b1 m1 d1', .slice b2 m2 d2', .slice b3 m3 d3'] 25)).heap.size ≤ y)) := hi
        have HB1 : Hid (Below (wr.alloc (.cells #[.int .i64 kk, .slice b1 m1 d1', .slice b2 m2 d2', .slice b3 m3 d3'] 25)).heap.size (wr.alloc (.cells #[.int .i64 kk, .slice b1 m1 d1', .slice b2 m2 d2', .slice b3 m3 d3'] 25)) w1) := hb1
        clear hi hb1 HK z0 z1 z2 z3
        generalize (wr.alloc (.cells #[.int .i64 kk, .slice b1 m1 d1', .slice b2 m2 d2', .slice b3 m3 d3'] 25)) = wa at *
        have HZ : Hid (Below w.heap.size w w1) := HBa.out.trans (HB1.out.mono HBa.out.size)
        cases hkk : okf k with
        | false =>
          have HA : Hid (((List.range 16).all okf && decide (2 ≤ pts v ks)) = false) := all_no hlt hkk
          go_wp2_with fail
          go_ret2
          exact ⟨none, by rw [HA.out]; rfl, fun h => absurd (HA.out.symm.trans h) (by decide), HZ.out⟩
        | true =>
          obtain ⟨ty, y, rfl⟩ := In_form (HI.out hkk)
          have HS : Hid (FL lo (w.heap.size + 1) (.slice av nv cv) ks (k + 1) (w1.setCell ⟨w.heap.size + 1, 1 + k, none⟩ (.iface ty y))) := FL_step hlt (by have := HR.out; omega) HFa.out HB1.out (HI.out hkk)
          have HBs : Hid (Below w.heap.size w (w1.setCell ⟨w.heap.size + 1, 1 + k, none⟩ (.iface ty y))) := HZ.out.setCell (by dsimp only; omega) _
          obtain ⟨cc, hcc⟩ := FL_cell (FL_below HFa.out HB1.out) hlt
          have hz := FL_frozen (FL_below HFa.out HB1.out) (1 + k)
          go_wp2_with fail
          exact ⟨⟨k + 1, hlt, by rw [Int.natCast_succ], HS.out, HBs.out, fun j hj => by
            by_cases e : j = k
            · rw [e]; exact hkk
            · exact HOK.out j (by omega)⟩, by simp only [intOf]; omega⟩
      · have d1 : decide ((k : Int) < 16) = false := decide_eq_false (by omega)
        have ek : k = 16 := by omega
        subst ek
        have HFk : Hid (FL lo (w.heap.size + 1) (.slice av nv cv) ks 16 wr) := hF
        have HBk : Hid (Below w.heap.size w wr) := hB
        have HOK : Hid ((List.range 16).all okf = true) := List.all_eq_true.2 (fun j hj => hok j (List.mem_range.1 hj))
        clear hF hB hok d1
        go_wp2_with fail
        refine (KP.out _ HFk.out).mono ?_
        rintro e w1 ⟨rfl, hb1⟩
        have HF1 : Hid (FL lo (w.heap.size + 1) (.slice av nv cv) ks 16 w1) := FL_below HFk.out hb1
        have HZ : Hid (Below w.heap.size w w1) := HBk.out.trans (hb1.mono HBk.out.size)
        clear hb1
        go_wp2_with fail
        go_ret2
        exact ⟨some ⟨w.heap.size + 1, 0, none⟩, by rw [HOK.out, Bool.true_and, dec2]; rfl, fun _ => ⟨_, rfl, FL_in HF1.out HL.out (by have := HR.out; omega) (Bs_lo (Bs_below HV.out HZ.out)) (by omega)⟩, HZ.out⟩
set_option maxHeartbeats 2000000 in
set_option maxRecDepth 100000 in
theorem rfork_deep (ap av ak : Option Addr) (np cp nv cv nk ck hh : Nat) (w : World) (h : 64 < hh) :
    Calls Try.prog 42 #[.agg #[.int .i64 3, .slice ap np cp, .slice av nv cv, .slice ak nk ck], .int .i64 (hh : Int)] w fun e w' => e = .returned (.tuple #[.pointer none, .bool false]) ∧ Below w.heap.size w w' := by
  have HB : Hid (Below w.heap.size w (w.alloc (.cells #[.int .i64 3, .slice ap np cp, .slice av nv cv, .slice ak nk ck] 25))) := (Below.refl _ _).alloc (Nat.le_refl _) _
  obtain ⟨hh0, q0, q1, q2, q3⟩ := Bx_new w (.int .i64 3, .slice ap np cp, .slice av nv cv, .slice ak nk ck)
  dsimp only at q0 q1 q2 q3
  have d64 : decide ((64 : Int) < (hh : Int)) = true := decide_eq_true (by omega)
  go_enter Try.func42, Try.ntmps42
  go_wp2_with fail
  go_ret2
  exact ⟨rfl, HB.out⟩
set_option maxHeartbeats 2000000 in
set_option maxRecDepth 100000 in
theorem rfork_kids (ap av ak : Option Addr) (np cp nv cv nk ck hh : Nat) (w : World) (h : hh ≤ 64) (hk : nk ≠ 16) :
    Calls Try.prog 42 #[.agg #[.int .i64 3, .slice ap np cp, .slice av nv cv, .slice ak nk ck], .int .i64 (hh : Int)] w fun e w' => e = .returned (.tuple #[.pointer none, .bool false]) ∧ Below w.heap.size w w' := by
  have HB : Hid (Below w.heap.size w (w.alloc (.cells #[.int .i64 3, .slice ap np cp, .slice av nv cv, .slice ak nk ck] 25))) := (Below.refl _ _).alloc (Nat.le_refl _) _
  obtain ⟨hh0, q0, q1, q2, q3⟩ := Bx_new w (.int .i64 3, .slice ap np cp, .slice av nv cv, .slice ak nk ck)
  dsimp only at q0 q1 q2 q3
  have d64 : decide ((64 : Int) < (hh : Int)) = false := decide_eq_false (by omega)
  have e3 : ((nk : Int) != 16) = true := bne_iff_ne.2 (by omega)
  have e4 : (nk != 16) = true := bne_iff_ne.2 hk
  clear hk
  go_enter Try.func42, Try.ntmps42
  go_wp2_with fail
  go_ret2
  exact ⟨rfl, HB.out⟩
set_option maxHeartbeats 2000000 in
set_option maxRecDepth 100000 in
theorem rfork_value (ap av ak : Option Addr) (np cp nv cv nk ck hh : Nat) (w : World) (h : hh ≤ 64) (hk : nk = 16) (v : By) (hnv : nv = v.length) (h0 : v ≠ []) (hm : may v hh = false) :
    Calls Try.prog 42 #[.agg #[.int .i64 3, .slice ap np cp, .slice av nv cv, .slice ak nk ck], .int .i64 (hh : Int)] w fun e w' => e = .returned (.tuple #[.pointer none, .bool false]) ∧ Below w.heap.size w w' := by
  have HB : Hid (Below w.heap.size w (w.alloc (.cells #[.int .i64 3, .slice ap np cp, .slice av nv cv, .slice ak nk ck] 25))) := (Below.refl _ _).alloc (Nat.le_refl _) _
  obtain ⟨hh0, q0, q1, q2, q3⟩ := Bx_new w (.int .i64 3, .slice ap np cp, .slice av nv cv, .slice ak nk ck)
  dsimp only at q0 q1 q2 q3
  have d64 : decide ((64 : Int) < (hh : Int)) = false := decide_eq_false (by omega)
  subst hk
  have KM : Hid (∀ wx : World, Calls Try.prog 40 #[.slice av nv cv, .int .i64 (hh : Int)] wx fun e w' => e = .returned (.bool false) ∧ w' = wx) := fun wx => by
    subst hnv
    rw [← hm]
    exact mayhave_any v hh av cv wx
  have h1 : 0 < nv := by rw [hnv]; exact List.length_pos_iff.2 h0
  have dn : decide ((0 : Int) < (nv : Int)) = true := decide_eq_true (by omega)
  have dn' : decide (0 < nv) = true := decide_eq_true h1
  clear hnv h1
  go_enter Try.func42, Try.ntmps42
  go_wp2_with fail
  refine (KM.out _).mono ?_
  rintro e w1 ⟨rfl, rfl⟩
  go_wp2_with fail
  go_ret2
  exact ⟨rfl, HB.out⟩
end Tr
end Go.Proofs.Ythlgneadcagleaa
namespace Go.Proofs.Ythlgneadcagleaa
namespace Tr
open Nb Go.RowKit
set_option maxHeartbeats 1000000 in
set_option maxRecDepth 100000 in
theorem single_any {lo : Nat} {p v : By} {pv vv : Value} {w : World} (F : Nat → Prop) (hp : Bs (Sb lo w) p pv w) (hv : Bs (Sb lo w) v vv w) :
    Calls Try.prog 51 #[pv, vv] w fun e w' => (∃ x, e = .returned x ∧ In lo w (sing p v) x F) ∧ w' = w := by
  have H1 : Hid (In lo w (.mk 1 p v []) (.iface 71 (.agg #[pv, vv])) F) := .leaf p v [] pv vv F hp hv
  obtain ⟨a1, c1, rfl, _⟩ := Bs_form hp
  obtain ⟨a2, c2, rfl, _⟩ := Bs_form hv
  clear hp hv
  by_cases h0 : v = []
  · subst h0
    have H2 : Hid (In lo w (sing p []) (.iface 69 (.agg #[])) F) := by show In _ _ _ _ _; rw [sing, if_pos rfl]; exact .none [] [] [] F
    clear H1
    rw [List.length_nil]
    go_enter Try.func51, Try.ntmps51
    go_wp2_with fail
    go_ret
    exact ⟨⟨_, rfl, H2.out⟩, rfl⟩
  · have H2 : Hid (In lo w (sing p v) (.iface 71 (.agg #[.slice a1 p.length c1, .slice a2 v.length c2])) F) := by show In _ _ _ _ _; rw [sing, if_neg h0]; exact H1.out
    have h1 : v.length ≠ 0 := fun e => h0 (List.length_eq_zero_iff.1 e)
    have d0 : ((v.length : Int) == 0) = false := beq_eq_false_iff_ne.2 (by omega)
    have d1 : (v.length == 0) = false := beq_eq_false_iff_ne.2 h1
    clear H1 h0
    generalize v.length = n at *
    go_enter Try.func51, Try.ntmps51
    go_wp2_with fail
    go_ret
    exact ⟨⟨_, rfl, H2.out⟩, rfl⟩
set_option maxHeartbeats 1000000 in
set_option maxRecDepth 100000 in
theorem behind_none (x pv : Value) (w : World) :
    Calls Try.prog 48 #[pv, .iface 69 x] w fun e w' => e = .returned (.iface 69 x) ∧ w' = w := by
  have a1 := fun w => no_leaf 69 x w (by decide)
  have a2 := fun w => no_road 69 x w (by decide)
  have a3 := fun w => no_fork 69 x w (by decide)
  go_enter Try.func48, Try.ntmps48
  go_wp2_with fail
  go_ret
  exact ⟨rfl, rfl⟩
set_option maxHeartbeats 1000000 in
set_option maxRecDepth 100000 in
theorem behind_fork (xa : Option Addr) (a : Option Addr) (n c : Nat) (w : World) :
    Calls Try.prog 48 #[.slice a n c, .iface 73 (.pointer xa)] w fun e w' => e = .returned (if n = 0 then .iface 73 (.pointer xa) else .iface 82 (.agg #[.slice a n c, .pointer xa])) ∧ w' = w := by
  have a1 := fun w => no_leaf 73 (.pointer xa) w (by decide)
  have a2 := fun w => no_road 73 (.pointer xa) w (by decide)
  have a3 := fun w => as_fork (.pointer xa) w
  by_cases h0 : n = 0
  · subst h0
    rw [if_pos rfl]
    go_enter Try.func48, Try.ntmps48
    go_wp2_with fail
    go_ret
    exact ⟨rfl, rfl⟩
  · rw [if_neg h0]
    have d0 : decide ((0 : Int) < (n : Int)) = true := decide_eq_true (by omega)
    have d1 : decide (0 < n) = true := decide_eq_true (by omega)
    clear h0
    go_enter Try.func48, Try.ntmps48
    go_wp2_with fail
    go_ret
    exact ⟨rfl, rfl⟩
inductive BHleaf (W0 : World) (lo : Nat) (p q : By) (a1 a2 a3 : Option Addr) (n1 c1 n2 c2 n3 c3 g0 : Nat) (d : Nat → Bool) (x : Act) (wx : World) : Prop where
  | mk (u4 u12 u13 u14 u15 u16 u17 u18 u19 u20 : Value) (hx : x = { tmps := #[.slice a1 n1 c1, .iface 71 (.agg #[.slice a2 n2 c2, .slice a3 n3 c3]), undef, undef, u4, .pointer (some ⟨g0, 0, none⟩), undef, undef, .iface 71 (.agg #[.slice a2 n2 c2, .slice a3 n3 c3]), .tuple #[.agg #[.slice a2 n2 c2, .slice a3 n3 c3], .bool true], .bool true, .agg #[.slice a2 n2 c2, .slice a3 n3 c3], u12, u13, u14, u15, u16, u17, u18, u19, u20, undef, undef, undef, undef, undef, undef, undef, undef, undef, undef, undef, undef, undef, undef, undef, undef, undef, undef, undef, undef, undef, undef, undef], defers := [] }) (hw : Below W0.heap.size W0 wx) (p0 : d 0 = true → u12 = .slice a1 n1 c1) (p1 : d 1 = true → u13 = .pointer (some ⟨g0, 0, none⟩)) (p2 : d 2 = true → u14 = .slice a2 n2 c2) (p5 : d 5 = true → u17 = .pointer (some ⟨g0, 1, none⟩)) (p6 : d 6 = true → u18 = .slice a3 n3 c3) (z3 : d 3 = true → ∃ g, u15 = .slice (some ⟨g, 0, none⟩) 2 2 ∧ g < wx.heap.size ∧ wx.cell? ⟨g, 0, none⟩ = some (.slice a1 n1 c1) ∧ wx.cell? ⟨g, 1, none⟩ = some (.slice a2 n2 c2)) (z4 : d 4 = true → ∃ a n c, u16 = .slice a n c ∧ Bs (Sb lo wx) (p ++ q) (.slice a n c) wx) (z7 : d 7 = true → ∃ a n c, u19 = .agg #[.slice a n c, .slice a3 n3 c3] ∧ Bs (Sb lo wx) (p ++ q) (.slice a n c) wx) (z8 : d 8 = true → ∃ a n c, u20 = .iface 71 (.agg #[.slice a n c, .slice a3 n3 c3]) ∧ Bs (Sb lo wx) (p ++ q) (.slice a n c) wx) (z9 : d 9 = true → ∃ a n c, u4 = .iface 71 (.agg #[.slice a n c, .slice a3 n3 c3]) ∧ Bs (Sb lo wx) (p ++ q) (.slice a n c) wx) : BHleaf W0 lo p q a1 a2 a3 n1 c1 n2 c2 n3 c3 g0 d x wx
set_option maxHeartbeats 2000000 in
set_option maxRecDepth 100000 in
theorem behind_leaf (p q : By) (a1 a2 a3 : Option Addr) (n1 c1 n2 c2 n3 c3 lo : Nat) (w : World) (hp : Bs (Sb lo w) p (.slice a1 n1 c1) w) (hq : Bs (Sb lo w) q (.slice a2 n2 c2) w) (hl : p.length + q.length ≤ 1048576) :
    Calls Try.prog 48 #[.slice a1 n1 c1, .iface 71 (.agg #[.slice a2 n2 c2, .slice a3 n3 c3])] w fun e w' => (∃ a n c, e = .returned (.iface 71 (.agg #[.slice a n c, .slice a3 n3 c3])) ∧ Bs (Sb lo w') (p ++ q) (.slice a n c) w') ∧ Below w.heap.size w w' := by
  have HB : Below w.heap.size w (w.alloc (.cells #[.slice a2 n2 c2, .slice a3 n3 c3] 71)) := (Below.refl _ _).alloc (Nat.le_refl _) _
  have HA := heap_alloc_new w (.cells #[.slice a2 n2 c2, .slice a3 n3 c3] 71)
  have q0 : (w.alloc (.cells #[.slice a2 n2 c2, .slice a3 n3 c3] 71)).cell? ⟨w.heap.size, 0, none⟩ = some (.slice a2 n2 c2) := by simp only [World.cell?, HA]; rfl
  have q1 : (w.alloc (.cells #[.slice a2 n2 c2, .slice a3 n3 c3] 71)).cell? ⟨w.heap.size, 1, none⟩ = some (.slice a3 n3 c3) := by simp only [World.cell?, HA]; rfl
  have hh0 : w.heap.size < (w.alloc (.cells #[.slice a2 n2 c2, .slice a3 n3 c3] 71)).heap.size := by simp
  have KC : Hid (∀ (wx : World) (g : Nat), Below (w.alloc (.cells #[.slice a2 n2 c2, .slice a3 n3 c3] 71)).heap.size (w.alloc (.cells #[.slice a2 n2 c2, .slice a3 n3 c3] 71)) wx → g < wx.heap.size → wx.cell? ⟨g, 0, none⟩ = some (.slice a1 n1 c1) → wx.cell? ⟨g, 1, none⟩ = some (.slice a2 n2 c2) → Calls Try.prog 64 #[.slice (some ⟨g, 0, none⟩) 2 2] wx fun e w' => ∃ a n c, e = .returned (.slice a n c) ∧ Bs (Sb lo w') (p ++ q) (.slice a n c) w' ∧ Below wx.heap.size wx w') := fun wx g hb hg c0 c1 => by
    have hb2 : Below w.heap.size w wx := HB.trans (hb.mono HB.size)
    refine (Ct.concat2 (Bs_ch hp (ch_below (G := fun _ => False) hb2)) (Bs_ch hq (ch_below (G := fun _ => False) hb2)) hg c0 c1 hl).mono fun e w' he => ?_
    obtain ⟨x, h1, h2, h3⟩ := he
    obtain ⟨a, c, rfl, _⟩ := Bs_form h2
    exact ⟨a, _, c, h1, Bs_mono h2 (fun k hk _ => .inr hk.2), h3⟩
  have t1 := fun w => as_leaf (.agg #[.slice a2 n2 c2, .slice a3 n3 c3]) w
  clear HA hp hq hl
  go_enter Try.func48, Try.ntmps48
  go_upto_region 4 with fail
  generalize (w.alloc (.cells #[.slice a2 n2 c2, .slice a3 n3 c3] 71)) = W0 at *
  have HG : Hid (w.heap.size ≤ W0.heap.size) := HB.size
  have hw0 : Below W0.heap.size W0 W0.drew := (Below.refl _ _).drew
  have HB2 : Hid (Below w.heap.size w W0) := HB
  clear HB
  generalize hg0 : w.heap.size = g0 at *
  refine RI.wp_region_inv (BHleaf W0 lo p q a1 a2 a3 n1 c1 n2 c2 n3 c3 g0) (by kernel_rfl) (by kernel_rfl) ?_ ?_ ?_
  · exact ⟨.nilIface, undef, undef, undef, undef, undef, undef, undef, undef, undef, rfl, hw0, nofun, nofun, nofun, nofun, nofun, nofun, nofun, nofun, nofun, nofun⟩
  · skip
    intro d x wx i hI hi hm
    obtain ⟨u4, u12, u13, u14, u15, u16, u17, u18, u19, u20, rfl, hw, p0, p1, p2, p5, p6, z3, z4, z7, z8, z9⟩ := hI
    have hi' : i = 0 ∨ i = 1 ∨ i = 2 ∨ i = 3 ∨ i = 4 ∨ i = 5 ∨ i = 6 ∨ i = 7 ∨ i = 8 ∨ i = 9 := by simp at hi; omega
    have hd := hm.2
    have hf := hm.1
    clear hm hi
    rcases hi' with rfl | rfl | rfl | rfl | rfl | rfl | rfl | rfl | rfl | rfl
    · refine RI.wpOp_plain rfl rfl ?_
      go_simp
      exact ⟨u4, _, u13, u14, u15, u16, u17, u18, u19, u20, rfl, hw, fun _ => rfl, p1, p2, p5, p6, z3, z4, z7, z8, z9⟩
    · refine RI.wpOp_plain rfl rfl ?_
      go_simp
      exact ⟨u4, u12, _, u14, u15, u16, u17, u18, u19, u20, rfl, hw, p0, fun _ => rfl, p2, p5, p6, z3, z4, z7, z8, z9⟩
    · have hd := hd _ rfl
      simp [Region.binds] at hd
      obtain rfl := p1 (by simp [hd])
      refine RI.wpOp_plain rfl rfl ?_
      have x0 := (hw.cell (p := ⟨g0, 0, none⟩) hh0).trans q0
      go_simp
      exact ⟨u4, u12, _, _, u15, u16, u17, u18, u19, u20, rfl, hw, p0, p1, fun _ => rfl, p5, p6, z3, z4, z7, z8, z9⟩
    · have hd := hd _ rfl
      simp [Region.binds] at hd
      obtain rfl := p0 (by simp [hd])
      obtain rfl := p2 (by simp [hd])
      refine RI.wpOp_plain rfl rfl ?_
      have hb1 : Below wx.heap.size wx (wx.alloc (.cells #[.slice a1 n1 c1, .slice a2 n2 c2] 22)) := (Below.refl _ _).alloc (Nat.le_refl _) _
      have HA := heap_alloc_new wx (.cells #[.slice a1 n1 c1, .slice a2 n2 c2] 22)
      have hA0 : (wx.alloc (.cells #[.slice a1 n1 c1, .slice a2 n2 c2] 22)).cell? ⟨wx.heap.size, 0, none⟩ = some (.slice a1 n1 c1) := by simp only [World.cell?, HA]; rfl
      have hA1 : (wx.alloc (.cells #[.slice a1 n1 c1, .slice a2 n2 c2] 22)).cell? ⟨wx.heap.size, 1, none⟩ = some (.slice a2 n2 c2) := by simp only [World.cell?, HA]; rfl
      clear HA
      go_simp
      exact ⟨u4, _, u13, _, _, u16, u17, u18, u19, u20, rfl, hw.trans (hb1.mono hw.size), p0, p1, p2, p5, p6, fun _ => ⟨_, rfl, by simp, hA0, hA1⟩, (fun h => (z4 h).imp fun a ha => ha.imp fun n hn => hn.imp fun c hc => ⟨hc.1, Bs_ch hc.2 (ch_below (G := fun _ => False) hb1)⟩), (fun h => (z7 h).imp fun a ha => ha.imp fun n hn => hn.imp fun c hc => ⟨hc.1, Bs_ch hc.2 (ch_below (G := fun _ => False) hb1)⟩), (fun h => (z8 h).imp fun a ha => ha.imp fun n hn => hn.imp fun c hc => ⟨hc.1, Bs_ch hc.2 (ch_below (G := fun _ => False) hb1)⟩), (fun h => (z9 h).imp fun a ha => ha.imp fun n hn => hn.imp fun c hc => ⟨hc.1, Bs_ch hc.2 (ch_below (G := fun _ => False) hb1)⟩)⟩
    · have hd := hd _ rfl
      simp [Region.binds] at hd
      refine RI.wpOp_plain rfl rfl ?_
      obtain ⟨g3, rfl, hg3, e30, e31⟩ := z3 (by simp [hd])
      go_simp
      refine (KC.out wx g3 hw hg3 e30 e31).mono ?_
      rintro e w1 ⟨xa, xn, xc, rfl, hx, hb1⟩
      exact ⟨u4, u12, u13, u14, _, _, u17, u18, u19, u20, rfl, hw.trans (hb1.mono hw.size), p0, p1, p2, p5, p6, (fun h => (z3 h).imp fun g hg => ⟨hg.1, Nat.lt_of_lt_of_le hg.2.1 hb1.size, (hb1.cell (p := ⟨g, 0, none⟩) hg.2.1).trans hg.2.2.1, (hb1.cell (p := ⟨g, 1, none⟩) hg.2.1).trans hg.2.2.2⟩), fun _ => ⟨_, _, _, rfl, hx⟩, (fun h => (z7 h).imp fun a ha => ha.imp fun n hn => hn.imp fun c hc => ⟨hc.1, Bs_ch hc.2 (ch_below (G := fun _ => False) hb1)⟩), (fun h => (z8 h).imp fun a ha => ha.imp fun n hn => hn.imp fun c hc => ⟨hc.1, Bs_ch hc.2 (ch_below (G := fun _ => False) hb1)⟩), (fun h => (z9 h).imp fun a ha => ha.imp fun n hn => hn.imp fun c hc => ⟨hc.1, Bs_ch hc.2 (ch_below (G := fun _ => False) hb1)⟩)⟩
    · refine RI.wpOp_plain rfl rfl ?_
      go_simp
      exact ⟨u4, u12, u13, u14, u15, u16, _, u18, u19, u20, rfl, hw, p0, p1, p2, fun _ => rfl, p6, z3, z4, z7, z8, z9⟩
    · have hd := hd _ rfl
      simp [Region.binds] at hd
      obtain rfl := p5 (by simp [hd])
      refine RI.wpOp_plain rfl rfl ?_
      have x0 := (hw.cell (p := ⟨g0, 1, none⟩) hh0).trans q1
      go_simp
      exact ⟨u4, u12, u13, u14, u15, u16, _, _, u19, u20, rfl, hw, p0, p1, p2, p5, fun _ => rfl, z3, z4, z7, z8, z9⟩
    · have hd := hd _ rfl
      simp [Region.binds] at hd
      obtain rfl := p6 (by simp [hd])
      refine RI.wpOp_plain rfl rfl ?_
      obtain ⟨xa, xn, xc, rfl, hx⟩ := z4 (by simp [hd])
      go_simp
      exact ⟨u4, u12, u13, u14, u15, _, u17, _, _, u20, rfl, hw, p0, p1, p2, p5, p6, z3, z4, fun _ => ⟨_, _, _, rfl, hx⟩, z8, z9⟩
    · have hd := hd _ rfl
      simp [Region.binds] at hd
      refine RI.wpOp_plain rfl rfl ?_
      obtain ⟨xa, xn, xc, rfl, hx⟩ := z7 (by simp [hd])
      go_simp
      exact ⟨u4, u12, u13, u14, u15, u16, u17, u18, _, _, rfl, hw, p0, p1, p2, p5, p6, z3, z4, z7, fun _ => ⟨_, _, _, rfl, hx⟩, z9⟩
    · have hd := hd _ rfl
      simp [Region.binds] at hd
      obtain rfl := p0 (by simp [hd])
      obtain rfl := p1 (by simp [hd])
      obtain rfl := p2 (by simp [hd])
      obtain rfl := p5 (by simp [hd])
      obtain rfl := p6 (by simp [hd])
      refine RI.wpOp_plain rfl rfl ?_
      obtain ⟨xa, xn, xc, rfl, hx⟩ := z8 (by simp [hd])
      go_simp
      exact ⟨_, _, _, _, u15, u16, _, _, u19, _, rfl, hw, p0, p1, p2, p5, p6, z3, z4, z7, z8, fun _ => ⟨_, _, _, rfl, hx⟩⟩
  · skip
    intro d x wx hI hd
    obtain ⟨u4, u12, u13, u14, u15, u16, u17, u18, u19, u20, rfl, hw, p0, p1, p2, p5, p6, z3, z4, z7, z8, z9⟩ := hI
    obtain ⟨xa, xn, xc, rfl, hx⟩ := z9 (hd 9 (by decide))
    have HX : Hid (Bs (Sb lo wx) (p ++ q) (.slice xa xn xc) wx) := hx
    have HZ : Hid (Below w.heap.size w wx) := by show Below _ _ _; rw [hg0]; exact HB2.out.trans (hw.mono HG.out)
    clear hx hw p0 p1 p2 p5 p6 z3 z4 z7 z8 z9
    go_wp2_with fail
    go_ret
    exact ⟨⟨xa, xn, xc, rfl, HX.out⟩, HZ.out⟩
inductive BHroad (W0 : World) (lo : Nat) (p q : By) (a1 a2 : Option Addr) (n1 c1 n2 c2 gk g0 : Nat) (d : Nat → Bool) (x : Act) (wx : World) : Prop where
  | mk (u4 u24 u25 u26 u27 u28 u29 u30 u31 u32 : Value) (hx : x = { tmps := #[.slice a1 n1 c1, .iface 82 (.agg #[.slice a2 n2 c2, .pointer (some ⟨gk, 0, none⟩)]), undef, undef, u4, undef, .pointer (some ⟨g0, 0, none⟩), undef, .iface 82 (.agg #[.slice a2 n2 c2, .pointer (some ⟨gk, 0, none⟩)]), .tuple #[.agg #[.slice none 0 0, .slice none 0 0], .bool false], .bool false, .agg #[.slice none 0 0, .slice none 0 0], undef, undef, undef, undef, undef, undef, undef, undef, undef, .tuple #[.agg #[.slice a2 n2 c2, .pointer (some ⟨gk, 0, none⟩)], .bool true], .bool true, .agg #[.slice a2 n2 c2, .pointer (some ⟨gk, 0, none⟩)], u24, u25, u26, u27, u28, u29, u30, u31, u32, undef, undef, undef, undef, undef, undef, undef, undef, undef, undef, undef], defers := [] }) (hw : Below W0.heap.size W0 wx) (p0 : d 0 = true → u24 = .slice a1 n1 c1) (p1 : d 1 = true → u25 = .pointer (some ⟨g0, 0, none⟩)) (p2 : d 2 = true → u26 = .slice a2 n2 c2) (p5 : d 5 = true → u29 = .pointer (some ⟨g0, 1, none⟩)) (p6 : d 6 = true → u30 = .pointer (some ⟨gk, 0, none⟩)) (z3 : d 3 = true → ∃ g, u27 = .slice (some ⟨g, 0, none⟩) 2 2 ∧ g < wx.heap.size ∧ wx.cell? ⟨g, 0, none⟩ = some (.slice a1 n1 c1) ∧ wx.cell? ⟨g, 1, none⟩ = some (.slice a2 n2 c2)) (z4 : d 4 = true → ∃ a n c, u28 = .slice a n c ∧ Bs (Sb lo wx) (p ++ q) (.slice a n c) wx) (z7 : d 7 = true → ∃ a n c, u31 = .agg #[.slice a n c, .pointer (some ⟨gk, 0, none⟩)] ∧ Bs (Sb lo wx) (p ++ q) (.slice a n c) wx) (z8 : d 8 = true → ∃ a n c, u32 = .iface 82 (.agg #[.slice a n c, .pointer (some ⟨gk, 0, none⟩)]) ∧ Bs (Sb lo wx) (p ++ q) (.slice a n c) wx) (z9 : d 9 = true → ∃ a n c, u4 = .iface 82 (.agg #[.slice a n c, .pointer (some ⟨gk, 0, none⟩)]) ∧ Bs (Sb lo wx) (p ++ q) (.slice a n c) wx) : BHroad W0 lo p q a1 a2  n1 c1 n2 c2 gk g0 d x wx
set_option maxHeartbeats 2000000 in
set_option maxRecDepth 100000 in
theorem behind_road (p q : By) (a1 a2 : Option Addr) (n1 c1 n2 c2 gk lo : Nat) (w : World) (hp : Bs (Sb lo w) p (.slice a1 n1 c1) w) (hq : Bs (Sb lo w) q (.slice a2 n2 c2) w) (hl : p.length + q.length ≤ 1048576) :
    Calls Try.prog 48 #[.slice a1 n1 c1, .iface 82 (.agg #[.slice a2 n2 c2, .pointer (some ⟨gk, 0, none⟩)])] w fun e w' => (∃ a n c, e = .returned (.iface 82 (.agg #[.slice a n c, .pointer (some ⟨gk, 0, none⟩)])) ∧ Bs (Sb lo w') (p ++ q) (.slice a n c) w') ∧ Below w.heap.size w w' := by
  have HB : Below w.heap.size w (w.alloc (.cells #[.slice a2 n2 c2, .pointer (some ⟨gk, 0, none⟩)] 82)) := (Below.refl _ _).alloc (Nat.le_refl _) _
  have HA := heap_alloc_new w (.cells #[.slice a2 n2 c2, .pointer (some ⟨gk, 0, none⟩)] 82)
  have q0 : (w.alloc (.cells #[.slice a2 n2 c2, .pointer (some ⟨gk, 0, none⟩)] 82)).cell? ⟨w.heap.size, 0, none⟩ = some (.slice a2 n2 c2) := by simp only [World.cell?, HA]; rfl
  have q1 : (w.alloc (.cells #[.slice a2 n2 c2, .pointer (some ⟨gk, 0, none⟩)] 82)).cell? ⟨w.heap.size, 1, none⟩ = some (.pointer (some ⟨gk, 0, none⟩)) := by simp only [World.cell?, HA]; rfl
  have hh0 : w.heap.size < (w.alloc (.cells #[.slice a2 n2 c2, .pointer (some ⟨gk, 0, none⟩)] 82)).heap.size := by simp
  have KC : Hid (∀ (wx : World) (g : Nat), Below (w.alloc (.cells #[.slice a2 n2 c2, .pointer (some ⟨gk, 0, none⟩)] 82)).heap.size (w.alloc (.cells #[.slice a2 n2 c2, .pointer (some ⟨gk, 0, none⟩)] 82)) wx → g < wx.heap.size → wx.cell? ⟨g, 0, none⟩ = some (.slice a1 n1 c1) → wx.cell? ⟨g, 1, none⟩ = some (.slice a2 n2 c2) → Calls Try.prog 64 #[.slice (some ⟨g, 0, none⟩) 2 2] wx fun e w' => ∃ a n c, e = .returned (.slice a n c) ∧ Bs (Sb lo w') (p ++ q) (.slice a n c) w' ∧ Below wx.heap.size wx w') := fun wx g hb hg c0 c1 => by
    have hb2 : Below w.heap.size w wx := HB.trans (hb.mono HB.size)
    refine (Ct.concat2 (Bs_ch hp (ch_below (G := fun _ => False) hb2)) (Bs_ch hq (ch_below (G := fun _ => False) hb2)) hg c0 c1 hl).mono fun e w' he => ?_
    obtain ⟨x, h1, h2, h3⟩ := he
    obtain ⟨a, c, rfl, _⟩ := Bs_form h2
    exact ⟨a, _, c, h1, Bs_mono h2 (fun k hk _ => .inr hk.2), h3⟩
  have t1 := fun w => no_leaf 82 (.agg #[.slice a2 n2 c2, .pointer (some ⟨gk, 0, none⟩)]) w (by decide)
  have t2 := fun w => as_road (.agg #[.slice a2 n2 c2, .pointer (some ⟨gk, 0, none⟩)]) w
  clear HA hp hq hl
  go_enter Try.func48, Try.ntmps48
  go_upto_region 7 with fail
  generalize (w.alloc (.cells #[.slice a2 n2 c2, .pointer (some ⟨gk, 0, none⟩)] 82)) = W0 at *
  have HG : Hid (w.heap.size ≤ W0.heap.size) := HB.size
  have hw0 : Below W0.heap.size W0 W0.drew := (Below.refl _ _).drew
  have HB2 : Hid (Below w.heap.size w W0) := HB
  clear HB
  generalize hg0 : w.heap.size = g0 at *
  refine RI.wp_region_inv (BHroad W0 lo p q a1 a2  n1 c1 n2 c2 gk g0) (by kernel_rfl) (by kernel_rfl) ?_ ?_ ?_
  · exact ⟨.nilIface, undef, undef, undef, undef, undef, undef, undef, undef, undef, rfl, hw0, nofun, nofun, nofun, nofun, nofun, nofun, nofun, nofun, nofun, nofun⟩
  · skip
    intro d x wx i hI hi hm
    obtain ⟨u4, u24, u25, u26, u27, u28, u29, u30, u31, u32, rfl, hw, p0, p1, p2, p5, p6, z3, z4, z7, z8, z9⟩ := hI
    have hi' : i = 0 ∨ i = 1 ∨ i = 2 ∨ i = 3 ∨ i = 4 ∨ i = 5 ∨ i = 6 ∨ i = 7 ∨ i = 8 ∨ i = 9 := by simp at hi; omega
    have hd := hm.2
    have hf := hm.1
    clear hm hi
    rcases hi' with rfl | rfl | rfl | rfl | rfl | rfl | rfl | rfl | rfl | rfl
    · refine RI.wpOp_plain rfl rfl ?_
      go_simp
      exact ⟨u4, _, u25, u26, u27, u28, u29, u30, u31, u32, rfl, hw, fun _ => rfl, p1, p2, p5, p6, z3, z4, z7, z8, z9⟩
    · refine RI.wpOp_plain rfl rfl ?_
      go_simp
      exact ⟨u4, u24, _, u26, u27, u28, u29, u30, u31, u32, rfl, hw, p0, fun _ => rfl, p2, p5, p6, z3, z4, z7, z8, z9⟩
    · have hd := hd _ rfl
      simp [Region.binds] at hd
      obtain rfl := p1 (by simp [hd])
      refine RI.wpOp_plain rfl rfl ?_
      have x0 := (hw.cell (p := ⟨g0, 0, none⟩) hh0).trans q0
      go_simp
      exact ⟨u4, u24, _, _, u27, u28, u29, u30, u31, u32, rfl, hw, p0, p1, fun _ => rfl, p5, p6, z3, z4, z7, z8, z9⟩
    · have hd := hd _ rfl
      simp [Region.binds] at hd
      obtain rfl := p0 (by simp [hd])
      obtain rfl := p2 (by simp [hd])
      refine RI.wpOp_plain rfl rfl ?_
      have hb1 : Below wx.heap.size wx (wx.alloc (.cells #[.slice a1 n1 c1, .slice a2 n2 c2] 22)) := (Below.refl _ _).alloc (Nat.le_refl _) _
      have HA := heap_alloc_new wx (.cells #[.slice a1 n1 c1, .slice a2 n2 c2] 22)
      have hA0 : (wx.alloc (.cells #[.slice a1 n1 c1, .slice a2 n2 c2] 22)).cell? ⟨wx.heap.size, 0, none⟩ = some (.slice a1 n1 c1) := by simp only [World.cell?, HA]; rfl
      have hA1 : (wx.alloc (.cells #[.slice a1 n1 c1, .slice a2 n2 c2] 22)).cell? ⟨wx.heap.size, 1, none⟩ = some (.slice a2 n2 c2) := by simp only [World.cell?, HA]; rfl
      clear HA
      go_simp
      exact ⟨u4, _, u25, _, _, u28, u29, u30, u31, u32, rfl, hw.trans (hb1.mono hw.size), p0, p1, p2, p5, p6, fun _ => ⟨_, rfl, by simp, hA0, hA1⟩, (fun h => (z4 h).imp fun a ha => ha.imp fun n hn => hn.imp fun c hc => ⟨hc.1, Bs_ch hc.2 (ch_below (G := fun _ => False) hb1)⟩), (fun h => (z7 h).imp fun a ha => ha.imp fun n hn => hn.imp fun c hc => ⟨hc.1, Bs_ch hc.2 (ch_below (G := fun _ => False) hb1)⟩), (fun h => (z8 h).imp fun a ha => ha.imp fun n hn => hn.imp fun c hc => ⟨hc.1, Bs_ch hc.2 (ch_below (G := fun _ => False) hb1)⟩), (fun h => (z9 h).imp fun a ha => ha.imp fun n hn => hn.imp fun c hc => ⟨hc.1, Bs_ch hc.2 (ch_below (G := fun _ => False) hb1)⟩)⟩
    · have hd := hd _ rfl
      simp [Region.binds] at hd
      refine RI.wpOp_plain rfl rfl ?_
      obtain ⟨g3, rfl, hg3, e30, e31⟩ := z3 (by simp [hd])
      go_simp
      refine (KC.out wx g3 hw hg3 e30 e31).mono ?_
      rintro e w1 ⟨xa, xn, xc, rfl, hx, hb1⟩
      exact ⟨u4, u24, u25, u26, _, _, u29, u30, u31, u32, rfl, hw.trans (hb1.mono hw.size), p0, p1, p2, p5, p6, (fun h => (z3 h).imp fun g hg => ⟨hg.1, Nat.lt_of_lt_of_le hg.2.1 hb1.size, (hb1.cell (p := ⟨g, 0, none⟩) hg.2.1).trans hg.2.2.1, (hb1.cell (p := ⟨g, 1, none⟩) hg.2.1).trans hg.2.2.2⟩), fun _ => ⟨_, _, _, rfl, hx⟩, (fun h => (z7 h).imp fun a ha => ha.imp fun n hn => hn.imp fun c hc => ⟨hc.1, Bs_ch hc.2 (ch_below (G := fun _ => False) hb1)⟩), (fun h => (z8 h).imp fun a ha => ha.imp fun n hn => hn.imp fun c hc => ⟨hc.1, Bs_ch hc.2 (ch_below (G := fun _ => False) hb1)⟩), (fun h => (z9 h).imp fun a ha => ha.imp fun n hn => hn.imp fun c hc => ⟨hc.1, Bs_ch hc.2 (ch_below (G := fun _ => False) hb1)⟩)⟩
    · refine RI.wpOp_plain rfl rfl ?_
      go_simp
      exact ⟨u4, u24, u25, u26, u27, u28, _, u30, u31, u32, rfl, hw, p0, p1, p2, fun _ => rfl, p6, z3, z4, z7, z8, z9⟩
    · have hd := hd _ rfl
      simp [Region.binds] at hd
      obtain rfl := p5 (by simp [hd])
      refine RI.wpOp_plain rfl rfl ?_
      have x0 := (hw.cell (p := ⟨g0, 1, none⟩) hh0).trans q1
      go_simp
      exact ⟨u4, u24, u25, u26, u27, u28, _, _, u31, u32, rfl, hw, p0, p1, p2, p5, fun _ => rfl, z3, z4, z7, z8, z9⟩
    · have hd := hd _ rfl
      simp [Region.binds] at hd
      obtain rfl := p6 (by simp [hd])
      refine RI.wpOp_plain rfl rfl ?_
      obtain ⟨xa, xn, xc, rfl, hx⟩ := z4 (by simp [hd])
      go_simp
      exact ⟨u4, u24, u25, u26, u27, _, u29, _, _, u32, rfl, hw, p0, p1, p2, p5, p6, z3, z4, fun _ => ⟨_, _, _, rfl, hx⟩, z8, z9⟩
    · have hd := hd _ rfl
      simp [Region.binds] at hd
      refine RI.wpOp_plain rfl rfl ?_
      obtain ⟨xa, xn, xc, rfl, hx⟩ := z7 (by simp [hd])
      go_simp
      exact ⟨u4, u24, u25, u26, u27, u28, u29, u30, _, _, rfl, hw, p0, p1, p2, p5, p6, z3, z4, z7, fun _ => ⟨_, _, _, rfl, hx⟩, z9⟩
    · have hd := hd _ rfl
      simp [Region.binds] at hd
      obtain rfl := p0 (by simp [hd])
      obtain rfl := p1 (by simp [hd])
      obtain rfl := p2 (by simp [hd])
      obtain rfl := p5 (by simp [hd])
      obtain rfl := p6 (by simp [hd])
      refine RI.wpOp_plain rfl rfl ?_
      obtain ⟨xa, xn, xc, rfl, hx⟩ := z8 (by simp [hd])
      go_simp
      exact ⟨_, _, _, _, u27, u28, _, _, u31, _, rfl, hw, p0, p1, p2, p5, p6, z3, z4, z7, z8, fun _ => ⟨_, _, _, rfl, hx⟩⟩
  · skip
    intro d x wx hI hd
    obtain ⟨u4, u24, u25, u26, u27, u28, u29, u30, u31, u32, rfl, hw, p0, p1, p2, p5, p6, z3, z4, z7, z8, z9⟩ := hI
    obtain ⟨xa, xn, xc, rfl, hx⟩ := z9 (hd 9 (by decide))
    have HX : Hid (Bs (Sb lo wx) (p ++ q) (.slice xa xn xc) wx) := hx
    have HZ : Hid (Below w.heap.size w wx) := by show Below _ _ _; rw [hg0]; exact HB2.out.trans (hw.mono HG.out)
    clear hx hw p0 p1 p2 p5 p6 z3 z4 z7 z8 z9
    go_wp2_with fail
    go_ret
    exact ⟨⟨xa, xn, xc, rfl, HX.out⟩, HZ.out⟩
def pl : Nd → Nat
  | .mk _ p _ _ => p.length
theorem behind_any {lo : Nat} {p : By} {pv x : Value} {t : Nd} {F : Nat → Prop} {w : World} (hp : Bs (Sb lo w) p pv w) (ht : In lo w t x F) (hl : p.length + pl t ≤ 1048576) :
    Calls Try.prog 48 #[pv, x] w fun e w' => (∃ y, e = .returned y ∧ In lo w' (beh p t) y F) ∧ Below w.heap.size w w' := by
  obtain ⟨a1, c1, rfl, _⟩ := Bs_form hp
  have ht0 := ht
  cases ht with
  | none q v ks F =>
    refine (behind_none _ _ w).mono fun e w' he => ⟨⟨_, he.1, ?_⟩, eq_below he.2⟩
    rw [he.2, beh_eq, if_neg (by decide), if_neg (by decide), if_neg (by decide)]
    exact .none q v ks F
  | leaf q v ks qv vv F hq hv =>
    obtain ⟨a2, c2, rfl, _⟩ := Bs_form hq
    have hv' := hv
    obtain ⟨a3, c3, rfl, _⟩ := Bs_form hv
    refine (behind_leaf p q a1 a2 a3 _ c1 _ c2 _ c3 lo w hp hq hl).mono fun e w' he => ?_
    obtain ⟨⟨a, n, c, h1, h2⟩, h3⟩ := he
    refine ⟨⟨_, h1, ?_⟩, h3⟩
    rw [beh_eq, if_pos rfl]
    exact .leaf _ _ _ _ _ F h2 (Bs_ch hv' (ch_below (G := fun _ => False) h3))
  | road q v t qv g F hq hk =>
    obtain ⟨a2, c2, rfl, _⟩ := Bs_form hq
    refine (behind_road p q a1 a2 _ c1 _ c2 g lo w hp hq hl).mono fun e w' he => ?_
    obtain ⟨⟨a, n, c, h1, h2⟩, h3⟩ := he
    refine ⟨⟨_, h1, ?_⟩, h3⟩
    rw [beh_eq, if_neg (by decide), if_pos rfl]
    exact .road _ _ _ _ g F h2 (In_below hk h3)
  | fork q v ks g c F D hl' hlo hb hc hFg hv hi hg hD hs =>
    refine (behind_fork (some ⟨g, 0, none⟩) a1 p.length c1 w).mono fun e w' he => ⟨⟨_, he.1, ?_⟩, eq_below he.2⟩
    rw [he.2, beh_eq, if_neg (by decide), if_neg (by decide), if_pos rfl]
    by_cases e0 : p = []
    · subst e0
      rw [if_pos rfl, if_pos (show ([] : By).length = 0 from rfl)]
      exact ht0
    · rw [if_neg e0, if_neg (fun h => e0 (List.length_eq_zero_iff.1 h))]
      exact .road p [] _ _ g F hp ht0
end Tr
end Go.Proofs.Ythlgneadcagleaa
namespace Go.Proofs.Ythlgneadcagleaa
namespace Tr
open Nb Go.RowKit
def Ln (N : Nat) (t : Nd) : Prop := ∀ q, gt t q ≠ [] → q.length ≤ N
theorem pl_le {N : Nat} {t : Nd} (hs : Rs t) (hl : Ln N t) : t.kind ≠ 3 → t.kind ≠ 0 → pl t ≤ N := by
  intro h3 h0
  cases hs with
  | none p v ks => exact absurd rfl h0
  | leaf p v ks hp hv => exact hl p (by rw [gt_leaf, if_pos rfl]; exact hv)
  | road p v t hp hp0 hk ht =>
    obtain ⟨q, hq⟩ := some_val ht (by rw [hk]; decide)
    have := hl (p ++ q) (by rw [gt_road_at]; exact hq)
    rw [List.length_append] at this
    show p.length ≤ N
    omega
  | fork p v ks hl hks h2 => exact absurd rfl h3
theorem ln_kid {N : Nat} {p v : By} {ks : List Nd} (h : Ln N (.mk 3 p v ks)) {j : Nat} (hj : j < 16) : Ln N (ks.getD j Nd.no) := fun q hq => by
  have := h (UInt8.ofNat j :: q) (by rw [gt_fork_cons, u8_toNat j hj]; exact hq)
  rw [List.length_cons] at this
  omega
theorem behind_tree {lo : Nat} {p : By} {pv x : Value} {t : Nd} {F : Nat → Prop} {w : World} {N : Nat} (hp : Bs (Sb lo w) p pv w) (ht : In lo w t x F) (hs : Rs t) (hl : Ln N t) (hN : p.length + N ≤ 1048576) :
    Calls Try.prog 48 #[pv, x] w fun e w' => (∃ y, e = .returned y ∧ In lo w' (beh p t) y F) ∧ Below w.heap.size w w' := by
  obtain ⟨a1, c1, rfl, _⟩ := Bs_form hp
  have ht0 := ht
  cases ht with
  | none q v ks F =>
    refine (behind_none _ _ w).mono fun e w' he => ⟨⟨_, he.1, ?_⟩, eq_below he.2⟩
    rw [he.2, beh_eq, if_neg (by decide), if_neg (by decide), if_neg (by decide)]
    exact .none q v ks F
  | leaf q v ks qv vv F hq hv => exact behind_any hp ht0 (by have := pl_le hs hl (by show (1 : Int) ≠ 3; decide) (by show (1 : Int) ≠ 0; decide); omega)
  | road q v t qv g F hq hk => exact behind_any hp ht0 (by have := pl_le hs hl (by show (2 : Int) ≠ 3; decide) (by show (2 : Int) ≠ 0; decide); omega)
  | fork q v ks g c F D hl' hlo hb hc hFg hv hi hg hD hs =>
    refine (behind_fork (some ⟨g, 0, none⟩) a1 p.length c1 w).mono fun e w' he => ⟨⟨_, he.1, ?_⟩, eq_below he.2⟩
    rw [he.2, beh_eq, if_neg (by decide), if_neg (by decide), if_pos rfl]
    by_cases e0 : p = []
    · subst e0
      rw [if_pos rfl, if_pos (show ([] : By).length = 0 from rfl)]
      exact ht0
    · rw [if_neg e0, if_neg (fun h => e0 (List.length_eq_zero_iff.1 h))]
      exact .road p [] _ _ g F hp ht0
theorem bs_lit1 (lo : Nat) (w : World) (k : Nat) (hk : k < 256) : Bs (Sb lo (w.alloc (.cells #[.int .u8 (k : Int)] 5))) [UInt8.ofNat k] (.slice (some ⟨w.heap.size, 0, none⟩) 1 1) (w.alloc (.cells #[.int .u8 (k : Int)] 5)) := by
  have HA := heap_alloc_new w (.cells #[.int .u8 (k : Int)] 5)
  refine ⟨_, _, rfl, Nat.le_refl _, fun _ => ⟨w.heap.size, 0, rfl, .inr (fun ⟨c, hc⟩ => ?_), by simp, fun j hj => ?_⟩⟩
  · rw [HA] at hc
    injection hc with hc
    injection hc with _ hc
    exact absurd hc (by decide)
  · have e : j = 0 := by simpa using hj
    subst e
    have e2 : Sp.bz [UInt8.ofNat k] 0 = (k : Int) := by
      unfold Sp.bz
      show (((UInt8.ofNat k).toNat : Nat) : Int) = (k : Int)
      rw [of_lt k hk]
    rw [e2]
    simp only [World.cell?, HA]
    rfl
def Settled (lo : Nat) (p v : By) (ks : List Nd) (F : Nat → Prop) (e : Ending) (w' : World) : Prop := ∃ t' y, e = .returned y ∧ In lo w' t' y F ∧ Rs t' ∧ ∀ q, gt t' q = gt (.mk 3 p v ks) q
set_option maxHeartbeats 2000000 in
set_option maxRecDepth 100000 in
theorem settle_any {lo : Nat} {p v : By} {ks : List Nd} {g N : Nat} {F : Nat → Prop} {w : World} (ht : In lo w (.mk 3 p v ks) (.iface 73 (.pointer (some ⟨g, 0, none⟩))) F) (hk : ∀ j, j < 16 → Rs (ks.getD j Nd.no)) (hl : Ln N (.mk 3 p v ks)) (hN : N ≤ 65536) :
    Calls Try.prog 50 #[.pointer (some ⟨g, 0, none⟩)] w fun e w' => Settled lo p v ks F e w' ∧ Below w.heap.size w w' := by
  have ht0 := ht
  cases ht with
  | fork _ _ _ _ c _ D hl16 hlo hb hc hFg hv hi hg hD hs =>
    have hv0 := hv
    obtain ⟨av, cv, ev, _⟩ := Bs_form hv
    have KP : Hid (∀ wx : World, Below w.heap.size w wx → Calls Try.prog 59 #[.pointer (some ⟨g, 0, none⟩)] wx fun e w' => e = .returned (.int .i64 (pts v ks : Nat)) ∧ Below wx.heap.size wx w') := fun wx hx => parts_any v ks g c wx av cv hl16 (by rw [hx.block g (Pk.lt_of_heap hb)]; exact hb) hc ev (fun j hj w2 => isnone_in (hi j hj) w2)
    by_cases h2 : 2 ≤ pts v ks
    · have d2 : decide ((2 : Int) ≤ ((pts v ks : Nat) : Int)) = true := decide_eq_true (by omega)
      have HR : Hid (Rs (.mk 3 p v ks)) := .fork p v ks hl16 hk ((pts_two v ks hl16).1 h2)
      have HI : Hid (In lo w (.mk 3 p v ks) (.iface 73 (.pointer (some ⟨g, 0, none⟩))) F) := ht0
      clear hi hv hb hD hs hg hk hl ht0 hv0 h2
      generalize pts v ks = n at *
      go_enter Try.func50, Try.ntmps50
      go_wp2_with fail
      refine (KP.out _ (Below.refl _ _)).mono ?_
      rintro e w1 ⟨rfl, hb1⟩
      have HZ : Hid (Below w.heap.size w w1) := hb1
      clear hb1
      go_wp2_with fail
      go_ret
      exact ⟨⟨_, _, rfl, In_below HI.out HZ.out, HR.out, fun q => rfl⟩, HZ.out⟩
    · have d2 : decide ((2 : Int) ≤ ((pts v ks : Nat) : Int)) = false := decide_eq_false (by omega)
      have R : ∀ wx : World, Below w.heap.size w wx → wx.rangeAt g 1 (c.toList.drop 1) := fun wx hx => range16 (by rw [hx.block g (Pk.lt_of_heap hb)]; exact hb) hc
      have RL : (Try.prog.info? 96).map (·.size) = some (c.toList.drop 1).length := by rw [info16]; simp [hc]
      have HX : Hid (∀ (j : Nat) (w : World), j < 16 → (Instr.index 96 (.agg (c.toList.drop 1).toArray) (.int .i64 (j : Int))).run Try.prog w = .ok (c.getD (j + 1) undef) w) := fun j w hj => run_index16 _ j _ hj (by
        have h1 : j + 1 < c.size := by omega
        rw [List.getElem?_drop, Nat.add_comm]
        simp [h1]) w
      have c0 : ∀ wx : World, Below w.heap.size w wx → wx.cell? ⟨g, 0, none⟩ = some (.slice av v.length cv) := fun wx hx => by rw [cell_fork (by rw [hx.block g (Pk.lt_of_heap hb)]; exact hb) 0 (by omega), ev]
      have KS : Hid (∀ wx : World, Below w.heap.size w wx → (∀ j, j < 16 → (ks.getD j Nd.no).kind = 0) → Calls Try.prog 51 #[.slice none 0 0, .slice av v.length cv] wx fun e w' => (∃ x, e = .returned x ∧ In lo wx (sing [] v) x F) ∧ w' = wx) := fun wx hx _ => by
        have := single_any (lo := lo) (w := wx) F (Bs_nil (Sb lo wx) wx) (Bs_ch hv0 (ch_below (G := fun _ => False) hx))
        rwa [ev] at this
      have KB : Hid (∀ (j : Nat) (pv : Value) (wx : World), j < 16 → Below w.heap.size w wx → Bs (Sb lo wx) [UInt8.ofNat j] pv wx → Calls Try.prog 48 #[pv, c.getD (j + 1) undef] wx fun e w' => (∃ y, e = .returned y ∧ In lo w' (beh [UInt8.ofNat j] (ks.getD j Nd.no)) y F) ∧ Below wx.heap.size wx w') := fun j pv wx hj hx hp => behind_tree hp (In_mono (In_below (hi j hj) hx) (fun y hy => hs j y hj hy)) (hk j hj) (ln_kid hl hj) (by rw [List.length_singleton]; omega)
      have HNN : Hid (∀ j, j < 16 → ∀ w2 : World, Calls Try.prog 65 #[c.getD (j + 1) undef] w2 fun e w' => e = .returned (.bool (decide ((ks.getD j Nd.no).kind = 0))) ∧ Below w2.heap.size w2 w') := fun j hj w2 => isnone_in (hi j hj) w2
      have SK : Hid (∀ j, j < 16 → (ks.getD j Nd.no).kind ≠ 0 → Rs (beh [UInt8.ofNat j] (ks.getD j Nd.no)) ∧ ∀ q, gt (beh [UInt8.ofNat j] (ks.getD j Nd.no)) q = gt (.mk 3 p v ks) q) := fun j hj hn => settle_kid hl16 hk hj hn h2
      have SN : Hid ((∀ j, j < 16 → (ks.getD j Nd.no).kind = 0) → Rs (sing [] v) ∧ ∀ q, gt (sing [] v) q = gt (.mk 3 p v ks) q) := fun h => settle_none hl16 h
      generalize c.toList.drop 1 = L at R RL HX
      clear hi hv hb hD hs hg hk hl ht0 hv0 h2 ev hc
      generalize pts v ks = n at *
      go_enter Try.func50, Try.ntmps50
      go_wp2_with fail
      refine (KP.out _ (Below.refl _ _)).mono ?_
      rintro e w1 ⟨rfl, hb1⟩
      have HZ : Hid (Below w.heap.size w w1) := hb1
      have R1 := R w1 hb1
      clear hb1
      go_wp2_with (refine wpList_load_mid rfl 96 (.tmp 12) rfl g 1 rfl L _ R1 Try.underlying96 rfl RL ?_)
      clear R RL R1
      go_loopw [14] (fun i wr => ∃ k : Nat, k ≤ 16 ∧ i = .int .i64 (k : Int) ∧ (∀ j, j < k → (ks.getD j Nd.no).kind = 0) ∧ Below w.heap.size w wr) (fun i _ => ((16 : Int) - intOf i).toNat)
      case atStart => exact ⟨0, Nat.zero_le _, rfl, fun j hj => absurd hj (by omega), HZ.out⟩
      case round =>
        obtain ⟨k, hk16, rfl, hz, hB⟩ := hrel
        by_cases hlt : k < 16
        · have d1 : decide ((k : Int) < 16) = true := decide_eq_true (by omega)
          have hx := fun w => HX.out k w hlt
          have HK := HNN.out k hlt
          have KBk := fun pv wx => KB.out k pv wx hlt
          have HZk : Hid (∀ j, j < k → (ks.getD j Nd.no).kind = 0) := hz
          generalize c.getD (k + 1) undef = xk at *
          clear hz
          by_cases hkd : (ks.getD k Nd.no).kind = 0
          · have HKd : Hid ((ks.getD k Nd.no).kind = 0) := hkd
            have HK2 : Hid (∀ w2 : World, Calls Try.prog 65 #[xk] w2 fun e w' => e = .returned (.bool true) ∧ Below w2.heap.size w2 w') := fun w2 => (HK w2).mono (fun e w' h => ⟨by rw [h.1, decide_eq_true hkd], h.2⟩)
            clear HK hkd KBk
            go_wp2_with fail
            refine (HK2.out _).mono ?_
            rintro e w2 ⟨rfl, hb1⟩
            go_wp2_with fail
            exact ⟨⟨k + 1, hlt, by rw [Int.natCast_succ], fun j hj => by
              by_cases e : j = k
              · rw [e]; exact HKd.out
              · exact HZk.out j (by omega), hB.trans (hb1.mono hB.size)⟩, by simp only [intOf]; omega⟩
          · have HK2 : Hid (∀ w2 : World, Calls Try.prog 65 #[xk] w2 fun e w' => e = .returned (.bool false) ∧ Below w2.heap.size w2 w') := fun w2 => (HK w2).mono (fun e w' h => ⟨by rw [h.1, decide_eq_false hkd], h.2⟩)
            have SKk : Hid (Rs (beh [UInt8.ofNat k] (ks.getD k Nd.no)) ∧ ∀ q, gt (beh [UInt8.ofNat k] (ks.getD k Nd.no)) q = gt (.mk 3 p v ks) q) := SK.out k hlt hkd
            have HKB : Hid (∀ (pv : Value) (wx : World), Below w.heap.size w wx → Bs (Sb lo wx) [UInt8.ofNat k] pv wx → Calls Try.prog 48 #[pv, xk] wx fun e w' => (∃ y, e = .returned y ∧ In lo w' (beh [UInt8.ofNat k] (ks.getD k Nd.no)) y F) ∧ Below wx.heap.size wx w') := KBk
            clear HK hkd KBk
            go_wp2_with fail
            refine (HK2.out _).mono ?_
            rintro e w2 ⟨rfl, hb1⟩
            have HB2 : Hid (Below w.heap.size w w2) := hB.trans (hb1.mono hB.size)
            clear hB hb1
            go_wp2_with fail
            have bA : Below w2.heap.size w2 (w2.alloc (.cells #[.int .u8 (k : Int)] 5)) := (Below.refl _ _).alloc (Nat.le_refl _) _
            refine (HKB.out _ _ (HB2.out.trans (bA.mono HB2.out.size)) (bs_lit1 lo w2 k (by omega))).mono ?_
            rintro e w3 ⟨⟨y, rfl, hy⟩, hb3⟩
            have HY : Hid (In lo w3 (beh [UInt8.ofNat k] (ks.getD k Nd.no)) y F) := hy
            have HB3 : Hid (Below w.heap.size w w3) := (HB2.out.trans (bA.mono HB2.out.size)).trans (hb3.mono (Nat.le_trans HB2.out.size bA.size))
            clear hy hb3 bA
            go_wp2_with fail
            go_ret
            exact ⟨⟨_, _, rfl, HY.out, SKk.out.1, SKk.out.2⟩, HB3.out⟩
        · have d1 : decide ((k : Int) < 16) = false := decide_eq_false (by omega)
          have HZk : Hid (∀ j, j < 16 → (ks.getD j Nd.no).kind = 0) := fun j hj => hz j (by omega)
          have HBk : Hid (Below w.heap.size w wr) := hB
          have c0r := c0 wr hB
          clear hz hB
          go_wp2_with fail
          refine (KS.out _ HBk.out HZk.out).mono ?_
          rintro e w2 ⟨⟨x, rfl, hx⟩, rfl⟩
          have HI : Hid (In lo w2 (sing [] v) x F) := hx
          clear hx
          go_wp2_with fail
          go_ret
          exact ⟨⟨_, _, rfl, HI.out, (SN.out HZk.out).1, (SN.out HZk.out).2⟩, HBk.out⟩
def NF (g k : Nat) (w : World) : Prop := ∃ c : Array Value, w.heap[g]? = some (.cells c 98 (0, 0)) ∧ c.size = 17 ∧ c.getD 0 undef = .slice none 0 0 ∧ ∀ j, j < k → c.getD (j + 1) undef = .iface 69 (.agg #[])
theorem NF_set {g k : Nat} {w : World} (h : NF g k w) (hk : k < 16) : NF g (k + 1) (w.setCell ⟨g, 1 + k, none⟩ (.iface 69 (.agg #[]))) := by
  obtain ⟨c, h1, h2, h3, h4⟩ := h
  refine ⟨c.setIfInBounds (1 + k) (.iface 69 (.agg #[])), heap_setCell_same h1 _, by simp [h2], by rw [getD_setIf _ _ _ _ (by omega), if_neg (by omega)]; exact h3, fun j hj => ?_⟩
  rw [getD_setIf _ _ _ _ (by omega)]
  by_cases e : j = k
  · rw [if_pos (by omega)]
  · rw [if_neg (by omega)]; exact h4 j (by omega)
theorem NF_cell {g k : Nat} {w : World} (h : NF g k w) {j : Nat} (hj : j < 16) : ∃ x, w.cell? ⟨g, 1 + j, none⟩ = some x := by
  obtain ⟨c, h1, h2, _⟩ := h
  exact ⟨_, cell_fork h1 (1 + j) (by omega)⟩
theorem NF_frozen {g k : Nat} {w : World} (h : NF g k w) (o : Nat) : w.frozen? ⟨g, o, none⟩ = false := by
  obtain ⟨c, h1, h2, _⟩ := h
  unfold World.frozen?
  simp [h1]
def ks0 : List Nd := List.replicate 16 Nd.no
theorem ks0_at (j : Nat) : ks0.getD j Nd.no = Nd.no := by
  unfold ks0
  rw [List.getD_eq_getElem?_getD, List.getElem?_replicate]
  split <;> rfl
theorem NF_in {lo g : Nat} {w : World} {F : Nat → Prop} (h : NF g 16 w) (hlo : lo ≤ g) (hF : F g) : In lo w (.mk 3 [] [] ks0) (.iface 73 (.pointer (some ⟨g, 0, none⟩))) F := by
  obtain ⟨c, h1, h2, h3, h4⟩ := h
  exact .fork [] [] ks0 g c F (fun _ _ => False) (by unfold ks0; simp) hlo h1 h2 hF (by rw [h3]; exact Bs_nil _ _) (fun j hj => by rw [h4 j hj, ks0_at]; exact .none [] [] [] _) (fun _ _ h => h) (fun _ _ _ _ _ h => h.elim) (fun _ _ _ h => h.elim)
set_option maxHeartbeats 2000000 in
set_option maxRecDepth 100000 in
theorem newfork_any (w : World) :
    Calls Try.prog 61 #[] w fun e w' => e = .returned (.pointer (some ⟨w.heap.size, 0, none⟩)) ∧ NF w.heap.size 16 w' ∧ Below w.heap.size w w' := by
  have HA := heap_alloc_new w (.cells #[.slice none 0 0, .nilIface, .nilIface, .nilIface, .nilIface, .nilIface, .nilIface, .nilIface, .nilIface, .nilIface, .nilIface, .nilIface, .nilIface, .nilIface, .nilIface, .nilIface, .nilIface] 98)
  have HN : Hid (NF w.heap.size 0 (w.alloc (.cells #[.slice none 0 0, .nilIface, .nilIface, .nilIface, .nilIface, .nilIface, .nilIface, .nilIface, .nilIface, .nilIface, .nilIface, .nilIface, .nilIface, .nilIface, .nilIface, .nilIface, .nilIface] 98))) := ⟨_, HA, rfl, rfl, fun j hj => absurd hj (by omega)⟩
  have HB : Hid (Below w.heap.size w (w.alloc (.cells #[.slice none 0 0, .nilIface, .nilIface, .nilIface, .nilIface, .nilIface, .nilIface, .nilIface, .nilIface, .nilIface, .nilIface, .nilIface, .nilIface, .nilIface, .nilIface, .nilIface, .nilIface] 98))) := (Below.refl _ _).alloc (Nat.le_refl _) _
  clear HA
  go_enter Try.func61, Try.ntmps61
  go_wp2_with fail
  generalize w.alloc (.cells #[.slice none 0 0, .nilIface, .nilIface, .nilIface, .nilIface, .nilIface, .nilIface, .nilIface, .nilIface, .nilIface, .nilIface, .nilIface, .nilIface, .nilIface, .nilIface, .nilIface, .nilIface] 98) = W0 at *
  go_loopw [5] (fun i wr => ∃ k : Nat, k ≤ 16 ∧ i = .int .i64 (k : Int) ∧ NF w.heap.size k wr ∧ Below w.heap.size w wr) (fun i _ => ((16 : Int) - intOf i).toNat)
  case atStart => exact ⟨0, Nat.zero_le _, rfl, HN.out, HB.out⟩
  case round =>
    obtain ⟨k, hk, rfl, hn, hB⟩ := hrel
    by_cases hlt : k < 16
    · have d1 : decide ((k : Int) < 16) = true := decide_eq_true (by omega)
      have d2 : (0 : Int) ≤ (k : Int) := by omega
      have d3 : (k : Int) < 16 := by omega
      obtain ⟨cc, hcc⟩ := NF_cell hn hlt
      have hz := NF_frozen hn (1 + k)
      have HS : Hid (NF w.heap.size (k + 1) (wr.setCell ⟨w.heap.size, 1 + k, none⟩ (.iface 69 (.agg #[])))) := NF_set hn hlt
      have HBs : Hid (Below w.heap.size w (wr.setCell ⟨w.heap.size, 1 + k, none⟩ (.iface 69 (.agg #[])))) := hB.setCell (by dsimp only; omega) _
      clear hn hB
      go_wp2_with fail
      exact ⟨⟨k + 1, hlt, by rw [Int.natCast_succ], HS.out, HBs.out⟩, by simp only [intOf]; omega⟩
    · have d1 : decide ((k : Int) < 16) = false := decide_eq_false (by omega)
      have ek : k = 16 := by omega
      subst ek
      have HS : Hid (NF w.heap.size 16 wr) := hn
      have HBs : Hid (Below w.heap.size w wr) := hB
      clear hn hB d1
      go_wp2_with fail
      go_ret
      exact ⟨rfl, HS.out, HBs.out⟩
end Tr
end Go.Proofs.Ythlgneadcagleaa
