import Derived.Test.YthlgneadcagleaaPackA
import Derived.Lib.BufferOwn
import Derived.Lib.BufferWrite
import Derived.ChangeKeysEq
import Derived.Test.YthlgneadcagleaaPackB
import Derived.Test.YthlgneadcagleaaPackE
import Derived.Test.YthlgneadcagleaaPackF
import Derived.Test.YthlgneadcagleaaPackG
import Derived.RangeFuncNested
import Derived.RangeFuncBound
import Derived.RangeFuncLeaves
import Derived.Shelf.Abstract
import Derived.Shelf.RegionOpen
import Derived.OwnWalkIn
import Derived.TacticsInMore
import Derived.LoopNIn
import Derived.LoopIn
import Derived.Lib.SlBytesConst
namespace Go.Proofs.Ythlgneadcagleaa
namespace Sp
open Go.RowKit
def hb (F : Nat → Int) (k : Nat) : Int := F (k / 8) / 2 ^ (8 * (k % 8)) % 256
end Sp
end Go.Proofs.Ythlgneadcagleaa
namespace Go.Proofs.Ythlgneadcagleaa
namespace Sp
open Go.RowKit
end Sp
end Go.Proofs.Ythlgneadcagleaa
namespace Go.Proofs.Ythlgneadcagleaa
namespace RW
open Go.RowKit Go.Shelf
end RW
end Go.Proofs.Ythlgneadcagleaa
namespace Go.Proofs.Ythlgneadcagleaa
namespace Nb
open Go.RowKit
theorem or16' : ∀ a b : Fin 16, bits .or .u8 ((a.val : Nat) * 16 : Int) ((b.val : Nat) : Int) = ((a.val : Nat) : Int) * 16 + ((b.val : Nat) : Int) := by decide +kernel
theorem or16 (R D : Int) (hR : 0 ≤ R ∧ R < 16) (hD : 0 ≤ D ∧ D < 16) : bits .or .u8 (R * 16) D = R * 16 + D := by
  have h := or16' ⟨R.toNat, by omega⟩ ⟨D.toNat, by omega⟩
  dsimp only at h
  rwa [Int.toNat_of_nonneg hR.1, Int.toNat_of_nonneg hD.1] at h
set_option maxHeartbeats 1000000 in
set_option maxRecDepth 100000 in
theorem join_yes (p : List UInt8) (ao : Option Addr) (cap : Nat) (w : World) (hn : Hid (p.length ≤ 4194304)) (vw : Sp.Vw p ao w) (hj : JF p) :
    Calls Try.prog 35 #[.slice ao p.length cap] w fun e w' => ∃ v, e = .returned (.tuple #[v, .int .i64 0]) ∧ w'.ownsRow w.heap.size 5 1 v (jn p).length (Pk.bcs (jn p)) ∧ Below w.heap.size w w' := by
  obtain ⟨m, hm⟩ : ∃ m, m = p.length / 2 := ⟨_, rfl⟩
  have HM : Hid (m = p.length / 2) := hm
  obtain ⟨w1, hr, hs1, o1, b1⟩ := made m (by have := hn.out; show _ ≤ _; omega) w
  have hw2 : Hid (wrap64 ((p.length : Int) / 2) = (m : Int)) := by
    have hn' := hn.out
    show _ = _
    unfold wrap64; omega
  have H2 : Hid (∀ i, i < m → Sp.bz (jn p) i = (Sp.bz p (2 * i) * 16 + Sp.bz p (2 * i + 1)) % 256) := by rw [hm]; exact jn_get p
  have HV : Hid (Sp.Vw p ao w) := vw
  have HF : Hid (fil (Sp.bz (jn p)) m m = Pk.bcs (jn p)) := by
    show _ = _
    rw [hm, ← jn_length, fil_full]
  have HL : Hid ((jn p).length = m) := by show _ = _; rw [jn_length, hm]
  have KP : Hid (∀ w : World, Sp.Vw p ao w → Calls Try.prog 39 #[.slice ao p.length cap] w fun e w' => e = .returned (.bool true) ∧ w' = w) := fun w v => by
    have k := ispath_any p ao cap w (by have := hn.out; show _ ≤ _; omega) v
    rwa [(pb_iff p).2 hj.2] at k
  have HJ : Hid (∀ j, j < p.length → Sp.bz p j < 16) := (pb_at p).1 ((pb_iff p).2 hj.2)
  have hev : ((p.length : Int) % 2 != 0) = false := by
    have := hj.1
    simp
    omega
  rw [HL.out]
  clear vw hm hj
  generalize Pk.bcs (jn p) = L at *
  generalize Sp.bz (jn p) = G at *
  go_enter Try.func35, Try.ntmps35
  have hw := hw2.out
  go_wp2_with fail
  refine (KP.out _ HV.out).mono (fun e w2 he => ?_)
  obtain ⟨rfl, hw3⟩ := he
  have hw3 := hw3.symm
  subst hw3
  go_wp2_with fail
  clear hw hw2 hr KP hev
  go_loopw [21] (fun i wr => ∃ k : Nat, k ≤ m ∧ i = .int .i64 (k : Int) ∧ wr.ownsRow w.heap.size 5 1 (.slice (some ⟨w.heap.size, 0, none⟩) m m) m (fil G k m) ∧ Below w.heap.size w wr) (fun i _ => ((m : Int) - intOf i).toNat)
  case atStart => exact ⟨0, Nat.zero_le _, rfl, by rw [fil_0]; exact o1, b1⟩
  case round =>
    clear o1 b1 hs1
    obtain ⟨k, hk, rfl, o2, b2⟩ := hrel
    by_cases h1 : k < m
    · have d1 : decide ((k : Int) < (m : Int)) = true := decide_eq_true (by omega)
      obtain ⟨t, ht⟩ : ∃ t, t = 2 * k := ⟨_, rfl⟩
      obtain ⟨r, hr⟩ : ∃ r, r = t + 1 := ⟨_, rfl⟩
      have ht1 : t < p.length := by have := HM.out; omega
      have hr1 : r < p.length := by have := HM.out; omega
      obtain ⟨g, off, rfl, hg, hc⟩ := HV.out (by omega)
      have c0 : wr.drew.cell? ⟨g, off + t, none⟩ = some (.int .u8 (Sp.bz p t)) := (b2.drew.cell (p := ⟨g, off + t, none⟩) hg).trans (hc t ht1)
      have c1 : wr.drew.cell? ⟨g, off + r, none⟩ = some (.int .u8 (Sp.bz p r)) := (b2.drew.cell (p := ⟨g, off + r, none⟩) hg).trans (hc r hr1)
      have hw := stp k (by have := hn.out; have := HM.out; show _ ≤ _; omega)
      have hwt : IntKind.i64.wrap (2 * (k : Int)) = (t : Int) := by
        have := hn.out; have := HM.out
        rw [IntKind.wrap_i64]; omega
      have hwr : IntKind.i64.wrap ((t : Int) + 1) = (r : Int) := by
        have := hn.out; have := HM.out
        rw [IntKind.wrap_i64]; omega
      have o3 := o2.drew
      have b3 := b2.drew
      have ce := World.ownsRow.cellAt o3 k (by omega)
      rw [fil_at G k m k h1] at ce
      have hfro : wr.drew.frozen? ⟨w.heap.size, k, none⟩ = false := World.ownsRow.frozenAt o3 k
      have HX : 0 ≤ Sp.bz p t ∧ Sp.bz p t < 256 := ⟨Sp.bz_nn p t, Sp.bz_lt p t⟩
      have HY : 0 ≤ Sp.bz p r ∧ Sp.bz p r < 256 := ⟨Sp.bz_nn p r, Sp.bz_lt p r⟩
      have HG := H2.out k h1
      rw [← ht, ← hr] at HG
      obtain ⟨V, hV⟩ : ∃ V, V = G k := ⟨_, rfl⟩
      have HS : Hid (fil G (k + 1) m = (fil G k m).set k (.int .u8 V)) := by
        show _ = _
        rw [fil_step G k m h1, hV]
      have HX6 : 0 ≤ Sp.bz p t ∧ Sp.bz p t < 16 := ⟨HX.1, HJ.out t ht1⟩
      have HY6 : 0 ≤ Sp.bz p r ∧ Sp.bz p r < 16 := ⟨HY.1, HJ.out r hr1⟩
      have hwx : IntKind.u8.wrap (Sp.bz p t * 16) = Sp.bz p t * 16 := by
        rw [IntKind.wrap_u8]; omega
      have hor : bits .or .u8 (Sp.bz p t * 16) (Sp.bz p r) = V := by
        rw [or16 _ _ HX6 HY6, hV, HG]
        omega
      have HT : Hid (t = 2 * k ∧ r = t + 1) := ⟨ht, hr⟩
      clear hV HG hc ht hr
      generalize Sp.bz p t = X at *
      generalize Sp.bz p r = Y at *
      go_upto_region 7 with fail
      refine RS.wp_region_two (fun wx => Hid (wx = wr.drew)) (fun wx => Hid (wx = (wr.setCell ⟨w.heap.size, k, none⟩ (.int .u8 V)).drew)) 16 (by kernel_rfl) (by kernel_rfl) (by decide) (rfl) ?_
      dsimp only [List.toList_toArray]
      refine RS.go2 (v := ?_) (a' := ?_) (by decide) rfl ?_ ?_ ?_
      rotate_left 2
      · intro K wx hS hK
        go_simp
        exact hK _ hS
      · simp only [Act.put, List.setIfInBounds_toArray, List.set_cons_succ, List.set_cons_zero]
        rfl
      refine RS.go2 (v := ?_) (a' := ?_) (by decide) rfl ?_ ?_ ?_
      rotate_left 2
      · intro K wx hS hK
        go_simp
        exact hK _ hS
      · simp only [Act.put, List.setIfInBounds_toArray, List.set_cons_succ, List.set_cons_zero]
        rfl
      refine RS.go2 (v := ?_) (a' := ?_) (by decide) rfl ?_ ?_ ?_
      rotate_left 2
      · intro K wx hS hK
        go_simp
        exact hK _ hS
      · simp only [Act.put, List.setIfInBounds_toArray, List.set_cons_succ, List.set_cons_zero]
        rfl
      refine RS.go2 (v := ?_) (a' := ?_) (by decide) rfl ?_ ?_ ?_
      rotate_left 2
      · intro K wx hS hK
        go_simp
        exact hK _ hS
      · simp only [Act.put, List.setIfInBounds_toArray, List.set_cons_succ, List.set_cons_zero]
        rfl
      refine RS.go2 (v := ?_) (a' := ?_) (by decide) rfl ?_ ?_ ?_
      rotate_left 2
      · intro K wx hS hK
        go_simp
        exact hK _ hS
      · simp only [Act.put, List.setIfInBounds_toArray, List.set_cons_succ, List.set_cons_zero]
        rfl
      refine RS.go2 (v := ?_) (a' := ?_) (by decide) rfl ?_ ?_ ?_
      rotate_left 2
      · intro K wx hS hK
        go_simp
        exact hK _ hS
      · simp only [Act.put, List.setIfInBounds_toArray, List.set_cons_succ, List.set_cons_zero]
        rfl
      refine RS.go2 (v := ?_) (a' := ?_) (by decide) rfl ?_ ?_ ?_
      rotate_left 2
      · intro K wx hS hK
        obtain rfl := hS.out
        go_simp
        exact hK _ rfl
      · simp only [Act.put, List.setIfInBounds_toArray, List.set_cons_succ, List.set_cons_zero]
        rfl
      refine RS.go2 (v := ?_) (a' := ?_) (by decide) rfl ?_ ?_ ?_
      rotate_left 2
      · intro K wx hS hK
        go_simp
        exact hK _ hS
      · simp only [Act.put, List.setIfInBounds_toArray, List.set_cons_succ, List.set_cons_zero]
        rfl
      refine RS.go2 (v := ?_) (a' := ?_) (by decide) rfl ?_ ?_ ?_
      rotate_left 2
      · intro K wx hS hK
        go_simp
        exact hK _ hS
      · simp only [Act.put, List.setIfInBounds_toArray, List.set_cons_succ, List.set_cons_zero]
        rfl
      refine RS.go2 (v := ?_) (a' := ?_) (by decide) rfl ?_ ?_ ?_
      rotate_left 2
      · intro K wx hS hK
        go_simp
        exact hK _ hS
      · simp only [Act.put, List.setIfInBounds_toArray, List.set_cons_succ, List.set_cons_zero]
        rfl
      refine RS.go2 (v := ?_) (a' := ?_) (by decide) rfl ?_ ?_ ?_
      rotate_left 2
      · intro K wx hS hK
        go_simp
        exact hK _ hS
      · simp only [Act.put, List.setIfInBounds_toArray, List.set_cons_succ, List.set_cons_zero]
        rfl
      refine RS.go2 (v := ?_) (a' := ?_) (by decide) rfl ?_ ?_ ?_
      rotate_left 2
      · intro K wx hS hK
        go_simp
        exact hK _ hS
      · simp only [Act.put, List.setIfInBounds_toArray, List.set_cons_succ, List.set_cons_zero]
        rfl
      refine RS.go2 (v := ?_) (a' := ?_) (by decide) rfl ?_ ?_ ?_
      rotate_left 2
      · intro K wx hS hK
        go_simp
        exact hK _ hS
      · simp only [Act.put, List.setIfInBounds_toArray, List.set_cons_succ, List.set_cons_zero]
        rfl
      refine RS.go2 (v := ?_) (a' := ?_) (by decide) rfl ?_ ?_ ?_
      rotate_left 2
      · intro K wx hS hK
        obtain rfl := hS.out
        go_simp
        exact hK _ rfl
      · simp only [Act.put, List.setIfInBounds_toArray, List.set_cons_succ, List.set_cons_zero]
        rfl
      refine RS.go2 (v := ?_) (a' := ?_) (by decide) rfl ?_ ?_ ?_
      rotate_left 2
      · intro K wx hS hK
        go_simp
        exact hK _ hS
      · simp only [Act.put, List.setIfInBounds_toArray, List.set_cons_succ, List.set_cons_zero]
        rfl
      refine RS.go2 (v := ?_) (a' := ?_) (by decide) rfl ?_ ?_ ?_
      rotate_left 2
      · intro K wx hS hK
        go_simp
        exact hK _ hS
      · simp only [Act.put, List.setIfInBounds_toArray, List.set_cons_succ, List.set_cons_zero]
        rfl
      refine RS.go2_last (v := ?_) (a' := ?_) rfl (by kernel_rfl) rfl ?_ ?_ ?_
      rotate_left 2
      · intro K wx hS hK
        obtain rfl := hS.out
        go_simp
        exact hK _ rfl
      · exact rfl
      intro w9 hw9
      have o9 : w9.ownsRow w.heap.size 5 1 (.slice (some ⟨w.heap.size, 0, none⟩) m m) m (fil G (k + 1) m) := by
        rw [hw9.out, HS.out]
        exact (o2.stored k _).1.drew
      have b9 : Below w.heap.size w w9 := by
        rw [hw9.out]
        exact (b2.setCell (Nat.le_refl _) _).drew
      clear o2 o3 b2 b3 ce hfro hw9 c0 c1 hwt hwr
      go_wp2_with fail
      have hw := hw.out
      go_roundw
      case rel => exact ⟨k + 1, h1, step_v k _ hw, o9, b9⟩
      case measure => exact msr k m h1 _ hw
    · have hkl : k = m := by omega
      subst hkl
      rw [HF.out] at o2
      go_wp2_with fail
      go_ret2
      exact ⟨_, rfl, o2, b2⟩
end Nb
end Go.Proofs.Ythlgneadcagleaa
namespace Go.Proofs.Ythlgneadcagleaa
namespace Tr
open Nb Go.RowKit
def jp (r : By × By) : By × By := (jn r.1, r.2)
theorem own_bs2 {lo : Nat} {b : By} {v : Value} {w : World} (h : w.ownsRow lo 5 1 v b.length (Pk.bcs b)) : (∃ a c, v = .slice a b.length c) ∧ Bs (lo ≤ ·) b v w := by
  rcases h.2 with ⟨h3, h4⟩ | ⟨g, cap, cur, h3, h5⟩
  · have e : b = [] := List.length_eq_zero_iff.1 h4
    subst e
    subst h3
    exact ⟨⟨_, _, rfl⟩, Bs_nil _ _⟩
  · subst h3
    refine ⟨⟨_, _, rfl⟩, some ⟨g, 0, none⟩, cap, rfl, h5.2.2.1, fun _ => ⟨g, 0, rfl, h5.1, Pk.lt_of_heap h5.2.1, fun j hj => ?_⟩⟩
    rw [Nat.zero_add, h.cellAt _ (by omega)]
    unfold Pk.bcs Sp.bz
    simp [List.getD_eq_getElem?_getD, hj]
theorem join_bs {S : Nat → Prop} {p : By} {pv : Value} {w : World} (hp : Bs S p pv w) (hl : p.length ≤ 64) (hj : JF p) : Calls Try.prog 35 #[pv] w fun e w' => ∃ a n c, e = .returned (.tuple #[.slice a n c, .int .i64 0]) ∧ Bs (w.heap.size ≤ ·) (jn p) (.slice a n c) w' ∧ Below w.heap.size w w' := by
  obtain ⟨ao, cap, h1, _, vw⟩ := Bs_sl hp
  subst h1
  refine (join_yes p ao cap w (by show _ ≤ _; omega) vw hj).mono fun e w' he => ?_
  obtain ⟨v, h1, h2, h3⟩ := he
  obtain ⟨⟨a, c, rfl⟩, h4⟩ := own_bs2 h2
  exact ⟨a, _, c, h1, h4, h3⟩
def c2p (vs : List V2) : List Value := vs.flatMap fun u => [u.1, u.2]
theorem c2p_app (x y : List V2) : c2p (x ++ y) = c2p x ++ c2p y := by simp [c2p]
theorem c2p_get : ∀ (l : List V2) (j : Nat), j < l.length → (c2p l)[2 * j]? = some (l.getD j m2).1 ∧ (c2p l)[2 * j + 1]? = some (l.getD j m2).2
  | [], j, h => absurd h (by simp)
  | p :: r, 0, _ => ⟨rfl, rfl⟩
  | p :: r, j + 1, h => by
    have ih := c2p_get r j (by simpa using h)
    have e1 : 2 * (j + 1) = 2 * j + 1 + 1 := by omega
    have e2 : 2 * (j + 1) + 1 = 2 * j + 1 + 1 + 1 := by omega
    have ec : c2p (p :: r) = p.1 :: p.2 :: c2p r := rfl
    rw [ec, e2, e1]
    simpa only [List.getElem?_cons_succ, List.getD_cons_succ] using ih
def Sk (b0 : Nat) (v : Value) (k : Nat) : Prop := b0 < k ∧ some k ≠ v.ownBlock
def Po (b0 : Nat) (l : Rt) (v : Value) (W : World) : Prop := ∃ vs : List V2, vs.length = l.length ∧ W.ownsRow (b0 + 1) 65 2 v l.length (c2p vs) ∧ ∀ j, j < l.length → Bs (Sk b0 v) (l.getD j n2).1 (vs.getD j m2).1 W ∧ Bs (Sk b0 v) (l.getD j n2).2 (vs.getD j m2).2 W
theorem Po_nil (b0 : Nat) (W : World) : Po b0 [] (.slice none 0 0) W := ⟨[], rfl, ⟨rfl, .inl ⟨rfl, rfl⟩⟩, fun j hj => absurd hj (by simp)⟩
theorem Po_pv {b0 : Nat} {l : Rt} {v : Value} {W : World} (h : Po b0 l v W) : Pv (b0 < ·) l v W := by
  obtain ⟨vs, h1, h2, h3⟩ := h
  refine ⟨vs, h1, ?_, fun j hj => ⟨Bs_mono (h3 j hj).1 (fun k hk _ => hk.1), Bs_mono (h3 j hj).2 (fun k hk _ => hk.1)⟩⟩
  rcases h2.2 with ⟨h4, h5⟩ | ⟨g, cap, cur, h4, h5⟩
  · subst h4
    have : vs = [] := List.length_eq_zero_iff.1 (by omega)
    subst this
    exact ⟨none, 0, rfl, Nat.le_refl _, fun h => absurd h (by simp)⟩
  · subst h4
    refine ⟨some ⟨g, 0, none⟩, cap, by rw [h1], by rw [h1]; exact h5.2.2.1, fun _ => ⟨g, 0, rfl, by have := h5.1; show b0 < g; omega, Pk.lt_of_heap h5.2.1, fun j hj => ?_⟩⟩
    have hc := c2p_get vs j hj
    refine ⟨?_, ?_⟩
    · rw [Nat.zero_add, h2.cellAt _ (by omega)]; exact hc.1
    · rw [Nat.zero_add, h2.cellAt _ (by omega)]; exact hc.2
theorem Po_keep {b0 : Nat} {l : Rt} {v : Value} {W W' : World} (h : Po b0 l v W) (hk : ∀ k, b0 < k → k < W.heap.size → W'.heap[k]? = W.heap[k]?) (hs : W.heap.size ≤ W'.heap.size) : Po b0 l v W' := by
  obtain ⟨vs, h1, h2, h3⟩ := h
  have BK : ∀ {b : By} {x : Value}, Bs (Sk b0 v) b x W → Bs (Sk b0 v) b x W' := fun {b x} hb => by
    obtain ⟨ao, cap, g1, g2, g4⟩ := hb
    refine ⟨ao, cap, g1, g2, fun h0 => ?_⟩
    obtain ⟨k, off, e, hne, hlt, hc⟩ := g4 h0
    exact ⟨k, off, e, hne, Nat.lt_of_lt_of_le hlt hs, fun j hj => (World.cell?_of_block (a := ⟨k, off + j, none⟩) (hk k hne.1 hlt)).trans (hc j hj)⟩
  refine ⟨vs, h1, ⟨h2.1, ?_⟩, fun j hj => ⟨BK (h3 j hj).1, BK (h3 j hj).2⟩⟩
  rcases h2.2 with h4 | ⟨g, cap, cur, h4, h5, h6, h7⟩
  · exact .inl h4
  · exact .inr ⟨g, cap, cur, h4, h5, (hk g (by omega) (Pk.lt_of_heap h6)).trans h6, h7⟩
theorem infoPr : (Try.prog.info? 65).map (fun i => (i.zero, i.size, i.bytes)) = some (some (.agg #[.slice none 0 0, .slice none 0 0]), 2, 48) := by kernel_rfl
theorem Po_app {b0 : Nat} {l : Rt} {v : Value} {W : World} (ty : TypeId) {key val : By} {kv vv : Value} {gb : Nat} (h : Po b0 l v W) (hk : Bs (Sk b0 v) key kv W) (hv : Bs (Sk b0 v) val vv W) (c0 : W.cell? ⟨gb, 0, none⟩ = some kv) (c1 : W.cell? ⟨gb, 1, none⟩ = some vv) (hb : b0 + 1 ≤ W.heap.size) (hl : l.length + 1 ≤ 4194304) :
    ∃ g cap W', (Builtin.append_ #[35, 35] ty #[v, .slice (some ⟨gb, 0, none⟩) 1 1]).run Try.prog W = .ok (.slice (some ⟨g, 0, none⟩) (l.length + 1) cap) W' ∧ Po b0 (l ++ [(key, val)]) (.slice (some ⟨g, 0, none⟩) (l.length + 1) cap) W' ∧ W.grownBy W' v.ownBlock ∧ (∀ k, v.ownBlock = some k → b0 < k) := by
  obtain ⟨i0, hi, hz0, hz1, hz2⟩ := info_parts infoPr
  obtain ⟨vs, h1, h2, h3⟩ := h
  obtain ⟨ka, kc, rfl, _⟩ := Bs_form hk
  obtain ⟨va, vc, rfl, _⟩ := Bs_form hv
  obtain ⟨g, cap, W', hr, ho, hgr, hat, _⟩ := run_append_lies (P := Try.prog) W 35 ty (b0 + 1) 65 i0 _ 2 48 Try.underlying35 hi hz0 hz1 hz2 rfl (by decide) v l.length (c2p vs) h2 ⟨gb, 0, none⟩ 1 1 [.slice ka key.length kc, .slice va val.length vc] rfl
    (fun j u hj => by
      have ea : (⟨gb, 0, none⟩ : Addr).add j = ⟨gb, j, none⟩ := by unfold Addr.add; split <;> simp_all
      rw [ea]
      match j, hj with
      | 0, hj => cases hj; exact c0
      | 1, hj => cases hj; exact c1) (fun u hu => by
        simp only [List.mem_cons, List.not_mem_nil, or_false] at hu
        rcases hu with rfl | rfl <;> rfl) (by omega) (by unfold maxLen; omega) (by omega) hb W.heap.size rfl
  have MV : ∀ {b : By} {x : Value}, Bs (Sk b0 v) b x W → Bs (Sk b0 (.slice (some ⟨g, 0, none⟩) (l.length + 1) cap)) b x W' := fun {b x} hx => by
    have k1 := Bs_mono (S' := fun k => Sk b0 v k ∧ k < W.heap.size) hx (fun k a b => ⟨a, b⟩)
    have k2 := Bs_gb k1 hgr (fun k hk => hk.1.2)
    refine Bs_mono k2 (fun k hk _ => ⟨hk.1.1, fun e => ?_⟩)
    have e : k = g := by injection e
    subst e
    rcases hat with hat | hat
    · exact hk.1.2 hat.symm
    · have := hk.2; omega
  refine ⟨g, cap, W', hr, ⟨vs ++ [(.slice ka key.length kc, .slice va val.length vc)], by simp [h1], ?_, fun j hj => ?_⟩, hgr, fun k hk => ?_⟩
  · rw [List.length_append, c2p_app]
    exact ho
  · rw [List.length_append] at hj
    by_cases e : j < l.length
    · rw [List.getD_eq_getElem?_getD, List.getD_eq_getElem?_getD, List.getElem?_append_left e, List.getElem?_append_left (by omega), ← List.getD_eq_getElem?_getD, ← List.getD_eq_getElem?_getD]
      exact ⟨MV (h3 j e).1, MV (h3 j e).2⟩
    · have ej : j = l.length := by simp at hj; omega
      subst ej
      have e1 : (l ++ [(key, val)]).getD l.length n2 = (key, val) := by simp [List.getD_eq_getElem?_getD]
      have e2 : (vs ++ [(Value.slice ka key.length kc, Value.slice va val.length vc)]).getD l.length m2 = (.slice ka key.length kc, .slice va val.length vc) := by rw [← h1]; simp [List.getD_eq_getElem?_getD]
      rw [e1, e2]
      exact ⟨MV hk, MV hv⟩
  · rcases h2.2 with ⟨h4, _⟩ | ⟨g2, cap2, cur, h4, h5, _⟩
    · subst h4; cases hk
    · subst h4
      have e : g2 = k := by injection hk
      omega
end Tr
end Go.Proofs.Ythlgneadcagleaa
namespace Go.Proofs.Ythlgneadcagleaa
namespace Tr
open Nb Go.RowKit
attribute [local go_sem] Oper.semAt_some
structure PI (w : World) (Bp b0 : Nat) (s : Rt) (W : World) : Prop where
  po : ∃ a n c, W.heap[Bp]? = some (.cells #[.slice a n c] 35 (0, 0)) ∧ Po b0 (s.map jp) (.slice a n c) W
  b : Below w.heap.size w W
theorem PI_gb {w : World} {Bp b0 : Nat} {s : Rt} {W W' : World} (h : PI w Bp b0 s W) (hg : W.grownBy W' (some b0)) (h1 : Bp < b0) (h2 : w.heap.size ≤ b0) : PI w Bp b0 s W' := by
  obtain ⟨⟨a, n, c, h3, h4⟩, h5⟩ := h
  have NE : ∀ k, k ≠ b0 → some k ≠ some b0 := fun k h e => h (by injection e)
  exact ⟨⟨a, n, c, (hg.block _ (Pk.lt_of_heap h3) (NE _ (by omega))).trans h3, Po_keep h4 (fun k hk hl => hg.block k hl (NE _ (by omega))) hg.size⟩, h5.grown hg h5.size (fun k e => by injection e with e; omega)⟩
theorem PI_put {w : World} {Bp b0 : Nat} {s : Rt} {W : World} {k : Nat} {o : Obj} (h : PI w Bp b0 s W) (h1 : k ≠ Bp) (h2 : k ≤ b0) (h3 : w.heap.size ≤ k) : PI w Bp b0 s (W.putObj k o) := by
  obtain ⟨⟨a, n, c, h4, h5⟩, h6⟩ := h
  refine ⟨⟨a, n, c, (World.putObj_heap_other (by omega)).trans h4, Po_keep h5 (fun j hj _ => World.putObj_heap_other (by omega)) (by simp [World.putObj])⟩, ?_⟩
  exact ⟨h6.os, h6.tape, h6.output, Nat.le_trans h6.size (by simp [World.putObj]), fun j hj => (World.putObj_heap_other (by omega)).trans (h6.block j hj)⟩
structure PWx (WA : World) (b0 : Nat) (key v : By) (kv pv : Value) (l : Rt) (Pz : World → Prop) (d3 d5 d6 d7 : Bool) (u30 u32 u33 : Value) (wx : World) : Prop where
  a : d6 = false → Below WA.heap.size WA wx
  b1 : d3 = true → ∃ ca cn cc, u30 = .slice ca cn cc
  b : d3 = true → d6 = false → Bs (WA.heap.size ≤ ·) v u30 wx
  c : d5 = true → d6 = false → ∃ gb, u32 = .slice (some ⟨gb, 0, none⟩) 1 1 ∧ gb < wx.heap.size ∧ wx.cell? ⟨gb, 0, none⟩ = some kv ∧ wx.cell? ⟨gb, 1, none⟩ = some u30
  e : d6 = true → d7 = false → (∃ g n c, u33 = .slice (some ⟨g, 0, none⟩) n c) ∧ Po b0 (l ++ [(key, v)]) u33 wx ∧ WA.grownBy wx pv.ownBlock
  z : d7 = true → Pz wx
  o : d7 = true → d6 = true
  i : d6 = true → d5 = true
  j : d5 = true → d3 = true
section
variable {WA : World} {b0 : Nat} {key v : By} {kv pv : Value} {l : Rt} {Pz : World → Prop} {d3 d5 d6 d7 : Bool} {u30 u32 u33 : Value} {wx : World}
theorem PWx.n6 (h : PWx WA b0 key v kv pv l Pz d3 d5 d6 d7 u30 u32 u33 wx) (e : d5 = false) : d6 = false := by
  cases hc : d6 with
  | false => rfl
  | true => rw [h.i hc] at e; cases e
theorem PWx.n5 (h : PWx WA b0 key v kv pv l Pz d3 d5 d6 d7 u30 u32 u33 wx) (e : d3 = false) : d5 = false := by
  cases hc : d5 with
  | false => rfl
  | true => rw [h.j hc] at e; cases e
theorem PWx.n7 (h : PWx WA b0 key v kv pv l Pz d3 d5 d6 d7 u30 u32 u33 wx) (e : d6 = false) : d7 = false := by
  cases hc : d7 with
  | false => rfl
  | true => rw [h.o hc] at e; cases e
theorem PWx.s3 {u30' : Value} {w1 : World} (h : PWx WA b0 key v kv pv l Pz d3 d5 d6 d7 u30 u32 u33 wx) (hf : d3 = false) (hv : ∃ ca cn cc, u30' = .slice ca cn cc) (hbs : Bs (wx.heap.size ≤ ·) v u30' w1) (hb : Below wx.heap.size wx w1) : PWx WA b0 key v kv pv l Pz true d5 d6 d7 u30' u32 u33 w1 := by
  have e5 := h.n5 hf
  have e6 := h.n6 e5
  have e7 := h.n7 e6
  have ha := h.a e6
  refine ⟨fun _ => ha.trans (hb.mono ha.size), fun _ => hv, fun _ _ => Bs_mono hbs (fun k hk _ => Nat.le_trans ha.size hk), fun h5 => ?_, fun h6 => ?_, fun h7 => ?_, fun h7 => ?_, fun h6 => ?_, fun _ => rfl⟩
  · rw [e5] at h5; cases h5
  · rw [e6] at h6; cases h6
  · rw [e7] at h7; cases h7
  · rw [e7] at h7; cases h7
  · rw [e6] at h6; cases h6
theorem PWx.s5 {u32' : Value} {w1 : World} (h : PWx WA b0 key v kv pv l Pz d3 d5 d6 d7 u30 u32 u33 wx) (hf : d5 = false) (h3 : d3 = true) (hb : Below wx.heap.size wx w1) (hc : ∃ gb, u32' = .slice (some ⟨gb, 0, none⟩) 1 1 ∧ gb < w1.heap.size ∧ w1.cell? ⟨gb, 0, none⟩ = some kv ∧ w1.cell? ⟨gb, 1, none⟩ = some u30) : PWx WA b0 key v kv pv l Pz d3 true d6 d7 u30 u32' u33 w1 := by
  have e6 := h.n6 hf
  have e7 := h.n7 e6
  have ha := h.a e6
  refine ⟨fun _ => ha.trans (hb.mono ha.size), h.b1, fun _ _ => Bs_below (h.b h3 e6) hb, fun _ _ => hc, fun h6 => ?_, fun h7 => ?_, fun h7 => ?_, fun _ => rfl, fun _ => h3⟩
  · rw [e6] at h6; cases h6
  · rw [e7] at h7; cases h7
  · rw [e7] at h7; cases h7
theorem PWx.s6 {u33' : Value} {w1 : World} (h : PWx WA b0 key v kv pv l Pz d3 d5 d6 d7 u30 u32 u33 wx) (hf : d6 = false) (h5 : d5 = true) (hv : ∃ g n c, u33' = .slice (some ⟨g, 0, none⟩) n c) (hp : Po b0 (l ++ [(key, v)]) u33' w1) (hg : wx.grownBy w1 pv.ownBlock) : PWx WA b0 key v kv pv l Pz d3 d5 true d7 u30 u32 u33' w1 := by
  have e7 := h.n7 hf
  have ha := h.a hf
  refine ⟨fun e => (by cases e), h.b1, fun _ e => (by cases e), fun _ e => (by cases e), fun _ _ => ⟨hv, hp, gb_trans (gb_below ha) hg⟩, fun h7 => ?_, fun _ => rfl, fun _ => h5, h.j⟩
  rw [e7] at h7; cases h7
theorem PWx.s7 {w1 : World} (h : PWx WA b0 key v kv pv l Pz d3 d5 d6 d7 u30 u32 u33 wx) (h6 : d6 = true) (hz : Pz w1) : PWx WA b0 key v kv pv l Pz d3 d5 d6 true u30 u32 u33 w1 :=
  ⟨fun e => (by rw [h6] at e; cases e), h.b1, fun _ e => (by rw [h6] at e; cases e), fun _ e => (by rw [h6] at e; cases e), fun _ e => (by cases e), fun _ => hz, fun _ => h6, h.i, h.j⟩
end
inductive PRX (WA : World) (b0 Bp : Nat) (key v : By) (l : Rt) (Pz : World → Prop) (ka va pa : Option Addr) (kn kc vn vc pn pc : Nat) (x0 x1 x2 x3 x4 x5 x7 x10 x11 x12 x13 x14 x15 x16 x17 x18 x19 x20 x21 x22 x23 x24 x25 x26 : Value) (d : Nat → Bool) (x : Act) (wx : World) : Prop where
  | mk (u27 u28 u29 u30 u31 u32 u33 : Value) (hx : x = { tmps := #[x0, x1, x2, x3, x4, x5, .pointer (some ⟨Bp, 0, none⟩), x7, .slice va vn vc, .slice ka kn kc, x10, x11, x12, x13, x14, x15, x16, x17, x18, x19, x20, x21, x22, x23, x24, x25, x26, u27, u28, u29, u30, u31, u32, u33, undef], defers := [] }) (hw : PWx WA b0 key v (.slice ka kn kc) (.slice pa pn pc) l Pz (d 3) (d 5) (d 6) (d 7) u30 u32 u33 wx) (p0 : d 0 = true → u27 = .slice pa pn pc) (p1 : d 1 = true → u28 = .slice ka kn kc) (p2 : d 2 = true → u29 = .slice va vn vc) (p4 : d 4 = true → u31 = .agg #[.slice ka kn kc, u30]) (y3 : d 3 = true → True) (y4 : d 4 = true → d 3 = true) (y5 : d 5 = true → True) (y6 : d 6 = true → d 0 = true) : PRX WA b0 Bp key v l Pz ka va pa kn kc vn vc pn pc x0 x1 x2 x3 x4 x5 x7 x10 x11 x12 x13 x14 x15 x16 x17 x18 x19 x20 x21 x22 x23 x24 x25 x26 d x wx
set_option maxHeartbeats 4000000 in
set_option maxRecDepth 100000 in
theorem pairs_form (k : Int) (a1 a2 a3 : Option Addr) (n1 c1 m2 c2 n3 c3 : Nat) (w : World) (KR0 : ∀ wx : World, Below w.heap.size w wx → Calls Try.prog 22 #[.agg #[.int .i64 k, .slice a1 n1 c1, .slice a2 m2 c2, .slice a3 n3 c3], .int .i64 0] wx fun e w' => ∃ y, e = .returned (.tuple #[y, .bool false]) ∧ Below wx.heap.size wx w') :
    Calls Try.prog 16 #[.agg #[.int .i64 k, .slice a1 n1 c1, .slice a2 m2 c2, .slice a3 n3 c3]] w fun e w' => e = .returned (.tuple #[.slice none 0 0, .int .i64 1]) ∧ Below w.heap.size w w' := by
  have b1 : Below w.heap.size w (w.alloc (.cells #[.int .i64 k, .slice a1 n1 c1, .slice a2 m2 c2, .slice a3 n3 c3] 25)) := (Below.refl _ _).alloc (Nat.le_refl _) _
  obtain ⟨_, q0, q1, q2, q3⟩ := Bx_new w (.int .i64 k, .slice a1 n1 c1, .slice a2 m2 c2, .slice a3 n3 c3)
  dsimp only at q0 q1 q2 q3
  have HBB : Hid (Below w.heap.size w (w.alloc (.cells #[.int .i64 k, .slice a1 n1 c1, .slice a2 m2 c2, .slice a3 n3 c3] 25))) := b1
  have KR : Hid (Calls Try.prog 22 #[.agg #[.int .i64 k, .slice a1 n1 c1, .slice a2 m2 c2, .slice a3 n3 c3], .int .i64 0] (w.alloc (.cells #[.int .i64 k, .slice a1 n1 c1, .slice a2 m2 c2, .slice a3 n3 c3] 25)) fun e w' => ∃ y, e = .returned (.tuple #[y, .bool false]) ∧ Below (w.alloc (.cells #[.int .i64 k, .slice a1 n1 c1, .slice a2 m2 c2, .slice a3 n3 c3] 25)).heap.size (w.alloc (.cells #[.int .i64 k, .slice a1 n1 c1, .slice a2 m2 c2, .slice a3 n3 c3] 25)) w') := KR0 _ b1
  clear KR0 b1
  go_enter Try.func16, Try.ntmps16
  go_wp2_with fail
  refine KR.out.mono ?_
  rintro e w1 ⟨y, rfl, hb1⟩
  have HZ : Hid (Below w.heap.size w w1) := HBB.out.trans (hb1.mono HBB.out.size)
  clear hb1 q0 q1 q2 q3
  go_wp2_with fail
  go_ret2
  exact ⟨rfl, HZ.out⟩
set_option maxHeartbeats 4000000 in
set_option maxRecDepth 100000 in
theorem pairs_value (k : Int) (a1 a2 a3 : Option Addr) (n1 c1 m2 c2 n3 c3 : Nat) (w : World) (lo : Nat) (t : Nd) (m : Rt) (KR0 : ∀ wx : World, Below w.heap.size w wx → Calls Try.prog 22 #[.agg #[.int .i64 k, .slice a1 n1 c1, .slice a2 m2 c2, .slice a3 n3 c3], .int .i64 0] wx fun e w' => ∃ y, e = .returned (.tuple #[y, .bool true]) ∧ In lo w' t y (fun _ => True) ∧ Below wx.heap.size wx w') (hrs : Hid (Rs t)) (hm : Hid (rt t = some m)) (hok : Hid (Okp [] m)) (hN : Hid (m.length ≤ 1048576)) :
    Calls Try.prog 16 #[.agg #[.int .i64 k, .slice a1 n1 c1, .slice a2 m2 c2, .slice a3 n3 c3]] w fun e w' => ∃ v, e = .returned (.tuple #[v, .int .i64 0]) ∧ Pv (w.heap.size ≤ ·) (m.map jp) v w' ∧ Below w.heap.size w w' := by
  have b1 : Below w.heap.size w (w.alloc (.cells #[.int .i64 k, .slice a1 n1 c1, .slice a2 m2 c2, .slice a3 n3 c3] 25)) := (Below.refl _ _).alloc (Nat.le_refl _) _
  obtain ⟨_, q0, q1, q2, q3⟩ := Bx_new w (.int .i64 k, .slice a1 n1 c1, .slice a2 m2 c2, .slice a3 n3 c3)
  dsimp only at q0 q1 q2 q3
  have HBB : Hid (Below w.heap.size w (w.alloc (.cells #[.int .i64 k, .slice a1 n1 c1, .slice a2 m2 c2, .slice a3 n3 c3] 25))) := b1
  have KR : Hid (Calls Try.prog 22 #[.agg #[.int .i64 k, .slice a1 n1 c1, .slice a2 m2 c2, .slice a3 n3 c3], .int .i64 0] (w.alloc (.cells #[.int .i64 k, .slice a1 n1 c1, .slice a2 m2 c2, .slice a3 n3 c3] 25)) fun e w' => ∃ y, e = .returned (.tuple #[y, .bool true]) ∧ In lo w' t y (fun _ => True) ∧ Below (w.alloc (.cells #[.int .i64 k, .slice a1 n1 c1, .slice a2 m2 c2, .slice a3 n3 c3] 25)).heap.size (w.alloc (.cells #[.int .i64 k, .slice a1 n1 c1, .slice a2 m2 c2, .slice a3 n3 c3] 25)) w') := KR0 _ b1
  clear KR0 b1
  refine (callsIn_wide (n := 5)).1 ?_
  refine callsIn_of_wp_marks Try.func16 rfl trivial ?_ rfl
  simp only [Try.ntmps16, List.size_toArray, List.length_cons, List.length_nil, Nat.reduceAdd, Nat.reduceSub, Array.replicate_succ, Array.replicate_zero, List.push_toArray, List.append_toArray, List.nil_append, List.cons_append]
  gi_wp2_with fail
  refine ⟨trivial, (callsIn_wide.2 KR.out).mono ?_⟩
  rintro e W0 ⟨y, rfl, hin, hb1⟩
  obtain ⟨ty, yy, rfl⟩ := In_form hin
  have HZ : Hid (Below w.heap.size w W0) := HBB.out.trans (hb1.mono HBB.out.size)
  have HW : Hid (w.heap.size < W0.heap.size) := by have := hb1.size; show _ < _; simp at this; omega
  have HIN : Hid (In lo W0 t (.iface ty yy) (fun _ => True)) := hin
  clear hb1 hin q0 q1 q2 q3 KR HBB
  gi_wp2_with fail
  refine ⟨trivial, (callsIn_wide.2 (all_any ty yy _)).mono ?_⟩
  rintro e w2 ⟨rfl, rfl⟩
  gi_wp2_with fail
  have bL : Below W0.heap.size W0 ((W0.alloc (.cells #[.slice none 0 0] 35)).alloc (.cells #[.iface ty yy] 44)) := ((Below.refl _ _).alloc (Nat.le_refl _) _).alloc (by simp) _
  have hsL : ((W0.alloc (.cells #[.slice none 0 0] 35)).alloc (.cells #[.iface ty yy] 44)).heap.size = W0.heap.size + 2 := by simp
  have hbox : ((W0.alloc (.cells #[.slice none 0 0] 35)).alloc (.cells #[.iface ty yy] 44)).heap[W0.heap.size]? = some (.cells #[.slice none 0 0] 35 (0, 0)) := by
    rw [Below.heap_alloc _ _ _ (by simp)]
    exact heap_alloc_new W0 _
  have hbn : ((W0.alloc (.cells #[.slice none 0 0] 35)).alloc (.cells #[.iface ty yy] 44)).cell? ⟨W0.heap.size + 1, 0, none⟩ = some (.iface ty yy) := by
    have := heap_alloc_new (W0.alloc (.cells #[.slice none 0 0] 35)) (.cells #[.iface ty yy] 44)
    rw [show (W0.alloc (.cells #[.slice none 0 0] 35)).heap.size = W0.heap.size + 1 by simp] at this
    simp only [World.cell?, this]; rfl
  generalize ((W0.alloc (.cells #[.slice none 0 0] 35)).alloc (.cells #[.iface ty yy] 44)) = Wl at *
  have bwl : Below w.heap.size w Wl := HZ.out.trans (bL.mono HZ.out.size)
  have HWO := HW.out
  refine wpIn_range_buf (gf := 58) (lb := #[.pointer (some ⟨W0.heap.size + 1, 0, none⟩)]) rfl (enters_of Try.func58 (by kernel_rfl) rfl) rfl W0.heap.size 1048576 W0 rfl bL (PI w W0.heap.size (Wl.heap.size + 2))
    (fun s A B h hg => PI_gb h hg (by omega) (by omega)) (fun s A q o hq h => PI_put h (by omega) (by omega) (by omega)) ⟨⟨none, 0, 0, hbox, Po_nil _ _⟩, bwl⟩ m ?seq
    (fun pv vv => { tmps := #[.agg #[.int .i64 k, .slice a1 n1 c1, .slice a2 m2 c2, .slice a3 n3 c3], .pointer (some ⟨w.heap.size, 0, none⟩), .slice none 0 0, .int .i64 0, .iface ty yy, .bool true, .pointer (some ⟨W0.heap.size, 0, none⟩), pv, vv, undef, undef, .tuple #[.iface ty yy, .bool true], .agg #[.int .i64 k, .slice a1 n1 c1, .slice a2 m2 c2, .slice a3 n3 c3], .tuple #[.iface ty yy, .bool true], .iface ty yy, .bool true, .bool true, .bool false, .iface ty yy, .func (.func 58) #[] #[.pointer (some ⟨W0.heap.size + 1, 0, none⟩)], pv, vv, undef, undef, undef, undef, undef, undef, undef, undef, undef, undef, undef, undef, undef], defers := [] }) ?assign ?body ?done
  case seq =>
    intro J W1 hs1 hb1 hY hJ
    obtain ⟨WC, hr, hf, hbC⟩ := Bf_make W1.drew
    have hs1' : W1.drew.heap.size = Wl.heap.size + 2 := hs1
    rw [hs1'] at hr hf
    have bC : Below W1.heap.size W1 WC := ((Below.refl _ _).drew).trans hbC
    have hn0 : Below W0.heap.size W0 WC := by
      have h1 := bL.trans (hb1.mono bL.size)
      exact h1.trans (bC.mono h1.size)
    have hJ2 : J [] WC := hY.ab [] W1 WC hJ (bl_gb bC)
    refine (all1_any (Wl.heap.size + 1) (Wl.heap.size + 2) (W0.heap.size + 1) ty yy W1 WC (fun w' => J m w') hr (by omega) bC ((hb1.cell (p := ⟨W0.heap.size + 1, 0, none⟩) (by show W0.heap.size + 1 < Wl.heap.size; omega)).trans hbn) (fun W => nw_in HIN.out W) ?_).mono fun e w' he => he
    have hI := walk_all hY HIN.out hrs.out m hm.out [] [] WC (fun c hc => by cases hc) hok.out hJ2 hf hn0 (by rw [List.length_nil, Nat.zero_add]; exact hN.out)
    refine hI.mono fun e w' he => ⟨he.1, ?_⟩
    have := he.2.1
    rw [List.nil_append, show pre [] m = m from by unfold pre; simp] at this
    exact this
  case assign =>
    intro pv vv W K hK
    gi_wp2
    exact hK
  case done =>
    intro W hI hK
    obtain ⟨⟨a, n, c, h1, h2⟩, h3⟩ := hI
    have x0 : W.cell? ⟨W0.heap.size, 0, none⟩ = some (.slice a n c) := by simp only [World.cell?, h1]; rfl
    have HPV := Po_pv h2
    have HK : Hid (W.heap[Wl.heap.size]? = some (.deferred (some []))) := hK
    have hPV2 : Hid (Pv (w.heap.size ≤ ·) (m.map jp) (.slice a n c) (W.putObj Wl.heap.size (.deferred none))) := by
      obtain ⟨vs, g1, ⟨ao, cp, g2, g3, g4⟩, g5⟩ := HPV
      have KB : ∀ q, Wl.heap.size + 2 < q → (W.putObj Wl.heap.size (.deferred none)).heap[q]? = W.heap[q]? := fun q hq => World.putObj_heap_other (by omega)
      have KS : (W.putObj Wl.heap.size (.deferred none)).heap.size = W.heap.size := by simp [World.putObj]
      have BK : ∀ {b : By} {x : Value}, Bs (Wl.heap.size + 2 < ·) b x W → Bs (w.heap.size ≤ ·) b x (W.putObj Wl.heap.size (.deferred none)) := fun {b x} hb => by
        obtain ⟨ao, cap, g1, g2, g4⟩ := hb
        refine ⟨ao, cap, g1, g2, fun h0 => ?_⟩
        obtain ⟨q, off, e, hne, hlt, hc⟩ := g4 h0
        exact ⟨q, off, e, by show w.heap.size ≤ q; omega, by omega, fun j hj => (World.cell?_of_block (a := ⟨q, off + j, none⟩) (KB q hne)).trans (hc j hj)⟩
      refine ⟨vs, g1, ⟨ao, cp, g2, g3, fun h0 => ?_⟩, fun j hj => ⟨BK (g5 j hj).1, BK (g5 j hj).2⟩⟩
      obtain ⟨q, off, e, hne, hlt, hc⟩ := g4 h0
      exact ⟨q, off, e, by show w.heap.size ≤ q; omega, by omega, fun j hj => ⟨(World.cell?_of_block (a := ⟨q, off + 2 * j, none⟩) (KB q hne)).trans (hc j hj).1, (World.cell?_of_block (a := ⟨q, off + 2 * j + 1, none⟩) (KB q hne)).trans (hc j hj).2⟩⟩
    have hB2 : Hid (Below w.heap.size w (W.putObj Wl.heap.size (.deferred none))) := ⟨h3.os, h3.tape, h3.output, Nat.le_trans h3.size (by simp [World.putObj]), fun j hj => (World.putObj_heap_other (by omega)).trans (h3.block j hj)⟩
    clear h1 h2 h3 HPV hK
    gi_wp2
    refine ⟨by simp, .inl ⟨_, _, rfl, run_takeDeferred HK.out, ?_⟩⟩
    exact ⟨_, results_tmp2 rfl _ _ _, _, rfl, hPV2.out, hB2.out⟩
  case body =>
    intro s p v vv W hI hBf hp1 hp2 hp3 hV hv0 hv1 hbl hsN
    obtain ⟨⟨pa, pn, pc, hbx, hpo⟩, hbw⟩ := hI
    obtain ⟨va, vc, rfl, _⟩ := Bs_form hV
    have KJ : Hid (Calls Try.prog 35 #[.slice (some ⟨Wl.heap.size + 2, 0, none⟩) p.length 64] W fun e w' => ∃ a n c, e = .returned (.tuple #[.slice a n c, .int .i64 0]) ∧ Bs (W.heap.size ≤ ·) (jn p) (.slice a n c) w' ∧ Below W.heap.size W w') := join_bs (Bf_bs hBf) hp1 ⟨hp2, hp3⟩
    have HSL : Hid (Wl.heap.size = W0.heap.size + 2) := hsL
    have HSW : Hid (w.heap.size < W0.heap.size) := HWO
    have FA : Hid (PI w W0.heap.size (Wl.heap.size + 2) s W ∧ W.heap[W0.heap.size]? = some (.cells #[.slice pa pn pc] 35 (0, 0)) ∧ Po (Wl.heap.size + 2) (s.map jp) (.slice pa pn pc) W ∧ Bf (Wl.heap.size + 2) p W ∧ Bs (· < W0.heap.size) v (.slice va v.length vc) W ∧ v.length ≤ 1024 ∧ Below W0.heap.size W0 W ∧ s.length < 1048576) := ⟨⟨⟨pa, pn, pc, hbx, hpo⟩, hbw⟩, hbx, hpo, hBf, hV, hv1, hbl, hsN⟩
    clear hsL HWO hbx hpo hbw hBf hV hv0 hv1 hbl hsN hp1 hp2 hp3 hbox hbn bL bwl hrs hm hok hN HZ HW HIN
    generalize hvn : v.length = vn at *
    generalize hpl : p.length = np at *
    gi_wp2_with fail
    refine ⟨trivial, rfl, CallsIn.inRound _ ((callsIn_wide.2 KJ.out).mono ?_)⟩
    rintro e W1 ⟨ka, kn, kc, rfl, hkb, hb1⟩
    have HKB : Hid (Bs (W.heap.size ≤ ·) (jn p) (.slice ka kn kc) W1) := hkb
    have HB1 : Hid (Below W.heap.size W W1) := hb1
    clear hkb hb1 KJ
    gi_wp2_with fail
    obtain ⟨f1, f2, f3, f4, f5, f6, f7, f8⟩ := FA.out
    have e1 := HSL.out
    have e2 := HSW.out
    have e3 := Bf_lt f4
    have e4 := HB1.out.size
    have OWN : ∀ q, (Value.slice pa pn pc).ownBlock = some q → Wl.heap.size + 2 < q ∧ q < W.heap.size := fun q hq => by
      obtain ⟨vs, _, h2, _⟩ := f3
      have := h2.lt q hq
      exact ⟨by omega, this.2⟩
    have NEO : ∀ q, q ≤ Wl.heap.size + 2 → some q ≠ (Value.slice pa pn pc).ownBlock := fun q hq e => by have := (OWN q e.symm).1; omega
    have hbx1 : W1.drew.heap[W0.heap.size]? = some (.cells #[.slice pa pn pc] 35 (0, 0)) := (HB1.out.block _ (by omega)).trans f2
    have HBP : Hid (W0.heap.size < W1.drew.heap.size) := by show W0.heap.size < W1.heap.size; omega
    have C0 : Hid (W1.drew.cell? ⟨W0.heap.size, 0, none⟩ = some (.slice pa pn pc)) := by show _ = _; simp only [World.cell?, hbx1]; rfl
    have bD : Below W.heap.size W W1.drew := HB1.out.drew
    have KC : Hid (∀ wx : World, Below W1.drew.heap.size W1.drew wx → Calls Try.prog 26 #[.slice va vn vc] wx fun e w' => ∃ ca cn cc, e = .returned (.slice ca cn cc) ∧ Bs (wx.heap.size ≤ ·) v (.slice ca cn cc) w' ∧ Below wx.heap.size wx w') := fun wx hx => by
      refine (clone_call (Bs_below (Bs_below f5 bD) hx) (by omega)).mono fun e w' he => ?_
      obtain ⟨ca, cc, g1, g2, g3⟩ := he
      exact ⟨ca, _, cc, g1, g2, g3⟩
    have hpoA : Po (Wl.heap.size + 2) (s.map jp) (.slice pa pn pc) W1.drew := Po_keep f3 (fun q _ hq => bD.block q hq) bD.size
    have PAP : Hid (∀ (gb : Nat) (u30 : Value) (wx : World), Below W1.drew.heap.size W1.drew wx → Bs (W1.drew.heap.size ≤ ·) v u30 wx → wx.cell? ⟨gb, 0, none⟩ = some (.slice ka kn kc) → wx.cell? ⟨gb, 1, none⟩ = some u30 → ∃ g c W9, (Builtin.append_ #[35, 35] 35 #[.slice pa pn pc, .slice (some ⟨gb, 0, none⟩) 1 1]).run Try.prog wx = .ok (.slice (some ⟨g, 0, none⟩) ((s.map jp).length + 1) c) W9 ∧ Po (Wl.heap.size + 2) (s.map jp ++ [(jn p, v)]) (.slice (some ⟨g, 0, none⟩) ((s.map jp).length + 1) c) W9 ∧ wx.grownBy W9 (Value.slice pa pn pc).ownBlock ∧ (∀ q, (Value.slice pa pn pc).ownBlock = some q → Wl.heap.size + 2 < q)) := fun gb u30 wx hx hu c0 c1 => by
      have hz : W.heap.size ≤ W1.drew.heap.size := bD.size
      have hz2 := hx.size
      refine Po_app _ (Po_keep hpoA (fun q _ hq => hx.block q hq) hx.size) (Bs_mono (Bs_below (show Bs _ _ _ W1.drew from HKB.out) hx) (fun q hq _ => ⟨?_, fun e => ?_⟩)) (Bs_mono hu (fun q hq _ => ⟨?_, fun e => ?_⟩)) c0 c1 (by omega) (by rw [List.length_map]; omega)
      · have : W.heap.size ≤ q := hq; omega
      · have : W.heap.size ≤ q := hq; have := (OWN q e.symm).2; omega
      · have : W1.drew.heap.size ≤ q := hq; omega
      · have : W1.drew.heap.size ≤ q := hq; have := (OWN q e.symm).2; omega
    have BXF : Hid (∀ wx : World, W1.drew.grownBy wx (Value.slice pa pn pc).ownBlock → wx.heap[W0.heap.size]? = some (.cells #[.slice pa pn pc] 35 (0, 0)) ∧ wx.cell? ⟨W0.heap.size, 0, none⟩ = some (.slice pa pn pc) ∧ wx.frozen? ⟨W0.heap.size, 0, none⟩ = false) := fun wx hg => by
      have h1 := (hg.block _ HBP.out (NEO _ (by omega))).trans hbx1
      exact ⟨h1, by simp only [World.cell?, h1]; rfl, by simp only [World.frozen?, h1]; simp⟩
    have FIN : Hid (∀ (g n c : Nat) (wx : World), Po (Wl.heap.size + 2) (s.map jp ++ [(jn p, v)]) (.slice (some ⟨g, 0, none⟩) n c) wx → W1.drew.grownBy wx (Value.slice pa pn pc).ownBlock → (PI w W0.heap.size (Wl.heap.size + 2) (s ++ [(p, v)]) (wx.setCell ⟨W0.heap.size, 0, none⟩ (.slice (some ⟨g, 0, none⟩) n c)) ∧ Below W0.heap.size W (wx.setCell ⟨W0.heap.size, 0, none⟩ (.slice (some ⟨g, 0, none⟩) n c)) ∧ (wx.setCell ⟨W0.heap.size, 0, none⟩ (.slice (some ⟨g, 0, none⟩) n c)).heap[Wl.heap.size + 2]? = W.heap[Wl.heap.size + 2]? ∧ (wx.setCell ⟨W0.heap.size, 0, none⟩ (.slice (some ⟨g, 0, none⟩) n c)).heap[Wl.heap.size + 1]? = W.heap[Wl.heap.size + 1]? ∧ (wx.setCell ⟨W0.heap.size, 0, none⟩ (.slice (some ⟨g, 0, none⟩) n c)).heap[Wl.heap.size]? = W.heap[Wl.heap.size]?)) := fun g n c wx hp hg => by
      have h1 := (BXF.out wx hg).1
      have gW : W.grownBy wx (Value.slice pa pn pc).ownBlock := gb_trans (gb_below bD) hg
      have SM : ∀ q, q < W.heap.size → q ≠ W0.heap.size → some q ≠ (Value.slice pa pn pc).ownBlock → (wx.setCell ⟨W0.heap.size, 0, none⟩ (.slice (some ⟨g, 0, none⟩) n c)).heap[q]? = W.heap[q]? := fun q h2 h3 h4 => (Below.heap_setCell _ _ _ _ h3).trans (gW.block q h2 h4)
      have bS : ∀ x, x ≤ W0.heap.size → Below x W (wx.setCell ⟨W0.heap.size, 0, none⟩ (.slice (some ⟨g, 0, none⟩) n c)) := fun x hx => ⟨gW.os, gW.tape, gW.output, Nat.le_trans gW.size (by simp [World.setCell]), fun q hq => SM q (by omega) (by omega) (NEO q (by omega))⟩
      refine ⟨⟨⟨some ⟨g, 0, none⟩, n, c, ?_, ?_⟩, f1.b.trans (bS _ (by omega))⟩, bS _ (Nat.le_refl _), SM _ (by omega) (by omega) (NEO _ (by omega)), SM _ (by omega) (by omega) (NEO _ (by omega)), SM _ (by omega) (by omega) (NEO _ (by omega))⟩
      · exact heap_setCell_same h1 _
      · rw [List.map_append]
        exact Po_keep hp (fun q hq _ => Below.heap_setCell _ _ _ _ (by show q ≠ W0.heap.size; omega)) (by simp [World.setCell])
    have hw0 : PWx W1.drew (Wl.heap.size + 2) (jn p) v (.slice ka kn kc) (.slice pa pn pc) (s.map jp) (fun wx => PI w W0.heap.size (Wl.heap.size + 2) (s ++ [(p, v)]) wx ∧ Below W0.heap.size W wx ∧ wx.heap[Wl.heap.size + 2]? = W.heap[Wl.heap.size + 2]? ∧ wx.heap[Wl.heap.size + 1]? = W.heap[Wl.heap.size + 1]? ∧ wx.heap[Wl.heap.size]? = W.heap[Wl.heap.size]?) false false false false undef undef undef W1.drew := ⟨fun _ => Below.refl _ _, fun e => (by cases e), fun e => (by cases e), fun e => (by cases e), fun e => (by cases e), fun e => (by cases e), fun e => (by cases e), fun e => (by cases e), fun e => (by cases e)⟩
    clear f1 f2 f3 f4 f5 f6 f7 f8 e1 e2 e3 e4 OWN NEO hbx1 bD hpoA FA HSL HSW HKB HB1 hvn hpl
    generalize hPz : (fun wx => PI w W0.heap.size (Wl.heap.size + 2) (s ++ [(p, v)]) wx ∧ Below W0.heap.size W wx ∧ wx.heap[Wl.heap.size + 2]? = W.heap[Wl.heap.size + 2]? ∧ wx.heap[Wl.heap.size + 1]? = W.heap[Wl.heap.size + 1]? ∧ wx.heap[Wl.heap.size]? = W.heap[Wl.heap.size]?) = Pz at hw0
    have FIN2 : Hid (∀ (g n c : Nat) (wx : World), Po (Wl.heap.size + 2) (s.map jp ++ [(jn p, v)]) (.slice (some ⟨g, 0, none⟩) n c) wx → W1.drew.grownBy wx (Value.slice pa pn pc).ownBlock → Pz (wx.setCell ⟨W0.heap.size, 0, none⟩ (.slice (some ⟨g, 0, none⟩) n c))) := by
      subst hPz
      exact FIN.out
    have HPZ : Hid ((fun wx => PI w W0.heap.size (Wl.heap.size + 2) (s ++ [(p, v)]) wx ∧ Below W0.heap.size W wx ∧ wx.heap[Wl.heap.size + 2]? = W.heap[Wl.heap.size + 2]? ∧ wx.heap[Wl.heap.size + 1]? = W.heap[Wl.heap.size + 1]? ∧ wx.heap[Wl.heap.size]? = W.heap[Wl.heap.size]?) = Pz) := hPz
    clear FIN hPz
    refine RI.wpIn_region_inv (PRX W1.drew (Wl.heap.size + 2) W0.heap.size (jn p) v (s.map jp) Pz ka va pa kn kc vn vc pn pc (.agg #[.int .i64 k, .slice a1 n1 c1, .slice a2 m2 c2, .slice a3 n3 c3]) (.pointer (some ⟨w.heap.size, 0, none⟩)) (.slice none 0 0) (.int .i64 0) (.iface ty yy) (.bool true) (.slice (some ⟨Wl.heap.size + 2, 0, none⟩) np 64) (.int .i64 0) (.tuple #[.iface ty yy, .bool true]) (.agg #[.int .i64 k, .slice a1 n1 c1, .slice a2 m2 c2, .slice a3 n3 c3]) (.tuple #[.iface ty yy, .bool true]) (.iface ty yy) (.bool true) (.bool true) (.bool false) (.iface ty yy) (.func (.func 58) #[] #[.pointer (some ⟨W0.heap.size + 1, 0, none⟩)]) (.slice (some ⟨Wl.heap.size + 2, 0, none⟩) np 64) (.slice va vn vc) (.tuple #[.slice ka kn kc, .int .i64 0]) (.slice (some ⟨Wl.heap.size + 2, 0, none⟩) np 64) (.tuple #[.slice ka kn kc, .int .i64 0]) (.slice ka kn kc) (.int .i64 0)) (by kernel_rfl) (by kernel_rfl) ?_ ?_ ?_
    · exact ⟨undef, undef, undef, undef, undef, undef, undef, rfl, hw0, nofun, nofun, nofun, nofun, nofun, nofun, nofun, nofun⟩
    · skip
      intro d x wx i hI hi hm
      obtain ⟨u27, u28, u29, u30, u31, u32, u33, rfl, hw, p0, p1, p2, p4, y3, y4, y5, y6⟩ := hI
      have hi' : i = 0 ∨ i = 1 ∨ i = 2 ∨ i = 3 ∨ i = 4 ∨ i = 5 ∨ i = 6 ∨ i = 7 := by simp at hi; omega
      have hd := hm.2
      have hf := hm.1
      clear hm hi
      rcases hi' with rfl | rfl | rfl | rfl | rfl | rfl | rfl | rfl
      · refine RI.wpOpIn_plain rfl rfl (RI.wpIn_round nofun ?_)
        have h6 : d 6 = false := by
          cases h : d 6 with
          | false => rfl
          | true => have := y6 h; rw [hf] at this; cases this
        have x0 := ((hw.a h6).cell (p := ⟨W0.heap.size, 0, none⟩) HBP.out).trans C0.out
        go_simp
        exact ⟨_, u28, u29, u30, u31, u32, u33, rfl, hw, fun _ => rfl, p1, p2, p4, y3, y4, y5, fun _ => rfl⟩
      · refine RI.wpOpIn_plain rfl rfl (RI.wpIn_round nofun ?_)
        go_simp
        exact ⟨u27, _, u29, u30, u31, u32, u33, rfl, hw, p0, fun _ => rfl, p2, p4, y3, y4, y5, y6⟩
      · refine RI.wpOpIn_plain rfl rfl (RI.wpIn_round nofun ?_)
        go_simp
        exact ⟨u27, u28, _, u30, u31, u32, u33, rfl, hw, p0, p1, fun _ => rfl, p4, y3, y4, y5, y6⟩
      · have hd := hd _ rfl
        simp [Region.binds] at hd
        obtain rfl := p2 (by simp [hd])
        refine RI.wpOpIn_plain rfl rfl (RI.wpIn_round nofun ?_)
        have h6 : d 6 = false := hw.n6 (hw.n5 hf)
        go_simp
        refine (KC.out _ (hw.a h6)).mono ?_
        rintro e w1 ⟨ca, cn, cc, rfl, hbs, hb1⟩
        refine ⟨_, rfl, ?_⟩
        exact ⟨u27, u28, _, _, u31, u32, u33, rfl, hw.s3 hf ⟨_, _, _, rfl⟩ hbs hb1, p0, p1, p2, fun h => absurd (y4 h) (by rw [hf]; decide), fun _ => trivial, fun _ => rfl, y5, y6⟩
      · have hd := hd _ rfl
        simp [Region.binds] at hd
        obtain rfl := p1 (by simp [hd])
        refine RI.wpOpIn_plain rfl rfl (RI.wpIn_round nofun ?_)
        obtain ⟨ca, cn, cc, rfl⟩ := hw.b1 (by simp [hd])
        go_simp
        exact ⟨u27, _, u29, _, _, u32, u33, rfl, hw, p0, p1, p2, fun _ => rfl, y3, fun _ => (show d 3 = true by simp [hd]), y5, y6⟩
      · have hd := hd _ rfl
        simp [Region.binds] at hd
        obtain rfl := p4 (by simp [hd])
        refine RI.wpOpIn_plain rfl rfl (RI.wpIn_round nofun ?_)
        have h3 : d 3 = true := y4 (by simp [hd])
        obtain ⟨ca, cn, cc, rfl⟩ := hw.b1 h3
        go_simp
        exact ⟨u27, u28, u29, _, _, _, u33, rfl, hw.s5 hf h3 ((Below.refl _ _).alloc (Nat.le_refl _) _) ⟨_, rfl, by simp, by simp only [World.cell?, heap_alloc_new]; rfl, by simp only [World.cell?, heap_alloc_new]; rfl⟩, p0, p1, p2, p4, y3, y4, fun _ => trivial, y6⟩
      · have hd := hd _ rfl
        simp [Region.binds] at hd
        obtain rfl := p0 (by simp [hd])
        refine RI.wpOpIn_plain rfl rfl (RI.wpIn_round nofun ?_)
        obtain ⟨gb, rfl, hgb, hc0, hc1⟩ := hw.c (by simp [hd]) hf
        obtain ⟨gg, gc, W9, hr, hpo, hgr, hgo⟩ := PAP.out _ _ _ (hw.a hf) (hw.b (by simp [hd]) hf) hc0 hc1
        refine upw_ap rfl rfl rfl hr ?_
        simp only [Act.put]
        exact ⟨_, u28, u29, u30, u31, _, _, rfl, hw.s6 hf (by simp [hd]) ⟨_, _, _, rfl⟩ hpo hgr, p0, p1, p2, p4, y3, y4, y5, fun _ => (show d 0 = true by simp [hd])⟩
      · have hd := hd _ rfl
        simp [Region.binds] at hd
        obtain rfl := p0 (by simp [hd])
        obtain rfl := p1 (by simp [hd])
        obtain rfl := p2 (by simp [hd])
        obtain rfl := p4 (by simp [hd])
        refine RI.wpOpIn_plain rfl rfl (RI.wpIn_round nofun ?_)
        obtain ⟨⟨gg, gn, gc, rfl⟩, hpo, hgr⟩ := hw.e (by simp [hd]) hf
        obtain ⟨xb, xc, xf⟩ := BXF.out _ hgr
        go_simp
        exact ⟨_, _, _, u30, _, u32, _, rfl, hw.s7 (by simp [hd]) (FIN2.out _ _ _ _ hpo hgr), p0, p1, p2, p4, y3, y4, y5, y6⟩
    · skip
      intro d x wx hI hd
      obtain ⟨u27, u28, u29, u30, u31, u32, u33, rfl, hw, p0, p1, p2, p4, y3, y4, y5, y6⟩ := hI
      have hz := hw.z (hd 7 (by decide))
      rw [← HPZ.out] at hz
      exact ⟨rfl, hz.1, hz.2.1, hz.2.2.1, hz.2.2.2.1, hz.2.2.2.2⟩
end Tr
end Go.Proofs.Ythlgneadcagleaa
namespace Go.Proofs.Ythlgneadcagleaa
namespace Tr
open Nb Go.RowKit
end Tr
end Go.Proofs.Ythlgneadcagleaa
namespace Go.Proofs.Ythlgneadcagleaa
namespace Tr
open Nb Go.RowKit
end Tr
end Go.Proofs.Ythlgneadcagleaa
namespace Go.Proofs.Ythlgneadcagleaa
namespace Tr
open Nb Go.RowKit
def prs (t : Nd) : Rt := if rd 0 t = true then ((rt t).getD []).map jp else []
def pz (t : Nd) : Int := if rd 0 t = true then 0 else 1
theorem prs_len {t : Nd} (hw : wn t ≤ 1048576) : (prs t).length ≤ 1048576 := by
  unfold prs
  split
  · cases h : rt t with
    | none => simp
    | some l =>
      have := rt_less h
      simp
      omega
  · simp
theorem okr_okp {l : Rt} (h : ∀ r ∈ l, Okr r.1 r.2) : Okp [] l := fun r hr => by
  have := h r hr
  rw [List.nil_append]
  exact ⟨this.2.1, this.1, this.2.2.2⟩
theorem tpairs_any (t : Nd) (S : Nat → Prop) (x : V4) (w : World) (hx : Nv S w t x) (hw : wn t ≤ 1048576) :
    Calls Try.prog 16 #[v4 x] w fun e w' => ∃ v, e = .returned (.tuple #[v, .int .i64 (pz t)]) ∧ Pv (w.heap.size ≤ ·) (prs t) v w' ∧ Below w.heap.size w w' := by
  have hx := Nv_mono (S' := (· < w.heap.size)) hx (fun k _ h => h)
  obtain ⟨k, a1, n1, c1, a2, m2, c2, a3, n3, c3, rfl⟩ := Nv_form hx
  have KR : ∀ wx : World, Below w.heap.size w wx → Calls Try.prog 22 #[.agg #[.int .i64 k, .slice a1 n1 c1, .slice a2 m2 c2, .slice a3 n3 c3], .int .i64 0] wx (RP w.heap.size 0 t wx) := fun wx h => (read_all w.heap.size (wf_any t)).1 0 (.int .i64 k, .slice a1 n1 c1, .slice a2 m2 c2, .slice a3 n3 c3) wx (by omega) (Nv_below hx h) h.size (by omega)
  cases hr : rd 0 t with
  | false =>
    have h1 : pz t = 1 := by unfold pz; rw [hr]; rfl
    have h2 : prs t = [] := by unfold prs; rw [hr]; rfl
    rw [h1, h2]
    refine (pairs_form k a1 a2 a3 n1 c1 m2 c2 n3 c3 w (fun wx h => (KR wx h).mono fun e w' he => ?_)).mono fun e w' he => ?_
    · obtain ⟨z, h1, _, h3⟩ := he
      rw [hr] at h1
      exact ⟨z, h1, h3⟩
    · exact ⟨_, he.1, Pv_nil _ _, he.2⟩
  | true =>
    have hR := (rd_right t).1 hr
    obtain ⟨l, hl, hok, _⟩ := (right_iff t).1 hR
    have h1 : pz t = 0 := by unfold pz; rw [hr]; rfl
    have h2 : prs t = l.map jp := by unfold prs; rw [hr, hl]; rfl
    rw [h1, h2]
    refine (pairs_value k a1 a2 a3 n1 c1 m2 c2 n3 c3 w w.heap.size t l (fun wx h => (KR wx h).mono fun e w' he => ?_) hR.1 hl (okr_okp hok) (by have := rt_less hl; show _ ≤ _; omega)).mono fun e w' he => he
    obtain ⟨z, h1, h2, h3⟩ := he
    rw [hr] at h1
    exact ⟨z, h1, In_mono (h2 hr) (fun _ _ => trivial), h3⟩
end Tr
end Go.Proofs.Ythlgneadcagleaa
namespace Go.Proofs.Ythlgneadcagleaa
namespace Tr
open Nb Go.RowKit
def L7 : Rt := [([1, 2], [97]), ([1], [98])]
def R7 : Rt := [([0, 1], [98]), ([0, 1, 0, 2], [97])]
def T7 : Nd := bn (grow 65 R7)
theorem or7 {r : Nd} (h : OR L7 r) : r = T7 := by
  unfold OR at h
  rw [if_pos (by decide)] at h
  obtain ⟨t', rfl, hr, hu⟩ := h
  have hs : Srt R7 := by
    unfold Srt R7
    simp [less, Op.bytesLess]
  have hp : Pts R7 := fun r hr => by
    unfold R7 at hr
    simp only [List.mem_cons, List.not_mem_nil, or_false] at hr
    rcases hr with rfl | rfl <;> (unfold Pt; decide)
  have hvo : VO R7 := fun r hr => by
    unfold R7 at hr
    simp only [List.mem_cons, List.not_mem_nil, or_false] at hr
    rcases hr with rfl | rfl <;> simp
  obtain ⟨g1, g2⟩ := grow_spec 65 R7 (fun r hr => by
    unfold R7 at hr
    simp only [List.mem_cons, List.not_mem_nil, or_false] at hr
    rcases hr with rfl | rfl <;> decide) hs hp hvo
  refine uniq hr _ g1 (fun q => ?_)
  rw [hu q, g2 q]
  have e1 : hv [1, 2] = [0, 1, 0, 2] := by decide
  have e2 : hv [1] = [0, 1] := by decide
  unfold vl L7
  simp only [List.foldl_cons, List.foldl_nil, e1, e2]
  rfl
theorem k7 : ∃ p t, T7 = .mk 2 p [] [t] ∧ p = [0, 1] := by
  refine ⟨_, _, rfl, ?_⟩
  decide
theorem rd7 : rd 0 T7 = true := by decide +kernel
theorem gt7 : gt T7 (hv [1, 2]) = [97] := by decide +kernel
theorem wn7 : wn T7 ≤ 1048576 := by decide +kernel
theorem rt7 : (rt T7).map (·.length) = some 2 := by decide +kernel
theorem gans7 : gans T7 [1, 2] = ([97], 0) := by
  unfold gans
  rw [rd7, if_pos rfl, if_pos (by decide), gt7]
theorem prs7 : (prs T7).length = 2 := by
  unfold prs
  rw [rd7, if_pos rfl, List.length_map]
  have h := rt7
  cases hr : rt T7 with
  | none => rw [hr] at h; cases h
  | some l => rw [hr] at h; injection h
theorem pz7 : pz T7 = 0 := by unfold pz; rw [rd7]; rfl
theorem Bs_lit1 (W : World) (c : UInt8) (fz : Nat × Nat) : Bs (fun _ => True) [c] (.slice (some ⟨W.heap.size, 0, none⟩) 1 1) (W.alloc (.cells #[.int .u8 (c.toNat : Int)] 5 fz)) := by
  have HA := heap_alloc_new W (.cells #[.int .u8 (c.toNat : Int)] 5 fz)
  refine ⟨_, _, rfl, Nat.le_refl _, fun _ => ⟨W.heap.size, 0, rfl, trivial, by simp, fun j hj => ?_⟩⟩
  have : j = 0 := by simpa using hj
  subst this
  simp only [World.cell?, HA]
  rfl
theorem Bs_lit2 (W : World) (c d : UInt8) (fz : Nat × Nat) : Bs (fun _ => True) [c, d] (.slice (some ⟨W.heap.size, 0, none⟩) 2 2) (W.alloc (.cells #[.int .u8 (c.toNat : Int), .int .u8 (d.toNat : Int)] 5 fz)) := by
  have HA := heap_alloc_new W (.cells #[.int .u8 (c.toNat : Int), .int .u8 (d.toNat : Int)] 5 fz)
  refine ⟨_, _, rfl, Nat.le_refl _, fun _ => ⟨W.heap.size, 0, rfl, trivial, by simp, fun j hj => ?_⟩⟩
  have : j = 0 ∨ j = 1 := by simp at hj; omega
  rcases this with rfl | rfl
  · simp only [World.cell?, HA]
    rfl
  · simp only [World.cell?, HA]
    rfl
theorem alloc_b (W : World) (o : Obj) : Below W.heap.size W (W.alloc o) := (Below.refl _ _).alloc (Nat.le_refl _) _
theorem pv7 (w : World) : Pv (fun _ => True) L7 (.slice (some ⟨w.heap.size + 1 + 1 + 1 + 1, 0, none⟩) 2 2) (((((w.alloc (.cells #[.int .u8 1, .int .u8 2] 5)).alloc (.cells #[.int .u8 97] 5 (1, 2))).alloc (.cells #[.int .u8 1] 5)).alloc (.cells #[.int .u8 98] 5 (1, 2))).alloc (.cells #[.slice (some ⟨w.heap.size, 0, none⟩) 2 2, .slice (some ⟨w.heap.size + 1, 0, none⟩) 1 1, .slice (some ⟨w.heap.size + 1 + 1, 0, none⟩) 1 1, .slice (some ⟨w.heap.size + 1 + 1 + 1, 0, none⟩) 1 1] 65)) ∧ Below w.heap.size w (((((w.alloc (.cells #[.int .u8 1, .int .u8 2] 5)).alloc (.cells #[.int .u8 97] 5 (1, 2))).alloc (.cells #[.int .u8 1] 5)).alloc (.cells #[.int .u8 98] 5 (1, 2))).alloc (.cells #[.slice (some ⟨w.heap.size, 0, none⟩) 2 2, .slice (some ⟨w.heap.size + 1, 0, none⟩) 1 1, .slice (some ⟨w.heap.size + 1 + 1, 0, none⟩) 1 1, .slice (some ⟨w.heap.size + 1 + 1 + 1, 0, none⟩) 1 1] 65)) := by
  have k0 := Bs_lit2 w 1 2 (0, 0)
  have k1 := Bs_lit1 (w.alloc (.cells #[.int .u8 1, .int .u8 2] 5)) 97 (1, 2)
  have k2 := Bs_lit1 ((w.alloc (.cells #[.int .u8 1, .int .u8 2] 5)).alloc (.cells #[.int .u8 97] 5 (1, 2))) 1 (0, 0)
  have k3 := Bs_lit1 (((w.alloc (.cells #[.int .u8 1, .int .u8 2] 5)).alloc (.cells #[.int .u8 97] 5 (1, 2))).alloc (.cells #[.int .u8 1] 5)) 98 (1, 2)
  have s1 : (w.alloc (.cells #[.int .u8 1, .int .u8 2] 5)).heap.size = w.heap.size + 1 := by simp
  have s2 : ((w.alloc (.cells #[.int .u8 1, .int .u8 2] 5)).alloc (.cells #[.int .u8 97] 5 (1, 2))).heap.size = w.heap.size + 1 + 1 := by simp
  have s3 : (((w.alloc (.cells #[.int .u8 1, .int .u8 2] 5)).alloc (.cells #[.int .u8 97] 5 (1, 2))).alloc (.cells #[.int .u8 1] 5)).heap.size = w.heap.size + 1 + 1 + 1 := by simp
  have s4 : ((((w.alloc (.cells #[.int .u8 1, .int .u8 2] 5)).alloc (.cells #[.int .u8 97] 5 (1, 2))).alloc (.cells #[.int .u8 1] 5)).alloc (.cells #[.int .u8 98] 5 (1, 2))).heap.size = w.heap.size + 1 + 1 + 1 + 1 := by simp
  rw [s1] at k1
  rw [s2] at k2
  rw [s3] at k3
  have b1 := alloc_b w (.cells #[.int .u8 1, .int .u8 2] 5)
  have b2 := alloc_b (w.alloc (.cells #[.int .u8 1, .int .u8 2] 5)) (.cells #[.int .u8 97] 5 (1, 2))
  have b3 := alloc_b ((w.alloc (.cells #[.int .u8 1, .int .u8 2] 5)).alloc (.cells #[.int .u8 97] 5 (1, 2))) (.cells #[.int .u8 1] 5)
  have b4 := alloc_b (((w.alloc (.cells #[.int .u8 1, .int .u8 2] 5)).alloc (.cells #[.int .u8 97] 5 (1, 2))).alloc (.cells #[.int .u8 1] 5)) (.cells #[.int .u8 98] 5 (1, 2))
  have b5 := alloc_b ((((w.alloc (.cells #[.int .u8 1, .int .u8 2] 5)).alloc (.cells #[.int .u8 97] 5 (1, 2))).alloc (.cells #[.int .u8 1] 5)).alloc (.cells #[.int .u8 98] 5 (1, 2))) (.cells #[.slice (some ⟨w.heap.size, 0, none⟩) 2 2, .slice (some ⟨w.heap.size + 1, 0, none⟩) 1 1, .slice (some ⟨w.heap.size + 1 + 1, 0, none⟩) 1 1, .slice (some ⟨w.heap.size + 1 + 1 + 1, 0, none⟩) 1 1] 65)
  have HA := heap_alloc_new ((((w.alloc (.cells #[.int .u8 1, .int .u8 2] 5)).alloc (.cells #[.int .u8 97] 5 (1, 2))).alloc (.cells #[.int .u8 1] 5)).alloc (.cells #[.int .u8 98] 5 (1, 2))) (.cells #[.slice (some ⟨w.heap.size, 0, none⟩) 2 2, .slice (some ⟨w.heap.size + 1, 0, none⟩) 1 1, .slice (some ⟨w.heap.size + 1 + 1, 0, none⟩) 1 1, .slice (some ⟨w.heap.size + 1 + 1 + 1, 0, none⟩) 1 1] 65)
  rw [s4] at HA
  refine ⟨⟨[(.slice (some ⟨w.heap.size, 0, none⟩) 2 2, .slice (some ⟨w.heap.size + 1, 0, none⟩) 1 1), (.slice (some ⟨w.heap.size + 1 + 1, 0, none⟩) 1 1, .slice (some ⟨w.heap.size + 1 + 1 + 1, 0, none⟩) 1 1)], rfl, ⟨_, _, rfl, Nat.le_refl _, fun _ => ⟨w.heap.size + 1 + 1 + 1 + 1, 0, rfl, trivial, by simp, fun j hj => ?_⟩⟩, fun j hj => ?_⟩, ?_⟩
  · have : j = 0 ∨ j = 1 := by simp at hj; omega
    rcases this with rfl | rfl
    · simp only [World.cell?, HA]
      exact ⟨rfl, rfl⟩
    · simp only [World.cell?, HA]
      exact ⟨rfl, rfl⟩
  · have : j = 0 ∨ j = 1 := by simp [L7] at hj; omega
    rcases this with rfl | rfl
    · exact ⟨Bs_below (Bs_below (Bs_below (Bs_below k0 b2) b3) b4) b5, Bs_below (Bs_below (Bs_below k1 b3) b4) b5⟩
    · exact ⟨Bs_below (Bs_below k2 b4) b5, Bs_below k3 b5⟩
  · have e1 := b1.trans (b2.mono b1.size)
    have e2 := e1.trans (b3.mono e1.size)
    have e3 := e2.trans (b4.mono e2.size)
    exact e3.trans (b5.mono e3.size)
set_option maxHeartbeats 4000000 in
set_option maxRecDepth 100000 in
theorem alive7_any (w : World) : Calls Try.prog 21 #[] w fun e w' => e = .returned (.bool true) ∧ Below w.heap.size w w' := by
  have c1 : (convert 22 22 (.slice (some ⟨w.heap.size + 1, 0, none⟩) 1 1)).run Try.prog ((w.alloc (.cells #[.int .u8 1, .int .u8 2] 5)).alloc (.cells #[.int .u8 97] 5)) = .ok (.slice (some ⟨w.heap.size + 1, 0, none⟩) 1 1) ((w.alloc (.cells #[.int .u8 1, .int .u8 2] 5)).alloc (.cells #[.int .u8 97] 5 (1, 2))) := by
    have := Lib.run_convert_bytes_const (P := Try.prog) (w.alloc (.cells #[.int .u8 1, .int .u8 2] 5)) 22 5 #[.int .u8 97] 1 1 Try.underlying22 Try.underlying5
    rwa [show (w.alloc (.cells #[.int .u8 1, .int .u8 2] 5)).heap.size = w.heap.size + 1 by simp] at this
  have c2 : (convert 22 22 (.slice (some ⟨w.heap.size + 1 + 1 + 1, 0, none⟩) 1 1)).run Try.prog ((((w.alloc (.cells #[.int .u8 1, .int .u8 2] 5)).alloc (.cells #[.int .u8 97] 5 (1, 2))).alloc (.cells #[.int .u8 1] 5)).alloc (.cells #[.int .u8 98] 5)) = .ok (.slice (some ⟨w.heap.size + 1 + 1 + 1, 0, none⟩) 1 1) ((((w.alloc (.cells #[.int .u8 1, .int .u8 2] 5)).alloc (.cells #[.int .u8 97] 5 (1, 2))).alloc (.cells #[.int .u8 1] 5)).alloc (.cells #[.int .u8 98] 5 (1, 2))) := by
    have := Lib.run_convert_bytes_const (P := Try.prog) (((w.alloc (.cells #[.int .u8 1, .int .u8 2] 5)).alloc (.cells #[.int .u8 97] 5 (1, 2))).alloc (.cells #[.int .u8 1] 5)) 22 5 #[.int .u8 98] 1 1 Try.underlying22 Try.underlying5
    rwa [show (((w.alloc (.cells #[.int .u8 1, .int .u8 2] 5)).alloc (.cells #[.int .u8 97] 5 (1, 2))).alloc (.cells #[.int .u8 1] 5)).heap.size = w.heap.size + 1 + 1 + 1 by simp] at this
  obtain ⟨hpv, hb5⟩ := pv7 w
  have KO : Hid (Calls Try.prog 19 #[.slice (some ⟨w.heap.size + 1 + 1 + 1 + 1, 0, none⟩) 2 2] (((((w.alloc (.cells #[.int .u8 1, .int .u8 2] 5)).alloc (.cells #[.int .u8 97] 5 (1, 2))).alloc (.cells #[.int .u8 1] 5)).alloc (.cells #[.int .u8 98] 5 (1, 2))).alloc (.cells #[.slice (some ⟨w.heap.size, 0, none⟩) 2 2, .slice (some ⟨w.heap.size + 1, 0, none⟩) 1 1, .slice (some ⟨w.heap.size + 1 + 1, 0, none⟩) 1 1, .slice (some ⟨w.heap.size + 1 + 1 + 1, 0, none⟩) 1 1] 65)) fun e w' => ∃ u : V4, e = .returned (.tuple #[v4 u, .int .i64 0]) ∧ Nv (fun _ => True) w' T7 u ∧ Below w.heap.size w w') := by
    refine (of_any L7 _ 2 2 _ (Pv_mono hpv (fun _ _ h => h)) rfl (by show _ ≤ _; omega)).mono fun e w' he => ?_
    obtain ⟨r, u, h1, h2, h3, h4⟩ := he
    obtain rfl := or7 h3
    exact ⟨u, h1, Nv_mono h2 (fun _ _ _ => trivial), hb5.trans (h4.mono hb5.size)⟩
  clear hpv hb5
  go_enter Try.func21, Try.ntmps21
  go_wp2_with fail
  refine KO.out.mono ?_
  rintro e w1 ⟨u, rfl, hn1, hb1⟩
  obtain ⟨uk, ua1, un1, uc1, ua2, un2, uc2, ua3, un3, uc3, rfl⟩ := Nv_form hn1
  clear KO c1 c2
  have N1 := NB_new (Nv_mono (S' := (· < w1.heap.size)) hn1 (fun _ _ h => h)) (Nat.le_refl _)
  have R1 : Hid (NB w1.heap.size (.int .i64 uk, .slice ua1 un1 uc1, .slice ua2 un2 uc2, .slice ua3 un3 uc3) T7 w1.heap.size w1 (w1.alloc (.cells #[.int .i64 uk, .slice ua1 un1 uc1, .slice ua2 un2 uc2, .slice ua3 un3 uc3] 25))) := N1
  have HB1 : Hid (Below w.heap.size w w1) := hb1
  have hkk : uk = 2 := by
    obtain ⟨p, t, hT, _⟩ := k7
    rw [hT] at hn1
    cases hn1
    rfl
  subst hkk
  clear N1 hn1 hb1
  have q0 := R1.out.bx.2.1
  have q1 := R1.out.bx.2.2.1
  have q2 := R1.out.bx.2.2.2.1
  have q3 := R1.out.bx.2.2.2.2
  dsimp only at q0 q1 q2 q3
  simp only [v4]
  have sB : (w1.alloc (.cells #[.int .i64 2, .slice ua1 un1 uc1, .slice ua2 un2 uc2, .slice ua3 un3 uc3] 25)).heap.size = w1.heap.size + 1 := by simp
  have kb := Bs_lit2 (w1.alloc (.cells #[.int .i64 2, .slice ua1 un1 uc1, .slice ua2 un2 uc2, .slice ua3 un3 uc3] 25)) 1 2 (0, 0)
  rw [sB] at kb
  have bG := alloc_b (w1.alloc (.cells #[.int .i64 2, .slice ua1 un1 uc1, .slice ua2 un2 uc2, .slice ua3 un3 uc3] 25)) (.cells #[.int .u8 1, .int .u8 2] 5)
  have RG : NB w1.heap.size (.int .i64 2, .slice ua1 un1 uc1, .slice ua2 un2 uc2, .slice ua3 un3 uc3) T7 w1.heap.size w1 ((w1.alloc (.cells #[.int .i64 2, .slice ua1 un1 uc1, .slice ua2 un2 uc2, .slice ua3 un3 uc3] 25)).alloc (.cells #[.int .u8 1, .int .u8 2] 5)) := NB_below R1.out bG
  have KG : Hid (Calls Try.prog 11 #[.agg #[.int .i64 2, .slice ua1 un1 uc1, .slice ua2 un2 uc2, .slice ua3 un3 uc3], .slice (some ⟨w1.heap.size + 1, 0, none⟩) 2 2] ((w1.alloc (.cells #[.int .i64 2, .slice ua1 un1 uc1, .slice ua2 un2 uc2, .slice ua3 un3 uc3] 25)).alloc (.cells #[.int .u8 1, .int .u8 2] 5)) fun e w' => ∃ a c, e = .returned (.tuple #[.slice a 1 c, .int .i64 0]) ∧ Pk.Sl [97] (.slice a 1 c) w' ∧ NB w1.heap.size (.int .i64 2, .slice ua1 un1 uc1, .slice ua2 un2 uc2, .slice ua3 un3 uc3) T7 w1.heap.size w1 w') := by
    refine (get_any T7 ((w1.alloc (.cells #[.int .i64 2, .slice ua1 un1 uc1, .slice ua2 un2 uc2, .slice ua3 un3 uc3] 25)).alloc (.cells #[.int .u8 1, .int .u8 2] 5)).heap.size (.int .i64 2, .slice ua1 un1 uc1, .slice ua2 un2 uc2, .slice ua3 un3 uc3) ((w1.alloc (.cells #[.int .i64 2, .slice ua1 un1 uc1, .slice ua2 un2 uc2, .slice ua3 un3 uc3] 25)).alloc (.cells #[.int .u8 1, .int .u8 2] 5)) (Nv_mono RG.n (fun _ _ h => h)) (Nat.le_refl _) (by have := wn7; omega) [1, 2] _ (Bs_mono kb (fun _ _ h => h))).mono fun e w' he => ?_
    rw [gans7] at he
    obtain ⟨⟨a, c, h1, h2⟩, h3⟩ := he
    exact ⟨a, c, h1, Bs_sl h2, NB_below RG h3⟩
  clear sB kb bG RG
  go_wp2_with fail
  refine KG.out.mono ?_
  rintro e w2 ⟨ga, gc, rfl, hs2, hnb2⟩
  have R2 : Hid (NB w1.heap.size (.int .i64 2, .slice ua1 un1 uc1, .slice ua2 un2 uc2, .slice ua3 un3 uc3) T7 w1.heap.size w1 w2) := hnb2
  have S2 : Hid (Pk.Sl [97] (.slice ga 1 gc) w2) := hs2
  clear hs2 hnb2 R1 KG q0 q1 q2 q3
  have q0 := R2.out.bx.2.1
  have q1 := R2.out.bx.2.2.1
  have q2 := R2.out.bx.2.2.2.1
  have q3 := R2.out.bx.2.2.2.2
  dsimp only at q0 q1 q2 q3
  have KP : Hid (Calls Try.prog 16 #[.agg #[.int .i64 2, .slice ua1 un1 uc1, .slice ua2 un2 uc2, .slice ua3 un3 uc3]] w2 fun e w' => ∃ a c, e = .returned (.tuple #[.slice a 2 c, .int .i64 0]) ∧ Below w2.heap.size w2 w') := by
    refine (tpairs_any T7 _ (.int .i64 2, .slice ua1 un1 uc1, .slice ua2 un2 uc2, .slice ua3 un3 uc3) w2 R2.out.n wn7).mono fun e w' he => ?_
    rw [pz7] at he
    obtain ⟨v, h1, h2, h3⟩ := he
    obtain ⟨ao, cap, rfl, _⟩ := Pv_form h2
    rw [prs7] at h1
    exact ⟨ao, cap, h1, h3⟩
  go_wp2_with fail
  refine KP.out.mono ?_
  rintro e w3 ⟨pa, pc, rfl, hb3⟩
  have R3 : Hid (NB w1.heap.size (.int .i64 2, .slice ua1 un1 uc1, .slice ua2 un2 uc2, .slice ua3 un3 uc3) T7 w1.heap.size w1 w3) := NB_below R2.out hb3
  have S3 : (convert 22 9 (.slice ga 1 gc)).run Try.prog w3 = .ok (.string ⟨#[97]⟩) w3 := Sl_st (Pk.Sl_below S2.out hb3)
  clear hb3 R2 S2 KP q0 q1 q2 q3
  have q0 := R3.out.bx.2.1
  have q1 := R3.out.bx.2.2.1
  have q2 := R3.out.bx.2.2.2.1
  have q3 := R3.out.bx.2.2.2.2
  dsimp only at q0 q1 q2 q3
  have KT : Hid (Calls Try.prog 9 #[.agg #[.int .i64 2, .slice ua1 un1 uc1, .slice ua2 un2 uc2, .slice ua3 un3 uc3]] w3 fun e w' => e = .returned (.bool true) ∧ NB w1.heap.size (.int .i64 2, .slice ua1 un1 uc1, .slice ua2 un2 uc2, .slice ua3 un3 uc3) T7 w1.heap.size w1 w') := by
    refine (right_any T7 w1.heap.size (.int .i64 2, .slice ua1 un1 uc1, .slice ua2 un2 uc2, .slice ua3 un3 uc3) w3 R3.out.n R3.out.l (by have := wn7; omega)).mono fun e w' he => ?_
    rw [rd7] at he
    exact ⟨he.1, NB_below R3.out he.2⟩
  clear R3
  go_wp2_with fail
  refine KT.out.mono ?_
  rintro e w4 ⟨rfl, hnb4⟩
  have R4 : Hid (NB w1.heap.size (.int .i64 2, .slice ua1 un1 uc1, .slice ua2 un2 uc2, .slice ua3 un3 uc3) T7 w1.heap.size w1 w4) := hnb4
  clear hnb4 KT q0 q1 q2 q3 S3
  have q0 := R4.out.bx.2.1
  dsimp only at q0
  go_wp2_with fail
  go_ret
  exact ⟨rfl, HB1.out.trans (R4.out.b.mono HB1.out.size)⟩
end Tr
end Go.Proofs.Ythlgneadcagleaa
namespace Go.Proofs.Ythlgneadcagleaa
namespace Tr
open Nb Go.RowKit
inductive Lp : Nd → Prop where
  | mk (k : Int) (p v : By) (ks : List Nd) (hp : p.length ≤ 4194304) (h : ∀ j, j < ks.length → Lp (ks.getD j Nd.no)) : Lp (.mk k p v ks)
theorem lp_path {k : Int} {p v : By} {ks : List Nd} (h : Lp (.mk k p v ks)) : p.length ≤ 4194304 := by
  cases h with
  | mk _ _ _ _ hp _ => exact hp
theorem lp_kid {k : Int} {p v : By} {ks : List Nd} {j : Nat} (h : Lp (.mk k p v ks)) (hj : j < ks.length) : Lp (ks.getD j Nd.no) := by
  cases h with
  | mk _ _ _ _ _ hk => exact hk j hj
theorem lp_wn {t : Nd} (h : wn t ≤ 4194304) : Lp t := by
  have ht := wf_any t
  induction ht with
  | mk k p v ks _ ih => exact .mk k p v ks (by unfold wn at h; omega) (fun j hj => ih j hj (wn_kid h hj))
theorem lp_bn {t : Nd} (h : Rs t) : ∀ N, N ≤ 4194304 → Ln N t → Lp (bn t) := by
  induction h with
  | none p v ks => intro N _ _; simp only [bn]; exact .mk _ _ _ _ (by simp) (fun j hj => absurd hj (by simp))
  | leaf p v ks hp hv =>
    intro N hN hl
    have h1 := hl p (by rw [gt_leaf, if_pos rfl]; exact hv)
    simp only [bn]
    exact .mk _ _ _ _ (by omega) (fun j hj => absurd hj (by simp))
  | road p v t hp h0 hk h ih =>
    intro N hN hl
    have e : bn (.mk 2 p v [t]) = .mk 2 p [] [bn t] := by simp [bn, bns]
    have h1 : p.length ≤ N := pl_le (.road p v t hp h0 hk h) hl (by show (2 : Int) ≠ 3; decide) (by show (2 : Int) ≠ 0; decide)
    rw [e]
    refine .mk _ _ _ _ (by omega) (fun j hj => ?_)
    have : j = 0 := by simpa using hj
    subst this
    exact ih N hN (fun q hq => by
      have := hl (p ++ q) (by rw [gt_road_at]; exact hq)
      rw [List.length_append] at this
      omega)
  | fork p v ks hl16 h h2 ih =>
    intro N hN hl
    have e : bn (.mk 3 p v ks) = .mk 3 [] v (bns ks) := by simp [bn]
    rw [e]
    refine .mk _ _ _ _ (by simp) (fun j hj => ?_)
    rw [bns_len] at hj
    rw [bns_getD]
    exact ih j (by omega) N hN (ln_kid hl (by omega))
theorem read_lp (lo : Nat) {t : Nd} (ht : Wf t) :
    (∀ (h : Nat) (u : V4) (w : World), h ≤ 65 → Nv (· < lo) w t u → lo ≤ w.heap.size → Lp t → Calls Try.prog 22 #[v4 u, .int .i64 (h : Int)] w (RP lo h t w)) ∧
    (t.kind = 3 → ∀ (h : Nat) (u : V4) (w : World), Nv (· < lo) w t u → lo ≤ w.heap.size → Lp t → Calls Try.prog 42 #[v4 u, .int .i64 (h : Int)] w (FP lo h t w)) := by
  induction ht with
  | mk k p v ks _ ih =>
    have HF : k = 3 → ∀ (h : Nat) (u : V4) (w : World), Nv (· < lo) w (.mk k p v ks) u → lo ≤ w.heap.size → Lp (.mk k p v ks) → Calls Try.prog 42 #[v4 u, .int .i64 (h : Int)] w (FP lo h (.mk k p v ks) w) := by
      intro hk h u w hu hlo hw
      subst hk
      exact rfork_all lo h p v ks u w hu hlo (fun j hj h64 x wx hx hl => (ih j hj).1 (h + 1) x wx (by omega) hx hl (lp_kid hw hj))
    refine ⟨fun h u w h65 hu hlo hw => ?_, HF⟩
    have hu' := hu
    cases hu with
    | mk _ _ _ _ pv vv kv vs hp hv hl hk hi =>
      have hp' := hp
      have hv' := hv
      have sp := Bs_sl hp
      obtain ⟨a1, c1, rfl, -, -⟩ := hp
      obtain ⟨a2, c2, rfl, -, -⟩ := hv
      obtain ⟨a3, c3, rfl, -, hq⟩ := hk
      have hz : p.length ≤ 4194304 := lp_path hw
      obtain ⟨ax, cx, ex, -, vw⟩ := sp
      injection ex with e1 e2 e3
      subst e1
      by_cases k0 : k = 0
      · subst k0
        refine (read_none a1 a2 a3 _ c1 _ c2 _ c3 h w).mono fun e w' he => ⟨_, by rw [rd_zero]; exact he.1, fun _ => .none p v ks _, he.2⟩
      by_cases k1 : k = 1
      · subst k1
        cases hpt : ptb p with
        | true =>
          refine (read_leaf_ok a1 a2 a3 _ c1 _ c2 _ c3 h w p v rfl hz rfl (by omega) vw hpt).mono fun e w' he => ⟨_, by rw [rd_one, hpt, Bool.true_and]; exact he.1, fun _ => ?_, he.2⟩
          exact .leaf p v ks _ _ _ (Bs_lo (Bs_below hp' he.2)) (Bs_lo (Bs_below hv' he.2))
        | false => exact rp_bad (by rw [rd_one, hpt]; rfl) ((read_leaf_no a1 a2 a3 _ c1 _ c2 _ c3 h w p v rfl hz rfl (by omega) vw hpt).mono fun e w' he => ⟨⟨_, he.1⟩, he.2⟩)
      by_cases k2 : k = 2
      · subst k2
        show Calls Try.prog _ #[.agg #[.int .i64 2, _, _, _], _] w _
        refine read_road a1 a2 a3 _ c1 _ c2 _ c3 h w (rd h (.mk 2 p v ks)) (fun x w' => rd h (.mk 2 p v ks) = true → In lo w' (.mk 2 p v ks) x (fun y => w.heap.size ≤ y)) ?_
        intro wx hbx
        have vwx := Sp.Vw_below vw hbx
        have key : Calls Try.prog 41 #[.agg #[.int .i64 2, .slice a1 p.length c1, .slice a2 v.length c2, .slice a3 vs.length c3], .int .i64 (h : Int)] wx (RP lo h (.mk 2 p v ks) wx) := by
          by_cases p0 : p = []
          · subst p0
            exact rp_bad (by rw [rd_two]; simp) (rroad_empty a1 a2 a3 c1 _ c2 _ c3 h wx)
          have hp0 : 0 < p.length := List.length_pos_iff.2 p0
          cases hpt : ptb p with
          | false => exact rp_bad (by rw [rd_two, hpt]; simp) (rroad_path a1 a2 a3 _ c1 _ c2 _ c3 h wx p rfl hz hp0 vwx hpt)
          | true =>
            by_cases hk1 : ks.length = 1
            case neg => exact rp_bad (by rw [rd_two, decide_eq_false hk1]; simp) (rroad_kids a1 a2 a3 _ c1 _ c2 _ c3 h wx p rfl hz hp0 vwx hpt (by omega))
            obtain ⟨t, rfl⟩ := List.length_eq_one_iff.1 hk1
            have el : vs.length = 1 := hl
            obtain ⟨gk, off, rfl, hgl, hgk, hc⟩ := hq (by omega)
            obtain ⟨y0, y1, y2, y3⟩ := hc 0 (by omega)
            have hn := hi 0 (by simp)
            rw [List.getD_cons_zero] at hn
            obtain ⟨kk, b1, m1, d1, b2, m2, d2, b3, m3, d3, eF⟩ := Nv_form hn
            rw [eF] at y0 y1 y2 y3
            simp only [Nat.mul_zero, Nat.add_zero] at y0 y1 y2 y3
            have z0 := (hbx.cell (p := ⟨gk, off, none⟩) hgk).trans y0
            have z1 := (hbx.cell (p := ⟨gk, off + 1, none⟩) hgk).trans y1
            have z2 := (hbx.cell (p := ⟨gk, off + 2, none⟩) hgk).trans y2
            have z3 := (hbx.cell (p := ⟨gk, off + 3, none⟩) hgk).trans y3
            have hgx : gk < wx.heap.size := Nat.lt_of_lt_of_le hgk hbx.size
            have ekk : t.kind = kk := by
              rw [eF] at hn
              cases hn
              rfl
            rw [el]
            by_cases hkk : kk = 3
            case neg => exact rp_bad (by rw [rd_two, rd1, decide_eq_false (show ¬ t.kind = 3 by rw [ekk]; exact hkk)]; simp) (rroad_kind a1 a2 _ c1 _ c2 c3 h gk off wx p rfl hz hp0 vwx hpt kk hgx z0 hkk)
            subst hkk
            have er : rd h (.mk 2 p v [t]) = rd (h + p.length) t := by
              rw [rd_two, rd1, hpt, decide_eq_true (show p ≠ [] from p0), decide_eq_true ekk]
              simp
            have GBt : ∀ (x : Option Addr) (w1 w2 : World), (rd (h + p.length) t = true → ∃ g, x = some ⟨g, 0, none⟩ ∧ In lo w1 t (.iface 73 (.pointer (some ⟨g, 0, none⟩))) (fun y => wx.heap.size ≤ y)) → Below w1.heap.size w1 w2 → rd (h + p.length) t = true → ∃ g, x = some ⟨g, 0, none⟩ ∧ In lo w2 t (.iface 73 (.pointer (some ⟨g, 0, none⟩))) (fun y => wx.heap.size ≤ y) := fun x w1 w2 hx hb hr => by
              obtain ⟨g, h1, h2⟩ := hx hr
              exact ⟨g, h1, In_below h2 hb⟩
            have KF := (ih 0 (by simp)).2
            rw [List.getD_cons_zero] at KF
            refine (rroad_fork a1 a2 _ c1 _ c2 c3 h gk off wx p rfl hz hp0 vwx hpt (by omega) b1 b2 b3 m1 d1 m2 d2 m3 d3 hgx z0 z1 z2 z3 (rd (h + p.length) t) _ GBt ?_).mono fun e w' he => ?_
            · intro wy hby
              have hn2 : Nv (· < lo) wy t (.int .i64 3, .slice b1 m1 d1, .slice b2 m2 d2, .slice b3 m3 d3) := by
                rw [eF] at hn
                exact Nv_below (Nv_below hn hbx) hby
              refine (KF ekk (h + p.length) _ wy hn2 (Nat.le_trans hlo (Nat.le_trans hbx.size hby.size)) (by have := lp_kid (j := 0) hw (by simp); rwa [List.getD_cons_zero] at this)).mono fun e w' he => ?_
              obtain ⟨x, h1, h2, h3⟩ := he
              refine ⟨x, h1, fun hr => ?_, h3⟩
              obtain ⟨g, h4, h5⟩ := h2 hr
              exact ⟨g, h4, In_mono h5 (fun y hy => Nat.le_trans hby.size hy)⟩
            · obtain ⟨x, h1, h2, h3⟩ := he
              refine ⟨_, by rw [er]; exact h1, fun hr => ?_, h3⟩
              rw [er] at hr
              obtain ⟨g, rfl, h5⟩ := h2 hr
              exact .road p v t _ g _ (Bs_lo (Bs_below (Bs_below hp' hbx) h3)) h5
        refine key.mono fun e w' he => ?_
        obtain ⟨x, h1, h2, h3⟩ := he
        exact ⟨x, h1, fun hr => In_mono (h2 hr) (fun y hy => Nat.le_trans hbx.size hy), h3⟩
      by_cases k3 : k = 3
      · subst k3
        show Calls Try.prog _ #[.agg #[.int .i64 3, _, _, _], _] w _
        refine (read_fork a1 a2 a3 _ c1 _ c2 _ c3 h w (rd h (.mk 3 p v ks)) (fun x w' => rd h (.mk 3 p v ks) = true → ∃ g, x = some ⟨g, 0, none⟩ ∧ In lo w' (.mk 3 p v ks) (.iface 73 (.pointer (some ⟨g, 0, none⟩))) (fun y => w.heap.size ≤ y)) ?_).mono fun e w' he => ?_
        · intro wx hbx
          refine (HF rfl h _ wx (Nv_below hu' hbx) (Nat.le_trans hlo hbx.size) hw).mono fun e w' he => ?_
          obtain ⟨x, h1, h2, h3⟩ := he
          refine ⟨x, h1, fun hr => ?_, h3⟩
          obtain ⟨g, h4, h5⟩ := h2 hr
          exact ⟨g, h4, In_mono h5 (fun y hy => Nat.le_trans hbx.size hy)⟩
        · obtain ⟨x, h1, h2, h3⟩ := he
          refine ⟨_, h1, fun hr => ?_, h3⟩
          obtain ⟨g, rfl, h5⟩ := h2 hr
          exact h5
      · exact rp_bad (rd_else h k p v ks k0 k1 k2 k3) ((read_other k a1 a2 a3 _ c1 _ c2 _ c3 h w k0 k1 k2 k3).mono fun e w' he => ⟨⟨_, he.1⟩, he.2⟩)
set_option maxHeartbeats 1000000 in
set_option maxRecDepth 100000 in
theorem right_lp (t : Nd) (lo : Nat) (x : V4) (w : World) (hx : Nv (· < lo) w t x) (hlo : lo ≤ w.heap.size) (hw : Lp t) :
    Calls Try.prog 9 #[v4 x] w fun e w' => e = .returned (.bool (rd 0 t)) ∧ Below w.heap.size w w' := by
  obtain ⟨k, a1, n1, c1, a2, m2, c2, a3, n3, c3, rfl⟩ := Nv_form hx
  have N0 := NB_new hx hlo
  obtain ⟨_, q0, q1, q2, q3⟩ := N0.bx
  dsimp only at q0 q1 q2 q3
  have KR : Hid (∀ wx : World, NB w.heap.size (.int .i64 k, .slice a1 n1 c1, .slice a2 m2 c2, .slice a3 n3 c3) t lo w wx → Calls Try.prog 22 #[.agg #[.int .i64 k, .slice a1 n1 c1, .slice a2 m2 c2, .slice a3 n3 c3], .int .i64 0] wx fun e w' => ∃ y, e = .returned (.tuple #[y, .bool (rd 0 t)]) ∧ Below wx.heap.size wx w') := fun wx hn => by
    refine ((read_lp lo (wf_any t)).1 0 (.int .i64 k, .slice a1 n1 c1, .slice a2 m2 c2, .slice a3 n3 c3) wx (by omega) hn.n hn.l hw).mono fun e w' he => ?_
    obtain ⟨y, h1, _, h3⟩ := he
    exact ⟨y, h1, h3⟩
  have HN : Hid (NB w.heap.size (.int .i64 k, .slice a1 n1 c1, .slice a2 m2 c2, .slice a3 n3 c3) t lo w (w.alloc (.cells #[.int .i64 k, .slice a1 n1 c1, .slice a2 m2 c2, .slice a3 n3 c3] 25))) := N0
  clear N0 hx hlo hw
  show Calls Try.prog _ #[.agg #[.int .i64 k, .slice a1 n1 c1, .slice a2 m2 c2, .slice a3 n3 c3]] w _
  generalize rd 0 t = r at *
  go_enter Try.func9, Try.ntmps9
  go_wp2_with fail
  refine (KR.out _ HN.out).mono ?_
  rintro e w1 ⟨y, rfl, hb1⟩
  have HZ : Hid (Below w.heap.size w w1) := HN.out.b.trans (hb1.mono HN.out.b.size)
  clear hb1
  go_wp2_with fail
  go_ret
  exact ⟨rfl, HZ.out⟩
theorem get_lp (t : Nd) (lo : Nat) (x : V4) (w : World) (hx : Nv (· < lo) w t x) (hlo : lo ≤ w.heap.size) (hw : Lp t) (b : By) (kv : Value) (hb : Bs (· < lo) b kv w) :
    Calls Try.prog 11 #[v4 x, kv] w fun e w' => (∃ a c, e = .returned (.tuple #[.slice a (gans t b).1.length c, .int .i64 (gans t b).2]) ∧ Bs (Sb lo w') (gans t b).1 (.slice a (gans t b).1.length c) w') ∧ Below w.heap.size w w' := by
  obtain ⟨k, a1, n1, c1, a2, m2, c2, a3, n3, c3, rfl⟩ := Nv_form hx
  obtain ⟨ak, ck, rfl, hck⟩ := Bs_form hb
  have KR : ∀ wx : World, Below w.heap.size w wx → Calls Try.prog 22 #[.agg #[.int .i64 k, .slice a1 n1 c1, .slice a2 m2 c2, .slice a3 n3 c3], .int .i64 0] wx (RP lo 0 t wx) := fun wx h => (read_lp lo (wf_any t)).1 0 (.int .i64 k, .slice a1 n1 c1, .slice a2 m2 c2, .slice a3 n3 c3) wx (by omega) (Nv_below hx h) (Nat.le_trans hlo h.size) hw
  cases hr : rd 0 t with
  | false =>
    rw [gans_form hr]
    refine (get_form k a1 a2 a3 ak n1 c1 m2 c2 n3 c3 b.length ck w (fun wx h => (KR wx h).mono fun e w' he => ?_)).mono fun e w' he => ?_
    · obtain ⟨y, h1, _, h3⟩ := he
      rw [hr] at h1
      exact ⟨y, h1, h3⟩
    · exact ⟨⟨none, 0, he.1, Bs_nil _ _⟩, he.2⟩
  | true =>
    by_cases hk : b.length ≤ 32
    · rw [gans_val hr hk]
      have hR := (rd_right t).1 hr
      refine get_value k a1 a2 a3 ak n1 c1 m2 c2 n3 c3 b.length ck w lo (gt t (hv b)) (hv b) t (fun y => w.heap.size ≤ y) (fun wx h => (KR wx h).mono fun e w' he => ?_) hk (fun wx h => ?_) (fun ty yy kv wx hin hkv => ?_) (fun v wx hv => ?_)
      · obtain ⟨y, h1, h2, h3⟩ := he
        rw [hr] at h1
        exact ⟨y, h1, In_mono (h2 hr) (fun z hz => Nat.le_trans h.size hz), h3⟩
      · exact halves_bs (Bs_below hb h) (by omega)
      · exact get_all lo _ t _ _ _ _ wx (Nat.le_refl _) hin hR.1 hkv (pt_hv b)
      · refine (clone_bs hv (by have := gt_len hR (Nb.hv b); omega)).mono fun e w' he => ?_
        obtain ⟨v, h1, h2, h3⟩ := he
        obtain ⟨a, c, rfl, _⟩ := Bs_form h2
        exact ⟨a, c, h1, Bs_mono h2 (fun k hk _ => .inr hk.2), h3⟩
    · rw [gans_key hr hk]
      refine (get_key k a1 a2 a3 ak n1 c1 m2 c2 n3 c3 b.length ck w (fun wx h => (KR wx h).mono fun e w' he => ?_) hk).mono fun e w' he => ?_
      · obtain ⟨y, h1, _, h3⟩ := he
        rw [hr] at h1
        exact ⟨y, h1, h3⟩
      · exact ⟨⟨none, 0, he.1, Bs_nil _ _⟩, he.2⟩
theorem tput_lp (t : Nd) (S T T' : Nat → Prop) (x : V4) (w : World) (hx : Nv S w t x) (hw : Lp t) (b : By) (kv : Value) (hb : Bs T b kv w) (y : By) (yv : Value) (hy : Bs T' y yv w) :
    Calls Try.prog 13 #[v4 x, kv, yv] w fun e w' => ∃ (r : Nd) (u : V4), e = .returned (.tuple #[v4 u, .int .i64 (pe t b y)]) ∧ Nv (w.heap.size ≤ ·) w' r u ∧ PR t b y r ∧ Below w.heap.size w w' := by
  have hx := Nv_mono (S' := (· < w.heap.size)) hx (fun k _ h => h)
  have hb := Bs_mono (S' := (· < w.heap.size)) hb (fun k _ h => h)
  have hy := Bs_mono (S' := (· < w.heap.size)) hy (fun k _ h => h)
  obtain ⟨k, a1, n1, c1, a2, m2, c2, a3, n3, c3, rfl⟩ := Nv_form hx
  obtain ⟨ak, ck, rfl, _⟩ := Bs_form hb
  obtain ⟨av, cv, rfl, _⟩ := Bs_form hy
  have KR : ∀ wx : World, Below w.heap.size w wx → Calls Try.prog 22 #[.agg #[.int .i64 k, .slice a1 n1 c1, .slice a2 m2 c2, .slice a3 n3 c3], .int .i64 0] wx (RP w.heap.size 0 t wx) := fun wx h => (read_lp w.heap.size (wf_any t)).1 0 (.int .i64 k, .slice a1 n1 c1, .slice a2 m2 c2, .slice a3 n3 c3) wx (by omega) (Nv_below hx h) h.size hw
  cases hr : rd 0 t with
  | false =>
    have hp : pe t b y = 1 := by unfold pe; rw [hr]; rfl
    have hPR : PR t b y Nd.no := by unfold PR; rw [hp, if_neg (by decide)]
    rw [hp]
    refine (put_form k a1 a2 a3 ak av n1 c1 m2 c2 n3 c3 b.length ck y.length cv w (fun wx h => (KR wx h).mono fun e w' he => ?_)).mono fun e w' he => ?_
    · obtain ⟨z, h1, _, h3⟩ := he
      rw [hr] at h1
      exact ⟨z, h1, h3⟩
    · exact ⟨Nd.no, (.int .i64 0, .slice none 0 0, .slice none 0 0, .slice none 0 0), he.1, Nv_no _ _, hPR, he.2⟩
  | true =>
    have hp : pe t b y = mp b.length y.length := by unfold pe; rw [hr]; rfl
    by_cases hm : mp b.length y.length = 0
    · have hp0 : pe t b y = 0 := hp.trans hm
      have hR := (rd_right t).1 hr
      obtain ⟨l1, l2⟩ := mp_zero hm
      have hl := hv_len b
      refine (put_value k a1 a2 a3 ak av n1 c1 m2 c2 n3 c3 b.length ck y.length cv w (hv b) y t (fun wx h => (KR wx h).mono fun e w' he => ?_) (fun wx => ?_) (fun wx h => ?_) (fun z pv F wx hin hpv hbl => ?_) (fun t' z F wx hin hrs hup => ?_)).mono fun e w' he => ?_
      · obtain ⟨z, h1, h2, h3⟩ := he
        rw [hr] at h1
        exact ⟨z, h1, h2 hr, h3⟩
      · have := mayput_any ak av b.length ck y.length cv wx
        rwa [hm] at this
      · exact halves_bs (Bs_below hb h) (by omega)
      · exact put_all w.heap.size 64 (by omega) _ t (hv b) y z pv _ F wx (Nat.le_refl _) hin hR.1 (fun q hq => (hR.2 q hq).2.1) (by omega) hpv (Bs_lo (Bs_below hy hbl)) (pt_hv b) hbl.size
      · refine plain_all (N := 64) (M := 1024) hin (by omega) (by omega) hrs (fun q hq => ?_) (fun q => ?_) wx (Below.refl _ _)
        · rw [hup q] at hq
          split at hq
          · rename_i e; rw [e, hl]; omega
          · exact (hR.2 q hq).2.1
        · rw [hup q]
          split
          · exact l2
          · exact gt_len' hR q
      · obtain ⟨t', u, h1, h2, h3, h4, h5⟩ := he
        rw [hp0]
        exact ⟨bn t', u, h1, h2, by unfold PR; rw [if_pos hp0]; exact ⟨t', rfl, h3, h4⟩, h5⟩
    · have hPR : PR t b y Nd.no := by unfold PR; rw [hp, if_neg hm]
      rw [hp]
      refine (put_err k a1 a2 a3 ak av n1 c1 m2 c2 n3 c3 b.length ck y.length cv w (fun wx h => (KR wx h).mono fun e w' he => ?_) _ (beq_eq_false_iff_ne.2 hm) (fun wx => mayput_any ak av b.length ck y.length cv wx)).mono fun e w' he => ?_
      · obtain ⟨z, h1, _, h3⟩ := he
        rw [hr] at h1
        exact ⟨z, h1, h3⟩
      · exact ⟨Nd.no, (.int .i64 0, .slice none 0 0, .slice none 0 0, .slice none 0 0), he.1, Nv_no _ _, hPR, he.2⟩
mutual
theorem bn_bn' : ∀ t : Nd, bn (bn t) = bn t
  | .mk k p v ks => by
    have ih := bns_bns' ks
    by_cases h1 : k = 1
    · subst h1; simp [bn]
    by_cases h2 : k = 2
    · subst h2; simp [bn, ih]
    by_cases h3 : k = 3
    · subst h3; simp [bn, ih]
    simp [bn, h1, h2, h3]
theorem bns_bns' : ∀ l : List Nd, bns (bns l) = bns l
  | [] => by simp [bns]
  | t :: r => by simp [bns, bn_bn' t, bns_bns' r]
end
theorem pr_ok {t : Nd} {b y : By} {r : Nd} (h : PR t b y r) (h0 : pe t b y = 0) : Right r ∧ (∀ q, gt r q = if q = hv b then y else gt t q) ∧ Right t ∧ b.length ≤ 32 ∧ y.length ≤ 1024 ∧ Lp r ∧ bn r = r := by
  have hr : rd 0 t = true := by
    unfold pe at h0
    split at h0
    · assumption
    · cases h0
  have hm : mp b.length y.length = 0 := by
    unfold pe at h0
    rw [if_pos hr] at h0
    exact h0
  have hR := (rd_right t).1 hr
  obtain ⟨l1, l2⟩ := mp_zero hm
  unfold PR at h
  rw [if_pos h0] at h
  obtain ⟨t', rfl, hs, hu⟩ := h
  have hln : Ln 64 t' := fun q hq => by
    rw [hu q] at hq
    split at hq
    · rename_i e; rw [e, hv_len]; omega
    · exact (hR.2 q hq).2.1
  refine ⟨⟨rs_bn hs _ (bn_bn' t'), fun q hq => ?_⟩, fun q => by rw [gt_bn]; exact hu q, hR, l1, l2, lp_bn hs 64 (by omega) hln, bn_bn' t'⟩
  rw [gt_bn] at hq ⊢
  rw [hu q] at hq ⊢
  split at hq
  · rename_i e
    rw [if_pos e]
    exact ⟨by rw [e, hv_len]; omega, by rw [e, hv_len]; omega, hq, l2⟩
  · rename_i e
    rw [if_neg e]
    exact hR.2 q hq
end Tr
end Go.Proofs.Ythlgneadcagleaa
namespace Go.Proofs.Ythlgneadcagleaa
namespace Tr
open Nb Go.RowKit
def NX (h : Nat) (u : V4) (t : Nd) (w : World) : Prop := Bx h u w ∧ Nv (fun _ => True) w t u
theorem NX_below {h : Nat} {u : V4} {t : Nd} {w w' : World} (k : NX h u t w) (b : Below w.heap.size w w') : NX h u t w' := ⟨Bx_below k.1 b, Nv_below k.2 b⟩
theorem hv_inj {a b : By} (h : hv a = hv b) : a = b := by
  have := congrArg jn h
  rwa [jn_hv, jn_hv] at this
end Tr
end Go.Proofs.Ythlgneadcagleaa
namespace Go.Proofs.Ythlgneadcagleaa
namespace Tr
open Nb Go.RowKit
set_option maxHeartbeats 8000000 in
set_option maxRecDepth 100000 in
theorem law_read (t : Nd) (hs : Sm t) (x : V4) (w : World) (hx : Nv (· < w.heap.size) w t x) (hw : wn t ≤ 1048576) (k : By) (kv : Value) (hk : Bs (· < w.heap.size) k kv w) (y : By) (yv : Value) (hy : Bs (· < w.heap.size) y yv w) (o : By) (ov : Value) (ho : Bs (· < w.heap.size) o ov w) :
    Calls Try.prog 8 #[v4 x, kv, yv, ov] w fun e w' => e = .returned (.bool true) ∧ Below w.heap.size w w' := by
  obtain ⟨zk, za1, zn1, zc1, za2, zn2, zc2, za3, zn3, zc3, rfl⟩ := Nv_form hx
  obtain ⟨kp, kc, rfl, _⟩ := Bs_form hk
  obtain ⟨yp, yc, rfl, _⟩ := Bs_form hy
  obtain ⟨op, oc, rfl, _⟩ := Bs_form ho
  have LP : Hid (Lp t) := lp_wn (by omega)
  have bA : Below w.heap.size w (w.alloc (.cells #[.int .i64 zk, .slice za1 zn1 zc1, .slice za2 zn2 zc2, .slice za3 zn3 zc3] 25)) := (Below.refl _ _).alloc (Nat.le_refl _) _
  have Nt : Hid (NX w.heap.size (.int .i64 zk, .slice za1 zn1 zc1, .slice za2 zn2 zc2, .slice za3 zn3 zc3) t (w.alloc (.cells #[.int .i64 zk, .slice za1 zn1 zc1, .slice za2 zn2 zc2, .slice za3 zn3 zc3] 25))) := ⟨Bx_new w (.int .i64 zk, .slice za1 zn1 zc1, .slice za2 zn2 zc2, .slice za3 zn3 zc3), Nv_below (Nv_mono hx (fun _ _ _ => trivial)) bA⟩
  have Bk : Hid (Bs (fun _ => True) k (.slice kp k.length kc) (w.alloc (.cells #[.int .i64 zk, .slice za1 zn1 zc1, .slice za2 zn2 zc2, .slice za3 zn3 zc3] 25))) := Bs_below (Bs_mono hk (fun _ _ _ => trivial)) bA
  have By : Hid (Bs (fun _ => True) y (.slice yp y.length yc) (w.alloc (.cells #[.int .i64 zk, .slice za1 zn1 zc1, .slice za2 zn2 zc2, .slice za3 zn3 zc3] 25))) := Bs_below (Bs_mono hy (fun _ _ _ => trivial)) bA
  have Bo : Hid (Bs (fun _ => True) o (.slice op o.length oc) (w.alloc (.cells #[.int .i64 zk, .slice za1 zn1 zc1, .slice za2 zn2 zc2, .slice za3 zn3 zc3] 25))) := Bs_below (Bs_mono ho (fun _ _ _ => trivial)) bA
  have HB : Hid (Below w.heap.size w (w.alloc (.cells #[.int .i64 zk, .slice za1 zn1 zc1, .slice za2 zn2 zc2, .slice za3 zn3 zc3] 25))) := bA
  clear bA hx hw hk hy ho
  have HSM : Hid (Sm t) := hs
  clear hs
  show Calls Try.prog _ #[.agg #[.int .i64 zk, .slice za1 zn1 zc1, .slice za2 zn2 zc2, .slice za3 zn3 zc3], .slice kp k.length kc, .slice yp y.length yc, .slice op o.length oc] w _
  go_enter Try.func8, Try.ntmps8
  go_wp2_with fail
  refine (alive7_any _).mono ?_
  rintro e w1 ⟨rfl, hb⟩
  replace Nt : Hid (NX (w.heap.size) (.int .i64 zk, .slice za1 zn1 zc1, .slice za2 zn2 zc2, .slice za3 zn3 zc3) (t) w1) := NX_below Nt.out hb
  replace Bk : Hid (Bs (fun _ => True) k (.slice kp k.length kc) w1) := Bs_below Bk.out hb
  replace By : Hid (Bs (fun _ => True) y (.slice yp y.length yc) w1) := Bs_below By.out hb
  replace Bo : Hid (Bs (fun _ => True) o (.slice op o.length oc) w1) := Bs_below Bo.out hb
  replace HB : Hid (Below w.heap.size w w1) := HB.out.trans ((hb).mono HB.out.size)
  clear hb
  have KP : Hid (Calls Try.prog 13 #[.agg #[.int .i64 zk, .slice za1 zn1 zc1, .slice za2 zn2 zc2, .slice za3 zn3 zc3], .slice kp k.length kc, .slice yp y.length yc] w1 fun e w' => ∃ (r : Nd) (u : V4), e = .returned (.tuple #[v4 u, .int .i64 (pe (t) k y)]) ∧ Nv (w1.heap.size ≤ ·) w' r u ∧ PR (t) k y r ∧ Below w1.heap.size w1 w') := tput_lp (t) _ _ _ (.int .i64 zk, .slice za1 zn1 zc1, .slice za2 zn2 zc2, .slice za3 zn3 zc3) w1 Nt.out.2 (LP.out) k _ Bk.out y _ By.out
  have qt0 := Nt.out.1.2.1
  have qt1 := Nt.out.1.2.2.1
  have qt2 := Nt.out.1.2.2.2.1
  have qt3 := Nt.out.1.2.2.2.2
  dsimp only at qt0 qt1 qt2 qt3
  go_wp2_with fail
  refine (KP.out).mono ?_
  rintro e w2 ⟨rx, ux, rfl, hn, hpr, hb⟩
  clear qt0 qt1 qt2 qt3
  obtain ⟨xk, xa1, xn1, xc1, xa2, xn2, xc2, xa3, xn3, xc3, rfl⟩ := Nv_form hn
  have HPx : Hid (PR (t) k y rx) := hpr
  clear hpr KP
  simp only [v4]
  replace Nt : Hid (NX (w.heap.size) (.int .i64 zk, .slice za1 zn1 zc1, .slice za2 zn2 zc2, .slice za3 zn3 zc3) (t) w2) := NX_below Nt.out hb
  replace Bk : Hid (Bs (fun _ => True) k (.slice kp k.length kc) w2) := Bs_below Bk.out hb
  replace By : Hid (Bs (fun _ => True) y (.slice yp y.length yc) w2) := Bs_below By.out hb
  replace Bo : Hid (Bs (fun _ => True) o (.slice op o.length oc) w2) := Bs_below Bo.out hb
  replace HB : Hid (Below w.heap.size w w2) := HB.out.trans ((hb).mono HB.out.size)
  have bA : Below w2.heap.size w2 (w2.alloc (.cells #[.int .i64 xk, .slice xa1 xn1 xc1, .slice xa2 xn2 xc2, .slice xa3 xn3 xc3] 25)) := (Below.refl _ _).alloc (Nat.le_refl _) _
  have Nx : Hid (NX w2.heap.size (.int .i64 xk, .slice xa1 xn1 xc1, .slice xa2 xn2 xc2, .slice xa3 xn3 xc3) rx (w2.alloc (.cells #[.int .i64 xk, .slice xa1 xn1 xc1, .slice xa2 xn2 xc2, .slice xa3 xn3 xc3] 25))) := ⟨Bx_new w2 (.int .i64 xk, .slice xa1 xn1 xc1, .slice xa2 xn2 xc2, .slice xa3 xn3 xc3), Nv_below (Nv_mono hn (fun _ _ _ => trivial)) bA⟩
  clear hn hb
  replace Nt : Hid (NX (w.heap.size) (.int .i64 zk, .slice za1 zn1 zc1, .slice za2 zn2 zc2, .slice za3 zn3 zc3) (t) (w2.alloc (.cells #[.int .i64 xk, .slice xa1 xn1 xc1, .slice xa2 xn2 xc2, .slice xa3 xn3 xc3] 25))) := NX_below Nt.out bA
  replace Bk : Hid (Bs (fun _ => True) k (.slice kp k.length kc) (w2.alloc (.cells #[.int .i64 xk, .slice xa1 xn1 xc1, .slice xa2 xn2 xc2, .slice xa3 xn3 xc3] 25))) := Bs_below Bk.out bA
  replace By : Hid (Bs (fun _ => True) y (.slice yp y.length yc) (w2.alloc (.cells #[.int .i64 xk, .slice xa1 xn1 xc1, .slice xa2 xn2 xc2, .slice xa3 xn3 xc3] 25))) := Bs_below By.out bA
  replace Bo : Hid (Bs (fun _ => True) o (.slice op o.length oc) (w2.alloc (.cells #[.int .i64 xk, .slice xa1 xn1 xc1, .slice xa2 xn2 xc2, .slice xa3 xn3 xc3] 25))) := Bs_below Bo.out bA
  replace HB : Hid (Below w.heap.size w (w2.alloc (.cells #[.int .i64 xk, .slice xa1 xn1 xc1, .slice xa2 xn2 xc2, .slice xa3 xn3 xc3] 25))) := HB.out.trans ((bA).mono HB.out.size)
  clear bA
  obtain ⟨pf, hpf⟩ : ∃ pf, pf = pe t k y := ⟨_, rfl⟩
  rw [← hpf]
  have HF : Hid (pf = pe t k y) := hpf
  clear hpf
  by_cases h1 : pf = 0
  rotate_left
  · have e1 : (pf == 0) = false := beq_eq_false_iff_ne.2 h1
    have hno : rx = Nd.no := by
      have h := HPx.out
      unfold PR at h
      rw [if_neg (by rw [← HF.out]; exact h1)] at h
      exact h
    subst hno
    clear h1
    have KS : Hid (∀ wx : World, Hid (NX w2.heap.size (.int .i64 xk, .slice xa1 xn1 xc1, .slice xa2 xn2 xc2, .slice xa3 xn3 xc3) Nd.no wx) → Calls Try.prog 15 #[.agg #[.int .i64 xk, .slice xa1 xn1 xc1, .slice xa2 xn2 xc2, .slice xa3 xn3 xc3], .agg #[.int .i64 0, .slice none 0 0, .slice none 0 0, .slice none 0 0]] wx fun e w' => e = .returned (.bool true) ∧ Below wx.heap.size wx w') := fun wx hh => by
      have h := same_any (show Sm Nd.no from sm_nil 0 [] []) Nd.no _ (fun _ => True) (.int .i64 xk, .slice xa1 xn1 xc1, .slice xa2 xn2 xc2, .slice xa3 xn3 xc3) (.int .i64 0, .slice none 0 0, .slice none 0 0, .slice none 0 0) _ hh.out.2 (Nv_no _ _)
      rwa [show sn Nd.no Nd.no = true by decide +kernel] at h
    have qx0 := Nx.out.1.2.1
    have qx1 := Nx.out.1.2.2.1
    have qx2 := Nx.out.1.2.2.2.1
    have qx3 := Nx.out.1.2.2.2.2
    dsimp only at qx0 qx1 qx2 qx3
    go_wp2_with fail
    refine (KS.out _ Nx.out).mono ?_
    rintro e w3 ⟨rfl, hb⟩
    clear qx0 qx1 qx2 qx3
    replace HB : Hid (Below w.heap.size w w3) := HB.out.trans (hb.mono HB.out.size)
    clear hb KS
    go_wp2_with fail
    go_ret
    exact ⟨rfl, HB.out⟩
  subst h1
  obtain ⟨hR, hgt, hRt, l1, l2, hlp, _⟩ := pr_ok HPx.out HF.out.symm
  have HGX : Hid (gans rx k = (y, 0)) := by
    show _ = _
    unfold gans
    rw [(rd_right rx).2 hR, if_pos rfl, if_pos l1, hgt, if_pos rfl]
  have HRD : Hid (rd 0 rx = true) := (rd_right rx).2 hR
  have HLX : Hid (Lp rx) := hlp
  have HGO : Hid (o.length ≤ 32 → o ≠ k → gans rx o = (gt t (hv o), 0) ∧ gans t o = (gt t (hv o), 0)) := fun h1 h2 => by
    unfold gans
    rw [(rd_right rx).2 hR, (rd_right t).2 hRt, if_pos rfl, if_pos h1, if_pos rfl, if_pos h1, hgt, if_neg (fun e => h2 (hv_inj e))]
    exact ⟨rfl, rfl⟩
  clear hR hgt hRt l1 l2 hlp HF HPx HSM
  have KG : Hid (Calls Try.prog 11 #[.agg #[.int .i64 xk, .slice xa1 xn1 xc1, .slice xa2 xn2 xc2, .slice xa3 xn3 xc3], .slice kp k.length kc] (w2.alloc (.cells #[.int .i64 xk, .slice xa1 xn1 xc1, .slice xa2 xn2 xc2, .slice xa3 xn3 xc3] 25)) fun e w' => (∃ a c, e = .returned (.tuple #[.slice a y.length c, .int .i64 0]) ∧ Bs (fun _ => True) y (.slice a y.length c) w') ∧ Below (w2.alloc (.cells #[.int .i64 xk, .slice xa1 xn1 xc1, .slice xa2 xn2 xc2, .slice xa3 xn3 xc3] 25)).heap.size (w2.alloc (.cells #[.int .i64 xk, .slice xa1 xn1 xc1, .slice xa2 xn2 xc2, .slice xa3 xn3 xc3] 25)) w') := by
    refine (get_lp (rx) (w2.alloc (.cells #[.int .i64 xk, .slice xa1 xn1 xc1, .slice xa2 xn2 xc2, .slice xa3 xn3 xc3] 25)).heap.size (.int .i64 xk, .slice xa1 xn1 xc1, .slice xa2 xn2 xc2, .slice xa3 xn3 xc3) (w2.alloc (.cells #[.int .i64 xk, .slice xa1 xn1 xc1, .slice xa2 xn2 xc2, .slice xa3 xn3 xc3] 25)) (Nv_mono Nx.out.2 (fun _ _ h => h)) (Nat.le_refl _) (HLX.out) k _ (Bs_mono Bk.out (fun _ _ h => h))).mono fun e w' he => ?_
    rw [HGX.out] at he
    obtain ⟨⟨a, c, h1, h2⟩, h3⟩ := he
    exact ⟨⟨a, c, h1, Bs_mono h2 (fun _ _ _ => trivial)⟩, h3⟩
  have qx0 := Nx.out.1.2.1
  have qx1 := Nx.out.1.2.2.1
  have qx2 := Nx.out.1.2.2.2.1
  have qx3 := Nx.out.1.2.2.2.2
  dsimp only at qx0 qx1 qx2 qx3
  go_wp2_with fail
  refine (KG.out).mono ?_
  rintro e w3 ⟨⟨yga, ygc, rfl, hd⟩, hb⟩
  clear qx0 qx1 qx2 qx3
  replace Nt : Hid (NX (w.heap.size) (.int .i64 zk, .slice za1 zn1 zc1, .slice za2 zn2 zc2, .slice za3 zn3 zc3) (t) w3) := NX_below Nt.out hb
  replace Nx : Hid (NX (w2.heap.size) (.int .i64 xk, .slice xa1 xn1 xc1, .slice xa2 xn2 xc2, .slice xa3 xn3 xc3) (rx) w3) := NX_below Nx.out hb
  replace Bk : Hid (Bs (fun _ => True) k (.slice kp k.length kc) w3) := Bs_below Bk.out hb
  replace By : Hid (Bs (fun _ => True) y (.slice yp y.length yc) w3) := Bs_below By.out hb
  replace Bo : Hid (Bs (fun _ => True) o (.slice op o.length oc) w3) := Bs_below Bo.out hb
  replace HB : Hid (Below w.heap.size w w3) := HB.out.trans ((hb).mono HB.out.size)
  have By_w3 : Hid (Bs (fun _ => True) y (.slice yga y.length ygc) w3) := hd
  clear hd hb KG
  have KT : Hid (Calls Try.prog 9 #[.agg #[.int .i64 xk, .slice xa1 xn1 xc1, .slice xa2 xn2 xc2, .slice xa3 xn3 xc3]] w3 fun e w' => e = .returned (.bool true) ∧ Below w3.heap.size w3 w') := by
    have h := right_lp rx w3.heap.size (.int .i64 xk, .slice xa1 xn1 xc1, .slice xa2 xn2 xc2, .slice xa3 xn3 xc3) w3 (Nv_mono Nx.out.2 (fun _ _ h => h)) (Nat.le_refl _) HLX.out
    rwa [HRD.out] at h
  have qx0 := Nx.out.1.2.1
  have qx1 := Nx.out.1.2.2.1
  have qx2 := Nx.out.1.2.2.2.1
  have qx3 := Nx.out.1.2.2.2.2
  dsimp only at qx0 qx1 qx2 qx3
  go_wp2_with fail
  refine (KT.out).mono ?_
  rintro e w4 ⟨rfl, hb⟩
  clear qx0 qx1 qx2 qx3
  replace Nt : Hid (NX (w.heap.size) (.int .i64 zk, .slice za1 zn1 zc1, .slice za2 zn2 zc2, .slice za3 zn3 zc3) (t) w4) := NX_below Nt.out hb
  replace Nx : Hid (NX (w2.heap.size) (.int .i64 xk, .slice xa1 xn1 xc1, .slice xa2 xn2 xc2, .slice xa3 xn3 xc3) (rx) w4) := NX_below Nx.out hb
  replace Bk : Hid (Bs (fun _ => True) k (.slice kp k.length kc) w4) := Bs_below Bk.out hb
  replace By : Hid (Bs (fun _ => True) y (.slice yp y.length yc) w4) := Bs_below By.out hb
  replace Bo : Hid (Bs (fun _ => True) o (.slice op o.length oc) w4) := Bs_below Bo.out hb
  replace By_w3 : Hid (Bs (fun _ => True) y (.slice yga y.length ygc) w4) := Bs_below By_w3.out hb
  replace HB : Hid (Below w.heap.size w w4) := HB.out.trans ((hb).mono HB.out.size)
  clear hb KT HRD
  have x1 := Sl_st (Bs_sl By_w3.out)
  have x2 := Sl_st (Bs_sl By.out)
  have s1 := st_eq y y
  rw [decide_eq_true rfl] at s1
  by_cases ho : o.length ≤ 32
  rotate_left
  · have d1 : decide ((32 : Int) < (o.length : Int)) = true := decide_eq_true (by omega)
    have d2 : decide (32 < o.length) = true := decide_eq_true (by omega)
    clear ho
    generalize Tr.st y = Y at *
    generalize o.length = on at *
    go_wp2_with fail
    go_ret
    exact ⟨rfl, HB.out⟩
  have d1 : decide ((32 : Int) < (o.length : Int)) = false := decide_eq_false (by omega)
  have d2 : decide (32 < o.length) = false := decide_eq_false (by omega)
  have x3 := Sl_st (Bs_sl Bo.out)
  have x4 := Sl_st (Bs_sl Bk.out)
  have s2 := st_eq o k
  by_cases hok : o = k
  · rw [decide_eq_true hok] at s2
    clear ho hok HGO
    generalize Tr.st y = Y at *
    generalize Tr.st o = O at *
    generalize Tr.st k = K at *
    generalize o.length = on at *
    go_wp2_with fail
    go_ret
    exact ⟨rfl, HB.out⟩
  rw [decide_eq_false hok] at s2
  obtain ⟨g1, g2⟩ := HGO.out ho hok
  have HG1 : Hid (gans rx o = (gt t (hv o), 0)) := g1
  have HG2 : Hid (gans t o = (gt t (hv o), 0)) := g2
  clear ho hok g1 g2 HGO HGX
  generalize hgd : gt t (hv o) = d at *
  generalize Tr.st y = Y at *
  generalize Tr.st o = O at *
  generalize Tr.st k = K at *
  clear hgd
  have KG : Hid (Calls Try.prog 11 #[.agg #[.int .i64 xk, .slice xa1 xn1 xc1, .slice xa2 xn2 xc2, .slice xa3 xn3 xc3], .slice op o.length oc] w4 fun e w' => (∃ a c, e = .returned (.tuple #[.slice a d.length c, .int .i64 0]) ∧ Bs (fun _ => True) d (.slice a d.length c) w') ∧ Below w4.heap.size w4 w') := by
    refine (get_lp (rx) w4.heap.size (.int .i64 xk, .slice xa1 xn1 xc1, .slice xa2 xn2 xc2, .slice xa3 xn3 xc3) w4 (Nv_mono Nx.out.2 (fun _ _ h => h)) (Nat.le_refl _) (HLX.out) o _ (Bs_mono Bo.out (fun _ _ h => h))).mono fun e w' he => ?_
    rw [HG1.out] at he
    obtain ⟨⟨a, c, h1, h2⟩, h3⟩ := he
    exact ⟨⟨a, c, h1, Bs_mono h2 (fun _ _ _ => trivial)⟩, h3⟩
  have qx0 := Nx.out.1.2.1
  have qx1 := Nx.out.1.2.2.1
  have qx2 := Nx.out.1.2.2.2.1
  have qx3 := Nx.out.1.2.2.2.2
  dsimp only at qx0 qx1 qx2 qx3
  go_wp2_with fail
  refine (KG.out).mono ?_
  rintro e w5 ⟨⟨dga, dgc, rfl, hd⟩, hb⟩
  clear qx0 qx1 qx2 qx3
  replace Nt : Hid (NX (w.heap.size) (.int .i64 zk, .slice za1 zn1 zc1, .slice za2 zn2 zc2, .slice za3 zn3 zc3) (t) w5) := NX_below Nt.out hb
  replace Nx : Hid (NX (w2.heap.size) (.int .i64 xk, .slice xa1 xn1 xc1, .slice xa2 xn2 xc2, .slice xa3 xn3 xc3) (rx) w5) := NX_below Nx.out hb
  replace Bk : Hid (Bs (fun _ => True) k (.slice kp k.length kc) w5) := Bs_below Bk.out hb
  replace By : Hid (Bs (fun _ => True) y (.slice yp y.length yc) w5) := Bs_below By.out hb
  replace Bo : Hid (Bs (fun _ => True) o (.slice op o.length oc) w5) := Bs_below Bo.out hb
  replace By_w3 : Hid (Bs (fun _ => True) y (.slice yga y.length ygc) w5) := Bs_below By_w3.out hb
  replace HB : Hid (Below w.heap.size w w5) := HB.out.trans ((hb).mono HB.out.size)
  have Bd_w5 : Hid (Bs (fun _ => True) d (.slice dga d.length dgc) w5) := hd
  clear hd hb KG
  clear x1 x2 x3 x4 s1 s2 d1 d2 HG1
  have KG : Hid (Calls Try.prog 11 #[.agg #[.int .i64 zk, .slice za1 zn1 zc1, .slice za2 zn2 zc2, .slice za3 zn3 zc3], .slice op o.length oc] w5 fun e w' => (∃ a c, e = .returned (.tuple #[.slice a d.length c, .int .i64 0]) ∧ Bs (fun _ => True) d (.slice a d.length c) w') ∧ Below w5.heap.size w5 w') := by
    refine (get_lp t w5.heap.size (.int .i64 zk, .slice za1 zn1 zc1, .slice za2 zn2 zc2, .slice za3 zn3 zc3) w5 (Nv_mono Nt.out.2 (fun _ _ h => h)) (Nat.le_refl _) LP.out o _ (Bs_mono Bo.out (fun _ _ h => h))).mono fun e w' he => ?_
    rw [HG2.out] at he
    obtain ⟨⟨a, c, h1, h2⟩, h3⟩ := he
    exact ⟨⟨a, c, h1, Bs_mono h2 (fun _ _ _ => trivial)⟩, h3⟩
  have qt0 := Nt.out.1.2.1
  have qt1 := Nt.out.1.2.2.1
  have qt2 := Nt.out.1.2.2.2.1
  have qt3 := Nt.out.1.2.2.2.2
  dsimp only at qt0 qt1 qt2 qt3
  go_wp2_with fail
  refine (KG.out).mono ?_
  rintro e w6 ⟨⟨fa, fc, rfl, hd⟩, hb⟩
  clear qt0 qt1 qt2 qt3
  replace Nt : Hid (NX (w.heap.size) (.int .i64 zk, .slice za1 zn1 zc1, .slice za2 zn2 zc2, .slice za3 zn3 zc3) (t) w6) := NX_below Nt.out hb
  replace Nx : Hid (NX (w2.heap.size) (.int .i64 xk, .slice xa1 xn1 xc1, .slice xa2 xn2 xc2, .slice xa3 xn3 xc3) (rx) w6) := NX_below Nx.out hb
  replace Bk : Hid (Bs (fun _ => True) k (.slice kp k.length kc) w6) := Bs_below Bk.out hb
  replace By : Hid (Bs (fun _ => True) y (.slice yp y.length yc) w6) := Bs_below By.out hb
  replace Bo : Hid (Bs (fun _ => True) o (.slice op o.length oc) w6) := Bs_below Bo.out hb
  replace By_w3 : Hid (Bs (fun _ => True) y (.slice yga y.length ygc) w6) := Bs_below By_w3.out hb
  replace Bd_w5 : Hid (Bs (fun _ => True) d (.slice dga d.length dgc) w6) := Bs_below Bd_w5.out hb
  replace HB : Hid (Below w.heap.size w w6) := HB.out.trans ((hb).mono HB.out.size)
  have x5 := Sl_st (Bs_sl hd)
  have x6 := Sl_st (Bs_sl Bd_w5.out)
  have s1 := st_eq d d
  rw [decide_eq_true rfl] at s1
  clear hd hb KG
  generalize Tr.st d = DD at *
  generalize d.length = dn at *
  go_wp2_with fail
  go_ret
  exact ⟨rfl, HB.out⟩
end Tr
end Go.Proofs.Ythlgneadcagleaa
