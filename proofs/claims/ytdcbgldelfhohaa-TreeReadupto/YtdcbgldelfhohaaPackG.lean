/- nib.Join, lampbearerref.NJoin. -/
import Derived.Test.YtdcbgldelfhohaaPackE
import Derived.Test.YtdcbgldelfhohaaPackB
import Derived.Test.YtdcbgldelfhohaaPackF
import Derived.Test.YtdcbgldelfhohaaPackA
import Derived.RangeFuncNested
import Derived.RangeFuncBound
import Derived.RangeFuncLeaves
import Derived.Shelf.Abstract
import Derived.Shelf.RegionOpen
import Derived.OwnWalkIn
import Derived.TacticsInMore
import Derived.LoopNIn
import Derived.LoopIn
import Derived.Deep.Cut
namespace Go.Proofs.Ytdcbgldelfhohaa
namespace Nb
open Go.RowKit
theorem or16' : ∀ a b : Fin 16, bits .or .u8 ((a.val : Nat) * 16 : Int) ((b.val : Nat) : Int) = ((a.val : Nat) : Int) * 16 + ((b.val : Nat) : Int) := by decide +kernel
theorem or16 (R D : Int) (hR : 0 ≤ R ∧ R < 16) (hD : 0 ≤ D ∧ D < 16) : bits .or .u8 (R * 16) D = R * 16 + D := by
  have h := or16' ⟨R.toNat, by omega⟩ ⟨D.toNat, by omega⟩
  dsimp only at h
  rwa [Int.toNat_of_nonneg hR.1, Int.toNat_of_nonneg hD.1] at h
set_option maxHeartbeats 1000000 in
set_option maxRecDepth 100000 in
theorem join_yes (p : List UInt8) (ao : Option Addr) (cap : Nat) (w : World) (hn : Hid (p.length ≤ 4194304)) (vw : Sp.Vw p ao w) (hj : JF p) :
    Calls Try.prog 35 #[.slice ao p.length cap] w fun e w' => ∃ v, e = .returned (.tuple #[v, .int .i64 0]) ∧ w'.ownsRow w.heap.size 5 1 v (jn p).length (Pk.bcs (jn p)) ∧ Below w.heap.size w w' := by
  obtain ⟨m, hm⟩ : ∃ m, m = p.length / 2 := ⟨_, rfl⟩
  have HM : Hid (m = p.length / 2) := hm
  obtain ⟨w1, hr, hs1, o1, b1⟩ := made m (by have := hn.out; show _ ≤ _; omega) w
  have hw2 : Hid (wrap64 ((p.length : Int) / 2) = (m : Int)) := by
    have hn' := hn.out
    show _ = _
    unfold wrap64; omega
  have H2 : Hid (∀ i, i < m → Sp.bz (jn p) i = (Sp.bz p (2 * i) * 16 + Sp.bz p (2 * i + 1)) % 256) := by rw [hm]; exact jn_get p
  have HV : Hid (Sp.Vw p ao w) := vw
  have HF : Hid (fil (Sp.bz (jn p)) m m = Pk.bcs (jn p)) := by
    show _ = _
    rw [hm, ← jn_length, fil_full]
  have HL : Hid ((jn p).length = m) := by show _ = _; rw [jn_length, hm]
  have KP : Hid (∀ w : World, Sp.Vw p ao w → Calls Try.prog 39 #[.slice ao p.length cap] w fun e w' => e = .returned (.bool true) ∧ w' = w) := fun w v => by
    have k := ispath_any p ao cap w (by have := hn.out; show _ ≤ _; omega) v
    rwa [(pb_iff p).2 hj.2] at k
  have HJ : Hid (∀ j, j < p.length → Sp.bz p j < 16) := (pb_at p).1 ((pb_iff p).2 hj.2)
  have hev : ((p.length : Int) % 2 != 0) = false := by
    have := hj.1
    simp
    omega
  rw [HL.out]
  clear vw hm hj
  generalize Pk.bcs (jn p) = L at *
  generalize Sp.bz (jn p) = G at *
  go_enter Try.func35, Try.ntmps35
  have hw := hw2.out
  go_wp2_with fail
  refine (KP.out _ HV.out).mono (fun e w2 he => ?_)
  obtain ⟨rfl, hw3⟩ := he
  have hw3 := hw3.symm
  subst hw3
  go_wp2_with fail
  clear hw hw2 hr KP hev
  go_loopw [21] (fun i wr => ∃ k : Nat, k ≤ m ∧ i = .int .i64 (k : Int) ∧ wr.ownsRow w.heap.size 5 1 (.slice (some ⟨w.heap.size, 0, none⟩) m m) m (fil G k m) ∧ Below w.heap.size w wr) (fun i _ => ((m : Int) - intOf i).toNat)
  case atStart => exact ⟨0, Nat.zero_le _, rfl, by rw [fil_0]; exact o1, b1⟩
  case round =>
    clear o1 b1 hs1
    obtain ⟨k, hk, rfl, o2, b2⟩ := hrel
    by_cases h1 : k < m
    · have d1 : decide ((k : Int) < (m : Int)) = true := decide_eq_true (by omega)
      obtain ⟨t, ht⟩ : ∃ t, t = 2 * k := ⟨_, rfl⟩
      obtain ⟨r, hr⟩ : ∃ r, r = t + 1 := ⟨_, rfl⟩
      have ht1 : t < p.length := by have := HM.out; omega
      have hr1 : r < p.length := by have := HM.out; omega
      obtain ⟨g, off, rfl, hg, hc⟩ := HV.out (by omega)
      have c0 : wr.drew.cell? ⟨g, off + t, none⟩ = some (.int .u8 (Sp.bz p t)) := (b2.drew.cell (p := ⟨g, off + t, none⟩) hg).trans (hc t ht1)
      have c1 : wr.drew.cell? ⟨g, off + r, none⟩ = some (.int .u8 (Sp.bz p r)) := (b2.drew.cell (p := ⟨g, off + r, none⟩) hg).trans (hc r hr1)
      have hw := stp k (by have := hn.out; have := HM.out; show _ ≤ _; omega)
      have hwt : IntKind.i64.wrap (2 * (k : Int)) = (t : Int) := by
        have := hn.out; have := HM.out
        rw [IntKind.wrap_i64]; omega
      have hwr : IntKind.i64.wrap ((t : Int) + 1) = (r : Int) := by
        have := hn.out; have := HM.out
        rw [IntKind.wrap_i64]; omega
      have o3 := o2.drew
      have b3 := b2.drew
      have ce := World.ownsRow.cellAt o3 k (by omega)
      rw [fil_at G k m k h1] at ce
      have hfro : wr.drew.frozen? ⟨w.heap.size, k, none⟩ = false := World.ownsRow.frozenAt o3 k
      have HX : 0 ≤ Sp.bz p t ∧ Sp.bz p t < 256 := ⟨Sp.bz_nn p t, Sp.bz_lt p t⟩
      have HY : 0 ≤ Sp.bz p r ∧ Sp.bz p r < 256 := ⟨Sp.bz_nn p r, Sp.bz_lt p r⟩
      have HG := H2.out k h1
      rw [← ht, ← hr] at HG
      obtain ⟨V, hV⟩ : ∃ V, V = G k := ⟨_, rfl⟩
      have HS : Hid (fil G (k + 1) m = (fil G k m).set k (.int .u8 V)) := by
        show _ = _
        rw [fil_step G k m h1, hV]
      have HX6 : 0 ≤ Sp.bz p t ∧ Sp.bz p t < 16 := ⟨HX.1, HJ.out t ht1⟩
      have HY6 : 0 ≤ Sp.bz p r ∧ Sp.bz p r < 16 := ⟨HY.1, HJ.out r hr1⟩
      have hwx : IntKind.u8.wrap (Sp.bz p t * 16) = Sp.bz p t * 16 := by
        rw [IntKind.wrap_u8]; omega
      have hor : bits .or .u8 (Sp.bz p t * 16) (Sp.bz p r) = V := by
        rw [or16 _ _ HX6 HY6, hV, HG]
        omega
      have HT : Hid (t = 2 * k ∧ r = t + 1) := ⟨ht, hr⟩
      clear hV HG hc ht hr
      generalize Sp.bz p t = X at *
      generalize Sp.bz p r = Y at *
      go_upto_region 7 with fail
      refine RS.wp_region_two (fun wx => Hid (wx = wr.drew)) (fun wx => Hid (wx = (wr.setCell ⟨w.heap.size, k, none⟩ (.int .u8 V)).drew)) 16 (by kernel_rfl) (by kernel_rfl) (by decide) (rfl) ?_
      dsimp only [List.toList_toArray]
      refine RS.go2 (v := ?_) (a' := ?_) (by decide) rfl ?_ ?_ ?_
      rotate_left 2
      · intro K wx hS hK
        go_simp
        exact hK _ hS
      · simp only [Act.put, List.setIfInBounds_toArray, List.set_cons_succ, List.set_cons_zero]
        rfl
      refine RS.go2 (v := ?_) (a' := ?_) (by decide) rfl ?_ ?_ ?_
      rotate_left 2
      · intro K wx hS hK
        go_simp
        exact hK _ hS
      · simp only [Act.put, List.setIfInBounds_toArray, List.set_cons_succ, List.set_cons_zero]
        rfl
      refine RS.go2 (v := ?_) (a' := ?_) (by decide) rfl ?_ ?_ ?_
      rotate_left 2
      · intro K wx hS hK
        go_simp
        exact hK _ hS
      · simp only [Act.put, List.setIfInBounds_toArray, List.set_cons_succ, List.set_cons_zero]
        rfl
      refine RS.go2 (v := ?_) (a' := ?_) (by decide) rfl ?_ ?_ ?_
      rotate_left 2
      · intro K wx hS hK
        go_simp
        exact hK _ hS
      · simp only [Act.put, List.setIfInBounds_toArray, List.set_cons_succ, List.set_cons_zero]
        rfl
      refine RS.go2 (v := ?_) (a' := ?_) (by decide) rfl ?_ ?_ ?_
      rotate_left 2
      · intro K wx hS hK
        go_simp
        exact hK _ hS
      · simp only [Act.put, List.setIfInBounds_toArray, List.set_cons_succ, List.set_cons_zero]
        rfl
      refine RS.go2 (v := ?_) (a' := ?_) (by decide) rfl ?_ ?_ ?_
      rotate_left 2
      · intro K wx hS hK
        go_simp
        exact hK _ hS
      · simp only [Act.put, List.setIfInBounds_toArray, List.set_cons_succ, List.set_cons_zero]
        rfl
      refine RS.go2 (v := ?_) (a' := ?_) (by decide) rfl ?_ ?_ ?_
      rotate_left 2
      · intro K wx hS hK
        obtain rfl := hS.out
        go_simp
        exact hK _ rfl
      · simp only [Act.put, List.setIfInBounds_toArray, List.set_cons_succ, List.set_cons_zero]
        rfl
      refine RS.go2 (v := ?_) (a' := ?_) (by decide) rfl ?_ ?_ ?_
      rotate_left 2
      · intro K wx hS hK
        go_simp
        exact hK _ hS
      · simp only [Act.put, List.setIfInBounds_toArray, List.set_cons_succ, List.set_cons_zero]
        rfl
      refine RS.go2 (v := ?_) (a' := ?_) (by decide) rfl ?_ ?_ ?_
      rotate_left 2
      · intro K wx hS hK
        go_simp
        exact hK _ hS
      · simp only [Act.put, List.setIfInBounds_toArray, List.set_cons_succ, List.set_cons_zero]
        rfl
      refine RS.go2 (v := ?_) (a' := ?_) (by decide) rfl ?_ ?_ ?_
      rotate_left 2
      · intro K wx hS hK
        go_simp
        exact hK _ hS
      · simp only [Act.put, List.setIfInBounds_toArray, List.set_cons_succ, List.set_cons_zero]
        rfl
      refine RS.go2 (v := ?_) (a' := ?_) (by decide) rfl ?_ ?_ ?_
      rotate_left 2
      · intro K wx hS hK
        go_simp
        exact hK _ hS
      · simp only [Act.put, List.setIfInBounds_toArray, List.set_cons_succ, List.set_cons_zero]
        rfl
      refine RS.go2 (v := ?_) (a' := ?_) (by decide) rfl ?_ ?_ ?_
      rotate_left 2
      · intro K wx hS hK
        go_simp
        exact hK _ hS
      · simp only [Act.put, List.setIfInBounds_toArray, List.set_cons_succ, List.set_cons_zero]
        rfl
      refine RS.go2 (v := ?_) (a' := ?_) (by decide) rfl ?_ ?_ ?_
      rotate_left 2
      · intro K wx hS hK
        go_simp
        exact hK _ hS
      · simp only [Act.put, List.setIfInBounds_toArray, List.set_cons_succ, List.set_cons_zero]
        rfl
      refine RS.go2 (v := ?_) (a' := ?_) (by decide) rfl ?_ ?_ ?_
      rotate_left 2
      · intro K wx hS hK
        obtain rfl := hS.out
        go_simp
        exact hK _ rfl
      · simp only [Act.put, List.setIfInBounds_toArray, List.set_cons_succ, List.set_cons_zero]
        rfl
      refine RS.go2 (v := ?_) (a' := ?_) (by decide) rfl ?_ ?_ ?_
      rotate_left 2
      · intro K wx hS hK
        go_simp
        exact hK _ hS
      · simp only [Act.put, List.setIfInBounds_toArray, List.set_cons_succ, List.set_cons_zero]
        rfl
      refine RS.go2 (v := ?_) (a' := ?_) (by decide) rfl ?_ ?_ ?_
      rotate_left 2
      · intro K wx hS hK
        go_simp
        exact hK _ hS
      · simp only [Act.put, List.setIfInBounds_toArray, List.set_cons_succ, List.set_cons_zero]
        rfl
      refine RS.go2_last (v := ?_) (a' := ?_) rfl (by kernel_rfl) rfl ?_ ?_ ?_
      rotate_left 2
      · intro K wx hS hK
        obtain rfl := hS.out
        go_simp
        exact hK _ rfl
      · exact rfl
      intro w9 hw9
      have o9 : w9.ownsRow w.heap.size 5 1 (.slice (some ⟨w.heap.size, 0, none⟩) m m) m (fil G (k + 1) m) := by
        rw [hw9.out, HS.out]
        exact (o2.stored k _).1.drew
      have b9 : Below w.heap.size w w9 := by
        rw [hw9.out]
        exact (b2.setCell (Nat.le_refl _) _).drew
      clear o2 o3 b2 b3 ce hfro hw9 c0 c1 hwt hwr
      go_wp2_with fail
      have hw := hw.out
      go_roundw
      case rel => exact ⟨k + 1, h1, step_v k _ hw, o9, b9⟩
      case measure => exact msr k m h1 _ hw
    · have hkl : k = m := by omega
      subst hkl
      rw [HF.out] at o2
      go_wp2_with fail
      go_ret2
      exact ⟨_, rfl, o2, b2⟩
set_option maxHeartbeats 1000000 in
set_option maxRecDepth 100000 in
theorem join_no (p : List UInt8) (ao : Option Addr) (cap : Nat) (w : World) (hn : Hid (p.length ≤ 4194304)) (vw : Sp.Vw p ao w) (hj : ¬ JF p) :
    Calls Try.prog 35 #[.slice ao p.length cap] w fun e w' => e = .returned (.tuple #[.slice none 0 0, .int .i64 1]) ∧ w' = w := by
  by_cases e : p.length % 2 = 0
  · have hev : ((p.length : Int) % 2 != 0) = false := by
      simp
      omega
    have KP : Hid (∀ w : World, Sp.Vw p ao w → Calls Try.prog 39 #[.slice ao p.length cap] w fun e w' => e = .returned (.bool false) ∧ w' = w) := fun w v => by
      have k := ispath_any p ao cap w (by have := hn.out; show _ ≤ _; omega) v
      have h : pb p = false := by
        cases hB : pb p
        · rfl
        · exact absurd ⟨e, (pb_iff p).1 hB⟩ hj
      rwa [h] at k
    have HV : Hid (Sp.Vw p ao w) := vw
    clear vw hj hn e
    go_enter Try.func35, Try.ntmps35
    go_wp2_with fail
    refine (KP.out _ HV.out).mono (fun e w2 he => ?_)
    obtain ⟨rfl, rfl⟩ := he
    go_wp2_with fail
    go_ret2
    exact ⟨rfl, rfl⟩
  · have hev : ((p.length : Int) % 2 != 0) = true := by
      simp
      omega
    clear vw hj hn e
    go_enter Try.func35, Try.ntmps35
    go_wp2_with fail
    go_ret2
    exact ⟨rfl, rfl⟩
def NJ (c0 c1 c2 c3 c4 c5 c6 c7 c8 c9 c10 c11 c12 c13 c14 c15 c16 c17 c18 c19 c20 c21 c22 c23 c24 c25 c26 c27 c28 c29 c30 c31 : Value) (w : World) (m : Nat) (L : List Value) (X : List UInt8) (A B : ByteArray) (z : Bool) (d : Nat → Bool) (x : Act) (wx : World) : Prop :=
  ∃ (u32 u33 u34 u35 u36 u37 : Value), x = { tmps := #[c0, c1, c2, c3, c4, c5, c6, c7, c8, c9, c10, c11, c12, c13, c14, c15, c16, c17, c18, c19, c20, c21, c22, c23, c24, c25, c26, c27, c28, c29, c30, c31, u32, u33, u34, u35, u36, u37, undef], defers := [] } ∧ (wx.ownsRow w.heap.size 5 1 c4 m L ∧ Below w.heap.size w wx) ∧ (d 0 = true → u32 = c4) ∧ (d 2 = true → u34 = .string A) ∧ (d 3 = true → u35 = c0) ∧ (d 4 = true → u36 = .string B) ∧ (d 5 = true → u37 = .bool z) ∧ (d 1 = true → Pk.Sl X u33 wx)
set_option maxHeartbeats 1000000 in
set_option maxRecDepth 100000 in
theorem njoin_any (p : List UInt8) (ao : Option Addr) (cap : Nat) (w : World) (hn : Hid (p.length ≤ 4194304)) (hcap : p.length ≤ cap) (vw : Sp.Vw p ao w) :
    Calls Try.prog 36 #[.slice ao p.length cap] w fun e w' => ((JF p ∧ ∃ v, e = .returned (.tuple #[v, .int .i64 0]) ∧ w'.ownsRow w.heap.size 5 1 v (jn p).length (Pk.bcs (jn p))) ∨ (¬ JF p ∧ e = .returned (.tuple #[.slice none 0 0, .int .i64 1]))) ∧ Below w.heap.size w w' := by
  obtain ⟨m, hm⟩ : ∃ m, m = p.length / 2 := ⟨_, rfl⟩
  have HM : Hid (m = p.length / 2) := hm
  obtain ⟨w1, hr, hs1, o1, b1⟩ := made m (by have := hn.out; show _ ≤ _; omega) w
  have hw2 : Hid (wrap64 ((p.length : Int) / 2) = (m : Int)) := by
    have hn' := hn.out
    show _ = _
    unfold wrap64; omega
  have H2 : Hid (∀ i, i < m → Sp.bz (jn p) i = (Sp.bz p (2 * i) * 16 + Sp.bz p (2 * i + 1)) % 256) := by rw [hm]; exact jn_get p
  have HV : Hid (Sp.Vw p ao w) := vw
  have HF : Hid (fil (Sp.bz (jn p)) m m = Pk.bcs (jn p)) := by
    show _ = _
    rw [hm, ← jn_length, fil_full]
  have HL : Hid ((jn p).length = m) := by show _ = _; rw [jn_length, hm]
  have KN : Hid (∀ wx : World, wx.ownsRow w.heap.size 5 1 (.slice (some ⟨w.heap.size, 0, none⟩) m m) m (Pk.bcs (jn p)) → Calls Try.prog 28 #[.slice (some ⟨w.heap.size, 0, none⟩) m m] wx fun e w' => ∃ v, e = .returned v ∧ Pk.Sl (hv (jn p)) v w' ∧ Below wx.heap.size wx w') := fun wx ho => by
    have hs : Pk.Sl (jn p) (.slice (some ⟨w.heap.size, 0, none⟩) m m) wx := Pk.own_sl (base := w.heap.size) (by rw [HL.out]; exact ho)
    obtain ⟨a2, c2, e2, _, v2⟩ := hs
    cases e2
    exact (nhalves_any (jn p) _ _ wx (by have := hn.out; rw [show Hid ((jn p).length ≤ 2097152) = ((jn p).length ≤ 2097152) from rfl, jn_length]; omega) v2).mono fun e w' he => by
      obtain ⟨v, h1, h2, h3⟩ := he
      exact ⟨v, h1, Pk.own_sl h2, h3⟩
  have HC : Hid (∀ wx : World, Below w.heap.size w wx → (convert 22 9 (.slice ao p.length cap)).run Try.prog wx = .ok (.string ⟨p.toArray⟩) wx) := fun wx hb => Pk.Sl_conv ⟨ao, cap, rfl, hcap, Sp.Vw_below vw hb⟩
  rw [HL.out]
  clear vw hm hcap
  generalize Pk.bcs (jn p) = L at *
  generalize Sp.bz (jn p) = G at *
  go_enter Try.func36, Try.ntmps36
  have hw := hw2.out
  go_wp2_with fail
  clear hw hw2 hr
  go_loopw [12] (fun i wr => ∃ k : Nat, k ≤ m ∧ i = .int .i64 (k : Int) ∧ wr.ownsRow w.heap.size 5 1 (.slice (some ⟨w.heap.size, 0, none⟩) m m) m (fil G k m) ∧ Below w.heap.size w wr) (fun i _ => ((m : Int) - intOf i).toNat)
  case atStart => exact ⟨0, Nat.zero_le _, rfl, by rw [fil_0]; exact o1, b1⟩
  case round =>
    clear o1 b1 hs1
    obtain ⟨k, hk, rfl, o2, b2⟩ := hrel
    by_cases h1 : k < m
    · have d1 : decide ((k : Int) < (m : Int)) = true := decide_eq_true (by omega)
      obtain ⟨t, ht⟩ : ∃ t, t = 2 * k := ⟨_, rfl⟩
      obtain ⟨r, hr⟩ : ∃ r, r = t + 1 := ⟨_, rfl⟩
      have ht1 : t < p.length := by have := HM.out; omega
      have hr1 : r < p.length := by have := HM.out; omega
      obtain ⟨g, off, rfl, hg, hc⟩ := HV.out (by omega)
      have c0 : wr.drew.cell? ⟨g, off + t, none⟩ = some (.int .u8 (Sp.bz p t)) := (b2.drew.cell (p := ⟨g, off + t, none⟩) hg).trans (hc t ht1)
      have c1 : wr.drew.cell? ⟨g, off + r, none⟩ = some (.int .u8 (Sp.bz p r)) := (b2.drew.cell (p := ⟨g, off + r, none⟩) hg).trans (hc r hr1)
      have hw := stp k (by have := hn.out; have := HM.out; show _ ≤ _; omega)
      have hwt : IntKind.i64.wrap (2 * (k : Int)) = (t : Int) := by
        have := hn.out; have := HM.out
        rw [IntKind.wrap_i64]; omega
      have hwr : IntKind.i64.wrap ((t : Int) + 1) = (r : Int) := by
        have := hn.out; have := HM.out
        rw [IntKind.wrap_i64]; omega
      have o3 := o2.drew
      have b3 := b2.drew
      have ce := World.ownsRow.cellAt o3 k (by omega)
      rw [fil_at G k m k h1] at ce
      have hfro : wr.drew.frozen? ⟨w.heap.size, k, none⟩ = false := World.ownsRow.frozenAt o3 k
      have HX : 0 ≤ Sp.bz p t ∧ Sp.bz p t < 256 := ⟨Sp.bz_nn p t, Sp.bz_lt p t⟩
      have HY : 0 ≤ Sp.bz p r ∧ Sp.bz p r < 256 := ⟨Sp.bz_nn p r, Sp.bz_lt p r⟩
      have HG := H2.out k h1
      rw [← ht, ← hr] at HG
      obtain ⟨V, hV⟩ : ∃ V, V = G k := ⟨_, rfl⟩
      have HS : Hid (fil G (k + 1) m = (fil G k m).set k (.int .u8 V)) := by
        show _ = _
        rw [fil_step G k m h1, hV]
      have hwx : IntKind.u8.wrap (Sp.bz p t * 16) = Sp.bz p t * 16 % 256 := by
        rw [IntKind.wrap_u8]
      have hor : IntKind.u8.wrap (Sp.bz p t * 16 % 256 + Sp.bz p r) = V := by
        rw [IntKind.wrap_u8, hV, HG]
        omega
      have HT : Hid (t = 2 * k ∧ r = t + 1) := ⟨ht, hr⟩
      clear hV HG hc ht hr
      generalize Sp.bz p t = X at *
      generalize Sp.bz p r = Y at *
      go_upto_region 5 with fail
      refine RS.wp_region_two (fun wx => Hid (wx = wr.drew)) (fun wx => Hid (wx = (wr.setCell ⟨w.heap.size, k, none⟩ (.int .u8 V)).drew)) 16 (by kernel_rfl) (by kernel_rfl) (by decide) (rfl) ?_
      dsimp only [List.toList_toArray]
      refine RS.go2 (v := ?_) (a' := ?_) (by decide) rfl ?_ ?_ ?_
      rotate_left 2
      · intro K wx hS hK
        go_simp
        exact hK _ hS
      · simp only [Act.put, List.setIfInBounds_toArray, List.set_cons_succ, List.set_cons_zero]
        rfl
      refine RS.go2 (v := ?_) (a' := ?_) (by decide) rfl ?_ ?_ ?_
      rotate_left 2
      · intro K wx hS hK
        go_simp
        exact hK _ hS
      · simp only [Act.put, List.setIfInBounds_toArray, List.set_cons_succ, List.set_cons_zero]
        rfl
      refine RS.go2 (v := ?_) (a' := ?_) (by decide) rfl ?_ ?_ ?_
      rotate_left 2
      · intro K wx hS hK
        go_simp
        exact hK _ hS
      · simp only [Act.put, List.setIfInBounds_toArray, List.set_cons_succ, List.set_cons_zero]
        rfl
      refine RS.go2 (v := ?_) (a' := ?_) (by decide) rfl ?_ ?_ ?_
      rotate_left 2
      · intro K wx hS hK
        go_simp
        exact hK _ hS
      · simp only [Act.put, List.setIfInBounds_toArray, List.set_cons_succ, List.set_cons_zero]
        rfl
      refine RS.go2 (v := ?_) (a' := ?_) (by decide) rfl ?_ ?_ ?_
      rotate_left 2
      · intro K wx hS hK
        go_simp
        exact hK _ hS
      · simp only [Act.put, List.setIfInBounds_toArray, List.set_cons_succ, List.set_cons_zero]
        rfl
      refine RS.go2 (v := ?_) (a' := ?_) (by decide) rfl ?_ ?_ ?_
      rotate_left 2
      · intro K wx hS hK
        go_simp
        exact hK _ hS
      · simp only [Act.put, List.setIfInBounds_toArray, List.set_cons_succ, List.set_cons_zero]
        rfl
      refine RS.go2 (v := ?_) (a' := ?_) (by decide) rfl ?_ ?_ ?_
      rotate_left 2
      · intro K wx hS hK
        obtain rfl := hS.out
        go_simp
        exact hK _ rfl
      · simp only [Act.put, List.setIfInBounds_toArray, List.set_cons_succ, List.set_cons_zero]
        rfl
      refine RS.go2 (v := ?_) (a' := ?_) (by decide) rfl ?_ ?_ ?_
      rotate_left 2
      · intro K wx hS hK
        go_simp
        exact hK _ hS
      · simp only [Act.put, List.setIfInBounds_toArray, List.set_cons_succ, List.set_cons_zero]
        rfl
      refine RS.go2 (v := ?_) (a' := ?_) (by decide) rfl ?_ ?_ ?_
      rotate_left 2
      · intro K wx hS hK
        go_simp
        exact hK _ hS
      · simp only [Act.put, List.setIfInBounds_toArray, List.set_cons_succ, List.set_cons_zero]
        rfl
      refine RS.go2 (v := ?_) (a' := ?_) (by decide) rfl ?_ ?_ ?_
      rotate_left 2
      · intro K wx hS hK
        go_simp
        exact hK _ hS
      · simp only [Act.put, List.setIfInBounds_toArray, List.set_cons_succ, List.set_cons_zero]
        rfl
      refine RS.go2 (v := ?_) (a' := ?_) (by decide) rfl ?_ ?_ ?_
      rotate_left 2
      · intro K wx hS hK
        go_simp
        exact hK _ hS
      · simp only [Act.put, List.setIfInBounds_toArray, List.set_cons_succ, List.set_cons_zero]
        rfl
      refine RS.go2 (v := ?_) (a' := ?_) (by decide) rfl ?_ ?_ ?_
      rotate_left 2
      · intro K wx hS hK
        go_simp
        exact hK _ hS
      · simp only [Act.put, List.setIfInBounds_toArray, List.set_cons_succ, List.set_cons_zero]
        rfl
      refine RS.go2 (v := ?_) (a' := ?_) (by decide) rfl ?_ ?_ ?_
      rotate_left 2
      · intro K wx hS hK
        go_simp
        exact hK _ hS
      · simp only [Act.put, List.setIfInBounds_toArray, List.set_cons_succ, List.set_cons_zero]
        rfl
      refine RS.go2 (v := ?_) (a' := ?_) (by decide) rfl ?_ ?_ ?_
      rotate_left 2
      · intro K wx hS hK
        obtain rfl := hS.out
        go_simp
        exact hK _ rfl
      · simp only [Act.put, List.setIfInBounds_toArray, List.set_cons_succ, List.set_cons_zero]
        rfl
      refine RS.go2 (v := ?_) (a' := ?_) (by decide) rfl ?_ ?_ ?_
      rotate_left 2
      · intro K wx hS hK
        go_simp
        exact hK _ hS
      · simp only [Act.put, List.setIfInBounds_toArray, List.set_cons_succ, List.set_cons_zero]
        rfl
      refine RS.go2 (v := ?_) (a' := ?_) (by decide) rfl ?_ ?_ ?_
      rotate_left 2
      · intro K wx hS hK
        go_simp
        exact hK _ hS
      · simp only [Act.put, List.setIfInBounds_toArray, List.set_cons_succ, List.set_cons_zero]
        rfl
      refine RS.go2_last (v := ?_) (a' := ?_) rfl (by kernel_rfl) rfl ?_ ?_ ?_
      rotate_left 2
      · intro K wx hS hK
        obtain rfl := hS.out
        go_simp
        exact hK _ rfl
      · exact rfl
      intro w9 hw9
      have o9 : w9.ownsRow w.heap.size 5 1 (.slice (some ⟨w.heap.size, 0, none⟩) m m) m (fil G (k + 1) m) := by
        rw [hw9.out, HS.out]
        exact (o2.stored k _).1.drew
      have b9 : Below w.heap.size w w9 := by
        rw [hw9.out]
        exact (b2.setCell (Nat.le_refl _) _).drew
      clear o2 o3 b2 b3 ce hfro hw9 c0 c1 hwt hwr
      go_wp2_with fail
      have hw := hw.out
      go_roundw
      case rel => exact ⟨k + 1, h1, step_v k _ hw, o9, b9⟩
      case measure => exact msr k m h1 _ hw
    · have hkl : k = m := by omega
      subst hkl
      rw [HF.out] at o2
      have HI : Hid (JF p ↔ hv (jn p) = p) := jf_iff p
      obtain ⟨zz, HZ⟩ : ∃ zz, Hid ((hv (jn p) == p) = !zz) := ⟨!(hv (jn p) == p), by show _ = _; simp⟩
      go_upto_region 7 with fail
      refine RI.wp_region_inv (NJ (.slice ao p.length cap) undef (.slice none 0 0) (.int .i64 0) (.slice (some ⟨w.heap.size, 0, none⟩) k k) u5 (.slice ao p.length cap) (.int .i64 (p.length : Int)) (.int .i64 (wrap64 ((p.length : Int) / 2))) (.slice (some ⟨w.heap.size, 0, none⟩) k k) (.slice (some ⟨w.heap.size, 0, none⟩) k k) (.int .i64 (k : Int)) (.int .i64 (k : Int)) (.bool false) u14 u15 u16 u17 u18 u19 u20 u21 u22 u23 u24 u25 u26 u27 u28 u29 u30 u31 w k L (hv (jn p)) ⟨(hv (jn p)).toArray⟩ ⟨p.toArray⟩ zz) (by kernel_rfl) (by kernel_rfl) ?_ ?_ ?_
      · exact ⟨undef, undef, undef, undef, undef, undef, rfl, ⟨o2.drew, b2.drew⟩, nofun, nofun, nofun, nofun, nofun, nofun⟩
      · skip
        intro d x wx i hI hi hm
        obtain ⟨u32, u33, u34, u35, u36, u37, rfl, hw, p0, p2, p3, p4, p5, q1⟩ := hI
        have hi' : i = 0 ∨ i = 1 ∨ i = 2 ∨ i = 3 ∨ i = 4 ∨ i = 5 := by simp at hi; omega
        have hd := hm.2
        clear hm hi
        rcases hi' with rfl | rfl | rfl | rfl | rfl | rfl
        · refine RI.wpOp_plain rfl rfl ?_
          go_simp
          exact ⟨_, u33, u34, u35, u36, u37, rfl, hw, fun _ => rfl, RI.keep (by decide) p2, RI.keep (by decide) p3, RI.keep (by decide) p4, RI.keep (by decide) p5, RI.keep (by decide) q1⟩
        · have hd := hd _ rfl
          simp [Region.binds] at hd
          obtain rfl := p0 (by simp [hd])
          refine RI.wpOp_plain rfl rfl ?_
          go_simp
          refine (KN.out _ hw.1).mono ?_
          rintro e w1 ⟨v1, rfl, hs1, hb1⟩
          exact ⟨_, _, u34, u35, u36, u37, rfl, ⟨Pk.ownb hw.1 hb1, hw.2.trans (hb1.mono hw.2.size)⟩, RI.keep (by decide) p0, RI.keep (by decide) p2, RI.keep (by decide) p3, RI.keep (by decide) p4, RI.keep (by decide) p5, fun _ => hs1⟩
        · have hd := hd _ rfl
          simp [Region.binds] at hd
          refine RI.wpOp_plain rfl rfl ?_
          have hcv := Pk.Sl_conv (q1 (by simp [hd]))
          go_simp
          exact ⟨u32, u33, _, u35, u36, u37, rfl, hw, RI.keep (by decide) p0, fun _ => rfl, RI.keep (by decide) p3, RI.keep (by decide) p4, RI.keep (by decide) p5, RI.keep (by decide) q1⟩
        · refine RI.wpOp_plain rfl rfl ?_
          go_simp
          exact ⟨u32, u33, u34, _, u36, u37, rfl, hw, RI.keep (by decide) p0, RI.keep (by decide) p2, fun _ => rfl, RI.keep (by decide) p4, RI.keep (by decide) p5, RI.keep (by decide) q1⟩
        · have hd := hd _ rfl
          simp [Region.binds] at hd
          obtain rfl := p3 (by simp [hd])
          refine RI.wpOp_plain rfl rfl ?_
          have hcv := HC.out _ hw.2
          go_simp
          exact ⟨u32, u33, u34, _, _, u37, rfl, hw, RI.keep (by decide) p0, RI.keep (by decide) p2, RI.keep (by decide) p3, fun _ => rfl, RI.keep (by decide) p5, RI.keep (by decide) q1⟩
        · have hd := hd _ rfl
          simp [Region.binds] at hd
          obtain rfl := p2 (by simp [hd])
          obtain rfl := p4 (by simp [hd])
          refine RI.wpOp_plain rfl rfl ?_
          have hz := HZ.out
          go_simp
          exact ⟨u32, u33, _, u35, _, _, rfl, hw, RI.keep (by decide) p0, RI.keep (by decide) p2, RI.keep (by decide) p3, RI.keep (by decide) p4, fun _ => rfl, RI.keep (by decide) q1⟩
      · skip
        intro d x wx hI hd
        obtain ⟨u32, u33, u34, u35, u36, u37, rfl, hw, p0, p2, p3, p4, p5, q1⟩ := hI
        obtain ⟨o9, b9⟩ := hw
        have e5 := p5 (hd 5 (by decide))
        subst e5
        clear p0 p2 p3 p4 p5 q1 hd o2 b2
        by_cases e : hv (jn p) = p
        · have HJ : Hid (JF p) := HI.out.2 e
          have hz : zz = false := by have := HZ.out; rw [e] at this; simpa using this
          subst hz
          clear e HI HZ
          go_wp2_with fail
          go_ret2
          exact ⟨.inl ⟨HJ.out, _, rfl, o9⟩, b9⟩
        · have HJ : Hid (¬ JF p) := fun h => e (HI.out.1 h)
          have hz : zz = true := by have := HZ.out; rw [beq_false_of_ne e] at this; simpa using this
          subst hz
          clear e HI HZ
          go_wp2_with fail
          go_ret2
          exact ⟨.inr ⟨HJ.out, rfl⟩, b9⟩
end Nb
end Go.Proofs.Ytdcbgldelfhohaa
/- Pairs that are told, one behind the other; keys joined. -/
namespace Go.Proofs.Ytdcbgldelfhohaa
namespace Tr
open Nb Go.RowKit
/-- A route as a pair. -/
def jp (r : By × By) : By × By := (jn r.1, r.2)
theorem own_bs2 {lo : Nat} {b : By} {v : Value} {w : World} (h : w.ownsRow lo 5 1 v b.length (Pk.bcs b)) : (∃ a c, v = .slice a b.length c) ∧ Bs (lo ≤ ·) b v w := by
  rcases h.2 with ⟨h3, h4⟩ | ⟨g, cap, cur, h3, h5⟩
  · have e : b = [] := List.length_eq_zero_iff.1 h4
    subst e
    subst h3
    exact ⟨⟨_, _, rfl⟩, Bs_nil _ _⟩
  · subst h3
    refine ⟨⟨_, _, rfl⟩, some ⟨g, 0, none⟩, cap, rfl, h5.2.2.1, fun _ => ⟨g, 0, rfl, h5.1, Pk.lt_of_heap h5.2.1, fun j hj => ?_⟩⟩
    rw [Nat.zero_add, h.cellAt _ (by omega)]
    unfold Pk.bcs Sp.bz
    simp [List.getD_eq_getElem?_getD, hj]
theorem join_bs {S : Nat → Prop} {p : By} {pv : Value} {w : World} (hp : Bs S p pv w) (hl : p.length ≤ 64) (hj : JF p) : Calls Try.prog 35 #[pv] w fun e w' => ∃ a n c, e = .returned (.tuple #[.slice a n c, .int .i64 0]) ∧ Bs (w.heap.size ≤ ·) (jn p) (.slice a n c) w' ∧ Below w.heap.size w w' := by
  obtain ⟨ao, cap, h1, _, vw⟩ := Bs_sl hp
  subst h1
  refine (join_yes p ao cap w (by show _ ≤ _; omega) vw hj).mono fun e w' he => ?_
  obtain ⟨v, h1, h2, h3⟩ := he
  obtain ⟨⟨a, c, rfl⟩, h4⟩ := own_bs2 h2
  exact ⟨a, _, c, h1, h4, h3⟩
/-- Pairs as cells. -/
def c2p (vs : List V2) : List Value := vs.flatMap fun u => [u.1, u.2]
theorem c2p_len (l : List V2) : (c2p l).length = l.length * 2 := by
  induction l with
  | nil => rfl
  | cons p r ih => simp only [c2p, List.flatMap_cons, List.length_append, List.length_cons, List.length_nil] at ih ⊢; omega
theorem c2p_app (x y : List V2) : c2p (x ++ y) = c2p x ++ c2p y := by simp [c2p]
theorem c2p_get : ∀ (l : List V2) (j : Nat), j < l.length → (c2p l)[2 * j]? = some (l.getD j m2).1 ∧ (c2p l)[2 * j + 1]? = some (l.getD j m2).2
  | [], j, h => absurd h (by simp)
  | p :: r, 0, _ => ⟨rfl, rfl⟩
  | p :: r, j + 1, h => by
    have ih := c2p_get r j (by simpa using h)
    have e1 : 2 * (j + 1) = 2 * j + 1 + 1 := by omega
    have e2 : 2 * (j + 1) + 1 = 2 * j + 1 + 1 + 1 := by omega
    have ec : c2p (p :: r) = p.1 :: p.2 :: c2p r := rfl
    rw [ec, e2, e1]
    simpa only [List.getElem?_cons_succ, List.getD_cons_succ] using ih
/-- Where a pair's bytes lie. -/
def Sk (b0 : Nat) (v : Value) (k : Nat) : Prop := b0 < k ∧ some k ≠ v.ownBlock
/-- A row of pairs of the call's own, behind block b0. -/
def Po (b0 : Nat) (l : Rt) (v : Value) (W : World) : Prop := ∃ vs : List V2, vs.length = l.length ∧ W.ownsRow (b0 + 1) 65 2 v l.length (c2p vs) ∧ ∀ j, j < l.length → Bs (Sk b0 v) (l.getD j n2).1 (vs.getD j m2).1 W ∧ Bs (Sk b0 v) (l.getD j n2).2 (vs.getD j m2).2 W
theorem Po_nil (b0 : Nat) (W : World) : Po b0 [] (.slice none 0 0) W := ⟨[], rfl, ⟨rfl, .inl ⟨rfl, rfl⟩⟩, fun j hj => absurd hj (by simp)⟩
theorem Po_form {b0 : Nat} {l : Rt} {v : Value} {W : World} (h : Po b0 l v W) : ∃ a n c, v = .slice a n c := by
  obtain ⟨vs, _, h2, _⟩ := h
  rcases h2.2 with ⟨h3, _⟩ | ⟨g, cap, cur, h3, _⟩
  · exact ⟨_, _, _, h3⟩
  · exact ⟨_, _, _, h3⟩
theorem Po_pv {b0 : Nat} {l : Rt} {v : Value} {W : World} (h : Po b0 l v W) : Pv (b0 < ·) l v W := by
  obtain ⟨vs, h1, h2, h3⟩ := h
  refine ⟨vs, h1, ?_, fun j hj => ⟨Bs_mono (h3 j hj).1 (fun k hk _ => hk.1), Bs_mono (h3 j hj).2 (fun k hk _ => hk.1)⟩⟩
  rcases h2.2 with ⟨h4, h5⟩ | ⟨g, cap, cur, h4, h5⟩
  · subst h4
    have : vs = [] := List.length_eq_zero_iff.1 (by omega)
    subst this
    exact ⟨none, 0, rfl, Nat.le_refl _, fun h => absurd h (by simp)⟩
  · subst h4
    refine ⟨some ⟨g, 0, none⟩, cap, by rw [h1], by rw [h1]; exact h5.2.2.1, fun _ => ⟨g, 0, rfl, by have := h5.1; show b0 < g; omega, Pk.lt_of_heap h5.2.1, fun j hj => ?_⟩⟩
    have hc := c2p_get vs j hj
    refine ⟨?_, ?_⟩
    · rw [Nat.zero_add, h2.cellAt _ (by omega)]; exact hc.1
    · rw [Nat.zero_add, h2.cellAt _ (by omega)]; exact hc.2
theorem Po_keep {b0 : Nat} {l : Rt} {v : Value} {W W' : World} (h : Po b0 l v W) (hk : ∀ k, b0 < k → k < W.heap.size → W'.heap[k]? = W.heap[k]?) (hs : W.heap.size ≤ W'.heap.size) : Po b0 l v W' := by
  obtain ⟨vs, h1, h2, h3⟩ := h
  have BK : ∀ {b : By} {x : Value}, Bs (Sk b0 v) b x W → Bs (Sk b0 v) b x W' := fun {b x} hb => by
    obtain ⟨ao, cap, g1, g2, g4⟩ := hb
    refine ⟨ao, cap, g1, g2, fun h0 => ?_⟩
    obtain ⟨k, off, e, hne, hlt, hc⟩ := g4 h0
    exact ⟨k, off, e, hne, Nat.lt_of_lt_of_le hlt hs, fun j hj => (World.cell?_of_block (a := ⟨k, off + j, none⟩) (hk k hne.1 hlt)).trans (hc j hj)⟩
  refine ⟨vs, h1, ⟨h2.1, ?_⟩, fun j hj => ⟨BK (h3 j hj).1, BK (h3 j hj).2⟩⟩
  rcases h2.2 with h4 | ⟨g, cap, cur, h4, h5, h6, h7⟩
  · exact .inl h4
  · exact .inr ⟨g, cap, cur, h4, h5, (hk g (by omega) (Pk.lt_of_heap h6)).trans h6, h7⟩
theorem infoPr : (Try.prog.info? 65).map (fun i => (i.zero, i.size, i.bytes)) = some (some (.agg #[.slice none 0 0, .slice none 0 0]), 2, 48) := by kernel_rfl
theorem Po_app {b0 : Nat} {l : Rt} {v : Value} {W : World} (ty : TypeId) {key val : By} {kv vv : Value} {gb : Nat} (h : Po b0 l v W) (hk : Bs (Sk b0 v) key kv W) (hv : Bs (Sk b0 v) val vv W) (c0 : W.cell? ⟨gb, 0, none⟩ = some kv) (c1 : W.cell? ⟨gb, 1, none⟩ = some vv) (hb : b0 + 1 ≤ W.heap.size) (hl : l.length + 1 ≤ 4194304) :
    ∃ g cap W', (Builtin.append_ #[35, 35] ty #[v, .slice (some ⟨gb, 0, none⟩) 1 1]).run Try.prog W = .ok (.slice (some ⟨g, 0, none⟩) (l.length + 1) cap) W' ∧ Po b0 (l ++ [(key, val)]) (.slice (some ⟨g, 0, none⟩) (l.length + 1) cap) W' ∧ W.grownBy W' v.ownBlock ∧ (∀ k, v.ownBlock = some k → b0 < k) := by
  obtain ⟨i0, hi, hz0, hz1, hz2⟩ := info_parts infoPr
  obtain ⟨vs, h1, h2, h3⟩ := h
  obtain ⟨ka, kc, rfl, _⟩ := Bs_form hk
  obtain ⟨va, vc, rfl, _⟩ := Bs_form hv
  obtain ⟨g, cap, W', hr, ho, hgr, hat, _⟩ := run_append_lies (P := Try.prog) W 35 ty (b0 + 1) 65 i0 _ 2 48 Try.underlying35 hi hz0 hz1 hz2 rfl (by decide) v l.length (c2p vs) h2 ⟨gb, 0, none⟩ 1 1 [.slice ka key.length kc, .slice va val.length vc] rfl
    (fun j u hj => by
      have ea : (⟨gb, 0, none⟩ : Addr).add j = ⟨gb, j, none⟩ := by unfold Addr.add; split <;> simp_all
      rw [ea]
      match j, hj with
      | 0, hj => cases hj; exact c0
      | 1, hj => cases hj; exact c1) (fun u hu => by
        simp only [List.mem_cons, List.not_mem_nil, or_false] at hu
        rcases hu with rfl | rfl <;> rfl) (by omega) (by unfold maxLen; omega) (by omega) hb W.heap.size rfl
  have MV : ∀ {b : By} {x : Value}, Bs (Sk b0 v) b x W → Bs (Sk b0 (.slice (some ⟨g, 0, none⟩) (l.length + 1) cap)) b x W' := fun {b x} hx => by
    have k1 := Bs_mono (S' := fun k => Sk b0 v k ∧ k < W.heap.size) hx (fun k a b => ⟨a, b⟩)
    have k2 := Bs_gb k1 hgr (fun k hk => hk.1.2)
    refine Bs_mono k2 (fun k hk _ => ⟨hk.1.1, fun e => ?_⟩)
    have e : k = g := by injection e
    subst e
    rcases hat with hat | hat
    · exact hk.1.2 hat.symm
    · have := hk.2; omega
  refine ⟨g, cap, W', hr, ⟨vs ++ [(.slice ka key.length kc, .slice va val.length vc)], by simp [h1], ?_, fun j hj => ?_⟩, hgr, fun k hk => ?_⟩
  · rw [List.length_append, c2p_app]
    exact ho
  · rw [List.length_append] at hj
    by_cases e : j < l.length
    · rw [List.getD_eq_getElem?_getD, List.getD_eq_getElem?_getD, List.getElem?_append_left e, List.getElem?_append_left (by omega), ← List.getD_eq_getElem?_getD, ← List.getD_eq_getElem?_getD]
      exact ⟨MV (h3 j e).1, MV (h3 j e).2⟩
    · have ej : j = l.length := by simp at hj; omega
      subst ej
      have e1 : (l ++ [(key, val)]).getD l.length n2 = (key, val) := by simp [List.getD_eq_getElem?_getD]
      have e2 : (vs ++ [(Value.slice ka key.length kc, Value.slice va val.length vc)]).getD l.length m2 = (.slice ka key.length kc, .slice va val.length vc) := by rw [← h1]; simp [List.getD_eq_getElem?_getD]
      rw [e1, e2]
      exact ⟨MV hk, MV hv⟩
  · rcases h2.2 with ⟨h4, _⟩ | ⟨g2, cap2, cur, h4, h5, _⟩
    · subst h4; cases hk
    · subst h4
      have e : g2 = k := by injection hk
      omega
end Tr
end Go.Proofs.Ytdcbgldelfhohaa
/- tree.Pairs. -/
namespace Go.Proofs.Ytdcbgldelfhohaa
namespace Tr
open Nb Go.RowKit
attribute [local go_sem] Oper.semAt_some
/-- What holds between two rounds. -/
structure PI (w : World) (Bp b0 : Nat) (s : Rt) (W : World) : Prop where
  po : ∃ a n c, W.heap[Bp]? = some (.cells #[.slice a n c] 35 (0, 0)) ∧ Po b0 (s.map jp) (.slice a n c) W
  b : Below w.heap.size w W
theorem PI_gb {w : World} {Bp b0 : Nat} {s : Rt} {W W' : World} (h : PI w Bp b0 s W) (hg : W.grownBy W' (some b0)) (h1 : Bp < b0) (h2 : w.heap.size ≤ b0) : PI w Bp b0 s W' := by
  obtain ⟨⟨a, n, c, h3, h4⟩, h5⟩ := h
  have NE : ∀ k, k ≠ b0 → some k ≠ some b0 := fun k h e => h (by injection e)
  exact ⟨⟨a, n, c, (hg.block _ (Pk.lt_of_heap h3) (NE _ (by omega))).trans h3, Po_keep h4 (fun k hk hl => hg.block k hl (NE _ (by omega))) hg.size⟩, h5.grown hg h5.size (fun k e => by injection e with e; omega)⟩
theorem PI_put {w : World} {Bp b0 : Nat} {s : Rt} {W : World} {k : Nat} {o : Obj} (h : PI w Bp b0 s W) (h1 : k ≠ Bp) (h2 : k ≤ b0) (h3 : w.heap.size ≤ k) : PI w Bp b0 s (W.putObj k o) := by
  obtain ⟨⟨a, n, c, h4, h5⟩, h6⟩ := h
  refine ⟨⟨a, n, c, (World.putObj_heap_other (by omega)).trans h4, Po_keep h5 (fun j hj _ => World.putObj_heap_other (by omega)) (by simp [World.putObj])⟩, ?_⟩
  exact ⟨h6.os, h6.tape, h6.output, Nat.le_trans h6.size (by simp [World.putObj]), fun j hj => (World.putObj_heap_other (by omega)).trans (h6.block j hj)⟩
/-- The region that appends a pair. -/
structure PWx (WA : World) (b0 : Nat) (key v : By) (kv pv : Value) (l : Rt) (Pz : World → Prop) (d3 d5 d6 d7 : Bool) (u30 u32 u33 : Value) (wx : World) : Prop where
  a : d6 = false → Below WA.heap.size WA wx
  b1 : d3 = true → ∃ ca cn cc, u30 = .slice ca cn cc
  b : d3 = true → d6 = false → Bs (WA.heap.size ≤ ·) v u30 wx
  c : d5 = true → d6 = false → ∃ gb, u32 = .slice (some ⟨gb, 0, none⟩) 1 1 ∧ gb < wx.heap.size ∧ wx.cell? ⟨gb, 0, none⟩ = some kv ∧ wx.cell? ⟨gb, 1, none⟩ = some u30
  e : d6 = true → d7 = false → (∃ g n c, u33 = .slice (some ⟨g, 0, none⟩) n c) ∧ Po b0 (l ++ [(key, v)]) u33 wx ∧ WA.grownBy wx pv.ownBlock
  z : d7 = true → Pz wx
  o : d7 = true → d6 = true
  i : d6 = true → d5 = true
  j : d5 = true → d3 = true
section
variable {WA : World} {b0 : Nat} {key v : By} {kv pv : Value} {l : Rt} {Pz : World → Prop} {d3 d5 d6 d7 : Bool} {u30 u32 u33 : Value} {wx : World}
theorem PWx.n6 (h : PWx WA b0 key v kv pv l Pz d3 d5 d6 d7 u30 u32 u33 wx) (e : d5 = false) : d6 = false := by
  cases hc : d6 with
  | false => rfl
  | true => rw [h.i hc] at e; cases e
theorem PWx.n5 (h : PWx WA b0 key v kv pv l Pz d3 d5 d6 d7 u30 u32 u33 wx) (e : d3 = false) : d5 = false := by
  cases hc : d5 with
  | false => rfl
  | true => rw [h.j hc] at e; cases e
theorem PWx.n7 (h : PWx WA b0 key v kv pv l Pz d3 d5 d6 d7 u30 u32 u33 wx) (e : d6 = false) : d7 = false := by
  cases hc : d7 with
  | false => rfl
  | true => rw [h.o hc] at e; cases e
theorem PWx.s3 {u30' : Value} {w1 : World} (h : PWx WA b0 key v kv pv l Pz d3 d5 d6 d7 u30 u32 u33 wx) (hf : d3 = false) (hv : ∃ ca cn cc, u30' = .slice ca cn cc) (hbs : Bs (wx.heap.size ≤ ·) v u30' w1) (hb : Below wx.heap.size wx w1) : PWx WA b0 key v kv pv l Pz true d5 d6 d7 u30' u32 u33 w1 := by
  have e5 := h.n5 hf
  have e6 := h.n6 e5
  have e7 := h.n7 e6
  have ha := h.a e6
  refine ⟨fun _ => ha.trans (hb.mono ha.size), fun _ => hv, fun _ _ => Bs_mono hbs (fun k hk _ => Nat.le_trans ha.size hk), fun h5 => ?_, fun h6 => ?_, fun h7 => ?_, fun h7 => ?_, fun h6 => ?_, fun _ => rfl⟩
  · rw [e5] at h5; cases h5
  · rw [e6] at h6; cases h6
  · rw [e7] at h7; cases h7
  · rw [e7] at h7; cases h7
  · rw [e6] at h6; cases h6
theorem PWx.s5 {u32' : Value} {w1 : World} (h : PWx WA b0 key v kv pv l Pz d3 d5 d6 d7 u30 u32 u33 wx) (hf : d5 = false) (h3 : d3 = true) (hb : Below wx.heap.size wx w1) (hc : ∃ gb, u32' = .slice (some ⟨gb, 0, none⟩) 1 1 ∧ gb < w1.heap.size ∧ w1.cell? ⟨gb, 0, none⟩ = some kv ∧ w1.cell? ⟨gb, 1, none⟩ = some u30) : PWx WA b0 key v kv pv l Pz d3 true d6 d7 u30 u32' u33 w1 := by
  have e6 := h.n6 hf
  have e7 := h.n7 e6
  have ha := h.a e6
  refine ⟨fun _ => ha.trans (hb.mono ha.size), h.b1, fun _ _ => Bs_below (h.b h3 e6) hb, fun _ _ => hc, fun h6 => ?_, fun h7 => ?_, fun h7 => ?_, fun _ => rfl, fun _ => h3⟩
  · rw [e6] at h6; cases h6
  · rw [e7] at h7; cases h7
  · rw [e7] at h7; cases h7
theorem PWx.s6 {u33' : Value} {w1 : World} (h : PWx WA b0 key v kv pv l Pz d3 d5 d6 d7 u30 u32 u33 wx) (hf : d6 = false) (h5 : d5 = true) (hv : ∃ g n c, u33' = .slice (some ⟨g, 0, none⟩) n c) (hp : Po b0 (l ++ [(key, v)]) u33' w1) (hg : wx.grownBy w1 pv.ownBlock) : PWx WA b0 key v kv pv l Pz d3 d5 true d7 u30 u32 u33' w1 := by
  have e7 := h.n7 hf
  have ha := h.a hf
  refine ⟨fun e => (by cases e), h.b1, fun _ e => (by cases e), fun _ e => (by cases e), fun _ _ => ⟨hv, hp, gb_trans (gb_below ha) hg⟩, fun h7 => ?_, fun _ => rfl, fun _ => h5, h.j⟩
  rw [e7] at h7; cases h7
theorem PWx.s7 {w1 : World} (h : PWx WA b0 key v kv pv l Pz d3 d5 d6 d7 u30 u32 u33 wx) (h6 : d6 = true) (hz : Pz w1) : PWx WA b0 key v kv pv l Pz d3 d5 d6 true u30 u32 u33 w1 :=
  ⟨fun e => (by rw [h6] at e; cases e), h.b1, fun _ e => (by rw [h6] at e; cases e), fun _ e => (by rw [h6] at e; cases e), fun _ e => (by cases e), fun _ => hz, fun _ => h6, h.i, h.j⟩
end
inductive PRX (WA : World) (b0 Bp : Nat) (key v : By) (l : Rt) (Pz : World → Prop) (ka va pa : Option Addr) (kn kc vn vc pn pc : Nat) (x0 x1 x2 x3 x4 x5 x7 x10 x11 x12 x13 x14 x15 x16 x17 x18 x19 x20 x21 x22 x23 x24 x25 x26 : Value) (d : Nat → Bool) (x : Act) (wx : World) : Prop where
  | mk (u27 u28 u29 u30 u31 u32 u33 : Value) (hx : x = { tmps := #[x0, x1, x2, x3, x4, x5, .pointer (some ⟨Bp, 0, none⟩), x7, .slice va vn vc, .slice ka kn kc, x10, x11, x12, x13, x14, x15, x16, x17, x18, x19, x20, x21, x22, x23, x24, x25, x26, u27, u28, u29, u30, u31, u32, u33, undef], defers := [] }) (hw : PWx WA b0 key v (.slice ka kn kc) (.slice pa pn pc) l Pz (d 3) (d 5) (d 6) (d 7) u30 u32 u33 wx) (p0 : d 0 = true → u27 = .slice pa pn pc) (p1 : d 1 = true → u28 = .slice ka kn kc) (p2 : d 2 = true → u29 = .slice va vn vc) (p4 : d 4 = true → u31 = .agg #[.slice ka kn kc, u30]) (y3 : d 3 = true → True) (y4 : d 4 = true → d 3 = true) (y5 : d 5 = true → True) (y6 : d 6 = true → d 0 = true) : PRX WA b0 Bp key v l Pz ka va pa kn kc vn vc pn pc x0 x1 x2 x3 x4 x5 x7 x10 x11 x12 x13 x14 x15 x16 x17 x18 x19 x20 x21 x22 x23 x24 x25 x26 d x wx
set_option maxHeartbeats 4000000 in
set_option maxRecDepth 100000 in
theorem pairs_form (k : Int) (a1 a2 a3 : Option Addr) (n1 c1 m2 c2 n3 c3 : Nat) (w : World) (KR0 : ∀ wx : World, Below w.heap.size w wx → Calls Try.prog 22 #[.agg #[.int .i64 k, .slice a1 n1 c1, .slice a2 m2 c2, .slice a3 n3 c3], .int .i64 0] wx fun e w' => ∃ y, e = .returned (.tuple #[y, .bool false]) ∧ Below wx.heap.size wx w') :
    Calls Try.prog 16 #[.agg #[.int .i64 k, .slice a1 n1 c1, .slice a2 m2 c2, .slice a3 n3 c3]] w fun e w' => e = .returned (.tuple #[.slice none 0 0, .int .i64 1]) ∧ Below w.heap.size w w' := by
  have b1 : Below w.heap.size w (w.alloc (.cells #[.int .i64 k, .slice a1 n1 c1, .slice a2 m2 c2, .slice a3 n3 c3] 25)) := (Below.refl _ _).alloc (Nat.le_refl _) _
  obtain ⟨_, q0, q1, q2, q3⟩ := Bx_new w (.int .i64 k, .slice a1 n1 c1, .slice a2 m2 c2, .slice a3 n3 c3)
  dsimp only at q0 q1 q2 q3
  have HBB : Hid (Below w.heap.size w (w.alloc (.cells #[.int .i64 k, .slice a1 n1 c1, .slice a2 m2 c2, .slice a3 n3 c3] 25))) := b1
  have KR : Hid (Calls Try.prog 22 #[.agg #[.int .i64 k, .slice a1 n1 c1, .slice a2 m2 c2, .slice a3 n3 c3], .int .i64 0] (w.alloc (.cells #[.int .i64 k, .slice a1 n1 c1, .slice a2 m2 c2, .slice a3 n3 c3] 25)) fun e w' => ∃ y, e = .returned (.tuple #[y, .bool false]) ∧ Below (w.alloc (.cells #[.int .i64 k, .slice a1 n1 c1, .slice a2 m2 c2, .slice a3 n3 c3] 25)).heap.size (w.alloc (.cells #[.int .i64 k, .slice a1 n1 c1, .slice a2 m2 c2, .slice a3 n3 c3] 25)) w') := KR0 _ b1
  clear KR0 b1
  go_enter Try.func16, Try.ntmps16
  go_wp2_with fail
  refine KR.out.mono ?_
  rintro e w1 ⟨y, rfl, hb1⟩
  have HZ : Hid (Below w.heap.size w w1) := HBB.out.trans (hb1.mono HBB.out.size)
  clear hb1 q0 q1 q2 q3
  go_wp2_with fail
  go_ret2
  exact ⟨rfl, HZ.out⟩
set_option maxHeartbeats 4000000 in
set_option maxRecDepth 100000 in
theorem pairs_value (k : Int) (a1 a2 a3 : Option Addr) (n1 c1 m2 c2 n3 c3 : Nat) (w : World) (lo : Nat) (t : Nd) (m : Rt) (KR0 : ∀ wx : World, Below w.heap.size w wx → Calls Try.prog 22 #[.agg #[.int .i64 k, .slice a1 n1 c1, .slice a2 m2 c2, .slice a3 n3 c3], .int .i64 0] wx fun e w' => ∃ y, e = .returned (.tuple #[y, .bool true]) ∧ In lo w' t y (fun _ => True) ∧ Below wx.heap.size wx w') (hrs : Hid (Rs t)) (hm : Hid (rt t = some m)) (hok : Hid (Okp [] m)) (hN : Hid (m.length ≤ 1048576)) :
    Calls Try.prog 16 #[.agg #[.int .i64 k, .slice a1 n1 c1, .slice a2 m2 c2, .slice a3 n3 c3]] w fun e w' => ∃ v, e = .returned (.tuple #[v, .int .i64 0]) ∧ Pv (w.heap.size ≤ ·) (m.map jp) v w' ∧ Below w.heap.size w w' := by
  have b1 : Below w.heap.size w (w.alloc (.cells #[.int .i64 k, .slice a1 n1 c1, .slice a2 m2 c2, .slice a3 n3 c3] 25)) := (Below.refl _ _).alloc (Nat.le_refl _) _
  obtain ⟨_, q0, q1, q2, q3⟩ := Bx_new w (.int .i64 k, .slice a1 n1 c1, .slice a2 m2 c2, .slice a3 n3 c3)
  dsimp only at q0 q1 q2 q3
  have HBB : Hid (Below w.heap.size w (w.alloc (.cells #[.int .i64 k, .slice a1 n1 c1, .slice a2 m2 c2, .slice a3 n3 c3] 25))) := b1
  have KR : Hid (Calls Try.prog 22 #[.agg #[.int .i64 k, .slice a1 n1 c1, .slice a2 m2 c2, .slice a3 n3 c3], .int .i64 0] (w.alloc (.cells #[.int .i64 k, .slice a1 n1 c1, .slice a2 m2 c2, .slice a3 n3 c3] 25)) fun e w' => ∃ y, e = .returned (.tuple #[y, .bool true]) ∧ In lo w' t y (fun _ => True) ∧ Below (w.alloc (.cells #[.int .i64 k, .slice a1 n1 c1, .slice a2 m2 c2, .slice a3 n3 c3] 25)).heap.size (w.alloc (.cells #[.int .i64 k, .slice a1 n1 c1, .slice a2 m2 c2, .slice a3 n3 c3] 25)) w') := KR0 _ b1
  clear KR0 b1
  refine (callsIn_wide (n := 5)).1 ?_
  refine callsIn_of_wp_marks Try.func16 rfl trivial ?_ rfl
  simp only [Try.ntmps16, List.size_toArray, List.length_cons, List.length_nil, Nat.reduceAdd, Nat.reduceSub, Array.replicate_succ, Array.replicate_zero, List.push_toArray, List.append_toArray, List.nil_append, List.cons_append]
  gi_wp2_with fail
  refine ⟨trivial, (callsIn_wide.2 KR.out).mono ?_⟩
  rintro e W0 ⟨y, rfl, hin, hb1⟩
  obtain ⟨ty, yy, rfl⟩ := In_form hin
  have HZ : Hid (Below w.heap.size w W0) := HBB.out.trans (hb1.mono HBB.out.size)
  have HW : Hid (w.heap.size < W0.heap.size) := by have := hb1.size; show _ < _; simp at this; omega
  have HIN : Hid (In lo W0 t (.iface ty yy) (fun _ => True)) := hin
  clear hb1 hin q0 q1 q2 q3 KR HBB
  gi_wp2_with fail
  refine ⟨trivial, (callsIn_wide.2 (all_any ty yy _)).mono ?_⟩
  rintro e w2 ⟨rfl, rfl⟩
  gi_wp2_with fail
  have bL : Below W0.heap.size W0 ((W0.alloc (.cells #[.slice none 0 0] 35)).alloc (.cells #[.iface ty yy] 44)) := ((Below.refl _ _).alloc (Nat.le_refl _) _).alloc (by simp) _
  have hsL : ((W0.alloc (.cells #[.slice none 0 0] 35)).alloc (.cells #[.iface ty yy] 44)).heap.size = W0.heap.size + 2 := by simp
  have hbox : ((W0.alloc (.cells #[.slice none 0 0] 35)).alloc (.cells #[.iface ty yy] 44)).heap[W0.heap.size]? = some (.cells #[.slice none 0 0] 35 (0, 0)) := by
    rw [Below.heap_alloc _ _ _ (by simp)]
    exact heap_alloc_new W0 _
  have hbn : ((W0.alloc (.cells #[.slice none 0 0] 35)).alloc (.cells #[.iface ty yy] 44)).cell? ⟨W0.heap.size + 1, 0, none⟩ = some (.iface ty yy) := by
    have := heap_alloc_new (W0.alloc (.cells #[.slice none 0 0] 35)) (.cells #[.iface ty yy] 44)
    rw [show (W0.alloc (.cells #[.slice none 0 0] 35)).heap.size = W0.heap.size + 1 by simp] at this
    simp only [World.cell?, this]; rfl
  generalize ((W0.alloc (.cells #[.slice none 0 0] 35)).alloc (.cells #[.iface ty yy] 44)) = Wl at *
  have bwl : Below w.heap.size w Wl := HZ.out.trans (bL.mono HZ.out.size)
  have HWO := HW.out
  refine wpIn_range_buf (gf := 58) (lb := #[.pointer (some ⟨W0.heap.size + 1, 0, none⟩)]) rfl (enters_of Try.func58 (by kernel_rfl) rfl) rfl W0.heap.size 1048576 W0 rfl bL (PI w W0.heap.size (Wl.heap.size + 2))
    (fun s A B h hg => PI_gb h hg (by omega) (by omega)) (fun s A q o hq h => PI_put h (by omega) (by omega) (by omega)) ⟨⟨none, 0, 0, hbox, Po_nil _ _⟩, bwl⟩ m ?seq
    (fun pv vv => { tmps := #[.agg #[.int .i64 k, .slice a1 n1 c1, .slice a2 m2 c2, .slice a3 n3 c3], .pointer (some ⟨w.heap.size, 0, none⟩), .slice none 0 0, .int .i64 0, .iface ty yy, .bool true, .pointer (some ⟨W0.heap.size, 0, none⟩), pv, vv, undef, undef, .tuple #[.iface ty yy, .bool true], .agg #[.int .i64 k, .slice a1 n1 c1, .slice a2 m2 c2, .slice a3 n3 c3], .tuple #[.iface ty yy, .bool true], .iface ty yy, .bool true, .bool true, .bool false, .iface ty yy, .func (.func 58) #[] #[.pointer (some ⟨W0.heap.size + 1, 0, none⟩)], pv, vv, undef, undef, undef, undef, undef, undef, undef, undef, undef, undef, undef, undef, undef], defers := [] }) ?assign ?body ?done
  case seq =>
    intro J W1 hs1 hb1 hY hJ
    obtain ⟨WC, hr, hf, hbC⟩ := Bf_make W1.drew
    have hs1' : W1.drew.heap.size = Wl.heap.size + 2 := hs1
    rw [hs1'] at hr hf
    have bC : Below W1.heap.size W1 WC := ((Below.refl _ _).drew).trans hbC
    have hn0 : Below W0.heap.size W0 WC := by
      have h1 := bL.trans (hb1.mono bL.size)
      exact h1.trans (bC.mono h1.size)
    have hJ2 : J [] WC := hY.ab [] W1 WC hJ (bl_gb bC)
    refine (all1_any (Wl.heap.size + 1) (Wl.heap.size + 2) (W0.heap.size + 1) ty yy W1 WC (fun w' => J m w') hr (by omega) bC ((hb1.cell (p := ⟨W0.heap.size + 1, 0, none⟩) (by show W0.heap.size + 1 < Wl.heap.size; omega)).trans hbn) (fun W => nw_in HIN.out W) ?_).mono fun e w' he => he
    have hI := walk_all hY HIN.out hrs.out m hm.out [] [] WC (fun c hc => by cases hc) hok.out hJ2 hf hn0 (by rw [List.length_nil, Nat.zero_add]; exact hN.out)
    refine hI.mono fun e w' he => ⟨he.1, ?_⟩
    have := he.2.1
    rw [List.nil_append, show pre [] m = m from by unfold pre; simp] at this
    exact this
  case assign =>
    intro pv vv W K hK
    gi_wp2
    exact hK
  case done =>
    intro W hI hK
    obtain ⟨⟨a, n, c, h1, h2⟩, h3⟩ := hI
    have x0 : W.cell? ⟨W0.heap.size, 0, none⟩ = some (.slice a n c) := by simp only [World.cell?, h1]; rfl
    have HPV := Po_pv h2
    have HK : Hid (W.heap[Wl.heap.size]? = some (.deferred (some []))) := hK
    have hPV2 : Hid (Pv (w.heap.size ≤ ·) (m.map jp) (.slice a n c) (W.putObj Wl.heap.size (.deferred none))) := by
      obtain ⟨vs, g1, ⟨ao, cp, g2, g3, g4⟩, g5⟩ := HPV
      have KB : ∀ q, Wl.heap.size + 2 < q → (W.putObj Wl.heap.size (.deferred none)).heap[q]? = W.heap[q]? := fun q hq => World.putObj_heap_other (by omega)
      have KS : (W.putObj Wl.heap.size (.deferred none)).heap.size = W.heap.size := by simp [World.putObj]
      have BK : ∀ {b : By} {x : Value}, Bs (Wl.heap.size + 2 < ·) b x W → Bs (w.heap.size ≤ ·) b x (W.putObj Wl.heap.size (.deferred none)) := fun {b x} hb => by
        obtain ⟨ao, cap, g1, g2, g4⟩ := hb
        refine ⟨ao, cap, g1, g2, fun h0 => ?_⟩
        obtain ⟨q, off, e, hne, hlt, hc⟩ := g4 h0
        exact ⟨q, off, e, by show w.heap.size ≤ q; omega, by omega, fun j hj => (World.cell?_of_block (a := ⟨q, off + j, none⟩) (KB q hne)).trans (hc j hj)⟩
      refine ⟨vs, g1, ⟨ao, cp, g2, g3, fun h0 => ?_⟩, fun j hj => ⟨BK (g5 j hj).1, BK (g5 j hj).2⟩⟩
      obtain ⟨q, off, e, hne, hlt, hc⟩ := g4 h0
      exact ⟨q, off, e, by show w.heap.size ≤ q; omega, by omega, fun j hj => ⟨(World.cell?_of_block (a := ⟨q, off + 2 * j, none⟩) (KB q hne)).trans (hc j hj).1, (World.cell?_of_block (a := ⟨q, off + 2 * j + 1, none⟩) (KB q hne)).trans (hc j hj).2⟩⟩
    have hB2 : Hid (Below w.heap.size w (W.putObj Wl.heap.size (.deferred none))) := ⟨h3.os, h3.tape, h3.output, Nat.le_trans h3.size (by simp [World.putObj]), fun j hj => (World.putObj_heap_other (by omega)).trans (h3.block j hj)⟩
    clear h1 h2 h3 HPV hK
    gi_wp2
    refine ⟨by simp, .inl ⟨_, _, rfl, run_takeDeferred HK.out, ?_⟩⟩
    exact ⟨_, results_tmp2 rfl _ _ _, _, rfl, hPV2.out, hB2.out⟩
  case body =>
    intro s p v vv W hI hBf hp1 hp2 hp3 hV hv0 hv1 hbl hsN
    obtain ⟨⟨pa, pn, pc, hbx, hpo⟩, hbw⟩ := hI
    obtain ⟨va, vc, rfl, _⟩ := Bs_form hV
    have KJ : Hid (Calls Try.prog 35 #[.slice (some ⟨Wl.heap.size + 2, 0, none⟩) p.length 64] W fun e w' => ∃ a n c, e = .returned (.tuple #[.slice a n c, .int .i64 0]) ∧ Bs (W.heap.size ≤ ·) (jn p) (.slice a n c) w' ∧ Below W.heap.size W w') := join_bs (Bf_bs hBf) hp1 ⟨hp2, hp3⟩
    have HSL : Hid (Wl.heap.size = W0.heap.size + 2) := hsL
    have HSW : Hid (w.heap.size < W0.heap.size) := HWO
    have FA : Hid (PI w W0.heap.size (Wl.heap.size + 2) s W ∧ W.heap[W0.heap.size]? = some (.cells #[.slice pa pn pc] 35 (0, 0)) ∧ Po (Wl.heap.size + 2) (s.map jp) (.slice pa pn pc) W ∧ Bf (Wl.heap.size + 2) p W ∧ Bs (· < W0.heap.size) v (.slice va v.length vc) W ∧ v.length ≤ 1024 ∧ Below W0.heap.size W0 W ∧ s.length < 1048576) := ⟨⟨⟨pa, pn, pc, hbx, hpo⟩, hbw⟩, hbx, hpo, hBf, hV, hv1, hbl, hsN⟩
    clear hsL HWO hbx hpo hbw hBf hV hv0 hv1 hbl hsN hp1 hp2 hp3 hbox hbn bL bwl hrs hm hok hN HZ HW HIN
    generalize hvn : v.length = vn at *
    generalize hpl : p.length = np at *
    gi_wp2_with fail
    refine ⟨trivial, rfl, CallsIn.inRound _ ((callsIn_wide.2 KJ.out).mono ?_)⟩
    rintro e W1 ⟨ka, kn, kc, rfl, hkb, hb1⟩
    have HKB : Hid (Bs (W.heap.size ≤ ·) (jn p) (.slice ka kn kc) W1) := hkb
    have HB1 : Hid (Below W.heap.size W W1) := hb1
    clear hkb hb1 KJ
    gi_wp2_with fail
    obtain ⟨f1, f2, f3, f4, f5, f6, f7, f8⟩ := FA.out
    have e1 := HSL.out
    have e2 := HSW.out
    have e3 := Bf_lt f4
    have e4 := HB1.out.size
    have OWN : ∀ q, (Value.slice pa pn pc).ownBlock = some q → Wl.heap.size + 2 < q ∧ q < W.heap.size := fun q hq => by
      obtain ⟨vs, _, h2, _⟩ := f3
      have := h2.lt q hq
      exact ⟨by omega, this.2⟩
    have NEO : ∀ q, q ≤ Wl.heap.size + 2 → some q ≠ (Value.slice pa pn pc).ownBlock := fun q hq e => by have := (OWN q e.symm).1; omega
    have hbx1 : W1.drew.heap[W0.heap.size]? = some (.cells #[.slice pa pn pc] 35 (0, 0)) := (HB1.out.block _ (by omega)).trans f2
    have HBP : Hid (W0.heap.size < W1.drew.heap.size) := by show W0.heap.size < W1.heap.size; omega
    have C0 : Hid (W1.drew.cell? ⟨W0.heap.size, 0, none⟩ = some (.slice pa pn pc)) := by show _ = _; simp only [World.cell?, hbx1]; rfl
    have bD : Below W.heap.size W W1.drew := HB1.out.drew
    have KC : Hid (∀ wx : World, Below W1.drew.heap.size W1.drew wx → Calls Try.prog 26 #[.slice va vn vc] wx fun e w' => ∃ ca cn cc, e = .returned (.slice ca cn cc) ∧ Bs (wx.heap.size ≤ ·) v (.slice ca cn cc) w' ∧ Below wx.heap.size wx w') := fun wx hx => by
      refine (clone_call (Bs_below (Bs_below f5 bD) hx) (by omega)).mono fun e w' he => ?_
      obtain ⟨ca, cc, g1, g2, g3⟩ := he
      exact ⟨ca, _, cc, g1, g2, g3⟩
    have hpoA : Po (Wl.heap.size + 2) (s.map jp) (.slice pa pn pc) W1.drew := Po_keep f3 (fun q _ hq => bD.block q hq) bD.size
    have PAP : Hid (∀ (gb : Nat) (u30 : Value) (wx : World), Below W1.drew.heap.size W1.drew wx → Bs (W1.drew.heap.size ≤ ·) v u30 wx → wx.cell? ⟨gb, 0, none⟩ = some (.slice ka kn kc) → wx.cell? ⟨gb, 1, none⟩ = some u30 → ∃ g c W9, (Builtin.append_ #[35, 35] 35 #[.slice pa pn pc, .slice (some ⟨gb, 0, none⟩) 1 1]).run Try.prog wx = .ok (.slice (some ⟨g, 0, none⟩) ((s.map jp).length + 1) c) W9 ∧ Po (Wl.heap.size + 2) (s.map jp ++ [(jn p, v)]) (.slice (some ⟨g, 0, none⟩) ((s.map jp).length + 1) c) W9 ∧ wx.grownBy W9 (Value.slice pa pn pc).ownBlock ∧ (∀ q, (Value.slice pa pn pc).ownBlock = some q → Wl.heap.size + 2 < q)) := fun gb u30 wx hx hu c0 c1 => by
      have hz : W.heap.size ≤ W1.drew.heap.size := bD.size
      have hz2 := hx.size
      refine Po_app _ (Po_keep hpoA (fun q _ hq => hx.block q hq) hx.size) (Bs_mono (Bs_below (show Bs _ _ _ W1.drew from HKB.out) hx) (fun q hq _ => ⟨?_, fun e => ?_⟩)) (Bs_mono hu (fun q hq _ => ⟨?_, fun e => ?_⟩)) c0 c1 (by omega) (by rw [List.length_map]; omega)
      · have : W.heap.size ≤ q := hq; omega
      · have : W.heap.size ≤ q := hq; have := (OWN q e.symm).2; omega
      · have : W1.drew.heap.size ≤ q := hq; omega
      · have : W1.drew.heap.size ≤ q := hq; have := (OWN q e.symm).2; omega
    have BXF : Hid (∀ wx : World, W1.drew.grownBy wx (Value.slice pa pn pc).ownBlock → wx.heap[W0.heap.size]? = some (.cells #[.slice pa pn pc] 35 (0, 0)) ∧ wx.cell? ⟨W0.heap.size, 0, none⟩ = some (.slice pa pn pc) ∧ wx.frozen? ⟨W0.heap.size, 0, none⟩ = false) := fun wx hg => by
      have h1 := (hg.block _ HBP.out (NEO _ (by omega))).trans hbx1
      exact ⟨h1, by simp only [World.cell?, h1]; rfl, by simp only [World.frozen?, h1]; simp⟩
    have FIN : Hid (∀ (g n c : Nat) (wx : World), Po (Wl.heap.size + 2) (s.map jp ++ [(jn p, v)]) (.slice (some ⟨g, 0, none⟩) n c) wx → W1.drew.grownBy wx (Value.slice pa pn pc).ownBlock → (PI w W0.heap.size (Wl.heap.size + 2) (s ++ [(p, v)]) (wx.setCell ⟨W0.heap.size, 0, none⟩ (.slice (some ⟨g, 0, none⟩) n c)) ∧ Below W0.heap.size W (wx.setCell ⟨W0.heap.size, 0, none⟩ (.slice (some ⟨g, 0, none⟩) n c)) ∧ (wx.setCell ⟨W0.heap.size, 0, none⟩ (.slice (some ⟨g, 0, none⟩) n c)).heap[Wl.heap.size + 2]? = W.heap[Wl.heap.size + 2]? ∧ (wx.setCell ⟨W0.heap.size, 0, none⟩ (.slice (some ⟨g, 0, none⟩) n c)).heap[Wl.heap.size + 1]? = W.heap[Wl.heap.size + 1]? ∧ (wx.setCell ⟨W0.heap.size, 0, none⟩ (.slice (some ⟨g, 0, none⟩) n c)).heap[Wl.heap.size]? = W.heap[Wl.heap.size]?)) := fun g n c wx hp hg => by
      have h1 := (BXF.out wx hg).1
      have gW : W.grownBy wx (Value.slice pa pn pc).ownBlock := gb_trans (gb_below bD) hg
      have SM : ∀ q, q < W.heap.size → q ≠ W0.heap.size → some q ≠ (Value.slice pa pn pc).ownBlock → (wx.setCell ⟨W0.heap.size, 0, none⟩ (.slice (some ⟨g, 0, none⟩) n c)).heap[q]? = W.heap[q]? := fun q h2 h3 h4 => (Below.heap_setCell _ _ _ _ h3).trans (gW.block q h2 h4)
      have bS : ∀ x, x ≤ W0.heap.size → Below x W (wx.setCell ⟨W0.heap.size, 0, none⟩ (.slice (some ⟨g, 0, none⟩) n c)) := fun x hx => ⟨gW.os, gW.tape, gW.output, Nat.le_trans gW.size (by simp [World.setCell]), fun q hq => SM q (by omega) (by omega) (NEO q (by omega))⟩
      refine ⟨⟨⟨some ⟨g, 0, none⟩, n, c, ?_, ?_⟩, f1.b.trans (bS _ (by omega))⟩, bS _ (Nat.le_refl _), SM _ (by omega) (by omega) (NEO _ (by omega)), SM _ (by omega) (by omega) (NEO _ (by omega)), SM _ (by omega) (by omega) (NEO _ (by omega))⟩
      · exact heap_setCell_same h1 _
      · rw [List.map_append]
        exact Po_keep hp (fun q hq _ => Below.heap_setCell _ _ _ _ (by show q ≠ W0.heap.size; omega)) (by simp [World.setCell])
    have hw0 : PWx W1.drew (Wl.heap.size + 2) (jn p) v (.slice ka kn kc) (.slice pa pn pc) (s.map jp) (fun wx => PI w W0.heap.size (Wl.heap.size + 2) (s ++ [(p, v)]) wx ∧ Below W0.heap.size W wx ∧ wx.heap[Wl.heap.size + 2]? = W.heap[Wl.heap.size + 2]? ∧ wx.heap[Wl.heap.size + 1]? = W.heap[Wl.heap.size + 1]? ∧ wx.heap[Wl.heap.size]? = W.heap[Wl.heap.size]?) false false false false undef undef undef W1.drew := ⟨fun _ => Below.refl _ _, fun e => (by cases e), fun e => (by cases e), fun e => (by cases e), fun e => (by cases e), fun e => (by cases e), fun e => (by cases e), fun e => (by cases e), fun e => (by cases e)⟩
    clear f1 f2 f3 f4 f5 f6 f7 f8 e1 e2 e3 e4 OWN NEO hbx1 bD hpoA FA HSL HSW HKB HB1 hvn hpl
    generalize hPz : (fun wx => PI w W0.heap.size (Wl.heap.size + 2) (s ++ [(p, v)]) wx ∧ Below W0.heap.size W wx ∧ wx.heap[Wl.heap.size + 2]? = W.heap[Wl.heap.size + 2]? ∧ wx.heap[Wl.heap.size + 1]? = W.heap[Wl.heap.size + 1]? ∧ wx.heap[Wl.heap.size]? = W.heap[Wl.heap.size]?) = Pz at hw0
    have FIN2 : Hid (∀ (g n c : Nat) (wx : World), Po (Wl.heap.size + 2) (s.map jp ++ [(jn p, v)]) (.slice (some ⟨g, 0, none⟩) n c) wx → W1.drew.grownBy wx (Value.slice pa pn pc).ownBlock → Pz (wx.setCell ⟨W0.heap.size, 0, none⟩ (.slice (some ⟨g, 0, none⟩) n c))) := by
      subst hPz
      exact FIN.out
    have HPZ : Hid ((fun wx => PI w W0.heap.size (Wl.heap.size + 2) (s ++ [(p, v)]) wx ∧ Below W0.heap.size W wx ∧ wx.heap[Wl.heap.size + 2]? = W.heap[Wl.heap.size + 2]? ∧ wx.heap[Wl.heap.size + 1]? = W.heap[Wl.heap.size + 1]? ∧ wx.heap[Wl.heap.size]? = W.heap[Wl.heap.size]?) = Pz) := hPz
    clear FIN hPz
    refine RI.wpIn_region_inv (PRX W1.drew (Wl.heap.size + 2) W0.heap.size (jn p) v (s.map jp) Pz ka va pa kn kc vn vc pn pc (.agg #[.int .i64 k, .slice a1 n1 c1, .slice a2 m2 c2, .slice a3 n3 c3]) (.pointer (some ⟨w.heap.size, 0, none⟩)) (.slice none 0 0) (.int .i64 0) (.iface ty yy) (.bool true) (.slice (some ⟨Wl.heap.size + 2, 0, none⟩) np 64) (.int .i64 0) (.tuple #[.iface ty yy, .bool true]) (.agg #[.int .i64 k, .slice a1 n1 c1, .slice a2 m2 c2, .slice a3 n3 c3]) (.tuple #[.iface ty yy, .bool true]) (.iface ty yy) (.bool true) (.bool true) (.bool false) (.iface ty yy) (.func (.func 58) #[] #[.pointer (some ⟨W0.heap.size + 1, 0, none⟩)]) (.slice (some ⟨Wl.heap.size + 2, 0, none⟩) np 64) (.slice va vn vc) (.tuple #[.slice ka kn kc, .int .i64 0]) (.slice (some ⟨Wl.heap.size + 2, 0, none⟩) np 64) (.tuple #[.slice ka kn kc, .int .i64 0]) (.slice ka kn kc) (.int .i64 0)) (by kernel_rfl) (by kernel_rfl) ?_ ?_ ?_
    · exact ⟨undef, undef, undef, undef, undef, undef, undef, rfl, hw0, nofun, nofun, nofun, nofun, nofun, nofun, nofun, nofun⟩
    · skip
      intro d x wx i hI hi hm
      obtain ⟨u27, u28, u29, u30, u31, u32, u33, rfl, hw, p0, p1, p2, p4, y3, y4, y5, y6⟩ := hI
      have hi' : i = 0 ∨ i = 1 ∨ i = 2 ∨ i = 3 ∨ i = 4 ∨ i = 5 ∨ i = 6 ∨ i = 7 := by simp at hi; omega
      have hd := hm.2
      have hf := hm.1
      clear hm hi
      rcases hi' with rfl | rfl | rfl | rfl | rfl | rfl | rfl | rfl
      · refine RI.wpOpIn_plain rfl rfl (RI.wpIn_round nofun ?_)
        have h6 : d 6 = false := by
          cases h : d 6 with
          | false => rfl
          | true => have := y6 h; rw [hf] at this; cases this
        have x0 := ((hw.a h6).cell (p := ⟨W0.heap.size, 0, none⟩) HBP.out).trans C0.out
        go_simp
        exact ⟨_, u28, u29, u30, u31, u32, u33, rfl, hw, fun _ => rfl, p1, p2, p4, y3, y4, y5, fun _ => rfl⟩
      · refine RI.wpOpIn_plain rfl rfl (RI.wpIn_round nofun ?_)
        go_simp
        exact ⟨u27, _, u29, u30, u31, u32, u33, rfl, hw, p0, fun _ => rfl, p2, p4, y3, y4, y5, y6⟩
      · refine RI.wpOpIn_plain rfl rfl (RI.wpIn_round nofun ?_)
        go_simp
        exact ⟨u27, u28, _, u30, u31, u32, u33, rfl, hw, p0, p1, fun _ => rfl, p4, y3, y4, y5, y6⟩
      · have hd := hd _ rfl
        simp [Region.binds] at hd
        obtain rfl := p2 (by simp [hd])
        refine RI.wpOpIn_plain rfl rfl (RI.wpIn_round nofun ?_)
        have h6 : d 6 = false := hw.n6 (hw.n5 hf)
        go_simp
        refine (KC.out _ (hw.a h6)).mono ?_
        rintro e w1 ⟨ca, cn, cc, rfl, hbs, hb1⟩
        refine ⟨_, rfl, ?_⟩
        exact ⟨u27, u28, _, _, u31, u32, u33, rfl, hw.s3 hf ⟨_, _, _, rfl⟩ hbs hb1, p0, p1, p2, fun h => absurd (y4 h) (by rw [hf]; decide), fun _ => trivial, fun _ => rfl, y5, y6⟩
      · have hd := hd _ rfl
        simp [Region.binds] at hd
        obtain rfl := p1 (by simp [hd])
        refine RI.wpOpIn_plain rfl rfl (RI.wpIn_round nofun ?_)
        obtain ⟨ca, cn, cc, rfl⟩ := hw.b1 (by simp [hd])
        go_simp
        exact ⟨u27, _, u29, _, _, u32, u33, rfl, hw, p0, p1, p2, fun _ => rfl, y3, fun _ => (show d 3 = true by simp [hd]), y5, y6⟩
      · have hd := hd _ rfl
        simp [Region.binds] at hd
        obtain rfl := p4 (by simp [hd])
        refine RI.wpOpIn_plain rfl rfl (RI.wpIn_round nofun ?_)
        have h3 : d 3 = true := y4 (by simp [hd])
        obtain ⟨ca, cn, cc, rfl⟩ := hw.b1 h3
        go_simp
        exact ⟨u27, u28, u29, _, _, _, u33, rfl, hw.s5 hf h3 ((Below.refl _ _).alloc (Nat.le_refl _) _) ⟨_, rfl, by simp, by simp only [World.cell?, heap_alloc_new]; rfl, by simp only [World.cell?, heap_alloc_new]; rfl⟩, p0, p1, p2, p4, y3, y4, fun _ => trivial, y6⟩
      · have hd := hd _ rfl
        simp [Region.binds] at hd
        obtain rfl := p0 (by simp [hd])
        refine RI.wpOpIn_plain rfl rfl (RI.wpIn_round nofun ?_)
        obtain ⟨gb, rfl, hgb, hc0, hc1⟩ := hw.c (by simp [hd]) hf
        obtain ⟨gg, gc, W9, hr, hpo, hgr, hgo⟩ := PAP.out _ _ _ (hw.a hf) (hw.b (by simp [hd]) hf) hc0 hc1
        refine upw_ap rfl rfl rfl hr ?_
        simp only [Act.put]
        exact ⟨_, u28, u29, u30, u31, _, _, rfl, hw.s6 hf (by simp [hd]) ⟨_, _, _, rfl⟩ hpo hgr, p0, p1, p2, p4, y3, y4, y5, fun _ => (show d 0 = true by simp [hd])⟩
      · have hd := hd _ rfl
        simp [Region.binds] at hd
        obtain rfl := p0 (by simp [hd])
        obtain rfl := p1 (by simp [hd])
        obtain rfl := p2 (by simp [hd])
        obtain rfl := p4 (by simp [hd])
        refine RI.wpOpIn_plain rfl rfl (RI.wpIn_round nofun ?_)
        obtain ⟨⟨gg, gn, gc, rfl⟩, hpo, hgr⟩ := hw.e (by simp [hd]) hf
        obtain ⟨xb, xc, xf⟩ := BXF.out _ hgr
        go_simp
        exact ⟨_, _, _, u30, _, u32, _, rfl, hw.s7 (by simp [hd]) (FIN2.out _ _ _ _ hpo hgr), p0, p1, p2, p4, y3, y4, y5, y6⟩
    · skip
      intro d x wx hI hd
      obtain ⟨u27, u28, u29, u30, u31, u32, u33, rfl, hw, p0, p1, p2, p4, y3, y4, y5, y6⟩ := hI
      have hz := hw.z (hd 7 (by decide))
      rw [← HPZ.out] at hz
      exact ⟨rfl, hz.1, hz.2.1, hz.2.2.1, hz.2.2.2.1, hz.2.2.2.2⟩
end Tr
end Go.Proofs.Ytdcbgldelfhohaa
/- lampbearerref.grown: a fork. -/
namespace Go.Proofs.Ytdcbgldelfhohaa
namespace Tr
open Nb Go.RowKit
structure GX (w : World) (B g2 g4 gk : Nat) (v : By) (vv : Value) (T : Nat → Nd) (i lo : Nat) (pt : Rt) (pv : Value) (f : Bool) (wx : World) : Prop where
  a : f = false → GO w B g2 g4 gk v vv T i wx
  o : f = false → Ow lo pt pv wx
  e : f = true → GO w B g2 g4 gk v vv T (i + 1) wx
theorem GX_below {w : World} {B g2 g4 gk : Nat} {v : By} {vv : Value} {T : Nat → Nd} {i lo : Nat} {pt : Rt} {pv : Value} {f : Bool} {wx w' : World} (h : GX w B g2 g4 gk v vv T i lo pt pv f wx) (hb : Below wx.heap.size wx w') : GX w B g2 g4 gk v vv T i lo pt pv f w' :=
  ⟨fun e => GO_below (h.a e) hb, fun e => Pk.ownb (h.o e) hb, fun e => GO_below (h.e e) hb⟩
theorem there_sub {w : World} {g i : Nat} (h : w.there g 0 64) (hi : i < 16) : w.there g (i * 4) 4 := fun j hj => by
  have := h (i * 4 + j) (by omega)
  rwa [Nat.zero_add] at this
structure GV (w : World) (B g2 g4 gk : Nat) (v : By) (T : Nat → Nd) (f8 f9 : Bool) (sl u0 : Value) (wx : World) : Prop where
  a : f8 = false → GO w B g2 g4 gk [] (.slice none 0 0) T 0 wx
  b : Below w.heap.size w wx
  e : f8 = true → ∃ a c, GO w B g2 g4 gk v (.slice a v.length c) T 0 wx
  m : f9 = false → u0 = sl
theorem GV_set {w : World} {B g2 g4 gk : Nat} {v : By} {T : Nat → Nd} {wx : World} {a : Option Addr} {c : Nat} (h : GO w B g2 g4 gk [] (.slice none 0 0) T 0 wx) (hne : g2 ≠ g4 ∧ gk ≠ g4 ∧ g4 < B ∧ w.heap.size ≤ g4) (hb : Bs (B ≤ ·) v (.slice a v.length c) wx) : GO w B g2 g4 gk v (.slice a v.length c) T 0 (wx.setCell ⟨g4, 2, none⟩ (.slice a v.length c)) := by
  have gb := gb_set wx g4 2 (.slice a v.length c)
  have NE : ∀ k, B ≤ k → some k ≠ some g4 := fun k hk e => by injection e with e; omega
  exact ⟨h.b.grown gb h.b.size (fun k e => by injection e with e; omega), Nat.le_trans h.s gb.size, B4_gb h.v gb (fun e => by injection e with e; exact hne.1 e), F4_set h.f _, KB_gb h.k gb (fun e => by injection e with e; exact hne.2.1 e) NE, Bs_gb hb gb NE⟩
theorem st_head : ∀ (x : By) (_ : x ≠ []) (h : 0 < (st x).size), ((st x)[0]'h).toNat = (x.headD 0).toNat
  | [], hx, _ => absurd rfl hx
  | _ :: _, _, _ => rfl
theorem msr_up' (k n : Nat) (h : k < n) : ((n : Int) - intOf (.int .i64 ((k : Int) + 1))).toNat < ((n : Int) - intOf (.int .i64 (k : Int))).toNat := by
  simp only [intOf]
  omega
inductive GK21n (w : World) (B lo : Nat) (T : Nat → Nd) (v : By) (pt : Rt) (g off n cap g2 g4 gk i k : Nat) (X : ByteArray) (oa : Option Addr) (on oc : Nat) (v8 v27 v28 v29 v30 v31 v32 v33 v34 v35 v36 v37 v38 v39 v40 v78 v79 v80 v81 v82 v83 v84 v85 v86 v87 v88 v89 v90 v98 : Value) (d : Nat → Bool) (x : Act) (wx : World) : Prop where
  | mk (u91 u92 u93 u94 u95 u96 u97 : Value) (hx : x = { tmps := #[.slice (some ⟨g, off, none⟩) n cap, undef, .pointer (some ⟨g2, 0, none⟩), .int .i64 0, .pointer (some ⟨g4, 0, none⟩), .int .i64 (i : Int), .slice oa on oc, undef, v8, .slice (some ⟨g, off, none⟩) n cap, .int .i64 (n : Int), .bool false, undef, .slice (some ⟨g, off, none⟩) n cap, .int .i64 (n : Int), .bool false, undef, undef, undef, undef, undef, undef, undef, undef, undef, undef, undef, v27, v28, v29, v30, v31, v32, v33, v34, v35, v36, v37, v38, v39, v40, .int .i64 0, .bool false, undef, undef, undef, undef, undef, undef, undef, undef, undef, undef, undef, undef, undef, .slice (some ⟨gk, 0, none⟩) 16 16, .agg #[.int .i64 3, .slice none 0 0, .slice none 0 0, .slice (some ⟨gk, 0, none⟩) 16 16], .slice (some ⟨g, off, none⟩) n cap, .pointer (some ⟨g, off, none⟩), .pointer (some ⟨g, off, none⟩), .string X, .bool false, undef, undef, undef, undef, undef, undef, undef, undef, .int .i64 (i : Int), .bool true, .int .i64 (i : Int), .slice (some ⟨g, off, none⟩) n cap, .int .i64 (n : Int), .int .i64 (k : Int), .bool false, v78, v79, v80, v81, v82, v83, v84, v85, v86, v87, v88, v89, v90, u91, u92, u93, u94, u95, u96, u97, v98, undef], defers := [] }) (hw : GX w B g2 g4 gk v (.slice none 0 0) T i lo pt (.slice oa on oc) (d 7) wx) (p0 : d 0 = true → u91 = .pointer (some ⟨g4, 3, none⟩)) (p1 : d 1 = true → u92 = .slice (some ⟨gk, 0, none⟩) 16 16) (p2 : d 2 = true → u93 = .int .i64 (i : Int)) (p3 : d 3 = true → u94 = .slice oa on oc) (p6 : d 6 = true → u97 = .pointer (some ⟨gk, i * 4, none⟩)) (z4 : d 4 = true → d 7 = false → Rv (cut 1 pt) u95 wx) (z5 : d 5 = true → ∃ y, u96 = v4 y ∧ (d 7 = false → Nv (B ≤ ·) wx (T i) y)) (y7 : d 7 = true → d 1 = true ∧ d 4 = true ∧ d 5 = true) : GK21n w B lo T v pt g off n cap g2 g4 gk i k X oa on oc v8 v27 v28 v29 v30 v31 v32 v33 v34 v35 v36 v37 v38 v39 v40 v78 v79 v80 v81 v82 v83 v84 v85 v86 v87 v88 v89 v90 v98 d x wx
set_option maxHeartbeats 4000000 in
set_option maxRecDepth 100000 in
theorem grown_fork_n (l M : Rt) (p q v : By) (g off cap n m : Nat) (w : World) (hn : 2 ≤ n) (hm : m + 1 = n) (hn2 : n ≤ 1048576) (hln : l.length = n) (_hcap : n ≤ cap) (hg0 : g < w.heap.size) (hp : (l.getD 0 n2).1 = p) (hq : (l.getD m n2).1 = q) (hp0 : p ≠ []) (hv : v = []) (hM : M = l) (hM1 : Hid (∀ r ∈ M, r.1 ≠ []))
    (hcl : Hid (∀ j, j < l.length → w.cell? ⟨g, off + 2 * j, none⟩ = some (.string (st (l.getD j n2).1)) ∧ w.cell? ⟨g, off + 2 * j + 1, none⟩ = some (.string (st (l.getD j n2).2))))
    (T : Nat → Nd) (KG : Hid (∀ (i : Nat) (x : Value) (wx : World), i < 16 → Rv (cut 1 (prt i M)) x wx → Calls Try.prog 24 #[x] wx fun e w' => ∃ y : V4, e = .returned (v4 y) ∧ Nv (wx.heap.size ≤ ·) w' (T i) y ∧ Below wx.heap.size wx w'))
    (hpl : p.length ≤ 4194304) (hql : q.length ≤ 4194304) (KN : Hid (∀ (a b : Value) (wx : World), SlC p a wx → SlC q b wx → Calls Try.prog 43 #[a, b] wx fun e w' => e = .returned (.int .i64 0) ∧ Below wx.heap.size wx w')) :
    Calls Try.prog 24 #[.slice (some ⟨g, off, none⟩) n cap] w fun e w' => ∃ u : V4, e = .returned (v4 u) ∧ Nv (w.heap.size ≤ ·) w' (.mk 3 [] v ((List.range 16).map T)) u ∧ Below w.heap.size w w' := by
  have h0 : w.cell? ⟨g, off, none⟩ = some (.string (st p)) := by have := (hcl.out 0 (by omega)).1; rw [hp] at this; exact this
  have h1 : w.cell? ⟨g, off + m * 2, none⟩ = some (.string (st q)) := by have := (hcl.out m (by omega)).1; rw [hq, Nat.mul_comm] at this; exact this
  have B0 : Below w.heap.size w (w.alloc (.cells #[.int .i64 0, .slice none 0 0, .slice none 0 0, .slice none 0 0] 25)) := (Below.refl _ _).alloc (Nat.le_refl _) _
  have k0 := (B0.cell (p := ⟨g, off, none⟩) hg0).trans h0
  have l0 := (B0.cell (p := ⟨g, off + m * 2, none⟩) hg0).trans h1
  have hg : g < (w.alloc (.cells #[.int .i64 0, .slice none 0 0, .slice none 0 0, .slice none 0 0] 25)).heap.size := Nat.lt_of_lt_of_le hg0 B0.size
  have HX : Hid (∀ W : World, ∃ c W', (convert 9 22 (.string (st p))).run Try.prog W = .ok (.slice (some ⟨W.heap.size, 0, none⟩) p.length c) W' ∧ SlC p (.slice (some ⟨W.heap.size, 0, none⟩) p.length c) W' ∧ W'.heap.size = W.heap.size + 1 ∧ Below W.heap.size W W') := st_slc p hpl
  have HY : Hid (∀ W : World, ∃ c W', (convert 9 22 (.string (st q))).run Try.prog W = .ok (.slice (some ⟨W.heap.size, 0, none⟩) q.length c) W' ∧ SlC q (.slice (some ⟨W.heap.size, 0, none⟩) q.length c) W' ∧ W'.heap.size = W.heap.size + 1 ∧ Below W.heap.size W W') := st_slc q hql
  have HV : Hid (∀ W : World, ∃ c W', (convert 9 22 (.string (st v))).run Try.prog W = .ok (.slice (some ⟨W.heap.size, 0, none⟩) v.length c) W' ∧ Pk.Sl v (.slice (some ⟨W.heap.size, 0, none⟩) v.length c) W' ∧ W'.heap.size = W.heap.size + 1 ∧ Below W.heap.size W W') := st_sl v
  have BV := B4_new w
  have HGL : Hid (w.heap.size ≤ (w.alloc (.cells #[.int .i64 0, .slice none 0 0, .slice none 0 0, .slice none 0 0] 25)).heap.size) := B0.size
  have HG2 : Hid (w.heap.size < (w.alloc (.cells #[.int .i64 0, .slice none 0 0, .slice none 0 0, .slice none 0 0] 25)).heap.size) := by show _ < _; simp
  have e0 : ((n : Int) == 0) = false := beq_eq_false_iff_ne.2 (by omega)
  have e1 : ((n : Int) == 1) = false := beq_eq_false_iff_ne.2 (by omega)
  have e2 : (n == 0) = false := beq_eq_false_iff_ne.2 (by omega)
  have e3 : (n == 1) = false := beq_eq_false_iff_ne.2 (by omega)
  have i0 : (0 : Int) < (n : Int) := by omega
  have i1 : IntKind.i64.wrap ((n : Int) - 1) = (m : Int) := by rw [IntKind.wrap_i64]; omega
  have i2 : (0 : Int) ≤ (m : Int) := by omega
  have i3 : (m : Int) < (n : Int) := by omega
  have i4 : 0 < n := by omega
  have i5 : m < n := by omega
  have HC0 : Hid (g < w.heap.size) := hg0
  have HN : Hid (l.length = n ∧ 2 ≤ n ∧ n ≤ 1048576 ∧ m + 1 = n) := ⟨hln, hn, hn2, hm⟩
  have HM : Hid (M = l) := hM
  have HXI : Hid ((st p).toList.isEmpty = false) := by show _ = _; rw [st_list]; cases p with | nil => exact absurd rfl hp0 | cons _ _ => rfl
  have HVE : Hid (v = []) := hv
  have HML : Hid (M.length = n) := by show _ = _; rw [hM]; exact hln
  have HMC : Hid (∀ j, j < n → w.cell? ⟨g, off + 2 * j, none⟩ = some (.string (st (M.getD j n2).1)) ∧ w.cell? ⟨g, off + 2 * j + 1, none⟩ = some (.string (st (M.getD j n2).2))) := by rw [hM]; rw [← hln]; exact hcl.out
  clear hp hq hM hn hm hn2 hln hp0 hv
  generalize st p = X at *
  generalize st q = Y at *
  clear h1 hg0
  go_enter Try.func24, Try.ntmps24
  go_upto_region 5 with fail
  generalize w.alloc (.cells #[.int .i64 0, .slice none 0 0, .slice none 0 0, .slice none 0 0] 25) = W0 at *
  obtain ⟨g2, eg2⟩ : ∃ g2, g2 = w.heap.size := ⟨_, rfl⟩
  have HG2B : Hid (w.heap.size ≤ g2) := by show _ ≤ _; omega
  rw [← eg2] at BV HG2 ⊢
  have E2 : Hid (g2 = w.heap.size) := eg2
  clear eg2
  have hw0 : Below W0.heap.size W0 W0.drew := (Below.refl _ _).drew
  refine RI.wp_region_inv (GC5 W0 p q g off n m cap g2 0 X Y) (by kernel_rfl) (by kernel_rfl) ?_ ?_ ?_
  · exact ⟨undef, undef, undef, undef, undef, undef, undef, undef, undef, undef, undef, undef, undef, undef, undef, rfl, hw0, nofun, nofun, nofun, nofun, nofun, nofun, nofun, nofun, nofun, nofun, nofun, nofun, nofun, nofun, nofun⟩
  · skip
    intro d x wx i hI hi hm
    obtain ⟨u3, u27, u28, u29, u30, u31, u32, u33, u34, u35, u36, u37, u38, u39, u40, rfl, hw, p0, p1, p2, p3, p5, p6, p7, p8, p9, p10, p11, p13, p14, z4, z12⟩ := hI
    have hi' : i = 0 ∨ i = 1 ∨ i = 2 ∨ i = 3 ∨ i = 4 ∨ i = 5 ∨ i = 6 ∨ i = 7 ∨ i = 8 ∨ i = 9 ∨ i = 10 ∨ i = 11 ∨ i = 12 ∨ i = 13 ∨ i = 14 := by simp at hi; omega
    have hd := hm.2
    have hf := hm.1
    clear hm hi
    rcases hi' with rfl | rfl | rfl | rfl | rfl | rfl | rfl | rfl | rfl | rfl | rfl | rfl | rfl | rfl | rfl
    · refine RI.wpOp_plain rfl rfl ?_
      go_simp
      exact ⟨u3, _, u28, u29, u30, u31, u32, u33, u34, u35, u36, u37, u38, u39, u40, rfl, hw, fun _ => rfl, p1, p2, p3, p5, p6, p7, p8, p9, p10, p11, p13, p14, z4, z12⟩
    · have hd := hd _ rfl
      simp [Region.binds] at hd
      obtain rfl := p0 (by simp [hd])
      refine RI.wpOp_plain rfl rfl ?_
      go_simp
      exact ⟨u3, _, _, u29, u30, u31, u32, u33, u34, u35, u36, u37, u38, u39, u40, rfl, hw, p0, fun _ => rfl, p2, p3, p5, p6, p7, p8, p9, p10, p11, p13, p14, z4, z12⟩
    · have hd := hd _ rfl
      simp [Region.binds] at hd
      obtain rfl := p1 (by simp [hd])
      refine RI.wpOp_plain rfl rfl ?_
      go_simp
      exact ⟨u3, u27, _, _, u30, u31, u32, u33, u34, u35, u36, u37, u38, u39, u40, rfl, hw, p0, p1, fun _ => rfl, p3, p5, p6, p7, p8, p9, p10, p11, p13, p14, z4, z12⟩
    · have hd := hd _ rfl
      simp [Region.binds] at hd
      obtain rfl := p2 (by simp [hd])
      refine RI.wpOp_plain rfl rfl ?_
      have x0 := (hw.cell (p := ⟨g, off, none⟩) hg).trans k0
      go_simp
      exact ⟨u3, u27, u28, _, _, u31, u32, u33, u34, u35, u36, u37, u38, u39, u40, rfl, hw, p0, p1, p2, fun _ => rfl, p5, p6, p7, p8, p9, p10, p11, p13, p14, z4, z12⟩
    · have hd := hd _ rfl
      simp [Region.binds] at hd
      obtain rfl := p3 (by simp [hd])
      refine RI.wpOp_plain rfl rfl ?_
      obtain ⟨cq, w1, hcv, hs1, hsz, hb1⟩ := HX.out wx
      go_simp
      exact ⟨u3, u27, u28, u29, _, _, u32, u33, u34, u35, u36, u37, u38, u39, u40, rfl, hw.trans (hb1.mono hw.size), p0, p1, p2, p3, p5, p6, p7, p8, p9, p10, p11, p13, p14, fun _ => hs1, (fun h => SlC_below (z12 h) hb1)⟩
    · refine RI.wpOp_plain rfl rfl ?_
      go_simp
      exact ⟨u3, u27, u28, u29, u30, u31, _, u33, u34, u35, u36, u37, u38, u39, u40, rfl, hw, p0, p1, p2, p3, fun _ => rfl, p6, p7, p8, p9, p10, p11, p13, p14, z4, z12⟩
    · refine RI.wpOp_plain rfl rfl ?_
      go_simp
      exact ⟨u3, u27, u28, u29, u30, u31, u32, _, u34, u35, u36, u37, u38, u39, u40, rfl, hw, p0, p1, p2, p3, p5, fun _ => rfl, p7, p8, p9, p10, p11, p13, p14, z4, z12⟩
    · have hd := hd _ rfl
      simp [Region.binds] at hd
      obtain rfl := p6 (by simp [hd])
      refine RI.wpOp_plain rfl rfl ?_
      go_simp
      exact ⟨u3, u27, u28, u29, u30, u31, u32, _, _, u35, u36, u37, u38, u39, u40, rfl, hw, p0, p1, p2, p3, p5, p6, fun _ => rfl, p8, p9, p10, p11, p13, p14, z4, z12⟩
    · have hd := hd _ rfl
      simp [Region.binds] at hd
      obtain rfl := p7 (by simp [hd])
      refine RI.wpOp_plain rfl rfl ?_
      go_simp
      exact ⟨u3, u27, u28, u29, u30, u31, u32, u33, _, _, u36, u37, u38, u39, u40, rfl, hw, p0, p1, p2, p3, p5, p6, p7, fun _ => rfl, p9, p10, p11, p13, p14, z4, z12⟩
    · have hd := hd _ rfl
      simp [Region.binds] at hd
      obtain rfl := p5 (by simp [hd])
      obtain rfl := p8 (by simp [hd])
      refine RI.wpOp_plain rfl rfl ?_
      go_simp
      exact ⟨u3, u27, u28, u29, u30, u31, _, u33, u34, _, _, u37, u38, u39, u40, rfl, hw, p0, p1, p2, p3, p5, p6, p7, p8, fun _ => rfl, p10, p11, p13, p14, z4, z12⟩
    · have hd := hd _ rfl
      simp [Region.binds] at hd
      obtain rfl := p9 (by simp [hd])
      refine RI.wpOp_plain rfl rfl ?_
      go_simp
      exact ⟨u3, u27, u28, u29, u30, u31, u32, u33, u34, u35, _, _, u38, u39, u40, rfl, hw, p0, p1, p2, p3, p5, p6, p7, p8, p9, fun _ => rfl, p11, p13, p14, z4, z12⟩
    · have hd := hd _ rfl
      simp [Region.binds] at hd
      obtain rfl := p10 (by simp [hd])
      refine RI.wpOp_plain rfl rfl ?_
      have x0 := (hw.cell (p := ⟨g, off + m * 2, none⟩) hg).trans l0
      go_simp
      exact ⟨u3, u27, u28, u29, u30, u31, u32, u33, u34, u35, u36, _, _, u39, u40, rfl, hw, p0, p1, p2, p3, p5, p6, p7, p8, p9, p10, fun _ => rfl, p13, p14, z4, z12⟩
    · have hd := hd _ rfl
      simp [Region.binds] at hd
      obtain rfl := p11 (by simp [hd])
      refine RI.wpOp_plain rfl rfl ?_
      obtain ⟨cq, w1, hcv, hs1, hsz, hb1⟩ := HY.out wx
      go_simp
      exact ⟨u3, u27, u28, u29, u30, u31, u32, u33, u34, u35, u36, u37, _, _, u40, rfl, hw.trans (hb1.mono hw.size), p0, p1, p2, p3, p5, p6, p7, p8, p9, p10, p11, p13, p14, (fun h => SlC_below (z4 h) hb1), fun _ => hs1⟩
    · have hd := hd _ rfl
      simp [Region.binds] at hd
      refine RI.wpOp_plain rfl rfl ?_
      go_simp
      refine (KN.out _ _ _ (z4 (by simp [hd])) (z12 (by simp [hd]))).mono ?_
      rintro e w1 ⟨rfl, hb1⟩
      exact ⟨u3, u27, u28, u29, u30, u31, u32, u33, u34, u35, u36, u37, u38, u39, _, rfl, hw.trans (hb1.mono hw.size), p0, p1, p2, p3, p5, p6, p7, p8, p9, p10, p11, fun _ => rfl, p14, (fun h => SlC_below (z4 h) hb1), (fun h => SlC_below (z12 h) hb1)⟩
    · have hd := hd _ rfl
      simp [Region.binds] at hd
      obtain rfl := p0 (by simp [hd])
      obtain rfl := p1 (by simp [hd])
      obtain rfl := p2 (by simp [hd])
      obtain rfl := p3 (by simp [hd])
      obtain rfl := p5 (by simp [hd])
      obtain rfl := p6 (by simp [hd])
      obtain rfl := p7 (by simp [hd])
      obtain rfl := p8 (by simp [hd])
      obtain rfl := p9 (by simp [hd])
      obtain rfl := p10 (by simp [hd])
      obtain rfl := p11 (by simp [hd])
      obtain rfl := p13 (by simp [hd])
      refine RI.wpOp_plain rfl rfl ?_
      go_simp
      exact ⟨_, _, _, _, _, u31, _, _, _, _, _, _, _, u39, _, rfl, hw, p0, p1, p2, p3, p5, p6, p7, p8, p9, p10, p11, p13, fun _ => rfl, z4, z12⟩
  · skip
    intro d x wx hI hd
    obtain ⟨u3, u27, u28, u29, u30, u31, u32, u33, u34, u35, u36, u37, u38, u39, u40, rfl, hw, p0, p1, p2, p3, p5, p6, p7, p8, p9, p10, p11, p13, p14, z4, z12⟩ := hI
    obtain rfl := p14 (hd 14 (by decide))
    clear p0 p1 p2 p3 p5 p6 p7 p8 p9 p10 p11 p13 z4 z12
    obtain ⟨w8, hr8, hs8, ht8, hb8⟩ := made16 wx
    have hXi : X.toList.isEmpty = false := HXI.out
    have HW8 : Hid (Below W0.heap.size W0 w8) := hw.trans (hb8.mono hw.size)
    have HA4 := heap_alloc_new w8 (.cells #[.int .i64 3, .slice none 0 0, .slice none 0 0, .slice (some ⟨wx.heap.size, 0, none⟩) 16 16] 25)
    have HB4 : Below w8.heap.size w8 (w8.alloc (.cells #[.int .i64 3, .slice none 0 0, .slice none 0 0, .slice (some ⟨wx.heap.size, 0, none⟩) 16 16] 25)) := (Below.refl _ _).alloc (Nat.le_refl _) _
    have HF4 : F4 w8.heap.size wx.heap.size (.slice none 0 0) (w8.alloc (.cells #[.int .i64 3, .slice none 0 0, .slice none 0 0, .slice (some ⟨wx.heap.size, 0, none⟩) 16 16] 25)) := by
      refine ⟨by simp, ?_, ?_, ?_, ?_, fun o => by simp only [World.frozen?, HA4]; simp⟩ <;> (simp only [World.cell?, HA4]; rfl)
    have G0 : GO w (w8.alloc (.cells #[.int .i64 3, .slice none 0 0, .slice none 0 0, .slice (some ⟨wx.heap.size, 0, none⟩) 16 16] 25)).heap.size g2 w8.heap.size wx.heap.size v (.slice none 0 0) T 0 (w8.alloc (.cells #[.int .i64 3, .slice none 0 0, .slice none 0 0, .slice (some ⟨wx.heap.size, 0, none⟩) 16 16] 25)) := by
      have b8 : Below W0.heap.size W0 (w8.alloc (.cells #[.int .i64 3, .slice none 0 0, .slice none 0 0, .slice (some ⟨wx.heap.size, 0, none⟩) 16 16] 25)) := HW8.out.trans (HB4.mono HW8.out.size)
      exact ⟨B0.trans (b8.mono HGL.out), Nat.le_refl _, B4_gb (r := none) BV (gb_below b8) (fun e => by cases e), HF4, ⟨Nat.lt_of_lt_of_le (by omega) HB4.size, there_gb (r := none) ht8 (by omega) (gb_below HB4) (fun e => by cases e), fun _ => n4, fun j hj => absurd hj (by omega)⟩, by rw [HVE.out]; exact Bs_nil _ _⟩
    have HG4 : Hid (g2 < wx.heap.size ∧ wx.heap.size < w8.heap.size ∧ w8.heap.size < (w8.alloc (.cells #[.int .i64 3, .slice none 0 0, .slice none 0 0, .slice (some ⟨wx.heap.size, 0, none⟩) 16 16] 25)).heap.size) := ⟨Nat.lt_of_lt_of_le HG2.out hw.size, by omega, by simp⟩
    have x8 := (HW8.out.cell (p := ⟨g, off, none⟩) hg).trans k0
    have x9 := ((HW8.out.trans (HB4.mono HW8.out.size)).cell (p := ⟨g, off, none⟩) hg).trans k0
    have HNE0 := HG4.out
    clear HX HY KN HF4 HA4 hw0
    have HS8 : Hid (w8.heap.size = wx.heap.size + 1) := hs8
    clear hs8
    generalize wx.heap.size = gk at *
    go_wp2_with fail
    generalize w8.alloc (.cells #[.int .i64 3, .slice none 0 0, .slice none 0 0, .slice (some ⟨gk, 0, none⟩) 16 16] 25) = W1 at *
    clear x8 x9 hr8 ht8 hb8 hw HB4
    generalize hg4 : w8.heap.size = g4 at *
    have HLT2 : Hid (g2 < gk ∧ gk < W1.heap.size) := ⟨by omega, by omega⟩
    have HNE : Hid (g2 ≠ gk ∧ g4 ≠ gk ∧ w.heap.size ≤ gk ∧ gk < W1.heap.size) := ⟨by omega, by omega, by have := HG2B.out; omega, by omega⟩
    have KSH : Hid (∀ (i lo : Nat) (x : Value) (wx : World), Ow lo (prt i M) x wx → Calls Try.prog 44 #[x, .int .i64 1] wx fun e w' => ∃ y, e = .returned y ∧ Rv (cut 1 (prt i M)) y w' ∧ Below wx.heap.size wx w') := fun i lo x wx ho => by
      obtain ⟨ao, cp, e1, e2, e3⟩ := own_rv ho
      subst e1
      refine (shorter_any (prt i M) 1 ao cp _ wx rfl (show _ ≤ _ from Nat.le_trans (List.length_filter_le _ _) (by rw [HML.out]; have := HN.out; omega)) (own_rv ho) (fun r hr => List.length_pos_iff.2 (hM1.out r (List.mem_filter.1 hr).1))).mono fun e w' he => ?_
      obtain ⟨y, h1, h2, h3⟩ := he
      exact ⟨y, h1, own_rv h2, h3⟩
    clear HNE0
    go_loopw [71] (fun x wr => ∃ i : Nat, i ≤ 16 ∧ x = .int .i64 (i : Int) ∧ GO w W1.heap.size g2 g4 gk v (.slice none 0 0) T i wr) (fun x _ => ((16 : Int) - intOf x).toNat)
    case atStart => exact ⟨0, Nat.zero_le _, rfl, G0⟩
    case round =>
      obtain ⟨i, hi, rfl, hG⟩ := hrel
      by_cases hlt : i < 16
      · have d1 : decide ((i : Int) < 16) = true := decide_eq_true (by omega)
        have HGi : Hid (GO w W1.heap.size g2 g4 gk v (.slice none 0 0) T i wr) := hG
        have HBi : Hid (Below w.heap.size w wr) := hG.b
        have i16 : Hid ((i : Int) < 16) := by show _ < _; omega
        have i16' : Hid ((0 : Int) ≤ (i : Int)) := by show _ ≤ _; omega
        clear hG
        generalize wr = wo at *
        clear wr
        go_wp2_with fail
        go_loopw [6, 76] (fun o x wr => ∃ k : Nat, k ≤ n ∧ x = .int .i64 (k : Int) ∧ Ow wo.heap.size (prt i (M.take k)) o wr ∧ Below wo.heap.size wo wr) (fun _ x _ => ((n : Int) - intOf x).toNat)
        case atStart => exact ⟨0, Nat.zero_le _, rfl, World.ownsRow_nil _ _ _ _, Below.refl _ _⟩
        case round =>
          obtain ⟨k, hk, rfl, ho, hB⟩ := hrel
          by_cases hkl : k < n
          · have d2 : decide ((k : Int) < (n : Int)) = true := decide_eq_true (by omega)
            have d3 : (0 : Int) ≤ (k : Int) := by omega
            have d4 : (k : Int) < (n : Int) := by omega
            obtain ⟨y0, y1⟩ := HMC.out k hkl
            have z0 := ((HBi.out.trans (hB.mono HBi.out.size)).cell (p := ⟨g, off + 2 * k, none⟩) HC0.out).trans y0
            have z1 := ((HBi.out.trans (hB.mono HBi.out.size)).cell (p := ⟨g, off + 2 * k + 1, none⟩) HC0.out).trans y1
            rw [Nat.mul_comm 2 k] at z0 z1
            have hMk : k < M.length := by rw [HML.out]; exact hkl
            have hne : (M.getD k n2).1 ≠ [] := hM1.out _ (by rw [List.getD_eq_getElem?_getD, List.getElem?_eq_getElem hMk]; exact List.getElem_mem hMk)
            have HPT : Hid (prt i (M.take (k + 1)) = prt i (M.take k) ++ (if ((M.getD k n2).1.headD 0).toNat = i then [M.getD k n2] else [])) := prt_take i M k hMk
            have HPL : Hid ((prt i (M.take k)).length ≤ k) := Nat.le_trans (List.length_filter_le _ _) (by rw [List.length_take]; omega)
            obtain ⟨A, eA⟩ : ∃ A, A = st (M.getD k n2).1 := ⟨_, rfl⟩
            obtain ⟨Z, eZ⟩ : ∃ Z, Z = st (M.getD k n2).2 := ⟨_, rfl⟩
            have hAs : 0 < A.size := by rw [eA, st_size]; exact List.length_pos_iff.2 hne
            have hAv : (A[0]'hAs).toNat = ((M.getD k n2).1.headD 0).toNat := by
              subst eA
              exact st_head _ hne hAs
            have HLT : Hid (∀ W : World, Rv [M.getD k n2] (.slice (some ⟨W.heap.size, 0, none⟩) 1 1) (W.alloc (.cells #[.string A, .string Z] 51))) := fun W => by rw [eA, eZ]; exact lit_rv _ W
            rw [← eA] at z0
            rw [← eZ] at z1
            clear y0 y1 eA eZ hne
            have E5 : Hid (wrap64 ((k : Int) + 1) = ((k + 1 : Nat) : Int)) := by have := HN.out; show _ = _; unfold wrap64; omega
            have bA : Below wr.heap.size wr (wr.alloc (.cells #[.string A, .string Z] 51)) := (Below.refl _ _).alloc (Nat.le_refl _) _
            have hc8 : ((M.getD k n2).1.headD 0).toNat < 256 := UInt8.toNat_lt _
            generalize ((M.getD k n2).1.headD 0).toNat = cc at *
            by_cases hci : cc = i
            · have t1 : ((cc : Int) == (i : Int)) = true := beq_iff_eq.2 (by omega)
              have t2 : (cc == i) = true := beq_iff_eq.2 hci
              have t3 : (wrap64 (cc : Int) == (i : Int)) = true := beq_iff_eq.2 (by unfold wrap64; omega)
              have HPT2 : Hid (prt i (M.take (k + 1)) = prt i (M.take k) ++ [M.getD k n2]) := by show _ = _; rw [HPT.out, if_pos hci]
              obtain ⟨v', w', hap, ho', hb', hgr⟩ := app_rv (lo := wo.heap.size) 47 (Pk.ownb (Pk.ownb ho bA) ((Below.refl _ _).alloc (Nat.le_refl _) (.cells #[.string A, .string Z] 51))) (HLT.out (wr.alloc (.cells #[.string A, .string Z] 51))) (by have := hB.size; simp; omega) (by have := HPL.out; have := HN.out; rw [List.length_singleton]; omega)
              rw [show (wr.alloc (.cells #[.string A, .string Z] 51)).heap.size = wr.heap.size + 1 by simp] at hap
              have HZ : Hid (Below wo.heap.size wo w') := (hB.trans ((bA.alloc (by simp) _).mono hB.size)).trans hb'
              have HO : Hid (Ow wo.heap.size (prt i (M.take (k + 1))) v' w') := by show Ow _ _ _ _; rw [HPT2.out]; exact ho'
              clear ho' hb' hgr bA hci
              obtain ⟨oa, on, oc, rfl⟩ := own_slice ho
              clear ho hB
              go_wp2_with (at_builtin; refine wpl_app rfl rfl rfl rfl hap ?_)
              rw [E5.out]
              exact ⟨⟨k + 1, hkl, rfl, HO.out, HZ.out⟩, msr_up k n hkl⟩
            · have t1 : ((cc : Int) == (i : Int)) = false := beq_eq_false_iff_ne.2 (by omega)
              have t2 : (cc == i) = false := beq_eq_false_iff_ne.2 hci
              have t3 : (wrap64 (cc : Int) == (i : Int)) = false := beq_eq_false_iff_ne.2 (by unfold wrap64; omega)
              have HPT2 : Hid (prt i (M.take (k + 1)) = prt i (M.take k)) := by show _ = _; rw [HPT.out, if_neg hci, List.append_nil]
              have HZ : Hid (Below wo.heap.size wo (wr.alloc (.cells #[.string A, .string Z] 51))) := hB.trans (bA.mono hB.size)
              have HO : Hid (Ow wo.heap.size (prt i (M.take (k + 1))) u6 (wr.alloc (.cells #[.string A, .string Z] 51))) := by show Ow _ _ _ _; rw [HPT2.out]; exact Pk.ownb ho bA
              clear bA hci
              clear ho hB
              go_wp2_with fail
              rw [E5.out]
              exact ⟨⟨k + 1, hkl, rfl, HO.out, HZ.out⟩, msr_up k n hkl⟩
          · have d2 : decide ((k : Int) < (n : Int)) = false := decide_eq_false (by omega)
            have ek : M.take k = M := List.take_of_length_le (by rw [HML.out]; omega)
            rw [ek] at ho
            have HGo : GO w W1.heap.size g2 g4 gk v (.slice none 0 0) T i wr := GO_below HGi.out hB
            obtain ⟨oa, on, oc, rfl⟩ := own_slice ho
            have HRv := own_rv ho
            have HOW : Hid (Ow wo.heap.size (prt i M) (.slice oa on oc) wr) := ho
            clear ho hB d2 ek HGi HBi
            go_upto_region 21 with fail
            have hw21 : GX w W1.heap.size g2 g4 gk v (.slice none 0 0) T i wo.heap.size (prt i M) (.slice oa on oc) false wr.drew := ⟨fun _ => GO_below HGo (Below.refl _ _).drew, fun _ => Pk.ownb HOW.out (Below.refl _ _).drew, nofun⟩
            clear HGo HRv HOW
            refine RI.wp_region_inv (GK21n w W1.heap.size wo.heap.size T v (prt i M) g off n cap g2 g4 gk i k X oa on oc u8 u27 u28 u29 u30 u31 u32 u33 u34 u35 u36 u37 u38 u39 u40 u78 u79 u80 u81 u82 u83 u84 u85 u86 u87 u88 u89 u90 u98) (by kernel_rfl) (by kernel_rfl) ?_ ?_ ?_
            · exact ⟨u91, u92, u93, u94, u95, u96, u97, rfl, hw21, nofun, nofun, nofun, nofun, nofun, nofun, nofun, nofun⟩
            · skip
              intro d x wx i hI hi hm
              obtain ⟨u91, u92, u93, u94, u95, u96, u97, rfl, hw, p0, p1, p2, p3, p6, z4, z5, y7⟩ := hI
              have hi' : i = 0 ∨ i = 1 ∨ i = 2 ∨ i = 3 ∨ i = 4 ∨ i = 5 ∨ i = 6 ∨ i = 7 := by simp at hi; omega
              have hd := hm.2
              have hf := hm.1
              clear hm hi
              rcases hi' with rfl | rfl | rfl | rfl | rfl | rfl | rfl | rfl
              · refine RI.wpOp_plain rfl rfl ?_
                go_simp
                exact ⟨_, u92, u93, u94, u95, u96, u97, rfl, hw, fun _ => rfl, p1, p2, p3, p6, z4, z5, y7⟩
              · have hd := hd _ rfl
                simp [Region.binds] at hd
                obtain rfl := p0 (by simp [hd])
                refine RI.wpOp_plain rfl rfl ?_
                have h7 : d 7 = false := by cases h : d 7 with | false => rfl | true => exact absurd (y7 h).1 (by simp [hf])
                have x0 := (hw.a h7).f.2.2.2.2.1
                go_simp
                exact ⟨_, _, u93, u94, u95, u96, u97, rfl, hw, p0, fun _ => rfl, p2, p3, p6, z4, z5, fun h => absurd h (by simp [RI.don, h7])⟩
              · refine RI.wpOp_plain rfl rfl ?_
                go_simp
                exact ⟨u91, u92, _, u94, u95, u96, u97, rfl, hw, p0, p1, fun _ => rfl, p3, p6, z4, z5, y7⟩
              · refine RI.wpOp_plain rfl rfl ?_
                go_simp
                exact ⟨u91, u92, u93, _, u95, u96, u97, rfl, hw, p0, p1, p2, fun _ => rfl, p6, z4, z5, y7⟩
              · have hd := hd _ rfl
                simp [Region.binds] at hd
                obtain rfl := p3 (by simp [hd])
                refine RI.wpOp_plain rfl rfl ?_
                have h7 : d 7 = false := by cases h : d 7 with | false => rfl | true => exact absurd (y7 h).2.1 (by simp [hf])
                have oo := hw.o h7
                go_simp
                refine (KSH.out i _ _ _ oo).mono ?_
                rintro e w1 ⟨x1, rfl, hs1, hb1⟩
                exact ⟨u91, u92, u93, _, _, u96, u97, rfl, GX_below hw hb1, p0, p1, p2, p3, p6, fun _ _ => hs1, (fun h => (z5 h).imp fun y hy => ⟨hy.1, fun k => Nv_below (hy.2 k) hb1⟩), fun h => absurd h (by simp [RI.don, h7])⟩
              · have hd := hd _ rfl
                simp [Region.binds] at hd
                refine RI.wpOp_plain rfl rfl ?_
                have h7 : d 7 = false := by cases h : d 7 with | false => rfl | true => exact absurd (y7 h).2.2 (by simp [hf])
                have rv := z4 (by simp [hd]) h7
                go_simp
                refine (KG.out i _ _ hlt rv).mono ?_
                rintro e w1 ⟨y, rfl, hy, hb1⟩
                exact ⟨u91, u92, u93, u94, u95, _, u97, rfl, GX_below hw hb1, p0, p1, p2, p3, p6, (fun h k => Rv_below (z4 h k) hb1), fun _ => ⟨y, rfl, fun _ => Nv_mono hy (fun k h _ => Nat.le_trans (hw.a h7).s h)⟩, fun h => absurd h (by simp [RI.don, h7])⟩
              · have hd := hd _ rfl
                simp [Region.binds] at hd
                obtain rfl := p0 (by simp [hd])
                obtain rfl := p1 (by simp [hd])
                obtain rfl := p2 (by simp [hd])
                obtain rfl := p3 (by simp [hd])
                refine RI.wpOp_plain rfl rfl ?_
                have e16 := i16.out
                have e16' := i16'.out
                go_simp
                exact ⟨_, _, _, _, u95, u96, _, rfl, hw, p0, p1, p2, p3, fun _ => rfl, z4, z5, y7⟩
              · have hd := hd _ rfl
                simp [Region.binds] at hd
                obtain rfl := p0 (by simp [hd])
                obtain rfl := p1 (by simp [hd])
                obtain rfl := p2 (by simp [hd])
                obtain rfl := p3 (by simp [hd])
                obtain rfl := p6 (by simp [hd])
                refine RI.wpOp_plain rfl rfl ?_
                obtain ⟨y, rfl, hy⟩ := z5 (by simp [hd])
                have hyn := hy hf
                obtain ⟨yk, b1, m1, e1, b2, m2, e2, b3, m3, e3, rfl⟩ := Nv_form hyn
                refine wp_st4o rfl rfl rfl (there_sub (hw.a hf).k.t hlt) ?_
                intro w1 gb1 s0 s1 s2 s3 so sf
                have GN := GO_step (hw.a hf) hlt HNE.out.1 HNE.out.2.1 HNE.out.2.2.1 HNE.out.2.2.2 hyn gb1 s0 s1 s2 s3 so sf
                simp only [Act.put]
                exact ⟨_, _, _, _, u95, _, _, rfl, ⟨nofun, nofun, fun _ => GN⟩, p0, p1, p2, p3, p6, (fun _ h => nomatch h), fun _ => ⟨_, rfl, fun h => nomatch h⟩, fun _ => ⟨by simp [RI.don, hd], by simp [RI.don, hd], by simp [RI.don, hd]⟩⟩
            · skip
              intro d x wx hI hd
              obtain ⟨u91, u92, u93, u94, u95, u96, u97, rfl, hw, p0, p1, p2, p3, p6, z4, z5, y7⟩ := hI
              have GN := hw.e (hd 7 (by decide))
              have HGN : Hid (GO w W1.heap.size g2 g4 gk v (.slice none 0 0) T (i + 1) wx) := GN
              clear GN hw p0 p1 p2 p3 p6 z4 z5 y7
              go_wp2_with fail
              exact ⟨⟨i + 1, hlt, by rw [Int.natCast_succ], HGN.out⟩, msr_up' i 16 hlt⟩
      · have d1 : decide ((i : Int) < 16) = false := decide_eq_false (by omega)
        have ei : i = 16 := by omega
        subst ei
        have HGE : GO w W1.heap.size g2 g4 gk v (.slice none 0 0) T 16 wr := hG
        obtain ⟨_, f0, f1, f2, f3, _⟩ := hG.f
        have hv2 := hG.v
        have HNV : Hid (Nv (gk ≤ ·) wr (.mk 3 [] v ((List.range 16).map T)) (.int .i64 3, .slice none 0 0, (.slice none 0 0), .slice (some ⟨gk, 0, none⟩) 16 16)) := GO_end hG (fun k hk => by have := HLT2.out; omega) (Nat.le_refl _)
        clear hG d1
        go_wp2_with (refine wpList_st4 rfl rfl rfl rfl hv2 ?_; intro w9 gb9 s0 s1 s2 s3)
        have N9 : Nv (w.heap.size ≤ ·) w9 (.mk 3 [] v ((List.range 16).map T)) (.int .i64 3, .slice none 0 0, (.slice none 0 0), .slice (some ⟨gk, 0, none⟩) 16 16) := Nv_mono (Nv_gb HNV.out gb9 (fun k hk e => by injection e with e; have := HLT2.out; omega)) (fun k hk _ => Nat.le_trans HNE.out.2.2.1 hk)
        have B9 : Below w.heap.size w w9 := HGE.b.grown gb9 HGE.b.size (fun k e => by injection e with e; have := HG2B.out; omega)
        exact bodyPost_ret (v := .agg #[.int .i64 3, .slice none 0 0, (.slice none 0 0), .slice (some ⟨gk, 0, none⟩) 16 16]) (resN _ _ _ g2 2 _ _ _ _ rfl rfl s0 s1 s2 s3) rfl ⟨(.int .i64 3, .slice none 0 0, (.slice none 0 0), .slice (some ⟨gk, 0, none⟩) 16 16), rfl, N9, B9⟩
inductive GV10 (w : World) (B : Nat) (T : Nat → Nd) (v : By) (g off n m cap g2 g4 gk : Nat) (X V : ByteArray) (v27 v28 v29 v30 v31 v32 v33 v34 v35 v36 v37 v38 v39 v40 : Value) (d : Nat → Bool) (x : Act) (wx : World) : Prop where
  | mk (u0 u63 u64 u65 u66 u67 u68 u69 u70 : Value) (hx : x = { tmps := #[u0, undef, .pointer (some ⟨g2, 0, none⟩), .int .i64 0, .pointer (some ⟨g4, 0, none⟩), undef, undef, undef, undef, .slice (some ⟨g, off, none⟩) n cap, .int .i64 (n : Int), .bool false, undef, .slice (some ⟨g, off, none⟩) n cap, .int .i64 (n : Int), .bool false, undef, undef, undef, undef, undef, undef, undef, undef, undef, undef, undef, v27, v28, v29, v30, v31, v32, v33, v34, v35, v36, v37, v38, v39, v40, .int .i64 0, .bool false, undef, undef, undef, undef, undef, undef, undef, undef, undef, undef, undef, undef, undef, .slice (some ⟨gk, 0, none⟩) 16 16, .agg #[.int .i64 3, .slice none 0 0, .slice none 0 0, .slice (some ⟨gk, 0, none⟩) 16 16], .slice (some ⟨g, off, none⟩) n cap, .pointer (some ⟨g, off, none⟩), .pointer (some ⟨g, off, none⟩), .string X, .bool true, u63, u64, u65, u66, u67, u68, u69, u70, undef, undef, undef, undef, undef, undef, undef, undef, undef, undef, undef, undef, undef, undef, undef, undef, undef, undef, undef, undef, undef, undef, undef, undef, undef, undef, undef, undef, undef], defers := [] }) (hw : GV w B g2 g4 gk v T (d 8) (d 9) (.slice (some ⟨g, off, none⟩) n cap) u0 wx) (p0 : d 0 = true → u63 = .slice (some ⟨g, off, none⟩) n cap) (p1 : d 1 = true → u64 = .pointer (some ⟨g, off, none⟩)) (p2 : d 2 = true → u65 = .pointer (some ⟨g, off + 1, none⟩)) (p3 : d 3 = true → u66 = .string V) (p5 : d 5 = true → u68 = .slice (some ⟨g, off, none⟩) n cap) (p6 : d 6 = true → u69 = .slice (some ⟨g, off + 2, none⟩) m (cap - 1)) (p7 : d 7 = true → u70 = .pointer (some ⟨g4, 2, none⟩)) (p9 : d 9 = true → u0 = .slice (some ⟨g, off + 2, none⟩) m (cap - 1)) (z4 : d 4 = true → ∃ a c, u67 = .slice a v.length c ∧ (d 8 = false → Bs (B ≤ ·) v (.slice a v.length c) wx)) (y8 : d 8 = true → d 4 = true) (y9 : d 9 = true → d 0 = true ∧ d 5 = true) : GV10 w B T v g off n m cap g2 g4 gk X V v27 v28 v29 v30 v31 v32 v33 v34 v35 v36 v37 v38 v39 v40 d x wx
inductive GK21v (w : World) (B lo : Nat) (T : Nat → Nd) (v : By) (pt : Rt) (g off n cap g2 g4 gk i k : Nat) (X : ByteArray) (oa : Option Addr) (on oc : Nat) (m vc vl : Nat) (va : Option Addr) (v8 v27 v28 v29 v30 v31 v32 v33 v34 v35 v36 v37 v38 v39 v40 v63 v64 v65 v66 v67 v68 v69 v70 v78 v79 v80 v81 v82 v83 v84 v85 v86 v87 v88 v89 v90 v98 : Value) (d : Nat → Bool) (x : Act) (wx : World) : Prop where
  | mk (u91 u92 u93 u94 u95 u96 u97 : Value) (hx : x = { tmps := #[.slice (some ⟨g, off + 2, none⟩) m (cap - 1), undef, .pointer (some ⟨g2, 0, none⟩), .int .i64 0, .pointer (some ⟨g4, 0, none⟩), .int .i64 (i : Int), .slice oa on oc, undef, v8, .slice (some ⟨g, off, none⟩) n cap, .int .i64 (n : Int), .bool false, undef, .slice (some ⟨g, off, none⟩) n cap, .int .i64 (n : Int), .bool false, undef, undef, undef, undef, undef, undef, undef, undef, undef, undef, undef, v27, v28, v29, v30, v31, v32, v33, v34, v35, v36, v37, v38, v39, v40, .int .i64 0, .bool false, undef, undef, undef, undef, undef, undef, undef, undef, undef, undef, undef, undef, undef, .slice (some ⟨gk, 0, none⟩) 16 16, .agg #[.int .i64 3, .slice none 0 0, .slice none 0 0, .slice (some ⟨gk, 0, none⟩) 16 16], .slice (some ⟨g, off, none⟩) n cap, .pointer (some ⟨g, off, none⟩), .pointer (some ⟨g, off, none⟩), .string X, .bool true, v63, v64, v65, v66, v67, v68, v69, v70, .int .i64 (i : Int), .bool true, .int .i64 (i : Int), .slice (some ⟨g, off + 2, none⟩) m (cap - 1), .int .i64 (m : Int), .int .i64 (k : Int), .bool false, v78, v79, v80, v81, v82, v83, v84, v85, v86, v87, v88, v89, v90, u91, u92, u93, u94, u95, u96, u97, v98, undef], defers := [] }) (hw : GX w B g2 g4 gk v (.slice va vl vc) T i lo pt (.slice oa on oc) (d 7) wx) (p0 : d 0 = true → u91 = .pointer (some ⟨g4, 3, none⟩)) (p1 : d 1 = true → u92 = .slice (some ⟨gk, 0, none⟩) 16 16) (p2 : d 2 = true → u93 = .int .i64 (i : Int)) (p3 : d 3 = true → u94 = .slice oa on oc) (p6 : d 6 = true → u97 = .pointer (some ⟨gk, i * 4, none⟩)) (z4 : d 4 = true → d 7 = false → Rv (cut 1 pt) u95 wx) (z5 : d 5 = true → ∃ y, u96 = v4 y ∧ (d 7 = false → Nv (B ≤ ·) wx (T i) y)) (y7 : d 7 = true → d 1 = true ∧ d 4 = true ∧ d 5 = true) : GK21v w B lo T v pt g off n cap g2 g4 gk i k X oa on oc m vc vl va v8 v27 v28 v29 v30 v31 v32 v33 v34 v35 v36 v37 v38 v39 v40 v63 v64 v65 v66 v67 v68 v69 v70 v78 v79 v80 v81 v82 v83 v84 v85 v86 v87 v88 v89 v90 v98 d x wx
set_option maxHeartbeats 4000000 in
set_option maxRecDepth 100000 in
theorem grown_fork_v (l M : Rt) (p q v : By) (g off cap n m : Nat) (w : World) (hn : 2 ≤ n) (hm : m + 1 = n) (hn2 : n ≤ 1048576) (hln : l.length = n) (hcap : n ≤ cap) (hg0 : g < w.heap.size) (hp : (l.getD 0 n2).1 = p) (hq : (l.getD m n2).1 = q) (hp0 : p = []) (hv : (l.getD 0 n2).2 = v) (hM : M = l.tail) (hM1 : Hid (∀ r ∈ M, r.1 ≠ []))
    (hcl : Hid (∀ j, j < l.length → w.cell? ⟨g, off + 2 * j, none⟩ = some (.string (st (l.getD j n2).1)) ∧ w.cell? ⟨g, off + 2 * j + 1, none⟩ = some (.string (st (l.getD j n2).2))))
    (T : Nat → Nd) (KG : Hid (∀ (i : Nat) (x : Value) (wx : World), i < 16 → Rv (cut 1 (prt i M)) x wx → Calls Try.prog 24 #[x] wx fun e w' => ∃ y : V4, e = .returned (v4 y) ∧ Nv (wx.heap.size ≤ ·) w' (T i) y ∧ Below wx.heap.size wx w'))
    (hpl : p.length ≤ 4194304) (hql : q.length ≤ 4194304) (KN : Hid (∀ (a b : Value) (wx : World), SlC p a wx → SlC q b wx → Calls Try.prog 43 #[a, b] wx fun e w' => e = .returned (.int .i64 0) ∧ Below wx.heap.size wx w')) :
    Calls Try.prog 24 #[.slice (some ⟨g, off, none⟩) n cap] w fun e w' => ∃ u : V4, e = .returned (v4 u) ∧ Nv (w.heap.size ≤ ·) w' (.mk 3 [] v ((List.range 16).map T)) u ∧ Below w.heap.size w w' := by
  have h0 : w.cell? ⟨g, off, none⟩ = some (.string (st p)) := by have := (hcl.out 0 (by omega)).1; rw [hp] at this; exact this
  have h1 : w.cell? ⟨g, off + m * 2, none⟩ = some (.string (st q)) := by have := (hcl.out m (by omega)).1; rw [hq, Nat.mul_comm] at this; exact this
  have h0v : w.cell? ⟨g, off + 1, none⟩ = some (.string (st v)) := by have := (hcl.out 0 (by omega)).2; rw [hv] at this; exact this
  have B0 : Below w.heap.size w (w.alloc (.cells #[.int .i64 0, .slice none 0 0, .slice none 0 0, .slice none 0 0] 25)) := (Below.refl _ _).alloc (Nat.le_refl _) _
  have k0 := (B0.cell (p := ⟨g, off, none⟩) hg0).trans h0
  have l0 := (B0.cell (p := ⟨g, off + m * 2, none⟩) hg0).trans h1
  have hg : g < (w.alloc (.cells #[.int .i64 0, .slice none 0 0, .slice none 0 0, .slice none 0 0] 25)).heap.size := Nat.lt_of_lt_of_le hg0 B0.size
  have HX : Hid (∀ W : World, ∃ c W', (convert 9 22 (.string (st p))).run Try.prog W = .ok (.slice (some ⟨W.heap.size, 0, none⟩) p.length c) W' ∧ SlC p (.slice (some ⟨W.heap.size, 0, none⟩) p.length c) W' ∧ W'.heap.size = W.heap.size + 1 ∧ Below W.heap.size W W') := st_slc p hpl
  have HY : Hid (∀ W : World, ∃ c W', (convert 9 22 (.string (st q))).run Try.prog W = .ok (.slice (some ⟨W.heap.size, 0, none⟩) q.length c) W' ∧ SlC q (.slice (some ⟨W.heap.size, 0, none⟩) q.length c) W' ∧ W'.heap.size = W.heap.size + 1 ∧ Below W.heap.size W W') := st_slc q hql
  have HV : Hid (∀ W : World, ∃ c W', (convert 9 22 (.string (st v))).run Try.prog W = .ok (.slice (some ⟨W.heap.size, 0, none⟩) v.length c) W' ∧ Pk.Sl v (.slice (some ⟨W.heap.size, 0, none⟩) v.length c) W' ∧ W'.heap.size = W.heap.size + 1 ∧ Below W.heap.size W W') := st_sl v
  have BV := B4_new w
  have HGL : Hid (w.heap.size ≤ (w.alloc (.cells #[.int .i64 0, .slice none 0 0, .slice none 0 0, .slice none 0 0] 25)).heap.size) := B0.size
  have HG2 : Hid (w.heap.size < (w.alloc (.cells #[.int .i64 0, .slice none 0 0, .slice none 0 0, .slice none 0 0] 25)).heap.size) := by show _ < _; simp
  have e0 : ((n : Int) == 0) = false := beq_eq_false_iff_ne.2 (by omega)
  have e1 : ((n : Int) == 1) = false := beq_eq_false_iff_ne.2 (by omega)
  have e2 : (n == 0) = false := beq_eq_false_iff_ne.2 (by omega)
  have e3 : (n == 1) = false := beq_eq_false_iff_ne.2 (by omega)
  have i0 : (0 : Int) < (n : Int) := by omega
  have i1 : IntKind.i64.wrap ((n : Int) - 1) = (m : Int) := by rw [IntKind.wrap_i64]; omega
  have i2 : (0 : Int) ≤ (m : Int) := by omega
  have i3 : (m : Int) < (n : Int) := by omega
  have i4 : 0 < n := by omega
  have i5 : m < n := by omega
  have HC0 : Hid (g < w.heap.size) := hg0
  have HN : Hid (l.length = n ∧ 2 ≤ n ∧ n ≤ 1048576 ∧ m + 1 = n) := ⟨hln, hn, hn2, hm⟩
  have HM : Hid (M = l.tail) := hM
  have HXI : Hid ((st p).toList.isEmpty = true) := by show _ = _; rw [st_list]; rw [hp0]; rfl
  have HML : Hid (M.length = m) := by show _ = _; rw [hM, List.length_tail]; omega
  have HMC : Hid (∀ j, j < m → w.cell? ⟨g, off + 2 + 2 * j, none⟩ = some (.string (st (M.getD j n2).1)) ∧ w.cell? ⟨g, off + 2 + 2 * j + 1, none⟩ = some (.string (st (M.getD j n2).2))) := fun j hj => by
    have hx := hcl.out (j + 1) (by omega)
    have ej : M.getD j n2 = l.getD (j + 1) n2 := by rw [hM]; cases l with | nil => simp at hln; omega | cons a r => rfl
    rw [ej, show off + 2 + 2 * j = off + 2 * (j + 1) by omega]
    exact hx
  have HS1 : Hid ((1 : Int) ≤ (n : Int)) := by show _ ≤ _; omega
  have HS2 : Hid ((n : Int) ≤ (cap : Int)) := by show _ ≤ _; omega
  have HS3 : Hid (n - 1 = m) := by show _ = _; omega
  have HS4 : Hid (¬ cap = 1) := by show ¬ _; omega
  clear hp hq hM hn hm hn2 hln hp0 hv
  generalize st p = X at *
  generalize st q = Y at *
  clear h1 hg0
  go_enter Try.func24, Try.ntmps24
  go_upto_region 5 with fail
  generalize w.alloc (.cells #[.int .i64 0, .slice none 0 0, .slice none 0 0, .slice none 0 0] 25) = W0 at *
  obtain ⟨g2, eg2⟩ : ∃ g2, g2 = w.heap.size := ⟨_, rfl⟩
  have HG2B : Hid (w.heap.size ≤ g2) := by show _ ≤ _; omega
  rw [← eg2] at BV HG2 ⊢
  have E2 : Hid (g2 = w.heap.size) := eg2
  clear eg2
  have hw0 : Below W0.heap.size W0 W0.drew := (Below.refl _ _).drew
  refine RI.wp_region_inv (GC5 W0 p q g off n m cap g2 0 X Y) (by kernel_rfl) (by kernel_rfl) ?_ ?_ ?_
  · exact ⟨undef, undef, undef, undef, undef, undef, undef, undef, undef, undef, undef, undef, undef, undef, undef, rfl, hw0, nofun, nofun, nofun, nofun, nofun, nofun, nofun, nofun, nofun, nofun, nofun, nofun, nofun, nofun, nofun⟩
  · skip
    intro d x wx i hI hi hm
    obtain ⟨u3, u27, u28, u29, u30, u31, u32, u33, u34, u35, u36, u37, u38, u39, u40, rfl, hw, p0, p1, p2, p3, p5, p6, p7, p8, p9, p10, p11, p13, p14, z4, z12⟩ := hI
    have hi' : i = 0 ∨ i = 1 ∨ i = 2 ∨ i = 3 ∨ i = 4 ∨ i = 5 ∨ i = 6 ∨ i = 7 ∨ i = 8 ∨ i = 9 ∨ i = 10 ∨ i = 11 ∨ i = 12 ∨ i = 13 ∨ i = 14 := by simp at hi; omega
    have hd := hm.2
    have hf := hm.1
    clear hm hi
    rcases hi' with rfl | rfl | rfl | rfl | rfl | rfl | rfl | rfl | rfl | rfl | rfl | rfl | rfl | rfl | rfl
    · refine RI.wpOp_plain rfl rfl ?_
      go_simp
      exact ⟨u3, _, u28, u29, u30, u31, u32, u33, u34, u35, u36, u37, u38, u39, u40, rfl, hw, fun _ => rfl, p1, p2, p3, p5, p6, p7, p8, p9, p10, p11, p13, p14, z4, z12⟩
    · have hd := hd _ rfl
      simp [Region.binds] at hd
      obtain rfl := p0 (by simp [hd])
      refine RI.wpOp_plain rfl rfl ?_
      go_simp
      exact ⟨u3, _, _, u29, u30, u31, u32, u33, u34, u35, u36, u37, u38, u39, u40, rfl, hw, p0, fun _ => rfl, p2, p3, p5, p6, p7, p8, p9, p10, p11, p13, p14, z4, z12⟩
    · have hd := hd _ rfl
      simp [Region.binds] at hd
      obtain rfl := p1 (by simp [hd])
      refine RI.wpOp_plain rfl rfl ?_
      go_simp
      exact ⟨u3, u27, _, _, u30, u31, u32, u33, u34, u35, u36, u37, u38, u39, u40, rfl, hw, p0, p1, fun _ => rfl, p3, p5, p6, p7, p8, p9, p10, p11, p13, p14, z4, z12⟩
    · have hd := hd _ rfl
      simp [Region.binds] at hd
      obtain rfl := p2 (by simp [hd])
      refine RI.wpOp_plain rfl rfl ?_
      have x0 := (hw.cell (p := ⟨g, off, none⟩) hg).trans k0
      go_simp
      exact ⟨u3, u27, u28, _, _, u31, u32, u33, u34, u35, u36, u37, u38, u39, u40, rfl, hw, p0, p1, p2, fun _ => rfl, p5, p6, p7, p8, p9, p10, p11, p13, p14, z4, z12⟩
    · have hd := hd _ rfl
      simp [Region.binds] at hd
      obtain rfl := p3 (by simp [hd])
      refine RI.wpOp_plain rfl rfl ?_
      obtain ⟨cq, w1, hcv, hs1, hsz, hb1⟩ := HX.out wx
      go_simp
      exact ⟨u3, u27, u28, u29, _, _, u32, u33, u34, u35, u36, u37, u38, u39, u40, rfl, hw.trans (hb1.mono hw.size), p0, p1, p2, p3, p5, p6, p7, p8, p9, p10, p11, p13, p14, fun _ => hs1, (fun h => SlC_below (z12 h) hb1)⟩
    · refine RI.wpOp_plain rfl rfl ?_
      go_simp
      exact ⟨u3, u27, u28, u29, u30, u31, _, u33, u34, u35, u36, u37, u38, u39, u40, rfl, hw, p0, p1, p2, p3, fun _ => rfl, p6, p7, p8, p9, p10, p11, p13, p14, z4, z12⟩
    · refine RI.wpOp_plain rfl rfl ?_
      go_simp
      exact ⟨u3, u27, u28, u29, u30, u31, u32, _, u34, u35, u36, u37, u38, u39, u40, rfl, hw, p0, p1, p2, p3, p5, fun _ => rfl, p7, p8, p9, p10, p11, p13, p14, z4, z12⟩
    · have hd := hd _ rfl
      simp [Region.binds] at hd
      obtain rfl := p6 (by simp [hd])
      refine RI.wpOp_plain rfl rfl ?_
      go_simp
      exact ⟨u3, u27, u28, u29, u30, u31, u32, _, _, u35, u36, u37, u38, u39, u40, rfl, hw, p0, p1, p2, p3, p5, p6, fun _ => rfl, p8, p9, p10, p11, p13, p14, z4, z12⟩
    · have hd := hd _ rfl
      simp [Region.binds] at hd
      obtain rfl := p7 (by simp [hd])
      refine RI.wpOp_plain rfl rfl ?_
      go_simp
      exact ⟨u3, u27, u28, u29, u30, u31, u32, u33, _, _, u36, u37, u38, u39, u40, rfl, hw, p0, p1, p2, p3, p5, p6, p7, fun _ => rfl, p9, p10, p11, p13, p14, z4, z12⟩
    · have hd := hd _ rfl
      simp [Region.binds] at hd
      obtain rfl := p5 (by simp [hd])
      obtain rfl := p8 (by simp [hd])
      refine RI.wpOp_plain rfl rfl ?_
      go_simp
      exact ⟨u3, u27, u28, u29, u30, u31, _, u33, u34, _, _, u37, u38, u39, u40, rfl, hw, p0, p1, p2, p3, p5, p6, p7, p8, fun _ => rfl, p10, p11, p13, p14, z4, z12⟩
    · have hd := hd _ rfl
      simp [Region.binds] at hd
      obtain rfl := p9 (by simp [hd])
      refine RI.wpOp_plain rfl rfl ?_
      go_simp
      exact ⟨u3, u27, u28, u29, u30, u31, u32, u33, u34, u35, _, _, u38, u39, u40, rfl, hw, p0, p1, p2, p3, p5, p6, p7, p8, p9, fun _ => rfl, p11, p13, p14, z4, z12⟩
    · have hd := hd _ rfl
      simp [Region.binds] at hd
      obtain rfl := p10 (by simp [hd])
      refine RI.wpOp_plain rfl rfl ?_
      have x0 := (hw.cell (p := ⟨g, off + m * 2, none⟩) hg).trans l0
      go_simp
      exact ⟨u3, u27, u28, u29, u30, u31, u32, u33, u34, u35, u36, _, _, u39, u40, rfl, hw, p0, p1, p2, p3, p5, p6, p7, p8, p9, p10, fun _ => rfl, p13, p14, z4, z12⟩
    · have hd := hd _ rfl
      simp [Region.binds] at hd
      obtain rfl := p11 (by simp [hd])
      refine RI.wpOp_plain rfl rfl ?_
      obtain ⟨cq, w1, hcv, hs1, hsz, hb1⟩ := HY.out wx
      go_simp
      exact ⟨u3, u27, u28, u29, u30, u31, u32, u33, u34, u35, u36, u37, _, _, u40, rfl, hw.trans (hb1.mono hw.size), p0, p1, p2, p3, p5, p6, p7, p8, p9, p10, p11, p13, p14, (fun h => SlC_below (z4 h) hb1), fun _ => hs1⟩
    · have hd := hd _ rfl
      simp [Region.binds] at hd
      refine RI.wpOp_plain rfl rfl ?_
      go_simp
      refine (KN.out _ _ _ (z4 (by simp [hd])) (z12 (by simp [hd]))).mono ?_
      rintro e w1 ⟨rfl, hb1⟩
      exact ⟨u3, u27, u28, u29, u30, u31, u32, u33, u34, u35, u36, u37, u38, u39, _, rfl, hw.trans (hb1.mono hw.size), p0, p1, p2, p3, p5, p6, p7, p8, p9, p10, p11, fun _ => rfl, p14, (fun h => SlC_below (z4 h) hb1), (fun h => SlC_below (z12 h) hb1)⟩
    · have hd := hd _ rfl
      simp [Region.binds] at hd
      obtain rfl := p0 (by simp [hd])
      obtain rfl := p1 (by simp [hd])
      obtain rfl := p2 (by simp [hd])
      obtain rfl := p3 (by simp [hd])
      obtain rfl := p5 (by simp [hd])
      obtain rfl := p6 (by simp [hd])
      obtain rfl := p7 (by simp [hd])
      obtain rfl := p8 (by simp [hd])
      obtain rfl := p9 (by simp [hd])
      obtain rfl := p10 (by simp [hd])
      obtain rfl := p11 (by simp [hd])
      obtain rfl := p13 (by simp [hd])
      refine RI.wpOp_plain rfl rfl ?_
      go_simp
      exact ⟨_, _, _, _, _, u31, _, _, _, _, _, _, _, u39, _, rfl, hw, p0, p1, p2, p3, p5, p6, p7, p8, p9, p10, p11, p13, fun _ => rfl, z4, z12⟩
  · skip
    intro d x wx hI hd
    obtain ⟨u3, u27, u28, u29, u30, u31, u32, u33, u34, u35, u36, u37, u38, u39, u40, rfl, hw, p0, p1, p2, p3, p5, p6, p7, p8, p9, p10, p11, p13, p14, z4, z12⟩ := hI
    obtain rfl := p14 (hd 14 (by decide))
    clear p0 p1 p2 p3 p5 p6 p7 p8 p9 p10 p11 p13 z4 z12
    obtain ⟨w8, hr8, hs8, ht8, hb8⟩ := made16 wx
    have hXi : X.toList.isEmpty = true := HXI.out
    have HW8 : Hid (Below W0.heap.size W0 w8) := hw.trans (hb8.mono hw.size)
    have HA4 := heap_alloc_new w8 (.cells #[.int .i64 3, .slice none 0 0, .slice none 0 0, .slice (some ⟨wx.heap.size, 0, none⟩) 16 16] 25)
    have HB4 : Below w8.heap.size w8 (w8.alloc (.cells #[.int .i64 3, .slice none 0 0, .slice none 0 0, .slice (some ⟨wx.heap.size, 0, none⟩) 16 16] 25)) := (Below.refl _ _).alloc (Nat.le_refl _) _
    have HF4 : F4 w8.heap.size wx.heap.size (.slice none 0 0) (w8.alloc (.cells #[.int .i64 3, .slice none 0 0, .slice none 0 0, .slice (some ⟨wx.heap.size, 0, none⟩) 16 16] 25)) := by
      refine ⟨by simp, ?_, ?_, ?_, ?_, fun o => by simp only [World.frozen?, HA4]; simp⟩ <;> (simp only [World.cell?, HA4]; rfl)
    have G0 : GO w (w8.alloc (.cells #[.int .i64 3, .slice none 0 0, .slice none 0 0, .slice (some ⟨wx.heap.size, 0, none⟩) 16 16] 25)).heap.size g2 w8.heap.size wx.heap.size [] (.slice none 0 0) T 0 (w8.alloc (.cells #[.int .i64 3, .slice none 0 0, .slice none 0 0, .slice (some ⟨wx.heap.size, 0, none⟩) 16 16] 25)) := by
      have b8 : Below W0.heap.size W0 (w8.alloc (.cells #[.int .i64 3, .slice none 0 0, .slice none 0 0, .slice (some ⟨wx.heap.size, 0, none⟩) 16 16] 25)) := HW8.out.trans (HB4.mono HW8.out.size)
      exact ⟨B0.trans (b8.mono HGL.out), Nat.le_refl _, B4_gb (r := none) BV (gb_below b8) (fun e => by cases e), HF4, ⟨Nat.lt_of_lt_of_le (by omega) HB4.size, there_gb (r := none) ht8 (by omega) (gb_below HB4) (fun e => by cases e), fun _ => n4, fun j hj => absurd hj (by omega)⟩, Bs_nil _ _⟩
    have HG4 : Hid (g2 < wx.heap.size ∧ wx.heap.size < w8.heap.size ∧ w8.heap.size < (w8.alloc (.cells #[.int .i64 3, .slice none 0 0, .slice none 0 0, .slice (some ⟨wx.heap.size, 0, none⟩) 16 16] 25)).heap.size) := ⟨Nat.lt_of_lt_of_le HG2.out hw.size, by omega, by simp⟩
    have x8 := (HW8.out.cell (p := ⟨g, off, none⟩) hg).trans k0
    have x9 := ((HW8.out.trans (HB4.mono HW8.out.size)).cell (p := ⟨g, off, none⟩) hg).trans k0
    have HNE0 := HG4.out
    clear HX HY KN HF4 HA4 hw0
    have HS8 : Hid (w8.heap.size = wx.heap.size + 1) := hs8
    clear hs8
    generalize wx.heap.size = gk at *
    go_wp2_with fail
    generalize w8.alloc (.cells #[.int .i64 3, .slice none 0 0, .slice none 0 0, .slice (some ⟨gk, 0, none⟩) 16 16] 25) = W1 at *
    clear x8 x9 hr8 ht8 hb8 hw HB4
    generalize hg4 : w8.heap.size = g4 at *
    have HG4N : Hid (g2 ≠ g4 ∧ gk ≠ g4 ∧ g4 < W1.heap.size) := ⟨by omega, by omega, by omega⟩
    have HG4G : Hid (w.heap.size ≤ g4) := by have := HG2B.out; show _ ≤ _; omega
    have hw10 : GV w W1.heap.size g2 g4 gk v T false false (.slice (some ⟨g, off, none⟩) n cap) (.slice (some ⟨g, off, none⟩) n cap) W1.drew := ⟨fun _ => GO_below G0 (Below.refl _ _).drew, G0.b.drew, nofun, fun _ => rfl⟩
    generalize st v = V at *
    have HVX := HV
    refine RI.wp_region_inv (GV10 w W1.heap.size T v g off n m cap g2 g4 gk X V u27 u28 u29 u30 u31 u32 u33 u34 u35 u36 u37 u38 u39 u40) (by kernel_rfl) (by kernel_rfl) ?_ ?_ ?_
    · exact ⟨.slice (some ⟨g, off, none⟩) n cap, undef, undef, undef, undef, undef, undef, undef, undef, rfl, hw10, nofun, nofun, nofun, nofun, nofun, nofun, nofun, nofun, nofun, nofun, nofun⟩
    · skip
      intro d x wx i hI hi hm
      obtain ⟨u0, u63, u64, u65, u66, u67, u68, u69, u70, rfl, hw, p0, p1, p2, p3, p5, p6, p7, p9, z4, y8, y9⟩ := hI
      have hi' : i = 0 ∨ i = 1 ∨ i = 2 ∨ i = 3 ∨ i = 4 ∨ i = 5 ∨ i = 6 ∨ i = 7 ∨ i = 8 ∨ i = 9 := by simp at hi; omega
      have hd := hm.2
      have hf := hm.1
      clear hm hi
      rcases hi' with rfl | rfl | rfl | rfl | rfl | rfl | rfl | rfl | rfl | rfl
      · refine RI.wpOp_plain rfl rfl ?_
        have h9 : d 9 = false := by cases h : d 9 with | false => rfl | true => exact absurd (y9 h).1 (by simp [hf])
        obtain rfl := hw.m h9
        go_simp
        exact ⟨_, _, u64, u65, u66, u67, u68, u69, u70, rfl, hw, fun _ => rfl, p1, p2, p3, p5, p6, p7, (fun h => absurd h (by simp [RI.don, h9])), z4, y8, (fun h => absurd h (by simp [RI.don, h9]))⟩
      · have hd := hd _ rfl
        simp [Region.binds] at hd
        obtain rfl := p0 (by simp [hd])
        refine RI.wpOp_plain rfl rfl ?_
        go_simp
        exact ⟨u0, _, _, u65, u66, u67, u68, u69, u70, rfl, hw, p0, fun _ => rfl, p2, p3, p5, p6, p7, p9, z4, y8, y9⟩
      · have hd := hd _ rfl
        simp [Region.binds] at hd
        obtain rfl := p1 (by simp [hd])
        refine RI.wpOp_plain rfl rfl ?_
        go_simp
        exact ⟨u0, u63, _, _, u66, u67, u68, u69, u70, rfl, hw, p0, p1, fun _ => rfl, p3, p5, p6, p7, p9, z4, y8, y9⟩
      · have hd := hd _ rfl
        simp [Region.binds] at hd
        obtain rfl := p2 (by simp [hd])
        refine RI.wpOp_plain rfl rfl ?_
        have x0 := (hw.b.cell (p := ⟨g, off + 1, none⟩) HC0.out).trans h0v
        go_simp
        exact ⟨u0, u63, u64, _, _, u67, u68, u69, u70, rfl, hw, p0, p1, p2, fun _ => rfl, p5, p6, p7, p9, z4, y8, y9⟩
      · have hd := hd _ rfl
        simp [Region.binds] at hd
        obtain rfl := p3 (by simp [hd])
        refine RI.wpOp_plain rfl rfl ?_
        have h8 : d 8 = false := by cases h : d 8 with | false => rfl | true => exact absurd (y8 h) (by simp [hf])
        obtain ⟨cq, w1, hcv, hs1, hsz, hb1⟩ := HVX.out wx
        go_simp
        exact ⟨u0, u63, u64, u65, _, _, u68, u69, u70, rfl, ⟨fun _ => GO_below (hw.a h8) hb1, hw.b.trans (hb1.mono hw.b.size), (fun h => absurd h (by simp [RI.don, h8])), hw.m⟩, p0, p1, p2, p3, p5, p6, p7, p9, fun _ => ⟨_, _, rfl, fun _ => sl_bs (S := (W1.heap.size ≤ ·)) (hw.a h8).s hs1⟩, (fun h => absurd h (by simp [RI.don, h8])), y9⟩
      · refine RI.wpOp_plain rfl rfl ?_
        have h9 : d 9 = false := by cases h : d 9 with | false => rfl | true => exact absurd (y9 h).2 (by simp [hf])
        obtain rfl := hw.m h9
        go_simp
        exact ⟨_, u63, u64, u65, u66, u67, _, u69, u70, rfl, hw, p0, p1, p2, p3, fun _ => rfl, p6, p7, (fun h => absurd h (by simp [RI.don, h9])), z4, y8, (fun h => absurd h (by simp [RI.don, h9]))⟩
      · have hd := hd _ rfl
        simp [Region.binds] at hd
        obtain rfl := p5 (by simp [hd])
        refine RI.wpOp_plain rfl rfl ?_
        have e1 := HS1.out
        have e2 := HS2.out
        have e3 := HS3.out
        have e4 := HS4.out
        go_simp
        exact ⟨u0, u63, u64, u65, u66, u67, _, _, u70, rfl, hw, p0, p1, p2, p3, p5, fun _ => rfl, p7, p9, z4, y8, y9⟩
      · have hd := hd _ rfl
        simp [Region.binds] at hd
        obtain rfl := p0 (by simp [hd])
        obtain rfl := p1 (by simp [hd])
        obtain rfl := p2 (by simp [hd])
        obtain rfl := p3 (by simp [hd])
        refine RI.wpOp_plain rfl rfl ?_
        go_simp
        exact ⟨u0, _, _, _, _, u67, u68, u69, _, rfl, hw, p0, p1, p2, p3, p5, p6, fun _ => rfl, p9, z4, y8, y9⟩
      · have hd := hd _ rfl
        simp [Region.binds] at hd
        obtain rfl := p0 (by simp [hd])
        obtain rfl := p1 (by simp [hd])
        obtain rfl := p2 (by simp [hd])
        obtain rfl := p3 (by simp [hd])
        obtain rfl := p7 (by simp [hd])
        refine RI.wpOp_plain rfl rfl ?_
        obtain ⟨qa, qc, rfl, hb6⟩ := z4 (by simp [hd])
        have GO8 := hw.a hf
        have f2 := GO8.f.2.2.2.1
        have ff := GO8.f.2.2.2.2.2 2
        go_simp
        exact ⟨u0, _, _, _, _, _, u68, u69, _, rfl, ⟨nofun, hw.b.setCell (by dsimp only; have := HG4G.out; omega) _, fun _ => ⟨qa, qc, GV_set GO8 ⟨HG4N.out.1, HG4N.out.2.1, HG4N.out.2.2, HG4G.out⟩ (hb6 hf)⟩, hw.m⟩, p0, p1, p2, p3, p5, p6, p7, p9, fun _ => ⟨_, _, rfl, fun h => nomatch h⟩, fun _ => by simp [RI.don, hd], y9⟩
      · have hd := hd _ rfl
        simp [Region.binds] at hd
        obtain rfl := p0 (by simp [hd])
        obtain rfl := p1 (by simp [hd])
        obtain rfl := p2 (by simp [hd])
        obtain rfl := p3 (by simp [hd])
        obtain rfl := p5 (by simp [hd])
        obtain rfl := p6 (by simp [hd])
        obtain rfl := p7 (by simp [hd])
        refine RI.wpOp_plain rfl rfl ?_
        go_simp
        exact ⟨_, _, _, _, _, u67, _, _, _, rfl, ⟨hw.a, hw.b, hw.e, nofun⟩, p0, p1, p2, p3, p5, p6, p7, fun _ => rfl, z4, y8, fun _ => ⟨by simp [RI.don, hd], by simp [RI.don, hd]⟩⟩
    · skip
      intro d x wx hI hd
      obtain ⟨u0, u63, u64, u65, u66, u67, u68, u69, u70, rfl, hw, p0, p1, p2, p3, p5, p6, p7, p9, z4, y8, y9⟩ := hI
      obtain rfl := p9 (hd 9 (by decide))
      obtain ⟨va, vc, G0⟩ := hw.e (hd 8 (by decide))
      clear hw p0 p1 p2 p3 p5 p6 p7 z4 y8 y9
      generalize v.length = vl at *
      obtain ⟨WL, eWL⟩ : ∃ WL, WL = wx := ⟨_, rfl⟩
      subst eWL
      go_wp2_with fail
      have HLT2 : Hid (g2 < gk ∧ gk < W1.heap.size) := ⟨by omega, by omega⟩
      have HNE : Hid (g2 ≠ gk ∧ g4 ≠ gk ∧ w.heap.size ≤ gk ∧ gk < W1.heap.size) := ⟨by omega, by omega, by have := HG2B.out; omega, by omega⟩
      have KSH : Hid (∀ (i lo : Nat) (x : Value) (wx : World), Ow lo (prt i M) x wx → Calls Try.prog 44 #[x, .int .i64 1] wx fun e w' => ∃ y, e = .returned y ∧ Rv (cut 1 (prt i M)) y w' ∧ Below wx.heap.size wx w') := fun i lo x wx ho => by
        obtain ⟨ao, cp, e1, e2, e3⟩ := own_rv ho
        subst e1
        refine (shorter_any (prt i M) 1 ao cp _ wx rfl (show _ ≤ _ from Nat.le_trans (List.length_filter_le _ _) (by rw [HML.out]; have := HN.out; omega)) (own_rv ho) (fun r hr => List.length_pos_iff.2 (hM1.out r (List.mem_filter.1 hr).1))).mono fun e w' he => ?_
        obtain ⟨y, h1, h2, h3⟩ := he
        exact ⟨y, h1, own_rv h2, h3⟩
      clear HNE0
      go_loopw [71] (fun x wr => ∃ i : Nat, i ≤ 16 ∧ x = .int .i64 (i : Int) ∧ GO w W1.heap.size g2 g4 gk v (.slice va vl vc) T i wr) (fun x _ => ((16 : Int) - intOf x).toNat)
      case atStart => exact ⟨0, Nat.zero_le _, rfl, G0⟩
      case round =>
        obtain ⟨i, hi, rfl, hG⟩ := hrel
        by_cases hlt : i < 16
        · have d1 : decide ((i : Int) < 16) = true := decide_eq_true (by omega)
          have HGi : Hid (GO w W1.heap.size g2 g4 gk v (.slice va vl vc) T i wr) := hG
          have HBi : Hid (Below w.heap.size w wr) := hG.b
          have i16 : Hid ((i : Int) < 16) := by show _ < _; omega
          have i16' : Hid ((0 : Int) ≤ (i : Int)) := by show _ ≤ _; omega
          clear hG
          generalize wr = wo at *
          clear wr
          go_wp2_with fail
          go_loopw [6, 76] (fun o x wr => ∃ k : Nat, k ≤ m ∧ x = .int .i64 (k : Int) ∧ Ow wo.heap.size (prt i (M.take k)) o wr ∧ Below wo.heap.size wo wr) (fun _ x _ => ((m : Int) - intOf x).toNat)
          case atStart => exact ⟨0, Nat.zero_le _, rfl, World.ownsRow_nil _ _ _ _, Below.refl _ _⟩
          case round =>
            obtain ⟨k, hk, rfl, ho, hB⟩ := hrel
            by_cases hkl : k < m
            · have d2 : decide ((k : Int) < (m : Int)) = true := decide_eq_true (by omega)
              have d3 : (0 : Int) ≤ (k : Int) := by omega
              have d4 : (k : Int) < (m : Int) := by omega
              obtain ⟨y0, y1⟩ := HMC.out k hkl
              have z0 := ((HBi.out.trans (hB.mono HBi.out.size)).cell (p := ⟨g, off + 2 + 2 * k, none⟩) HC0.out).trans y0
              have z1 := ((HBi.out.trans (hB.mono HBi.out.size)).cell (p := ⟨g, off + 2 + 2 * k + 1, none⟩) HC0.out).trans y1
              rw [Nat.mul_comm 2 k] at z0 z1
              have hMk : k < M.length := by rw [HML.out]; exact hkl
              have hne : (M.getD k n2).1 ≠ [] := hM1.out _ (by rw [List.getD_eq_getElem?_getD, List.getElem?_eq_getElem hMk]; exact List.getElem_mem hMk)
              have HPT : Hid (prt i (M.take (k + 1)) = prt i (M.take k) ++ (if ((M.getD k n2).1.headD 0).toNat = i then [M.getD k n2] else [])) := prt_take i M k hMk
              have HPL : Hid ((prt i (M.take k)).length ≤ k) := Nat.le_trans (List.length_filter_le _ _) (by rw [List.length_take]; omega)
              obtain ⟨A, eA⟩ : ∃ A, A = st (M.getD k n2).1 := ⟨_, rfl⟩
              obtain ⟨Z, eZ⟩ : ∃ Z, Z = st (M.getD k n2).2 := ⟨_, rfl⟩
              have hAs : 0 < A.size := by rw [eA, st_size]; exact List.length_pos_iff.2 hne
              have hAv : (A[0]'hAs).toNat = ((M.getD k n2).1.headD 0).toNat := by
                subst eA
                exact st_head _ hne hAs
              have HLT : Hid (∀ W : World, Rv [M.getD k n2] (.slice (some ⟨W.heap.size, 0, none⟩) 1 1) (W.alloc (.cells #[.string A, .string Z] 51))) := fun W => by rw [eA, eZ]; exact lit_rv _ W
              rw [← eA] at z0
              rw [← eZ] at z1
              clear y0 y1 eA eZ hne
              have E5 : Hid (wrap64 ((k : Int) + 1) = ((k + 1 : Nat) : Int)) := by have := HN.out; show _ = _; unfold wrap64; omega
              have bA : Below wr.heap.size wr (wr.alloc (.cells #[.string A, .string Z] 51)) := (Below.refl _ _).alloc (Nat.le_refl _) _
              have hc8 : ((M.getD k n2).1.headD 0).toNat < 256 := UInt8.toNat_lt _
              generalize ((M.getD k n2).1.headD 0).toNat = cc at *
              by_cases hci : cc = i
              · have t1 : ((cc : Int) == (i : Int)) = true := beq_iff_eq.2 (by omega)
                have t2 : (cc == i) = true := beq_iff_eq.2 hci
                have t3 : (wrap64 (cc : Int) == (i : Int)) = true := beq_iff_eq.2 (by unfold wrap64; omega)
                have HPT2 : Hid (prt i (M.take (k + 1)) = prt i (M.take k) ++ [M.getD k n2]) := by show _ = _; rw [HPT.out, if_pos hci]
                obtain ⟨v', w', hap, ho', hb', hgr⟩ := app_rv (lo := wo.heap.size) 47 (Pk.ownb (Pk.ownb ho bA) ((Below.refl _ _).alloc (Nat.le_refl _) (.cells #[.string A, .string Z] 51))) (HLT.out (wr.alloc (.cells #[.string A, .string Z] 51))) (by have := hB.size; simp; omega) (by have := HPL.out; have := HN.out; rw [List.length_singleton]; omega)
                rw [show (wr.alloc (.cells #[.string A, .string Z] 51)).heap.size = wr.heap.size + 1 by simp] at hap
                have HZ : Hid (Below wo.heap.size wo w') := (hB.trans ((bA.alloc (by simp) _).mono hB.size)).trans hb'
                have HO : Hid (Ow wo.heap.size (prt i (M.take (k + 1))) v' w') := by show Ow _ _ _ _; rw [HPT2.out]; exact ho'
                clear ho' hb' hgr bA hci
                obtain ⟨oa, on, oc, rfl⟩ := own_slice ho
                clear ho hB
                go_wp2_with (at_builtin; refine wpl_app rfl rfl rfl rfl hap ?_)
                rw [E5.out]
                exact ⟨⟨k + 1, hkl, rfl, HO.out, HZ.out⟩, msr_up k m hkl⟩
              · have t1 : ((cc : Int) == (i : Int)) = false := beq_eq_false_iff_ne.2 (by omega)
                have t2 : (cc == i) = false := beq_eq_false_iff_ne.2 hci
                have t3 : (wrap64 (cc : Int) == (i : Int)) = false := beq_eq_false_iff_ne.2 (by unfold wrap64; omega)
                have HPT2 : Hid (prt i (M.take (k + 1)) = prt i (M.take k)) := by show _ = _; rw [HPT.out, if_neg hci, List.append_nil]
                have HZ : Hid (Below wo.heap.size wo (wr.alloc (.cells #[.string A, .string Z] 51))) := hB.trans (bA.mono hB.size)
                have HO : Hid (Ow wo.heap.size (prt i (M.take (k + 1))) u6 (wr.alloc (.cells #[.string A, .string Z] 51))) := by show Ow _ _ _ _; rw [HPT2.out]; exact Pk.ownb ho bA
                clear bA hci
                clear ho hB
                go_wp2_with fail
                rw [E5.out]
                exact ⟨⟨k + 1, hkl, rfl, HO.out, HZ.out⟩, msr_up k m hkl⟩
            · have d2 : decide ((k : Int) < (m : Int)) = false := decide_eq_false (by omega)
              have ek : M.take k = M := List.take_of_length_le (by rw [HML.out]; omega)
              rw [ek] at ho
              have HGo : GO w W1.heap.size g2 g4 gk v (.slice va vl vc) T i wr := GO_below HGi.out hB
              obtain ⟨oa, on, oc, rfl⟩ := own_slice ho
              have HRv := own_rv ho
              have HOW : Hid (Ow wo.heap.size (prt i M) (.slice oa on oc) wr) := ho
              clear ho hB d2 ek HGi HBi
              go_upto_region 21 with fail
              have hw21 : GX w W1.heap.size g2 g4 gk v (.slice va vl vc) T i wo.heap.size (prt i M) (.slice oa on oc) false wr.drew := ⟨fun _ => GO_below HGo (Below.refl _ _).drew, fun _ => Pk.ownb HOW.out (Below.refl _ _).drew, nofun⟩
              clear HGo HRv HOW
              refine RI.wp_region_inv (GK21v w W1.heap.size wo.heap.size T v (prt i M) g off n cap g2 g4 gk i k X oa on oc m vc vl va u8 u27 u28 u29 u30 u31 u32 u33 u34 u35 u36 u37 u38 u39 u40 u63 u64 u65 u66 u67 u68 u69 u70 u78 u79 u80 u81 u82 u83 u84 u85 u86 u87 u88 u89 u90 u98) (by kernel_rfl) (by kernel_rfl) ?_ ?_ ?_
              · exact ⟨u91, u92, u93, u94, u95, u96, u97, rfl, hw21, nofun, nofun, nofun, nofun, nofun, nofun, nofun, nofun⟩
              · skip
                intro d x wx i hI hi hm
                obtain ⟨u91, u92, u93, u94, u95, u96, u97, rfl, hw, p0, p1, p2, p3, p6, z4, z5, y7⟩ := hI
                have hi' : i = 0 ∨ i = 1 ∨ i = 2 ∨ i = 3 ∨ i = 4 ∨ i = 5 ∨ i = 6 ∨ i = 7 := by simp at hi; omega
                have hd := hm.2
                have hf := hm.1
                clear hm hi
                rcases hi' with rfl | rfl | rfl | rfl | rfl | rfl | rfl | rfl
                · refine RI.wpOp_plain rfl rfl ?_
                  go_simp
                  exact ⟨_, u92, u93, u94, u95, u96, u97, rfl, hw, fun _ => rfl, p1, p2, p3, p6, z4, z5, y7⟩
                · have hd := hd _ rfl
                  simp [Region.binds] at hd
                  obtain rfl := p0 (by simp [hd])
                  refine RI.wpOp_plain rfl rfl ?_
                  have h7 : d 7 = false := by cases h : d 7 with | false => rfl | true => exact absurd (y7 h).1 (by simp [hf])
                  have x0 := (hw.a h7).f.2.2.2.2.1
                  go_simp
                  exact ⟨_, _, u93, u94, u95, u96, u97, rfl, hw, p0, fun _ => rfl, p2, p3, p6, z4, z5, fun h => absurd h (by simp [RI.don, h7])⟩
                · refine RI.wpOp_plain rfl rfl ?_
                  go_simp
                  exact ⟨u91, u92, _, u94, u95, u96, u97, rfl, hw, p0, p1, fun _ => rfl, p3, p6, z4, z5, y7⟩
                · refine RI.wpOp_plain rfl rfl ?_
                  go_simp
                  exact ⟨u91, u92, u93, _, u95, u96, u97, rfl, hw, p0, p1, p2, fun _ => rfl, p6, z4, z5, y7⟩
                · have hd := hd _ rfl
                  simp [Region.binds] at hd
                  obtain rfl := p3 (by simp [hd])
                  refine RI.wpOp_plain rfl rfl ?_
                  have h7 : d 7 = false := by cases h : d 7 with | false => rfl | true => exact absurd (y7 h).2.1 (by simp [hf])
                  have oo := hw.o h7
                  go_simp
                  refine (KSH.out i _ _ _ oo).mono ?_
                  rintro e w1 ⟨x1, rfl, hs1, hb1⟩
                  exact ⟨u91, u92, u93, _, _, u96, u97, rfl, GX_below hw hb1, p0, p1, p2, p3, p6, fun _ _ => hs1, (fun h => (z5 h).imp fun y hy => ⟨hy.1, fun k => Nv_below (hy.2 k) hb1⟩), fun h => absurd h (by simp [RI.don, h7])⟩
                · have hd := hd _ rfl
                  simp [Region.binds] at hd
                  refine RI.wpOp_plain rfl rfl ?_
                  have h7 : d 7 = false := by cases h : d 7 with | false => rfl | true => exact absurd (y7 h).2.2 (by simp [hf])
                  have rv := z4 (by simp [hd]) h7
                  go_simp
                  refine (KG.out i _ _ hlt rv).mono ?_
                  rintro e w1 ⟨y, rfl, hy, hb1⟩
                  exact ⟨u91, u92, u93, u94, u95, _, u97, rfl, GX_below hw hb1, p0, p1, p2, p3, p6, (fun h k => Rv_below (z4 h k) hb1), fun _ => ⟨y, rfl, fun _ => Nv_mono hy (fun k h _ => Nat.le_trans (hw.a h7).s h)⟩, fun h => absurd h (by simp [RI.don, h7])⟩
                · have hd := hd _ rfl
                  simp [Region.binds] at hd
                  obtain rfl := p0 (by simp [hd])
                  obtain rfl := p1 (by simp [hd])
                  obtain rfl := p2 (by simp [hd])
                  obtain rfl := p3 (by simp [hd])
                  refine RI.wpOp_plain rfl rfl ?_
                  have e16 := i16.out
                  have e16' := i16'.out
                  go_simp
                  exact ⟨_, _, _, _, u95, u96, _, rfl, hw, p0, p1, p2, p3, fun _ => rfl, z4, z5, y7⟩
                · have hd := hd _ rfl
                  simp [Region.binds] at hd
                  obtain rfl := p0 (by simp [hd])
                  obtain rfl := p1 (by simp [hd])
                  obtain rfl := p2 (by simp [hd])
                  obtain rfl := p3 (by simp [hd])
                  obtain rfl := p6 (by simp [hd])
                  refine RI.wpOp_plain rfl rfl ?_
                  obtain ⟨y, rfl, hy⟩ := z5 (by simp [hd])
                  have hyn := hy hf
                  obtain ⟨yk, b1, m1, e1, b2, m2, e2, b3, m3, e3, rfl⟩ := Nv_form hyn
                  refine wp_st4o rfl rfl rfl (there_sub (hw.a hf).k.t hlt) ?_
                  intro w1 gb1 s0 s1 s2 s3 so sf
                  have GN := GO_step (hw.a hf) hlt HNE.out.1 HNE.out.2.1 HNE.out.2.2.1 HNE.out.2.2.2 hyn gb1 s0 s1 s2 s3 so sf
                  simp only [Act.put]
                  exact ⟨_, _, _, _, u95, _, _, rfl, ⟨nofun, nofun, fun _ => GN⟩, p0, p1, p2, p3, p6, (fun _ h => nomatch h), fun _ => ⟨_, rfl, fun h => nomatch h⟩, fun _ => ⟨by simp [RI.don, hd], by simp [RI.don, hd], by simp [RI.don, hd]⟩⟩
              · skip
                intro d x wx hI hd
                obtain ⟨u91, u92, u93, u94, u95, u96, u97, rfl, hw, p0, p1, p2, p3, p6, z4, z5, y7⟩ := hI
                have GN := hw.e (hd 7 (by decide))
                have HGN : Hid (GO w W1.heap.size g2 g4 gk v (.slice va vl vc) T (i + 1) wx) := GN
                clear GN hw p0 p1 p2 p3 p6 z4 z5 y7
                go_wp2_with fail
                exact ⟨⟨i + 1, hlt, by rw [Int.natCast_succ], HGN.out⟩, msr_up' i 16 hlt⟩
        · have d1 : decide ((i : Int) < 16) = false := decide_eq_false (by omega)
          have ei : i = 16 := by omega
          subst ei
          have HGE : GO w W1.heap.size g2 g4 gk v (.slice va vl vc) T 16 wr := hG
          obtain ⟨_, f0, f1, f2, f3, _⟩ := hG.f
          have hv2 := hG.v
          have HNV : Hid (Nv (gk ≤ ·) wr (.mk 3 [] v ((List.range 16).map T)) (.int .i64 3, .slice none 0 0, (.slice va vl vc), .slice (some ⟨gk, 0, none⟩) 16 16)) := GO_end hG (fun k hk => by have := HLT2.out; omega) (Nat.le_refl _)
          clear hG d1
          go_wp2_with (refine wpList_st4 rfl rfl rfl rfl hv2 ?_; intro w9 gb9 s0 s1 s2 s3)
          have N9 : Nv (w.heap.size ≤ ·) w9 (.mk 3 [] v ((List.range 16).map T)) (.int .i64 3, .slice none 0 0, (.slice va vl vc), .slice (some ⟨gk, 0, none⟩) 16 16) := Nv_mono (Nv_gb HNV.out gb9 (fun k hk e => by injection e with e; have := HLT2.out; omega)) (fun k hk _ => Nat.le_trans HNE.out.2.2.1 hk)
          have B9 : Below w.heap.size w w9 := HGE.b.grown gb9 HGE.b.size (fun k e => by injection e with e; have := HG2B.out; omega)
          exact bodyPost_ret (v := .agg #[.int .i64 3, .slice none 0 0, (.slice va vl vc), .slice (some ⟨gk, 0, none⟩) 16 16]) (resN _ _ _ g2 2 _ _ _ _ rfl rfl s0 s1 s2 s3) rfl ⟨(.int .i64 3, .slice none 0 0, (.slice va vl vc), .slice (some ⟨gk, 0, none⟩) 16 16), rfl, N9, B9⟩
end Tr
end Go.Proofs.Ytdcbgldelfhohaa
/- lampbearerref.NCommon; the law NibCommon. -/
namespace Go.Proofs.Ytdcbgldelfhohaa
namespace Nb
open Go.RowKit
theorem vw_tail {x : UInt8} {p : List UInt8} {g off : Nat} {a1 : Option Addr} {w w' : World} (hg : g < w.heap.size) (hc : ∀ j, j < (x :: p).length → w.cell? ⟨g, off + j, none⟩ = some (.int .u8 (Sp.bz (x :: p) j))) (ha : 0 < p.length → a1 = some ⟨g, off + 1, none⟩) (hb : Below w.heap.size w w') : Sp.Vw p a1 w' := fun h0 => by
  refine ⟨g, off + 1, ha h0, Nat.lt_of_lt_of_le hg hb.size, fun j hj => ?_⟩
  have k := hc (j + 1) (by rw [List.length_cons]; omega)
  rw [hb.cell (p := ⟨g, off + 1 + j, none⟩) hg, show off + 1 + j = off + (j + 1) by omega, k]
  rfl
set_option maxHeartbeats 1000000 in
set_option maxRecDepth 100000 in
theorem ncommon_any : ∀ (p q : List UInt8) (ap aq : Option Addr) (cp cq : Nat) (w : World), p.length ≤ cp → q.length ≤ cq → (cp : Int) ≤ 9223372036854775807 → (cq : Int) ≤ 9223372036854775807 → Hid ((p.length : Int) ≤ 140737488355328) → Sp.Vw p ap w → Sp.Vw q aq w →
    Calls Try.prog 43 #[.slice ap p.length cp, .slice aq q.length cq] w fun e w' => e = .returned (.int .i64 (cmn p q : Int)) ∧ Below w.heap.size w w' := by
  intro p
  induction p with
  | nil =>
    intro q ap aq cp cq w _ _ _ _ _ _ _
    have e : cmn [] q = 0 := by cases q <;> rfl
    rw [e, List.length_nil]
    generalize q.length = m
    go_enter Try.func43, Try.ntmps43
    go_wp2_with fail
    go_quiet (fail)
    go_wp2_with fail
    go_ret
    exact ⟨rfl, below_drewN (Below.refl _ _) _⟩
  | cons x p IH =>
    intro q ap aq cp cq w hcp hcq hc6 hd6 hl hp hq
    cases q with
    | nil =>
      have e : cmn (x :: p) [] = 0 := rfl
      rw [e, List.length_nil]
      have n6 : (((x :: p).length : Int) == 0) = false := beq_false_of_ne (by rw [List.length_cons]; omega)
      clear hp hq hl IH hcp hcq
      generalize (x :: p).length = n at *
      go_enter Try.func43, Try.ntmps43
      go_wp2_with fail
      go_quiet (fail)
      go_wp2_with fail
      go_ret
      exact ⟨rfl, below_drewN (Below.refl _ _) _⟩
    | cons y q =>
      obtain ⟨g, off, rfl, hg, hc⟩ := hp (by rw [List.length_cons]; omega)
      obtain ⟨h, ofh, rfl, hh, hd⟩ := hq (by rw [List.length_cons]; omega)
      have c0 := hc 0 (by rw [List.length_cons]; omega)
      have c1 := hd 0 (by rw [List.length_cons]; omega)
      rw [Nat.add_zero] at c0 c1
      have n6 : (((x :: p).length : Int) == 0) = false := beq_false_of_ne (by rw [List.length_cons]; omega)
      have n7 : (((y :: q).length : Int) == 0) = false := beq_false_of_ne (by rw [List.length_cons]; omega)
      have n8 : (0 : Int) < ((x :: p).length : Int) := by rw [List.length_cons]; omega
      have n9 : (0 : Int) < ((y :: q).length : Int) := by rw [List.length_cons]; omega
      have m8 : (1 : Int) ≤ ((x :: p).length : Int) := by rw [List.length_cons]; omega
      have m9 : (1 : Int) ≤ ((y :: q).length : Int) := by rw [List.length_cons]; omega
      have KK : Hid (∀ (a1 a2 : Option Addr) (wx : World), (0 < p.length → a1 = some ⟨g, off + 1, none⟩) → (0 < q.length → a2 = some ⟨h, ofh + 1, none⟩) → Below w.heap.size w wx → Calls Try.prog 43 #[.slice a1 ((x :: p).length - 1) (cp - 1), .slice a2 ((y :: q).length - 1) (cq - 1)] wx fun e w' => e = .returned (.int .i64 (cmn p q : Int)) ∧ Below wx.heap.size wx w') := fun a1 a2 wx h1 h2 hb => by
        rw [List.length_cons] at hcp hcq
        have k := IH q a1 a2 (cp - 1) (cq - 1) wx (by omega) (by omega) (by omega) (by omega) (by have := hl.out; rw [List.length_cons] at this; show _ ≤ _; omega) (vw_tail hg hc h1 hb) (vw_tail hh hd h2 hb)
        exact k
      have HN : Hid ((x :: p).length = p.length + 1) := List.length_cons
      have HM : Hid ((y :: q).length = q.length + 1) := List.length_cons
      have HA : Hid ((x :: p).length ≤ cp) := hcp
      have HB : Hid ((y :: q).length ≤ cq) := hcq
      have HW : Hid (IntKind.i64.wrap (1 + (cmn p q : Int)) = ((cmn p q + 1 : Nat) : Int)) := by
        have := hl.out
        have := cmn_le p q
        rw [List.length_cons] at *
        show _ = _
        rw [IntKind.wrap_i64]; omega
      by_cases e : x = y
      · have E : Hid (cmn (x :: p) (y :: q) = cmn p q + 1) := by show _ = _; rw [cmn, if_pos e]
        have t1 : (Sp.bz (x :: p) 0 != Sp.bz (y :: q) 0) = false := by subst e; simp [Sp.bz]
        rw [E.out]
        clear hp hq hl IH hcp hcq hc hd e E
        generalize Sp.bz (x :: p) 0 = X at *
        generalize Sp.bz (y :: q) 0 = Y at *
        generalize (x :: p).length = n at *
        generalize (y :: q).length = m at *
        generalize cmn p q = c at *
        by_cases hp1 : cp = 1
        · subst hp1
          by_cases hq1 : cq = 1
          · subst hq1
            go_enter Try.func43, Try.ntmps43
            go_wp2_with fail
            go_quiet (fail)
            go_upto_region 3 with fail
            refine RS.wp_region_one (fun wx => Below w.heap.size w wx) (by kernel_rfl) (by kernel_rfl) ((below_drewN (Below.refl _ _) _).drew) ?_
            dsimp only [List.toList_toArray]
            refine RS.go1 (v := ?_) (a' := ?_) rfl ?_ ?_ ?_
            rotate_left 2
            · intro K wx hS hK
              go_simp
              exact hK _ hS
            · simp only [Act.put, List.setIfInBounds_toArray, List.set_cons_succ, List.set_cons_zero]
              rfl
            refine RS.go1 (v := ?_) (a' := ?_) rfl ?_ ?_ ?_
            rotate_left 2
            · intro K wx hS hK
              go_simp
              exact hK _ hS
            · simp only [Act.put, List.setIfInBounds_toArray, List.set_cons_succ, List.set_cons_zero]
              rfl
            refine RS.go1 (v := ?_) (a' := ?_) rfl ?_ ?_ ?_
            rotate_left 2
            · intro K wx hS hK
              go_simp
              exact hK _ hS
            · simp only [Act.put, List.setIfInBounds_toArray, List.set_cons_succ, List.set_cons_zero]
              rfl
            refine RS.go1 (v := ?_) (a' := ?_) rfl ?_ ?_ ?_
            rotate_left 2
            · intro K wx hS hK
              go_simp
              exact hK _ hS
            · simp only [Act.put, List.setIfInBounds_toArray, List.set_cons_succ, List.set_cons_zero]
              rfl
            refine RS.go1 (v := ?_) (a' := ?_) rfl ?_ ?_ ?_
            rotate_left 2
            · intro K wx hS hK
              go_simp
              refine (KK.out _ _ _ (fun h => by first | rfl | (exfalso; have := HN.out; have := HM.out; have := HA.out; have := HB.out; omega)) (fun h => by first | rfl | (exfalso; have := HN.out; have := HM.out; have := HA.out; have := HB.out; omega)) hS).mono (fun e w2 he => ?_)
              refine ⟨_, he.1, ?_⟩
              exact hK _ (hS.trans (he.2.mono hS.size))
            · simp only [Act.put, List.setIfInBounds_toArray, List.set_cons_succ, List.set_cons_zero]
              rfl
            refine RS.go1 (v := ?_) (a' := ?_) rfl ?_ ?_ ?_
            rotate_left 2
            · intro K wx hS hK
              go_simp
              exact hK _ hS
            · simp only [Act.put, List.setIfInBounds_toArray, List.set_cons_succ, List.set_cons_zero]
              rfl
            refine RS.go1 (v := ?_) (a' := ?_) rfl ?_ ?_ ?_
            rotate_left 2
            · intro K wx hS hK
              go_simp
              exact hK _ hS
            · simp only [Act.put, List.setIfInBounds_toArray, List.set_cons_succ, List.set_cons_zero]
              rfl
            refine RS.go_end ?_
            intro w9 hb
            go_wp2_with fail
            go_ret
            exact ⟨by rw [← HW.out]; rfl, hb⟩
          · have n5 : (1 : Int) < (cq : Int) := by have := HM.out; have := HB.out; omega
            go_enter Try.func43, Try.ntmps43
            go_wp2_with fail
            go_quiet (fail)
            go_upto_region 3 with fail
            refine RS.wp_region_one (fun wx => Below w.heap.size w wx) (by kernel_rfl) (by kernel_rfl) ((below_drewN (Below.refl _ _) _).drew) ?_
            dsimp only [List.toList_toArray]
            refine RS.go1 (v := ?_) (a' := ?_) rfl ?_ ?_ ?_
            rotate_left 2
            · intro K wx hS hK
              go_simp
              exact hK _ hS
            · simp only [Act.put, List.setIfInBounds_toArray, List.set_cons_succ, List.set_cons_zero]
              rfl
            refine RS.go1 (v := ?_) (a' := ?_) rfl ?_ ?_ ?_
            rotate_left 2
            · intro K wx hS hK
              go_simp
              exact hK _ hS
            · simp only [Act.put, List.setIfInBounds_toArray, List.set_cons_succ, List.set_cons_zero]
              rfl
            refine RS.go1 (v := ?_) (a' := ?_) rfl ?_ ?_ ?_
            rotate_left 2
            · intro K wx hS hK
              go_simp
              exact hK _ hS
            · simp only [Act.put, List.setIfInBounds_toArray, List.set_cons_succ, List.set_cons_zero]
              rfl
            refine RS.go1 (v := ?_) (a' := ?_) rfl ?_ ?_ ?_
            rotate_left 2
            · intro K wx hS hK
              go_simp
              exact hK _ hS
            · simp only [Act.put, List.setIfInBounds_toArray, List.set_cons_succ, List.set_cons_zero]
              rfl
            refine RS.go1 (v := ?_) (a' := ?_) rfl ?_ ?_ ?_
            rotate_left 2
            · intro K wx hS hK
              go_simp
              refine (KK.out _ _ _ (fun h => by first | rfl | (exfalso; have := HN.out; have := HM.out; have := HA.out; have := HB.out; omega)) (fun h => by first | rfl | (exfalso; have := HN.out; have := HM.out; have := HA.out; have := HB.out; omega)) hS).mono (fun e w2 he => ?_)
              refine ⟨_, he.1, ?_⟩
              exact hK _ (hS.trans (he.2.mono hS.size))
            · simp only [Act.put, List.setIfInBounds_toArray, List.set_cons_succ, List.set_cons_zero]
              rfl
            refine RS.go1 (v := ?_) (a' := ?_) rfl ?_ ?_ ?_
            rotate_left 2
            · intro K wx hS hK
              go_simp
              exact hK _ hS
            · simp only [Act.put, List.setIfInBounds_toArray, List.set_cons_succ, List.set_cons_zero]
              rfl
            refine RS.go1 (v := ?_) (a' := ?_) rfl ?_ ?_ ?_
            rotate_left 2
            · intro K wx hS hK
              go_simp
              exact hK _ hS
            · simp only [Act.put, List.setIfInBounds_toArray, List.set_cons_succ, List.set_cons_zero]
              rfl
            refine RS.go_end ?_
            intro w9 hb
            go_wp2_with fail
            go_ret
            exact ⟨by rw [← HW.out]; rfl, hb⟩
        · have n4 : (1 : Int) < (cp : Int) := by have := HN.out; have := HA.out; omega
          by_cases hq1 : cq = 1
          · subst hq1
            go_enter Try.func43, Try.ntmps43
            go_wp2_with fail
            go_quiet (fail)
            go_upto_region 3 with fail
            refine RS.wp_region_one (fun wx => Below w.heap.size w wx) (by kernel_rfl) (by kernel_rfl) ((below_drewN (Below.refl _ _) _).drew) ?_
            dsimp only [List.toList_toArray]
            refine RS.go1 (v := ?_) (a' := ?_) rfl ?_ ?_ ?_
            rotate_left 2
            · intro K wx hS hK
              go_simp
              exact hK _ hS
            · simp only [Act.put, List.setIfInBounds_toArray, List.set_cons_succ, List.set_cons_zero]
              rfl
            refine RS.go1 (v := ?_) (a' := ?_) rfl ?_ ?_ ?_
            rotate_left 2
            · intro K wx hS hK
              go_simp
              exact hK _ hS
            · simp only [Act.put, List.setIfInBounds_toArray, List.set_cons_succ, List.set_cons_zero]
              rfl
            refine RS.go1 (v := ?_) (a' := ?_) rfl ?_ ?_ ?_
            rotate_left 2
            · intro K wx hS hK
              go_simp
              exact hK _ hS
            · simp only [Act.put, List.setIfInBounds_toArray, List.set_cons_succ, List.set_cons_zero]
              rfl
            refine RS.go1 (v := ?_) (a' := ?_) rfl ?_ ?_ ?_
            rotate_left 2
            · intro K wx hS hK
              go_simp
              exact hK _ hS
            · simp only [Act.put, List.setIfInBounds_toArray, List.set_cons_succ, List.set_cons_zero]
              rfl
            refine RS.go1 (v := ?_) (a' := ?_) rfl ?_ ?_ ?_
            rotate_left 2
            · intro K wx hS hK
              go_simp
              refine (KK.out _ _ _ (fun h => by first | rfl | (exfalso; have := HN.out; have := HM.out; have := HA.out; have := HB.out; omega)) (fun h => by first | rfl | (exfalso; have := HN.out; have := HM.out; have := HA.out; have := HB.out; omega)) hS).mono (fun e w2 he => ?_)
              refine ⟨_, he.1, ?_⟩
              exact hK _ (hS.trans (he.2.mono hS.size))
            · simp only [Act.put, List.setIfInBounds_toArray, List.set_cons_succ, List.set_cons_zero]
              rfl
            refine RS.go1 (v := ?_) (a' := ?_) rfl ?_ ?_ ?_
            rotate_left 2
            · intro K wx hS hK
              go_simp
              exact hK _ hS
            · simp only [Act.put, List.setIfInBounds_toArray, List.set_cons_succ, List.set_cons_zero]
              rfl
            refine RS.go1 (v := ?_) (a' := ?_) rfl ?_ ?_ ?_
            rotate_left 2
            · intro K wx hS hK
              go_simp
              exact hK _ hS
            · simp only [Act.put, List.setIfInBounds_toArray, List.set_cons_succ, List.set_cons_zero]
              rfl
            refine RS.go_end ?_
            intro w9 hb
            go_wp2_with fail
            go_ret
            exact ⟨by rw [← HW.out]; rfl, hb⟩
          · have n5 : (1 : Int) < (cq : Int) := by have := HM.out; have := HB.out; omega
            go_enter Try.func43, Try.ntmps43
            go_wp2_with fail
            go_quiet (fail)
            go_upto_region 3 with fail
            refine RS.wp_region_one (fun wx => Below w.heap.size w wx) (by kernel_rfl) (by kernel_rfl) ((below_drewN (Below.refl _ _) _).drew) ?_
            dsimp only [List.toList_toArray]
            refine RS.go1 (v := ?_) (a' := ?_) rfl ?_ ?_ ?_
            rotate_left 2
            · intro K wx hS hK
              go_simp
              exact hK _ hS
            · simp only [Act.put, List.setIfInBounds_toArray, List.set_cons_succ, List.set_cons_zero]
              rfl
            refine RS.go1 (v := ?_) (a' := ?_) rfl ?_ ?_ ?_
            rotate_left 2
            · intro K wx hS hK
              go_simp
              exact hK _ hS
            · simp only [Act.put, List.setIfInBounds_toArray, List.set_cons_succ, List.set_cons_zero]
              rfl
            refine RS.go1 (v := ?_) (a' := ?_) rfl ?_ ?_ ?_
            rotate_left 2
            · intro K wx hS hK
              go_simp
              exact hK _ hS
            · simp only [Act.put, List.setIfInBounds_toArray, List.set_cons_succ, List.set_cons_zero]
              rfl
            refine RS.go1 (v := ?_) (a' := ?_) rfl ?_ ?_ ?_
            rotate_left 2
            · intro K wx hS hK
              go_simp
              exact hK _ hS
            · simp only [Act.put, List.setIfInBounds_toArray, List.set_cons_succ, List.set_cons_zero]
              rfl
            refine RS.go1 (v := ?_) (a' := ?_) rfl ?_ ?_ ?_
            rotate_left 2
            · intro K wx hS hK
              go_simp
              refine (KK.out _ _ _ (fun h => by first | rfl | (exfalso; have := HN.out; have := HM.out; have := HA.out; have := HB.out; omega)) (fun h => by first | rfl | (exfalso; have := HN.out; have := HM.out; have := HA.out; have := HB.out; omega)) hS).mono (fun e w2 he => ?_)
              refine ⟨_, he.1, ?_⟩
              exact hK _ (hS.trans (he.2.mono hS.size))
            · simp only [Act.put, List.setIfInBounds_toArray, List.set_cons_succ, List.set_cons_zero]
              rfl
            refine RS.go1 (v := ?_) (a' := ?_) rfl ?_ ?_ ?_
            rotate_left 2
            · intro K wx hS hK
              go_simp
              exact hK _ hS
            · simp only [Act.put, List.setIfInBounds_toArray, List.set_cons_succ, List.set_cons_zero]
              rfl
            refine RS.go1 (v := ?_) (a' := ?_) rfl ?_ ?_ ?_
            rotate_left 2
            · intro K wx hS hK
              go_simp
              exact hK _ hS
            · simp only [Act.put, List.setIfInBounds_toArray, List.set_cons_succ, List.set_cons_zero]
              rfl
            refine RS.go_end ?_
            intro w9 hb
            go_wp2_with fail
            go_ret
            exact ⟨by rw [← HW.out]; rfl, hb⟩
      · have E : Hid (cmn (x :: p) (y :: q) = 0) := by show _ = _; rw [cmn, if_neg e]
        have t1 : (Sp.bz (x :: p) 0 != Sp.bz (y :: q) 0) = true := by
          simp only [Sp.bz, List.getD_cons_zero, bne_iff_ne, ne_eq]
          intro h
          exact e (UInt8.toNat_inj.1 (by omega))
        rw [E.out]
        clear hp hq hl IH hcp hcq hc hd e E KK HW
        generalize Sp.bz (x :: p) 0 = X at *
        generalize Sp.bz (y :: q) 0 = Y at *
        generalize (x :: p).length = n at *
        generalize (y :: q).length = m at *
        go_enter Try.func43, Try.ntmps43
        go_wp2_with fail
        go_quiet (fail)
        go_wp2_with fail
        go_ret
        exact ⟨rfl, below_drewN (Below.refl _ _) _⟩
end Nb
end Go.Proofs.Ytdcbgldelfhohaa
/- lampbearerref.grown at every list in order; lampbearerref.GRight. -/
namespace Go.Proofs.Ytdcbgldelfhohaa
namespace Tr
open Nb Go.RowKit
set_option maxHeartbeats 1000000 in
set_option maxRecDepth 100000 in
theorem grown_nil (ao : Option Addr) (cap : Nat) (w : World) :
    Calls Try.prog 24 #[.slice ao 0 cap] w fun e w' => ∃ u : V4, e = .returned (v4 u) ∧ Nv (w.heap.size ≤ ·) w' Nd.no u ∧ Below w.heap.size w w' := by
  have HB : Below w.heap.size w (w.alloc (.cells #[.int .i64 0, .slice none 0 0, .slice none 0 0, .slice none 0 0] 25)) := (Below.refl _ _).alloc (Nat.le_refl _) _
  have BV := B4_new w
  go_enter Try.func24, Try.ntmps24
  go_wp2_with (refine wpList_st4 rfl rfl rfl rfl BV ?_; intro w9 gb9 s0 s1 s2 s3)
  have B9 : Below w.heap.size w w9 := HB.grown gb9 HB.size (fun k e => by injection e with e; omega)
  exact bodyPost_ret (v := .agg #[.int .i64 0, .slice none 0 0, .slice none 0 0, .slice none 0 0]) (resN _ _ _ w.heap.size 2 _ _ _ _ rfl rfl s0 s1 s2 s3) rfl ⟨(.int .i64 0, .slice none 0 0, .slice none 0 0, .slice none 0 0), rfl, Nv_no _ _, B9⟩
theorem ncm (p q : By) (hp : p.length ≤ 4194304) (a b : Value) (wx : World) (ha : SlC p a wx) (hb : SlC q b wx) : Calls Try.prog 43 #[a, b] wx fun e w' => e = .returned (.int .i64 (cmn p q : Int)) ∧ Below wx.heap.size wx w' := by
  obtain ⟨a1, c1, rfl, h1, h2, h3⟩ := ha
  obtain ⟨a2, c2, rfl, k1, k2, k3⟩ := hb
  exact ncommon_any p q a1 a2 c1 c2 wx h1 k1 h2 k2 (by show _ ≤ _; omega) h3 k3
theorem srt_cut {c : Nat} {p : By} {l : Rt} (hc : p.length = c) (h : ∀ r ∈ l, p <+: r.1) (hs : Srt l) : Srt (cut c l) := by
  have := pre_cut h
  rw [hc] at this
  rw [← this, srt_pre] at hs
  exact hs
theorem srt_sub {l : Rt} (f : By × By → Bool) (hs : Srt l) : Srt (l.filter f) := List.Pairwise.filter f hs
theorem getLast_getD (a b : By × By) (l : Rt) : (b :: l).getLast (by simp) = (a :: b :: l).getD (l.length + 1) n2 := by
  rw [List.getD_cons_succ, List.getLast_eq_getElem, List.getD_eq_getElem?_getD, List.getElem?_eq_getElem (by simp)]
  simp
/-- grown, by the longest path. -/
theorem grown_all : ∀ (N : Nat) (l : Rt) (v : Value) (w : World), Rv l v w → l.length ≤ 1048576 → (∀ r ∈ l, r.1.length < N) → N ≤ 65 → Srt l → Pts l →
    Calls Try.prog 24 #[v] w fun e w' => ∃ u : V4, e = .returned (v4 u) ∧ Nv (w.heap.size ≤ ·) w' (grow N l) u ∧ Below w.heap.size w w'
  | 0, [], v, w, hv, _, _, _, _, _ => by
    obtain ⟨ao, cap, rfl, _, _⟩ := hv
    exact grown_nil ao cap w
  | 0, a :: l, _, _, _, _, h, _, _, _ => absurd (h a (List.mem_cons_self ..)) (by omega)
  | N + 1, [], v, w, hv, _, _, _, _, _ => by
    obtain ⟨ao, cap, rfl, _, _⟩ := hv
    exact grown_nil ao cap w
  | N + 1, [a], v, w, hv, _, _, _, _, _ => by
    obtain ⟨ao, cap, rfl, _, hq⟩ := hv
    obtain ⟨g, off, rfl, hg, hc⟩ := hq (by simp)
    obtain ⟨c0, c1⟩ := hc 0 (by simp)
    exact grown_leaf a.1 a.2 g off cap w hg c0 c1
  | N + 1, a :: b :: l, v, w, hv, hn, hN, h65, hs, hp => by
    obtain ⟨ao, cap, rfl, hcap, hq⟩ := hv
    obtain ⟨g, off, rfl, hg, hc⟩ := hq (by simp)
    have hz : (b :: l).getLast (by simp) = (a :: b :: l).getD (l.length + 1) n2 := getLast_getD a b l
    have hz2 : (a :: b :: l).getLast (by simp) = (b :: l).getLast (by simp) := List.getLast_cons (by simp)
    obtain ⟨z, ez⟩ : ∃ z, z = (b :: l).getLast (by simp) := ⟨_, rfl⟩
    have hzm : z ∈ a :: b :: l := by rw [ez]; exact List.mem_cons_of_mem _ (List.getLast_mem _)
    have hal : a.1.length ≤ 64 := by have := hN a (List.mem_cons_self ..); omega
    have hzl : z.1.length ≤ 64 := by have := hN z hzm; omega
    have hpre : ∀ r ∈ a :: b :: l, a.1.take (cmn a.1 z.1) <+: r.1 := fun r hr => by
      refine cmn_mid a.1 r.1 z.1 (srt_head hs r hr) ?_
      have := srt_last hs (by simp) r hr
      rw [hz2, ← ez] at this
      exact this
    have hcle := Nb.cmn_le a.1 z.1
    have hlen : (a.1.take (cmn a.1 z.1)).length = cmn a.1 z.1 := by rw [List.length_take]; omega
    have hlc : (a :: b :: l).length = l.length + 2 := by simp
    unfold grow
    rw [← ez]
    by_cases hcm : 0 < cmn a.1 z.1
    · rw [if_pos hcm]
      have hcut : ∀ r ∈ a :: b :: l, cmn a.1 z.1 ≤ r.1.length := fun r hr => by
        have := (hpre r hr).length_le
        rw [hlen] at this
        exact this
      refine grown_road a.1 z.1 g off cap (a :: b :: l).length (l.length + 1) (cmn a.1 z.1) w (by omega) (by omega) hn hg (hc 0 (by simp)).1 ?_ hcm hcle _ rfl (cut (cmn a.1 z.1) (a :: b :: l)) _ ?_ ?_ (by omega) (by omega) (fun x y wx hx hy => ncm a.1 z.1 (by omega) x y wx hx hy)
      · have := (hc (l.length + 1) (by simp)).1
        rw [← hz, ← ez, Nat.mul_comm] at this
        exact this
      · intro wx hb
        refine (shorter_any (a :: b :: l) (cmn a.1 z.1) (some ⟨g, off, none⟩) cap _ wx rfl (show _ ≤ _ by omega) (Rv_below ⟨_, _, rfl, hcap, fun _ => ⟨g, off, rfl, hg, hc⟩⟩ hb) hcut).mono fun e w' he => ?_
        obtain ⟨y, h1, h2, h3⟩ := he
        exact ⟨y, h1, own_rv h2, h3⟩
      · intro x wx hx
        refine grown_all N _ x wx hx (by rw [cut_len]; exact hn) (fun r hr => ?_) (by omega) (srt_cut hlen hpre hs) ?_
        · obtain ⟨s, hs1, rfl⟩ := List.mem_map.1 hr
          have := hN s hs1
          have := hcut s hs1
          simp only [List.length_drop]
          omega
        · intro r hr c hcc
          obtain ⟨s, hs1, rfl⟩ := List.mem_map.1 hr
          exact hp s hs1 c (List.mem_of_mem_drop hcc)
    · rw [if_neg hcm]
      have hc0 : cmn a.1 z.1 = 0 := by omega
      have hKN : ∀ (x y : Value) (wx : World), SlC a.1 x wx → SlC z.1 y wx → Calls Try.prog 43 #[x, y] wx fun e w' => e = .returned (.int .i64 0) ∧ Below wx.heap.size wx w' := fun x y wx hx hy => by
        have := ncm a.1 z.1 (by omega) x y wx hx hy
        rw [hc0] at this
        exact this
      have hrest : ∀ r ∈ b :: l, r.1 ≠ [] := fun r hr e => by
        have := (List.pairwise_cons.1 hs).1 r hr
        rw [e] at this
        exact less_nil _ this
      have KGx : ∀ M : Rt, M.length ≤ 1048576 → (∀ r ∈ M, r ∈ a :: b :: l) → Srt M → (∀ r ∈ M, r.1 ≠ []) → ∀ (i : Nat) (x : Value) (wx : World), i < 16 → Rv (cut 1 (prt i M)) x wx → Calls Try.prog 24 #[x] wx fun e w' => ∃ y : V4, e = .returned (v4 y) ∧ Nv (wx.heap.size ≤ ·) w' (grow N (cut 1 (prt i M))) y ∧ Below wx.heap.size wx w' := fun M hM1 hM2 hM3 hM4 i x wx hi hx => by
        refine grown_all N _ x wx hx (by rw [cut_len]; exact Nat.le_trans (List.length_filter_le _ _) hM1) (fun r hr => ?_) (by omega) (srt_cut (p := [UInt8.ofNat i]) rfl (fun r hr => ?_) (srt_sub _ hM3)) ?_
        · obtain ⟨s, hs1, rfl⟩ := List.mem_map.1 hr
          have h1 := (List.mem_filter.1 hs1).1
          have := hN s (hM2 s h1)
          have := List.length_pos_iff.2 (hM4 s h1)
          simp only [List.length_drop]
          omega
        · obtain ⟨_, q, e⟩ := prt_mem hM4 hr
          rw [e]
          exact ⟨q, rfl⟩
        · intro r hr c hcc
          obtain ⟨s, hs1, rfl⟩ := List.mem_map.1 hr
          exact hp s (hM2 s (List.mem_filter.1 hs1).1) c (List.mem_of_mem_drop hcc)
      have hm1 : ((a :: b :: l).getD (l.length + 1) n2).1 = z.1 := by rw [← hz, ← ez]
      by_cases ha : a.1 = []
      · rw [if_pos ha, if_pos ha]
        exact grown_fork_v (a :: b :: l) (b :: l) a.1 z.1 a.2 g off cap (a :: b :: l).length (l.length + 1) w (by omega) (by omega) hn rfl hcap hg rfl hm1 ha rfl rfl hrest (fun j hj => hc j hj) _
          (KGx (b :: l) (by rw [List.length_cons] at *; omega) (fun r hr => List.mem_cons_of_mem _ hr) (List.pairwise_cons.1 hs).2 hrest) (by omega) (by omega) hKN
      · rw [if_neg ha, if_neg ha]
        have hall : ∀ r ∈ a :: b :: l, r.1 ≠ [] := fun r hr => by
          rcases List.mem_cons.1 hr with rfl | hr
          · exact ha
          · exact hrest r hr
        exact grown_fork_n (a :: b :: l) (a :: b :: l) a.1 z.1 [] g off cap (a :: b :: l).length (l.length + 1) w (by omega) (by omega) hn rfl hcap hg rfl hm1 ha rfl rfl hall (fun j hj => hc j hj) _
          (KGx (a :: b :: l) hn (fun r hr => hr) hs hall) (by omega) (by omega) hKN
theorem grown_ok : GrownOk := fun l v w hv hn hN hs hp => grown_all 65 l v w hv hn hN (Nat.le_refl _) hs hp
end Tr
end Go.Proofs.Ytdcbgldelfhohaa
/- lampbearerref.GPut, form by form. -/
namespace Go.Proofs.Ytdcbgldelfhohaa
namespace Tr
open Nb Go.RowKit
set_option maxHeartbeats 1000000 in
set_option maxRecDepth 100000 in
theorem puterror_any (ak av : Option Addr) (nk ck nv cv : Nat) (w : World) : Calls Try.prog 31 #[.slice ak nk ck, .slice av nv cv] w fun e w' => e = .returned (.int .i64 (mp nk nv)) ∧ w' = w := by
  unfold mp
  by_cases h1 : nk ≤ 32
  · rw [if_pos h1]
    have d1 : decide ((32 : Int) < (nk : Int)) = false := decide_eq_false (by omega)
    by_cases h2 : nv ≤ 1024
    · rw [if_pos h2]
      have d0 : decide ((1024 : Int) < (nv : Int)) = false := decide_eq_false (by omega)
      clear h1 h2
      go_enter Try.func31, Try.ntmps31
      go_wp2_with fail
      go_ret
      exact ⟨rfl, rfl⟩
    · rw [if_neg h2]
      have d0 : decide ((1024 : Int) < (nv : Int)) = true := decide_eq_true (by omega)
      clear h1 h2
      go_enter Try.func31, Try.ntmps31
      go_wp2_with fail
      go_ret
      exact ⟨rfl, rfl⟩
  · rw [if_neg h1]
    have d1 : decide ((32 : Int) < (nk : Int)) = true := decide_eq_true (by omega)
    clear h1
    go_enter Try.func31, Try.ntmps31
    go_wp2_with fail
    go_ret
    exact ⟨rfl, rfl⟩
set_option maxHeartbeats 2000000 in
set_option maxRecDepth 100000 in
theorem gp_form (k : Int) (a1 a2 a3 ak av : Option Addr) (n1 c1 m2 c2 n3 c3 nk ck nv cv : Nat) (w : World) (KR0 : ∀ wx : World, Below w.heap.size w wx → Calls Try.prog 10 #[.agg #[.int .i64 k, .slice a1 n1 c1, .slice a2 m2 c2, .slice a3 n3 c3]] wx fun e w' => e = .returned (.bool false) ∧ Below wx.heap.size wx w') :
    Calls Try.prog 14 #[.agg #[.int .i64 k, .slice a1 n1 c1, .slice a2 m2 c2, .slice a3 n3 c3], .slice ak nk ck, .slice av nv cv] w fun e w' => e = .returned (.tuple #[.agg #[.int .i64 0, .slice none 0 0, .slice none 0 0, .slice none 0 0], .int .i64 1]) ∧ Below w.heap.size w w' := by
  have b1 : Below w.heap.size w (w.alloc (.cells #[.int .i64 k, .slice a1 n1 c1, .slice a2 m2 c2, .slice a3 n3 c3] 25)) := (Below.refl _ _).alloc (Nat.le_refl _) _
  have hs1 : (w.alloc (.cells #[.int .i64 k, .slice a1 n1 c1, .slice a2 m2 c2, .slice a3 n3 c3] 25)).heap.size = w.heap.size + 1 := by simp
  have b2 : Below (w.alloc (.cells #[.int .i64 k, .slice a1 n1 c1, .slice a2 m2 c2, .slice a3 n3 c3] 25)).heap.size (w.alloc (.cells #[.int .i64 k, .slice a1 n1 c1, .slice a2 m2 c2, .slice a3 n3 c3] 25)) ((w.alloc (.cells #[.int .i64 k, .slice a1 n1 c1, .slice a2 m2 c2, .slice a3 n3 c3] 25)).alloc (.cells #[.int .i64 0, .slice none 0 0, .slice none 0 0, .slice none 0 0] 25)) := (Below.refl _ _).alloc (Nat.le_refl _) _
  have HB : Below w.heap.size w ((w.alloc (.cells #[.int .i64 k, .slice a1 n1 c1, .slice a2 m2 c2, .slice a3 n3 c3] 25)).alloc (.cells #[.int .i64 0, .slice none 0 0, .slice none 0 0, .slice none 0 0] 25)) := b1.trans (b2.mono b1.size)
  have hs2 : ((w.alloc (.cells #[.int .i64 k, .slice a1 n1 c1, .slice a2 m2 c2, .slice a3 n3 c3] 25)).alloc (.cells #[.int .i64 0, .slice none 0 0, .slice none 0 0, .slice none 0 0] 25)).heap.size = w.heap.size + 1 + 1 := by simp
  obtain ⟨_, q0, q1, q2, q3⟩ := Bx_new w (.int .i64 k, .slice a1 n1 c1, .slice a2 m2 c2, .slice a3 n3 c3)
  dsimp only at q0 q1 q2 q3
  replace q0 := (b2.cell (p := ⟨w.heap.size, 0, none⟩) (by show w.heap.size < _; omega)).trans q0
  replace q1 := (b2.cell (p := ⟨w.heap.size, 1, none⟩) (by show w.heap.size < _; omega)).trans q1
  replace q2 := (b2.cell (p := ⟨w.heap.size, 2, none⟩) (by show w.heap.size < _; omega)).trans q2
  replace q3 := (b2.cell (p := ⟨w.heap.size, 3, none⟩) (by show w.heap.size < _; omega)).trans q3
  have BV : B4 (w.heap.size + 1) ((w.alloc (.cells #[.int .i64 k, .slice a1 n1 c1, .slice a2 m2 c2, .slice a3 n3 c3] 25)).alloc (.cells #[.int .i64 0, .slice none 0 0, .slice none 0 0, .slice none 0 0] 25)) := by
    have := B4_new (w.alloc (.cells #[.int .i64 k, .slice a1 n1 c1, .slice a2 m2 c2, .slice a3 n3 c3] 25))
    rwa [hs1] at this
  have HBV : Hid (B4 (w.heap.size + 1) ((w.alloc (.cells #[.int .i64 k, .slice a1 n1 c1, .slice a2 m2 c2, .slice a3 n3 c3] 25)).alloc (.cells #[.int .i64 0, .slice none 0 0, .slice none 0 0, .slice none 0 0] 25))) := BV
  have HBB : Hid (Below w.heap.size w ((w.alloc (.cells #[.int .i64 k, .slice a1 n1 c1, .slice a2 m2 c2, .slice a3 n3 c3] 25)).alloc (.cells #[.int .i64 0, .slice none 0 0, .slice none 0 0, .slice none 0 0] 25))) := HB
  have KR : Hid (Calls Try.prog 10 #[.agg #[.int .i64 k, .slice a1 n1 c1, .slice a2 m2 c2, .slice a3 n3 c3]] ((w.alloc (.cells #[.int .i64 k, .slice a1 n1 c1, .slice a2 m2 c2, .slice a3 n3 c3] 25)).alloc (.cells #[.int .i64 0, .slice none 0 0, .slice none 0 0, .slice none 0 0] 25)) fun e w' => e = .returned (.bool false) ∧ Below ((w.alloc (.cells #[.int .i64 k, .slice a1 n1 c1, .slice a2 m2 c2, .slice a3 n3 c3] 25)).alloc (.cells #[.int .i64 0, .slice none 0 0, .slice none 0 0, .slice none 0 0] 25)).heap.size ((w.alloc (.cells #[.int .i64 k, .slice a1 n1 c1, .slice a2 m2 c2, .slice a3 n3 c3] 25)).alloc (.cells #[.int .i64 0, .slice none 0 0, .slice none 0 0, .slice none 0 0] 25)) w') := KR0 _ HB
  clear KR0 HB b1 b2 hs1 hs2 BV
  go_enter Try.func14, Try.ntmps14
  go_wp2_with fail
  refine KR.out.mono ?_
  rintro e w1 ⟨rfl, hb1⟩
  have HZ : Hid (Below w.heap.size w w1) := HBB.out.trans (hb1.mono HBB.out.size)
  have hbv : B4 (w.heap.size + 1) w1 := B4_gb (r := none) HBV.out (gb_below hb1) (fun e => by cases e)
  clear hb1 q0 q1 q2 q3
  go_wp2_with (refine wpList_st4 rfl rfl rfl rfl hbv ?_; intro w9 gb9 s0 s1 s2 s3)
  have B9 : Below w.heap.size w w9 := HZ.out.grown gb9 HZ.out.size (fun k e => by injection e with e; omega)
  exact bodyPost_ret (v := .tuple #[.agg #[.int .i64 0, .slice none 0 0, .slice none 0 0, .slice none 0 0], .int .i64 1]) (resN2 _ _ _ (w.heap.size + 1) 6 7 _ _ _ _ _ rfl rfl rfl s0 s1 s2 s3) rfl ⟨rfl, B9⟩
set_option maxHeartbeats 2000000 in
set_option maxRecDepth 100000 in
theorem gp_err (k : Int) (a1 a2 a3 ak av : Option Addr) (n1 c1 m2 c2 n3 c3 nk ck nv cv : Nat) (w : World) (KR0 : ∀ wx : World, Below w.heap.size w wx → Calls Try.prog 10 #[.agg #[.int .i64 k, .slice a1 n1 c1, .slice a2 m2 c2, .slice a3 n3 c3]] wx fun e w' => e = .returned (.bool true) ∧ Below wx.heap.size wx w') (er : Int) (hne : (er == 0) = false) (KM : Hid (∀ wx : World, Calls Try.prog 31 #[.slice ak nk ck, .slice av nv cv] wx fun e w' => e = .returned (.int .i64 er) ∧ w' = wx)) :
    Calls Try.prog 14 #[.agg #[.int .i64 k, .slice a1 n1 c1, .slice a2 m2 c2, .slice a3 n3 c3], .slice ak nk ck, .slice av nv cv] w fun e w' => e = .returned (.tuple #[.agg #[.int .i64 0, .slice none 0 0, .slice none 0 0, .slice none 0 0], .int .i64 er]) ∧ Below w.heap.size w w' := by
  have b1 : Below w.heap.size w (w.alloc (.cells #[.int .i64 k, .slice a1 n1 c1, .slice a2 m2 c2, .slice a3 n3 c3] 25)) := (Below.refl _ _).alloc (Nat.le_refl _) _
  have hs1 : (w.alloc (.cells #[.int .i64 k, .slice a1 n1 c1, .slice a2 m2 c2, .slice a3 n3 c3] 25)).heap.size = w.heap.size + 1 := by simp
  have b2 : Below (w.alloc (.cells #[.int .i64 k, .slice a1 n1 c1, .slice a2 m2 c2, .slice a3 n3 c3] 25)).heap.size (w.alloc (.cells #[.int .i64 k, .slice a1 n1 c1, .slice a2 m2 c2, .slice a3 n3 c3] 25)) ((w.alloc (.cells #[.int .i64 k, .slice a1 n1 c1, .slice a2 m2 c2, .slice a3 n3 c3] 25)).alloc (.cells #[.int .i64 0, .slice none 0 0, .slice none 0 0, .slice none 0 0] 25)) := (Below.refl _ _).alloc (Nat.le_refl _) _
  have HB : Below w.heap.size w ((w.alloc (.cells #[.int .i64 k, .slice a1 n1 c1, .slice a2 m2 c2, .slice a3 n3 c3] 25)).alloc (.cells #[.int .i64 0, .slice none 0 0, .slice none 0 0, .slice none 0 0] 25)) := b1.trans (b2.mono b1.size)
  have hs2 : ((w.alloc (.cells #[.int .i64 k, .slice a1 n1 c1, .slice a2 m2 c2, .slice a3 n3 c3] 25)).alloc (.cells #[.int .i64 0, .slice none 0 0, .slice none 0 0, .slice none 0 0] 25)).heap.size = w.heap.size + 1 + 1 := by simp
  obtain ⟨_, q0, q1, q2, q3⟩ := Bx_new w (.int .i64 k, .slice a1 n1 c1, .slice a2 m2 c2, .slice a3 n3 c3)
  dsimp only at q0 q1 q2 q3
  replace q0 := (b2.cell (p := ⟨w.heap.size, 0, none⟩) (by show w.heap.size < _; omega)).trans q0
  replace q1 := (b2.cell (p := ⟨w.heap.size, 1, none⟩) (by show w.heap.size < _; omega)).trans q1
  replace q2 := (b2.cell (p := ⟨w.heap.size, 2, none⟩) (by show w.heap.size < _; omega)).trans q2
  replace q3 := (b2.cell (p := ⟨w.heap.size, 3, none⟩) (by show w.heap.size < _; omega)).trans q3
  have BV : B4 (w.heap.size + 1) ((w.alloc (.cells #[.int .i64 k, .slice a1 n1 c1, .slice a2 m2 c2, .slice a3 n3 c3] 25)).alloc (.cells #[.int .i64 0, .slice none 0 0, .slice none 0 0, .slice none 0 0] 25)) := by
    have := B4_new (w.alloc (.cells #[.int .i64 k, .slice a1 n1 c1, .slice a2 m2 c2, .slice a3 n3 c3] 25))
    rwa [hs1] at this
  have HBV : Hid (B4 (w.heap.size + 1) ((w.alloc (.cells #[.int .i64 k, .slice a1 n1 c1, .slice a2 m2 c2, .slice a3 n3 c3] 25)).alloc (.cells #[.int .i64 0, .slice none 0 0, .slice none 0 0, .slice none 0 0] 25))) := BV
  have HBB : Hid (Below w.heap.size w ((w.alloc (.cells #[.int .i64 k, .slice a1 n1 c1, .slice a2 m2 c2, .slice a3 n3 c3] 25)).alloc (.cells #[.int .i64 0, .slice none 0 0, .slice none 0 0, .slice none 0 0] 25))) := HB
  have KR : Hid (Calls Try.prog 10 #[.agg #[.int .i64 k, .slice a1 n1 c1, .slice a2 m2 c2, .slice a3 n3 c3]] ((w.alloc (.cells #[.int .i64 k, .slice a1 n1 c1, .slice a2 m2 c2, .slice a3 n3 c3] 25)).alloc (.cells #[.int .i64 0, .slice none 0 0, .slice none 0 0, .slice none 0 0] 25)) fun e w' => e = .returned (.bool true) ∧ Below ((w.alloc (.cells #[.int .i64 k, .slice a1 n1 c1, .slice a2 m2 c2, .slice a3 n3 c3] 25)).alloc (.cells #[.int .i64 0, .slice none 0 0, .slice none 0 0, .slice none 0 0] 25)).heap.size ((w.alloc (.cells #[.int .i64 k, .slice a1 n1 c1, .slice a2 m2 c2, .slice a3 n3 c3] 25)).alloc (.cells #[.int .i64 0, .slice none 0 0, .slice none 0 0, .slice none 0 0] 25)) w') := KR0 _ HB
  clear KR0 HB b1 b2 hs1 hs2 BV
  go_enter Try.func14, Try.ntmps14
  go_wp2_with fail
  refine KR.out.mono ?_
  rintro e w1 ⟨rfl, hb1⟩
  have HZ : Hid (Below w.heap.size w w1) := HBB.out.trans (hb1.mono HBB.out.size)
  have hbv : Hid (B4 (w.heap.size + 1) w1) := B4_gb (r := none) HBV.out (gb_below hb1) (fun e => by cases e)
  clear hb1 q0 q1 q2 q3
  go_wp2_with fail
  refine (KM.out _).mono ?_
  rintro e w2 ⟨rfl, rfl⟩
  have hbv2 := hbv.out
  go_wp2_with (refine wpList_st4 rfl rfl rfl rfl hbv2 ?_; intro w9 gb9 s0 s1 s2 s3)
  have B9 : Below w.heap.size w w9 := HZ.out.grown gb9 HZ.out.size (fun k e => by injection e with e; omega)
  exact bodyPost_ret (v := .tuple #[.agg #[.int .i64 0, .slice none 0 0, .slice none 0 0, .slice none 0 0], .int .i64 er]) (resN2 _ _ _ (w.heap.size + 1) 6 7 _ _ _ _ _ rfl rfl rfl s0 s1 s2 s3) rfl ⟨rfl, B9⟩
set_option maxHeartbeats 2000000 in
set_option maxRecDepth 100000 in
theorem gp_value (k : Int) (a1 a2 a3 ak av : Option Addr) (n1 c1 m2 c2 n3 c3 nk ck nv cv : Nat) (w : World) (l : Rt) (PL : Rt → Prop) (KR0 : ∀ wx : World, Below w.heap.size w wx → Calls Try.prog 10 #[.agg #[.int .i64 k, .slice a1 n1 c1, .slice a2 m2 c2, .slice a3 n3 c3]] wx fun e w' => e = .returned (.bool true) ∧ Below wx.heap.size wx w') (KM : Hid (∀ wx : World, Calls Try.prog 31 #[.slice ak nk ck, .slice av nv cv] wx fun e w' => e = .returned (.int .i64 0) ∧ w' = wx))
    (KT0 : Hid (∀ wx : World, Below w.heap.size w wx → Calls Try.prog 23 #[.agg #[.int .i64 k, .slice a1 n1 c1, .slice a2 m2 c2, .slice a3 n3 c3], .string ⟨#[]⟩] wx fun e w' => ∃ la n lc, e = .returned (.tuple #[.slice la n lc, .bool true]) ∧ Rv l (.slice la n lc) w' ∧ Below wx.heap.size wx w'))
    (KP0 : Hid (∀ (v : Value) (wx : World), Rv l v wx → Below w.heap.size w wx → Calls Try.prog 32 #[v, .slice ak nk ck, .slice av nv cv] wx fun e w' => ∃ l2 a n c, PL l2 ∧ e = .returned (.slice a n c) ∧ Rv l2 (.slice a n c) w' ∧ Below wx.heap.size wx w'))
    (KW0 : Hid (∀ (l2 : Rt) (v : Value) (wx : World), PL l2 → Rv l2 v wx → Calls Try.prog 24 #[v] wx fun e w' => ∃ u : V4, e = .returned (v4 u) ∧ Nv (wx.heap.size ≤ ·) w' (grw l2) u ∧ Below wx.heap.size wx w')) :
    Calls Try.prog 14 #[.agg #[.int .i64 k, .slice a1 n1 c1, .slice a2 m2 c2, .slice a3 n3 c3], .slice ak nk ck, .slice av nv cv] w fun e w' => ∃ (l2 : Rt) (u : V4), PL l2 ∧ e = .returned (.tuple #[v4 u, .int .i64 0]) ∧ Nv (w.heap.size ≤ ·) w' (grw l2) u ∧ Below w.heap.size w w' := by
  have b1 : Below w.heap.size w (w.alloc (.cells #[.int .i64 k, .slice a1 n1 c1, .slice a2 m2 c2, .slice a3 n3 c3] 25)) := (Below.refl _ _).alloc (Nat.le_refl _) _
  have hs1 : (w.alloc (.cells #[.int .i64 k, .slice a1 n1 c1, .slice a2 m2 c2, .slice a3 n3 c3] 25)).heap.size = w.heap.size + 1 := by simp
  have b2 : Below (w.alloc (.cells #[.int .i64 k, .slice a1 n1 c1, .slice a2 m2 c2, .slice a3 n3 c3] 25)).heap.size (w.alloc (.cells #[.int .i64 k, .slice a1 n1 c1, .slice a2 m2 c2, .slice a3 n3 c3] 25)) ((w.alloc (.cells #[.int .i64 k, .slice a1 n1 c1, .slice a2 m2 c2, .slice a3 n3 c3] 25)).alloc (.cells #[.int .i64 0, .slice none 0 0, .slice none 0 0, .slice none 0 0] 25)) := (Below.refl _ _).alloc (Nat.le_refl _) _
  have HB : Below w.heap.size w ((w.alloc (.cells #[.int .i64 k, .slice a1 n1 c1, .slice a2 m2 c2, .slice a3 n3 c3] 25)).alloc (.cells #[.int .i64 0, .slice none 0 0, .slice none 0 0, .slice none 0 0] 25)) := b1.trans (b2.mono b1.size)
  have hs2 : ((w.alloc (.cells #[.int .i64 k, .slice a1 n1 c1, .slice a2 m2 c2, .slice a3 n3 c3] 25)).alloc (.cells #[.int .i64 0, .slice none 0 0, .slice none 0 0, .slice none 0 0] 25)).heap.size = w.heap.size + 1 + 1 := by simp
  obtain ⟨_, q0, q1, q2, q3⟩ := Bx_new w (.int .i64 k, .slice a1 n1 c1, .slice a2 m2 c2, .slice a3 n3 c3)
  dsimp only at q0 q1 q2 q3
  replace q0 := (b2.cell (p := ⟨w.heap.size, 0, none⟩) (by show w.heap.size < _; omega)).trans q0
  replace q1 := (b2.cell (p := ⟨w.heap.size, 1, none⟩) (by show w.heap.size < _; omega)).trans q1
  replace q2 := (b2.cell (p := ⟨w.heap.size, 2, none⟩) (by show w.heap.size < _; omega)).trans q2
  replace q3 := (b2.cell (p := ⟨w.heap.size, 3, none⟩) (by show w.heap.size < _; omega)).trans q3
  have BV : B4 (w.heap.size + 1) ((w.alloc (.cells #[.int .i64 k, .slice a1 n1 c1, .slice a2 m2 c2, .slice a3 n3 c3] 25)).alloc (.cells #[.int .i64 0, .slice none 0 0, .slice none 0 0, .slice none 0 0] 25)) := by
    have := B4_new (w.alloc (.cells #[.int .i64 k, .slice a1 n1 c1, .slice a2 m2 c2, .slice a3 n3 c3] 25))
    rwa [hs1] at this
  have HBV : Hid (B4 (w.heap.size + 1) ((w.alloc (.cells #[.int .i64 k, .slice a1 n1 c1, .slice a2 m2 c2, .slice a3 n3 c3] 25)).alloc (.cells #[.int .i64 0, .slice none 0 0, .slice none 0 0, .slice none 0 0] 25))) := BV
  have HBB : Hid (Below w.heap.size w ((w.alloc (.cells #[.int .i64 k, .slice a1 n1 c1, .slice a2 m2 c2, .slice a3 n3 c3] 25)).alloc (.cells #[.int .i64 0, .slice none 0 0, .slice none 0 0, .slice none 0 0] 25))) := HB
  have KR : Hid (Calls Try.prog 10 #[.agg #[.int .i64 k, .slice a1 n1 c1, .slice a2 m2 c2, .slice a3 n3 c3]] ((w.alloc (.cells #[.int .i64 k, .slice a1 n1 c1, .slice a2 m2 c2, .slice a3 n3 c3] 25)).alloc (.cells #[.int .i64 0, .slice none 0 0, .slice none 0 0, .slice none 0 0] 25)) fun e w' => e = .returned (.bool true) ∧ Below ((w.alloc (.cells #[.int .i64 k, .slice a1 n1 c1, .slice a2 m2 c2, .slice a3 n3 c3] 25)).alloc (.cells #[.int .i64 0, .slice none 0 0, .slice none 0 0, .slice none 0 0] 25)).heap.size ((w.alloc (.cells #[.int .i64 k, .slice a1 n1 c1, .slice a2 m2 c2, .slice a3 n3 c3] 25)).alloc (.cells #[.int .i64 0, .slice none 0 0, .slice none 0 0, .slice none 0 0] 25)) w') := KR0 _ HB
  have HS2 : Hid (((w.alloc (.cells #[.int .i64 k, .slice a1 n1 c1, .slice a2 m2 c2, .slice a3 n3 c3] 25)).alloc (.cells #[.int .i64 0, .slice none 0 0, .slice none 0 0, .slice none 0 0] 25)).heap.size = w.heap.size + 1 + 1) := hs2
  clear KR0 HB b1 b2 hs1 hs2 BV
  go_enter Try.func14, Try.ntmps14
  go_wp2_with fail
  refine KR.out.mono ?_
  rintro e w1 ⟨rfl, hb1⟩
  have HZ : Hid (Below w.heap.size w w1) := HBB.out.trans (hb1.mono HBB.out.size)
  have hbv : Hid (B4 (w.heap.size + 1) w1) := B4_gb (r := none) HBV.out (gb_below hb1) (fun e => by cases e)
  have hlt : w.heap.size < ((w.alloc (.cells #[.int .i64 k, .slice a1 n1 c1, .slice a2 m2 c2, .slice a3 n3 c3] 25)).alloc (.cells #[.int .i64 0, .slice none 0 0, .slice none 0 0, .slice none 0 0] 25)).heap.size := by have := HS2.out; omega
  replace q0 := (hb1.cell (p := ⟨w.heap.size, 0, none⟩) hlt).trans q0
  replace q1 := (hb1.cell (p := ⟨w.heap.size, 1, none⟩) hlt).trans q1
  replace q2 := (hb1.cell (p := ⟨w.heap.size, 2, none⟩) hlt).trans q2
  replace q3 := (hb1.cell (p := ⟨w.heap.size, 3, none⟩) hlt).trans q3
  clear hb1 KR HBV HBB HS2 hlt
  go_wp2_with fail
  refine (KM.out _).mono ?_
  rintro e w2 ⟨rfl, rfl⟩
  go_wp2_with fail
  refine (KT0.out _ HZ.out).mono ?_
  rintro e w3 ⟨la, ln, lc, rfl, hrv, hb3⟩
  have HZ3 : Hid (Below w.heap.size w w3) := HZ.out.trans (hb3.mono HZ.out.size)
  have hbv3 : Hid (B4 (w.heap.size + 1) w3) := B4_gb (r := none) hbv.out (gb_below hb3) (fun e => by cases e)
  have HRV : Hid (Rv l (.slice la ln lc) w3) := hrv
  clear hrv hb3 HZ hbv q0 q1 q2 q3
  go_wp2_with fail
  refine (KP0.out _ _ HRV.out HZ3.out).mono ?_
  rintro e w4 ⟨l2, ra, rn, rc, hpl, rfl, hrv, hb4⟩
  have HPL : Hid (PL l2) := hpl
  have HZ4 : Hid (Below w.heap.size w w4) := HZ3.out.trans (hb4.mono HZ3.out.size)
  have hbv4 : Hid (B4 (w.heap.size + 1) w4) := B4_gb (r := none) hbv3.out (gb_below hb4) (fun e => by cases e)
  have HRV4 : Hid (Rv l2 (.slice ra rn rc) w4) := hrv
  clear hrv hb4 HZ3 hbv3 HRV hpl
  go_wp2_with fail
  have KW := KW0.out l2 _ _ HPL.out HRV4.out
  refine KW.mono ?_
  rintro e w5 ⟨u, rfl, hn5, hb5⟩
  obtain ⟨uk, ua1, un1, uc1, ua2, un2, uc2, ua3, un3, uc3, rfl⟩ := Nv_form hn5
  have hbv5 : B4 (w.heap.size + 1) w5 := B4_gb (r := none) hbv4.out (gb_below hb5) (fun e => by cases e)
  have HZ5 : Hid (Below w.heap.size w w5) := HZ4.out.trans (hb5.mono HZ4.out.size)
  have HG4 : Hid (w.heap.size + 1 < w4.heap.size) := hbv4.out.hi
  have HN5 : Hid (Nv (w4.heap.size ≤ ·) w5 (grw l2) (.int .i64 uk, .slice ua1 un1 uc1, .slice ua2 un2 uc2, .slice ua3 un3 uc3)) := hn5
  clear hn5 hb5 hbv4 HZ4 HRV4 KW
  simp only [v4]
  go_wp2_with (refine wpList_st4 rfl rfl rfl rfl hbv5 ?_; intro w9 gb9 s0 s1 s2 s3)
  have B9 : Below w.heap.size w w9 := HZ5.out.grown gb9 HZ5.out.size (fun k e => by injection e with e; omega)
  have N9 : Nv (w.heap.size ≤ ·) w9 (grw l2) (.int .i64 uk, .slice ua1 un1 uc1, .slice ua2 un2 uc2, .slice ua3 un3 uc3) :=
    Nv_mono (Nv_gb HN5.out gb9 (fun k hk e => by injection e with e; have := HG4.out; omega)) (fun k hk _ => by have := HG4.out; omega)
  exact bodyPost_ret (v := .tuple #[.agg #[.int .i64 uk, .slice ua1 un1 uc1, .slice ua2 un2 uc2, .slice ua3 un3 uc3], .int .i64 0]) (resN2 _ _ _ (w.heap.size + 1) 6 7 _ _ _ _ _ rfl rfl rfl s0 s1 s2 s3) rfl ⟨l2, (.int .i64 uk, .slice ua1 un1 uc1, .slice ua2 un2 uc2, .slice ua3 un3 uc3), HPL.out, rfl, N9, B9⟩
end Tr
end Go.Proofs.Ytdcbgldelfhohaa
