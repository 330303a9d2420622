/- nib.Join, lampbearerref.NJoin. -/
import Derived.Test.YtcgimjlmihaegaaPackD
import Derived.Test.YtcgimjlmihaegaaPackC
import Derived.Test.YtcgimjlmihaegaaPackA
import Derived.Test.YtcgimjlmihaegaaPackB
import Derived.Deep.MidRow
namespace Go.Proofs.Ytcgimjlmihaegaa
namespace Nb
open Go.RowKit
theorem or16' : ∀ a b : Fin 16, bits .or .u8 ((a.val : Nat) * 16 : Int) ((b.val : Nat) : Int) = ((a.val : Nat) : Int) * 16 + ((b.val : Nat) : Int) := by decide +kernel
theorem or16 (R D : Int) (hR : 0 ≤ R ∧ R < 16) (hD : 0 ≤ D ∧ D < 16) : bits .or .u8 (R * 16) D = R * 16 + D := by
  have h := or16' ⟨R.toNat, by omega⟩ ⟨D.toNat, by omega⟩
  dsimp only at h
  rwa [Int.toNat_of_nonneg hR.1, Int.toNat_of_nonneg hD.1] at h
def NJ (c0 c1 c2 c3 c4 c5 c6 c7 c8 c9 c10 c11 c12 c13 c14 c15 c16 c17 c18 c19 c20 c21 c22 c23 c24 c25 c26 c27 c28 c29 c30 c31 : Value) (w : World) (m : Nat) (L : List Value) (X : List UInt8) (A B : ByteArray) (z : Bool) (d : Nat → Bool) (x : Act) (wx : World) : Prop :=
  ∃ (u32 u33 u34 u35 u36 u37 : Value), x = { tmps := #[c0, c1, c2, c3, c4, c5, c6, c7, c8, c9, c10, c11, c12, c13, c14, c15, c16, c17, c18, c19, c20, c21, c22, c23, c24, c25, c26, c27, c28, c29, c30, c31, u32, u33, u34, u35, u36, u37, undef], defers := [] } ∧ (wx.ownsRow w.heap.size 5 1 c4 m L ∧ Below w.heap.size w wx) ∧ (d 0 = true → u32 = c4) ∧ (d 2 = true → u34 = .string A) ∧ (d 3 = true → u35 = c0) ∧ (d 4 = true → u36 = .string B) ∧ (d 5 = true → u37 = .bool z) ∧ (d 1 = true → Pk.Sl X u33 wx)
set_option maxHeartbeats 1000000 in
set_option maxRecDepth 100000 in
theorem njoin_any (p : List UInt8) (ao : Option Addr) (cap : Nat) (w : World) (hn : Hid (p.length ≤ 4194304)) (hcap : p.length ≤ cap) (vw : Sp.Vw p ao w) :
    Calls Try.prog 54 #[.slice ao p.length cap] w fun e w' => ((JF p ∧ ∃ v, e = .returned (.tuple #[v, .int .i64 0]) ∧ w'.ownsRow w.heap.size 5 1 v (jn p).length (Pk.bcs (jn p))) ∨ (¬ JF p ∧ e = .returned (.tuple #[.slice none 0 0, .int .i64 1]))) ∧ Below w.heap.size w w' := by
  obtain ⟨m, hm⟩ : ∃ m, m = p.length / 2 := ⟨_, rfl⟩
  have HM : Hid (m = p.length / 2) := hm
  obtain ⟨w1, hr, hs1, o1, b1⟩ := made m (by have := hn.out; show _ ≤ _; omega) w
  have hw2 : Hid (wrap64 ((p.length : Int) / 2) = (m : Int)) := by
    have hn' := hn.out
    show _ = _
    unfold wrap64; omega
  have H2 : Hid (∀ i, i < m → Sp.bz (jn p) i = (Sp.bz p (2 * i) * 16 + Sp.bz p (2 * i + 1)) % 256) := by rw [hm]; exact jn_get p
  have HV : Hid (Sp.Vw p ao w) := vw
  have HF : Hid (fil (Sp.bz (jn p)) m m = Pk.bcs (jn p)) := by
    show _ = _
    rw [hm, ← jn_length, fil_full]
  have HL : Hid ((jn p).length = m) := by show _ = _; rw [jn_length, hm]
  have KN : Hid (∀ wx : World, wx.ownsRow w.heap.size 5 1 (.slice (some ⟨w.heap.size, 0, none⟩) m m) m (Pk.bcs (jn p)) → Calls Try.prog 34 #[.slice (some ⟨w.heap.size, 0, none⟩) m m] wx fun e w' => ∃ v, e = .returned v ∧ Pk.Sl (hv (jn p)) v w' ∧ Below wx.heap.size wx w') := fun wx ho => by
    have hs : Pk.Sl (jn p) (.slice (some ⟨w.heap.size, 0, none⟩) m m) wx := Pk.own_sl (base := w.heap.size) (by rw [HL.out]; exact ho)
    obtain ⟨a2, c2, e2, _, v2⟩ := hs
    cases e2
    exact (nhalves_any (jn p) _ _ wx (by have := hn.out; rw [show Hid ((jn p).length ≤ 2097152) = ((jn p).length ≤ 2097152) from rfl, jn_length]; omega) v2).mono fun e w' he => by
      obtain ⟨v, h1, h2, h3⟩ := he
      exact ⟨v, h1, Pk.own_sl h2, h3⟩
  have HC : Hid (∀ wx : World, Below w.heap.size w wx → (convert 22 9 (.slice ao p.length cap)).run Try.prog wx = .ok (.string ⟨p.toArray⟩) wx) := fun wx hb => Pk.Sl_conv ⟨ao, cap, rfl, hcap, Sp.Vw_below vw hb⟩
  rw [HL.out]
  clear vw hm hcap
  generalize Pk.bcs (jn p) = L at *
  generalize Sp.bz (jn p) = G at *
  go_enter Try.func54, Try.ntmps54
  have hw := hw2.out
  go_wp2_with fail
  clear hw hw2 hr
  go_loopw [12] (fun i wr => ∃ k : Nat, k ≤ m ∧ i = .int .i64 (k : Int) ∧ wr.ownsRow w.heap.size 5 1 (.slice (some ⟨w.heap.size, 0, none⟩) m m) m (fil G k m) ∧ Below w.heap.size w wr) (fun i _ => ((m : Int) - intOf i).toNat)
  case atStart => exact ⟨0, Nat.zero_le _, rfl, by rw [fil_0]; exact o1, b1⟩
  case round =>
    clear o1 b1 hs1
    obtain ⟨k, hk, rfl, o2, b2⟩ := hrel
    by_cases h1 : k < m
    · have d1 : decide ((k : Int) < (m : Int)) = true := decide_eq_true (by omega)
      obtain ⟨t, ht⟩ : ∃ t, t = 2 * k := ⟨_, rfl⟩
      obtain ⟨r, hr⟩ : ∃ r, r = t + 1 := ⟨_, rfl⟩
      have ht1 : t < p.length := by have := HM.out; omega
      have hr1 : r < p.length := by have := HM.out; omega
      obtain ⟨g, off, rfl, hg, hc⟩ := HV.out (by omega)
      have c0 : wr.drew.cell? ⟨g, off + t, none⟩ = some (.int .u8 (Sp.bz p t)) := (b2.drew.cell (p := ⟨g, off + t, none⟩) hg).trans (hc t ht1)
      have c1 : wr.drew.cell? ⟨g, off + r, none⟩ = some (.int .u8 (Sp.bz p r)) := (b2.drew.cell (p := ⟨g, off + r, none⟩) hg).trans (hc r hr1)
      have hw := stp k (by have := hn.out; have := HM.out; show _ ≤ _; omega)
      have hwt : IntKind.i64.wrap (2 * (k : Int)) = (t : Int) := by
        have := hn.out; have := HM.out
        rw [IntKind.wrap_i64]; omega
      have hwr : IntKind.i64.wrap ((t : Int) + 1) = (r : Int) := by
        have := hn.out; have := HM.out
        rw [IntKind.wrap_i64]; omega
      have o3 := o2.drew
      have b3 := b2.drew
      have ce := World.ownsRow.cellAt o3 k (by omega)
      rw [fil_at G k m k h1] at ce
      have hfro : wr.drew.frozen? ⟨w.heap.size, k, none⟩ = false := World.ownsRow.frozenAt o3 k
      have HX : 0 ≤ Sp.bz p t ∧ Sp.bz p t < 256 := ⟨Sp.bz_nn p t, Sp.bz_lt p t⟩
      have HY : 0 ≤ Sp.bz p r ∧ Sp.bz p r < 256 := ⟨Sp.bz_nn p r, Sp.bz_lt p r⟩
      have HG := H2.out k h1
      rw [← ht, ← hr] at HG
      obtain ⟨V, hV⟩ : ∃ V, V = G k := ⟨_, rfl⟩
      have HS : Hid (fil G (k + 1) m = (fil G k m).set k (.int .u8 V)) := by
        show _ = _
        rw [fil_step G k m h1, hV]
      have hwx : IntKind.u8.wrap (Sp.bz p t * 16) = Sp.bz p t * 16 % 256 := by
        rw [IntKind.wrap_u8]
      have hor : IntKind.u8.wrap (Sp.bz p t * 16 % 256 + Sp.bz p r) = V := by
        rw [IntKind.wrap_u8, hV, HG]
        omega
      have HT : Hid (t = 2 * k ∧ r = t + 1) := ⟨ht, hr⟩
      clear hV HG hc ht hr
      generalize Sp.bz p t = X at *
      generalize Sp.bz p r = Y at *
      go_upto_region 5 with fail
      refine RS.wp_region_two (fun wx => Hid (wx = wr.drew)) (fun wx => Hid (wx = (wr.setCell ⟨w.heap.size, k, none⟩ (.int .u8 V)).drew)) 16 (by kernel_rfl) (by kernel_rfl) (by decide) (rfl) ?_
      dsimp only [List.toList_toArray]
      refine RS.go2 (v := ?_) (a' := ?_) (by decide) rfl ?_ ?_ ?_
      rotate_left 2
      · intro K wx hS hK
        go_simp
        exact hK _ hS
      · simp only [Act.put, List.setIfInBounds_toArray, List.set_cons_succ, List.set_cons_zero]
        rfl
      refine RS.go2 (v := ?_) (a' := ?_) (by decide) rfl ?_ ?_ ?_
      rotate_left 2
      · intro K wx hS hK
        go_simp
        exact hK _ hS
      · simp only [Act.put, List.setIfInBounds_toArray, List.set_cons_succ, List.set_cons_zero]
        rfl
      refine RS.go2 (v := ?_) (a' := ?_) (by decide) rfl ?_ ?_ ?_
      rotate_left 2
      · intro K wx hS hK
        go_simp
        exact hK _ hS
      · simp only [Act.put, List.setIfInBounds_toArray, List.set_cons_succ, List.set_cons_zero]
        rfl
      refine RS.go2 (v := ?_) (a' := ?_) (by decide) rfl ?_ ?_ ?_
      rotate_left 2
      · intro K wx hS hK
        go_simp
        exact hK _ hS
      · simp only [Act.put, List.setIfInBounds_toArray, List.set_cons_succ, List.set_cons_zero]
        rfl
      refine RS.go2 (v := ?_) (a' := ?_) (by decide) rfl ?_ ?_ ?_
      rotate_left 2
      · intro K wx hS hK
        go_simp
        exact hK _ hS
      · simp only [Act.put, List.setIfInBounds_toArray, List.set_cons_succ, List.set_cons_zero]
        rfl
      refine RS.go2 (v := ?_) (a' := ?_) (by decide) rfl ?_ ?_ ?_
      rotate_left 2
      · intro K wx hS hK
        go_simp
        exact hK _ hS
      · simp only [Act.put, List.setIfInBounds_toArray, List.set_cons_succ, List.set_cons_zero]
        rfl
      refine RS.go2 (v := ?_) (a' := ?_) (by decide) rfl ?_ ?_ ?_
      rotate_left 2
      · intro K wx hS hK
        obtain rfl := hS.out
        go_simp
        exact hK _ rfl
      · simp only [Act.put, List.setIfInBounds_toArray, List.set_cons_succ, List.set_cons_zero]
        rfl
      refine RS.go2 (v := ?_) (a' := ?_) (by decide) rfl ?_ ?_ ?_
      rotate_left 2
      · intro K wx hS hK
        go_simp
        exact hK _ hS
      · simp only [Act.put, List.setIfInBounds_toArray, List.set_cons_succ, List.set_cons_zero]
        rfl
      refine RS.go2 (v := ?_) (a' := ?_) (by decide) rfl ?_ ?_ ?_
      rotate_left 2
      · intro K wx hS hK
        go_simp
        exact hK _ hS
      · simp only [Act.put, List.setIfInBounds_toArray, List.set_cons_succ, List.set_cons_zero]
        rfl
      refine RS.go2 (v := ?_) (a' := ?_) (by decide) rfl ?_ ?_ ?_
      rotate_left 2
      · intro K wx hS hK
        go_simp
        exact hK _ hS
      · simp only [Act.put, List.setIfInBounds_toArray, List.set_cons_succ, List.set_cons_zero]
        rfl
      refine RS.go2 (v := ?_) (a' := ?_) (by decide) rfl ?_ ?_ ?_
      rotate_left 2
      · intro K wx hS hK
        go_simp
        exact hK _ hS
      · simp only [Act.put, List.setIfInBounds_toArray, List.set_cons_succ, List.set_cons_zero]
        rfl
      refine RS.go2 (v := ?_) (a' := ?_) (by decide) rfl ?_ ?_ ?_
      rotate_left 2
      · intro K wx hS hK
        go_simp
        exact hK _ hS
      · simp only [Act.put, List.setIfInBounds_toArray, List.set_cons_succ, List.set_cons_zero]
        rfl
      refine RS.go2 (v := ?_) (a' := ?_) (by decide) rfl ?_ ?_ ?_
      rotate_left 2
      · intro K wx hS hK
        go_simp
        exact hK _ hS
      · simp only [Act.put, List.setIfInBounds_toArray, List.set_cons_succ, List.set_cons_zero]
        rfl
      refine RS.go2 (v := ?_) (a' := ?_) (by decide) rfl ?_ ?_ ?_
      rotate_left 2
      · intro K wx hS hK
        obtain rfl := hS.out
        go_simp
        exact hK _ rfl
      · simp only [Act.put, List.setIfInBounds_toArray, List.set_cons_succ, List.set_cons_zero]
        rfl
      refine RS.go2 (v := ?_) (a' := ?_) (by decide) rfl ?_ ?_ ?_
      rotate_left 2
      · intro K wx hS hK
        go_simp
        exact hK _ hS
      · simp only [Act.put, List.setIfInBounds_toArray, List.set_cons_succ, List.set_cons_zero]
        rfl
      refine RS.go2 (v := ?_) (a' := ?_) (by decide) rfl ?_ ?_ ?_
      rotate_left 2
      · intro K wx hS hK
        go_simp
        exact hK _ hS
      · simp only [Act.put, List.setIfInBounds_toArray, List.set_cons_succ, List.set_cons_zero]
        rfl
      refine RS.go2_last (v := ?_) (a' := ?_) rfl (by kernel_rfl) rfl ?_ ?_ ?_
      rotate_left 2
      · intro K wx hS hK
        obtain rfl := hS.out
        go_simp
        exact hK _ rfl
      · exact rfl
      intro w9 hw9
      have o9 : w9.ownsRow w.heap.size 5 1 (.slice (some ⟨w.heap.size, 0, none⟩) m m) m (fil G (k + 1) m) := by
        rw [hw9.out, HS.out]
        exact (o2.stored k _).1.drew
      have b9 : Below w.heap.size w w9 := by
        rw [hw9.out]
        exact (b2.setCell (Nat.le_refl _) _).drew
      clear o2 o3 b2 b3 ce hfro hw9 c0 c1 hwt hwr
      go_wp2_with fail
      have hw := hw.out
      go_roundw
      case rel => exact ⟨k + 1, h1, step_v k _ hw, o9, b9⟩
      case measure => exact msr k m h1 _ hw
    · have hkl : k = m := by omega
      subst hkl
      rw [HF.out] at o2
      have HI : Hid (JF p ↔ hv (jn p) = p) := jf_iff p
      obtain ⟨zz, HZ⟩ : ∃ zz, Hid ((hv (jn p) == p) = !zz) := ⟨!(hv (jn p) == p), by show _ = _; simp⟩
      go_upto_region 7 with fail
      refine RI.wp_region_inv (NJ (.slice ao p.length cap) undef (.slice none 0 0) (.int .i64 0) (.slice (some ⟨w.heap.size, 0, none⟩) k k) u5 (.slice ao p.length cap) (.int .i64 (p.length : Int)) (.int .i64 (wrap64 ((p.length : Int) / 2))) (.slice (some ⟨w.heap.size, 0, none⟩) k k) (.slice (some ⟨w.heap.size, 0, none⟩) k k) (.int .i64 (k : Int)) (.int .i64 (k : Int)) (.bool false) u14 u15 u16 u17 u18 u19 u20 u21 u22 u23 u24 u25 u26 u27 u28 u29 u30 u31 w k L (hv (jn p)) ⟨(hv (jn p)).toArray⟩ ⟨p.toArray⟩ zz) (by kernel_rfl) (by kernel_rfl) ?_ ?_ ?_
      · exact ⟨undef, undef, undef, undef, undef, undef, rfl, ⟨o2.drew, b2.drew⟩, nofun, nofun, nofun, nofun, nofun, nofun⟩
      · skip
        intro d x wx i hI hi hm
        obtain ⟨u32, u33, u34, u35, u36, u37, rfl, hw, p0, p2, p3, p4, p5, q1⟩ := hI
        have hi' : i = 0 ∨ i = 1 ∨ i = 2 ∨ i = 3 ∨ i = 4 ∨ i = 5 := by simp at hi; omega
        have hd := hm.2
        clear hm hi
        rcases hi' with rfl | rfl | rfl | rfl | rfl | rfl
        · refine RI.wpOp_plain rfl rfl ?_
          go_simp
          exact ⟨_, u33, u34, u35, u36, u37, rfl, hw, fun _ => rfl, RI.keep (by decide) p2, RI.keep (by decide) p3, RI.keep (by decide) p4, RI.keep (by decide) p5, RI.keep (by decide) q1⟩
        · have hd := hd _ rfl
          simp [Region.binds] at hd
          obtain rfl := p0 (by simp [hd])
          refine RI.wpOp_plain rfl rfl ?_
          go_simp
          refine (KN.out _ hw.1).mono ?_
          rintro e w1 ⟨v1, rfl, hs1, hb1⟩
          exact ⟨_, _, u34, u35, u36, u37, rfl, ⟨Pk.ownb hw.1 hb1, hw.2.trans (hb1.mono hw.2.size)⟩, RI.keep (by decide) p0, RI.keep (by decide) p2, RI.keep (by decide) p3, RI.keep (by decide) p4, RI.keep (by decide) p5, fun _ => hs1⟩
        · have hd := hd _ rfl
          simp [Region.binds] at hd
          refine RI.wpOp_plain rfl rfl ?_
          have hcv := Pk.Sl_conv (q1 (by simp [hd]))
          go_simp
          exact ⟨u32, u33, _, u35, u36, u37, rfl, hw, RI.keep (by decide) p0, fun _ => rfl, RI.keep (by decide) p3, RI.keep (by decide) p4, RI.keep (by decide) p5, RI.keep (by decide) q1⟩
        · refine RI.wpOp_plain rfl rfl ?_
          go_simp
          exact ⟨u32, u33, u34, _, u36, u37, rfl, hw, RI.keep (by decide) p0, RI.keep (by decide) p2, fun _ => rfl, RI.keep (by decide) p4, RI.keep (by decide) p5, RI.keep (by decide) q1⟩
        · have hd := hd _ rfl
          simp [Region.binds] at hd
          obtain rfl := p3 (by simp [hd])
          refine RI.wpOp_plain rfl rfl ?_
          have hcv := HC.out _ hw.2
          go_simp
          exact ⟨u32, u33, u34, _, _, u37, rfl, hw, RI.keep (by decide) p0, RI.keep (by decide) p2, RI.keep (by decide) p3, fun _ => rfl, RI.keep (by decide) p5, RI.keep (by decide) q1⟩
        · have hd := hd _ rfl
          simp [Region.binds] at hd
          obtain rfl := p2 (by simp [hd])
          obtain rfl := p4 (by simp [hd])
          refine RI.wpOp_plain rfl rfl ?_
          have hz := HZ.out
          go_simp
          exact ⟨u32, u33, _, u35, _, _, rfl, hw, RI.keep (by decide) p0, RI.keep (by decide) p2, RI.keep (by decide) p3, RI.keep (by decide) p4, fun _ => rfl, RI.keep (by decide) q1⟩
      · skip
        intro d x wx hI hd
        obtain ⟨u32, u33, u34, u35, u36, u37, rfl, hw, p0, p2, p3, p4, p5, q1⟩ := hI
        obtain ⟨o9, b9⟩ := hw
        have e5 := p5 (hd 5 (by decide))
        subst e5
        clear p0 p2 p3 p4 p5 q1 hd o2 b2
        by_cases e : hv (jn p) = p
        · have HJ : Hid (JF p) := HI.out.2 e
          have hz : zz = false := by have := HZ.out; rw [e] at this; simpa using this
          subst hz
          clear e HI HZ
          go_wp2_with fail
          go_ret2
          exact ⟨.inl ⟨HJ.out, _, rfl, o9⟩, b9⟩
        · have HJ : Hid (¬ JF p) := fun h => e (HI.out.1 h)
          have hz : zz = true := by have := HZ.out; rw [beq_false_of_ne e] at this; simpa using this
          subst hz
          clear e HI HZ
          go_wp2_with fail
          go_ret2
          exact ⟨.inr ⟨HJ.out, rfl⟩, b9⟩
end Nb
end Go.Proofs.Ytcgimjlmihaegaa
/- The law NibHalves. -/
namespace Go.Proofs.Ytcgimjlmihaegaa
namespace Nb
open Go.RowKit
theorem halves_sl (b : List UInt8) (ao : Option Addr) (cap : Nat) (w : World) (hn : Hid (b.length ≤ 2097152)) (vw : Sp.Vw b ao w) :
    Calls Try.prog 70 #[.slice ao b.length cap] w fun e w' => ∃ v, e = .returned v ∧ Pk.Sl (hv b) v w' ∧ Below w.heap.size w w' :=
  (halves_any b ao cap w hn vw).mono fun e w' he => by
    obtain ⟨v, h1, h2, h3⟩ := he
    exact ⟨v, h1, Pk.own_sl h2, h3⟩
theorem nhalves_sl (b : List UInt8) (ao : Option Addr) (cap : Nat) (w : World) (hn : Hid (b.length ≤ 2097152)) (vw : Sp.Vw b ao w) :
    Calls Try.prog 34 #[.slice ao b.length cap] w fun e w' => ∃ v, e = .returned v ∧ Pk.Sl (hv b) v w' ∧ Below w.heap.size w w' :=
  (nhalves_any b ao cap w hn vw).mono fun e w' he => by
    obtain ⟨v, h1, h2, h3⟩ := he
    exact ⟨v, h1, Pk.own_sl h2, h3⟩
/-- What a path is joined to, and its error. -/
def jl (p : List UInt8) : List UInt8 := if hv (jn p) = p then jn p else []
def je (p : List UInt8) : Int := if hv (jn p) = p then 0 else 1
theorem jl_yes {p : List UInt8} (h : JF p) : jl p = jn p := by unfold jl; rw [if_pos (hv_jn p h)]
theorem je_yes {p : List UInt8} (h : JF p) : je p = 0 := by unfold je; rw [if_pos (hv_jn p h)]
theorem jl_no {p : List UInt8} (h : ¬ JF p) : jl p = [] := by unfold jl; rw [if_neg (fun e => h ((jf_iff p).2 e))]
theorem je_no {p : List UInt8} (h : ¬ JF p) : je p = 1 := by unfold je; rw [if_neg (fun e => h ((jf_iff p).2 e))]
theorem njoin_sl (p : List UInt8) (ao : Option Addr) (cap : Nat) (w : World) (hn : Hid (p.length ≤ 4194304)) (hcap : p.length ≤ cap) (vw : Sp.Vw p ao w) :
    Calls Try.prog 54 #[.slice ao p.length cap] w fun e w' => ∃ v, e = .returned (.tuple #[v, .int .i64 (je p)]) ∧ Pk.Sl (jl p) v w' ∧ Below w.heap.size w w' :=
  (njoin_any p ao cap w hn hcap vw).mono fun e w' he => by
    obtain ⟨⟨h, v, h1, h2⟩ | ⟨h, h1⟩, h3⟩ := he
    · rw [jl_yes h, je_yes h]
      exact ⟨v, h1, Pk.own_sl h2, h3⟩
    · rw [jl_no h, je_no h]
      exact ⟨_, h1, Pk.Sl_nil _, h3⟩
def NH (c0 c1 c2 c3 c5 c6 c7 c8 c9 c10 c11 c12 c13 c14 c15 c16 c17 c18 : Value) (w : World) (b T : List UInt8) (ao : Option Addr) (A B : ByteArray) (d : Nat → Bool) (x : Act) (wx : World) : Prop :=
  ∃ (u4 u19 u20 u21 u22 u23 u24 u25 u26 u27 u28 u29 u30 u31 u32 u33 u34 u35 u36 u37 : Value), x = { tmps := #[c0, c1, c2, c3, u4, c5, c6, c7, c8, c9, c10, c11, c12, c13, c14, c15, c16, c17, c18, u19, u20, u21, u22, u23, u24, u25, u26, u27, u28, u29, u30, u31, u32, u33, u34, u35, u36, u37], defers := [] } ∧ (Pk.Sl T c5 wx ∧ Pk.Sl T c7 wx ∧ Sp.Vw b ao wx ∧ Below w.heap.size w wx) ∧ (d 0 = true → u19 = c0) ∧ (d 2 = true → u21 = .string A) ∧ (d 3 = true → u22 = c0) ∧ (d 5 = true → u24 = .string A) ∧ (d 6 = true → u25 = .bool true) ∧ (d 7 = true → u26 = .bool true) ∧ (d 8 = true → u27 = c6) ∧ (d 9 = true → u28 = c8) ∧ (d 10 = true → u29 = .bool true) ∧ (d 11 = true → u30 = .bool true) ∧ (d 12 = true → u31 = .bool true) ∧ (d 13 = true → u32 = c5) ∧ (d 14 = true → u33 = .string B) ∧ (d 15 = true → u34 = c7) ∧ (d 16 = true → u35 = .string B) ∧ (d 17 = true → u36 = .bool true) ∧ (d 18 = true → u37 = .bool true) ∧ (d 19 = true → u4 = .bool true) ∧ (d 1 = true → Pk.Sl (hv b) u20 wx) ∧ (d 4 = true → Pk.Sl (hv b) u23 wx)
end Nb
end Go.Proofs.Ytcgimjlmihaegaa
/- nib.head, nib.Tag, lampbearerref.NTag. -/
namespace Go.Proofs.Ytcgimjlmihaegaa
namespace Nb
open Go.RowKit
theorem made2 (m c : Nat) (hmc : m ≤ c) (hm : Hid (c ≤ 4194304)) (w : World) : ∃ w', (Instr.makeSlice 22 (.int .i64 (m : Int)) (.int .i64 (c : Int))).run Try.prog w = .ok (.slice (some ⟨w.heap.size, 0, none⟩) m c) w' ∧ w'.heap.size = w.heap.size + 1 ∧ w'.ownsRow w.heap.size 5 1 (.slice (some ⟨w.heap.size, 0, none⟩) m c) m (List.replicate m (.int .u8 0)) ∧ Below w.heap.size w w' := by
  have hm := hm.out
  obtain ⟨i0, hi, hz0, hz1, hz2⟩ := info_parts Pk.Try.infoU8'
  have hr := run_make (P := Try.prog) w 22 5 i0 (.int .u8 0) Try.underlying22 hi hz0 .i64 .i64 (m : Int) (c : Int) (by omega) (by omega) (by rw [hz2]; omega) (by omega)
  rw [Int.toNat_natCast, Int.toNat_natCast, hz1, Nat.mul_one] at hr
  refine ⟨_, hr, by simp, ⟨by simp, .inr ⟨w.heap.size, c, madeCells (Value.int .u8 0).cells c, rfl, Nat.le_refl _, heap_alloc_new w _, hmc, by unfold maxLen; omega, by rw [size_madeCells, Nat.mul_one], ?_⟩⟩, (Below.refl _ _).alloc (Nat.le_refl _) _⟩
  rw [Nat.mul_one]
  apply List.ext_getElem?
  intro j
  rw [List.getElem?_take]
  by_cases hj : j < m
  · rw [if_pos hj]
    have hz : (Value.int .u8 0).cells = #[.int .u8 0] := rfl
    have hjc : j < c := by omega
    simp [madeCells, hz, hj, hjc, Nat.mod_one]
  · rw [if_neg hj, List.getElem?_eq_none (by simp; omega)]
theorem wpList_apq {P : Program} {ops : Array Oper} {rest : List Oper} {o : Oper} {a : Act} {Q : Exit → Act → World → Prop} {s x : Operand} {t u : TypeId} {v v2 v' : Value} {w w' : World} (hgd : o.guard = none) (ho : o.op = .call { callee := .builtin .append, args := #[s, x], argTypes := #[t, u] }) (hs : a.eval s = v) (hx : a.eval x = v2)
    (hr : (Builtin.append_ #[t, u] o.type #[v, v2]).run P w = .ok v' w') (h : wpList P ops Q rest (a.put o.dst v') w') : wpList P ops Q (o :: rest) a w := by
  refine wpList_plain hgd fun _ hK => ?_
  unfold Oper.wp execOp
  simp only [ho, resolve, invoke, builtin, Sem.run_bind, Sem.run_pure, Result.andThen_ok, List.map_toArray, List.map_cons, List.map_nil, hs, hx, hr]
  exact hK _ _ h
theorem own_lit (l : List UInt8) (w : World) (B : Nat) (h : B ≤ w.heap.size) (hl : l.length ≤ 64) : (w.alloc (.cells (Pk.bcs l).toArray 5)).ownsRow B 5 1 (.slice (some ⟨w.heap.size, 0, none⟩) l.length l.length) l.length (Pk.bcs l) := by
  have k := World.ownsRow_lit (size := 1) (e := 5) w (Pk.bcs l).toArray l.length h (by unfold maxLen; omega) (by simp [Pk.bcs_len])
  simpa using k
theorem bcs0 : Pk.bcs [0] = [.int .u8 0] := rfl
theorem bcs2 : Pk.bcs [2] = [.int .u8 2] := rfl
theorem lit0 (w : World) : Pk.Sl [0] (.slice (some ⟨w.heap.size, 0, none⟩) 1 1) (w.alloc (.cells #[.int .u8 0] 5)) := by
  have k := own_lit [0] w 0 (Nat.zero_le _) (by decide)
  rw [bcs0] at k
  refine Pk.own_sl (base := 0) ?_
  rw [bcs0]
  exact k
theorem or01 : bits .or .u8 0 1 = 1 := by decide +kernel
theorem or21 : bits .or .u8 2 1 = 3 := by decide +kernel
end Nb
end Go.Proofs.Ytcgimjlmihaegaa
/- nib.Tag, lampbearerref.NTag. -/
namespace Go.Proofs.Ytcgimjlmihaegaa
namespace Nb
open Go.RowKit
theorem hd_len (n : Nat) (leaf : Bool) : (hd n leaf).length ≤ 2 := by
  unfold hd
  split <;> simp
set_option maxHeartbeats 1000000 in
set_option maxRecDepth 100000 in
theorem ntag_true_odd (p : List UInt8) (ap : Option Addr) (cp : Nat) (w : World) (hn : Hid (p.length ≤ 4194300)) (hcp : p.length ≤ cp) (vp : Sp.Vw p ap w) (ho : p.length % 2 = 1) :
    Calls Try.prog 35 #[.slice ap p.length cp, .bool true] w fun e w' => ∃ v, e = .returned (.tuple #[v, .int .i64 (je (tg p true))]) ∧ Pk.Sl (jl (tg p true)) v w' ∧ Below w.heap.size w w' := by
  have oA : (w.alloc (.cells #[.int .u8 3] 5)).ownsRow w.heap.size 5 1 (.slice (some ⟨w.heap.size, 0, none⟩) 1 1) 1 (Pk.bcs [3]) := own_lit [3] w w.heap.size (Nat.le_refl _) (by decide)
  have bA : Below w.heap.size w (w.alloc (.cells #[.int .u8 3] 5)) := (Below.refl _ _).alloc (Nat.le_refl _) _
  have sP : Pk.Sl p (.slice ap p.length cp) (w.alloc (.cells #[.int .u8 3] 5)) := Pk.Sl_below ⟨ap, cp, rfl, hcp, vp⟩ bA
  have et : tg p true = [3] ++ p := by unfold tg hd; rw [if_pos ho]; rfl
  obtain ⟨v', w', hap, hown, hbel⟩ := Pk.app_sl (x := [3]) 22 oA sP (by simp) (by have := hn.out; simp only [List.length_cons, List.length_nil]; omega)
  rw [← et] at hown
  obtain ⟨a3, c3, rfl, hc3, v3⟩ := Pk.own_sl hown
  have bb : Below w.heap.size w w' := bA.trans hbel
  have KJ : Hid (Calls Try.prog 54 #[.slice a3 (tg p true).length c3] w' fun e w'' => ∃ v, e = .returned (.tuple #[v, .int .i64 (je (tg p true))]) ∧ Pk.Sl (jl (tg p true)) v w'' ∧ Below w'.heap.size w' w'') := njoin_sl (tg p true) a3 c3 w' (by have := hn.out; have := tg_len p true; show _ ≤ _; omega) hc3 v3
  have hpar : ((p.length : Int) % 2 == 1) = true := beq_iff_eq.2 (by omega)
  clear et hown hc3 v3 sP oA bA vp hcp hn ho hbel
  generalize (tg p true).length = m at *
  generalize je (tg p true) = c at *
  generalize jl (tg p true) = T at *
  generalize p.length = n at *
  go_enter Try.func35, Try.ntmps35
  go_wp2_with (at_builtin; refine wpList_apq rfl rfl rfl rfl hap ?_)
  refine KJ.out.mono (fun e w2 he => ?_)
  obtain ⟨v2, rfl, s2, b2⟩ := he
  have b4 := bb.trans (b2.mono bb.size)
  go_wp2_with fail
  go_ret2
  exact ⟨_, rfl, s2, b4⟩
set_option maxHeartbeats 1000000 in
set_option maxRecDepth 100000 in
theorem ntag_true_even (p : List UInt8) (ap : Option Addr) (cp : Nat) (w : World) (hn : Hid (p.length ≤ 4194300)) (hcp : p.length ≤ cp) (vp : Sp.Vw p ap w) (ho : p.length % 2 = 0) :
    Calls Try.prog 35 #[.slice ap p.length cp, .bool true] w fun e w' => ∃ v, e = .returned (.tuple #[v, .int .i64 (je (tg p true))]) ∧ Pk.Sl (jl (tg p true)) v w' ∧ Below w.heap.size w w' := by
  have oA : (w.alloc (.cells #[.int .u8 2, .int .u8 0] 5)).ownsRow w.heap.size 5 1 (.slice (some ⟨w.heap.size, 0, none⟩) 2 2) 2 (Pk.bcs [2, 0]) := own_lit [2, 0] w w.heap.size (Nat.le_refl _) (by decide)
  have bA : Below w.heap.size w (w.alloc (.cells #[.int .u8 2, .int .u8 0] 5)) := (Below.refl _ _).alloc (Nat.le_refl _) _
  have sP : Pk.Sl p (.slice ap p.length cp) (w.alloc (.cells #[.int .u8 2, .int .u8 0] 5)) := Pk.Sl_below ⟨ap, cp, rfl, hcp, vp⟩ bA
  have et : tg p true = [2, 0] ++ p := by unfold tg hd; rw [if_neg (by omega)]; rfl
  obtain ⟨v', w', hap, hown, hbel⟩ := Pk.app_sl (x := [2, 0]) 22 oA sP (by simp) (by have := hn.out; simp only [List.length_cons, List.length_nil]; omega)
  rw [← et] at hown
  obtain ⟨a3, c3, rfl, hc3, v3⟩ := Pk.own_sl hown
  have bb : Below w.heap.size w w' := bA.trans hbel
  have KJ : Hid (Calls Try.prog 54 #[.slice a3 (tg p true).length c3] w' fun e w'' => ∃ v, e = .returned (.tuple #[v, .int .i64 (je (tg p true))]) ∧ Pk.Sl (jl (tg p true)) v w'' ∧ Below w'.heap.size w' w'') := njoin_sl (tg p true) a3 c3 w' (by have := hn.out; have := tg_len p true; show _ ≤ _; omega) hc3 v3
  have hpar : ((p.length : Int) % 2 == 1) = false := beq_false_of_ne (by omega)
  clear et hown hc3 v3 sP oA bA vp hcp hn ho hbel
  generalize (tg p true).length = m at *
  generalize je (tg p true) = c at *
  generalize jl (tg p true) = T at *
  generalize p.length = n at *
  go_enter Try.func35, Try.ntmps35
  go_wp2_with (at_builtin; refine wpList_apq rfl rfl rfl rfl hap ?_)
  refine KJ.out.mono (fun e w2 he => ?_)
  obtain ⟨v2, rfl, s2, b2⟩ := he
  have b4 := bb.trans (b2.mono bb.size)
  go_wp2_with fail
  go_ret2
  exact ⟨_, rfl, s2, b4⟩
set_option maxHeartbeats 1000000 in
set_option maxRecDepth 100000 in
theorem ntag_false_odd (p : List UInt8) (ap : Option Addr) (cp : Nat) (w : World) (hn : Hid (p.length ≤ 4194300)) (hcp : p.length ≤ cp) (vp : Sp.Vw p ap w) (ho : p.length % 2 = 1) :
    Calls Try.prog 35 #[.slice ap p.length cp, .bool false] w fun e w' => ∃ v, e = .returned (.tuple #[v, .int .i64 (je (tg p false))]) ∧ Pk.Sl (jl (tg p false)) v w' ∧ Below w.heap.size w w' := by
  have oA : (w.alloc (.cells #[.int .u8 1] 5)).ownsRow w.heap.size 5 1 (.slice (some ⟨w.heap.size, 0, none⟩) 1 1) 1 (Pk.bcs [1]) := own_lit [1] w w.heap.size (Nat.le_refl _) (by decide)
  have bA : Below w.heap.size w (w.alloc (.cells #[.int .u8 1] 5)) := (Below.refl _ _).alloc (Nat.le_refl _) _
  have sP : Pk.Sl p (.slice ap p.length cp) (w.alloc (.cells #[.int .u8 1] 5)) := Pk.Sl_below ⟨ap, cp, rfl, hcp, vp⟩ bA
  have et : tg p false = [1] ++ p := by unfold tg hd; rw [if_pos ho]; rfl
  obtain ⟨v', w', hap, hown, hbel⟩ := Pk.app_sl (x := [1]) 22 oA sP (by simp) (by have := hn.out; simp only [List.length_cons, List.length_nil]; omega)
  rw [← et] at hown
  obtain ⟨a3, c3, rfl, hc3, v3⟩ := Pk.own_sl hown
  have bb : Below w.heap.size w w' := bA.trans hbel
  have KJ : Hid (Calls Try.prog 54 #[.slice a3 (tg p false).length c3] w' fun e w'' => ∃ v, e = .returned (.tuple #[v, .int .i64 (je (tg p false))]) ∧ Pk.Sl (jl (tg p false)) v w'' ∧ Below w'.heap.size w' w'') := njoin_sl (tg p false) a3 c3 w' (by have := hn.out; have := tg_len p false; show _ ≤ _; omega) hc3 v3
  have hpar : ((p.length : Int) % 2 == 1) = true := beq_iff_eq.2 (by omega)
  clear et hown hc3 v3 sP oA bA vp hcp hn ho hbel
  generalize (tg p false).length = m at *
  generalize je (tg p false) = c at *
  generalize jl (tg p false) = T at *
  generalize p.length = n at *
  go_enter Try.func35, Try.ntmps35
  go_wp2_with (at_builtin; refine wpList_apq rfl rfl rfl rfl hap ?_)
  refine KJ.out.mono (fun e w2 he => ?_)
  obtain ⟨v2, rfl, s2, b2⟩ := he
  have b4 := bb.trans (b2.mono bb.size)
  go_wp2_with fail
  go_ret2
  exact ⟨_, rfl, s2, b4⟩
set_option maxHeartbeats 1000000 in
set_option maxRecDepth 100000 in
theorem ntag_false_even (p : List UInt8) (ap : Option Addr) (cp : Nat) (w : World) (hn : Hid (p.length ≤ 4194300)) (hcp : p.length ≤ cp) (vp : Sp.Vw p ap w) (ho : p.length % 2 = 0) :
    Calls Try.prog 35 #[.slice ap p.length cp, .bool false] w fun e w' => ∃ v, e = .returned (.tuple #[v, .int .i64 (je (tg p false))]) ∧ Pk.Sl (jl (tg p false)) v w' ∧ Below w.heap.size w w' := by
  have oA : (w.alloc (.cells #[.int .u8 0, .int .u8 0] 5)).ownsRow w.heap.size 5 1 (.slice (some ⟨w.heap.size, 0, none⟩) 2 2) 2 (Pk.bcs [0, 0]) := own_lit [0, 0] w w.heap.size (Nat.le_refl _) (by decide)
  have bA : Below w.heap.size w (w.alloc (.cells #[.int .u8 0, .int .u8 0] 5)) := (Below.refl _ _).alloc (Nat.le_refl _) _
  have sP : Pk.Sl p (.slice ap p.length cp) (w.alloc (.cells #[.int .u8 0, .int .u8 0] 5)) := Pk.Sl_below ⟨ap, cp, rfl, hcp, vp⟩ bA
  have et : tg p false = [0, 0] ++ p := by unfold tg hd; rw [if_neg (by omega)]; rfl
  obtain ⟨v', w', hap, hown, hbel⟩ := Pk.app_sl (x := [0, 0]) 22 oA sP (by simp) (by have := hn.out; simp only [List.length_cons, List.length_nil]; omega)
  rw [← et] at hown
  obtain ⟨a3, c3, rfl, hc3, v3⟩ := Pk.own_sl hown
  have bb : Below w.heap.size w w' := bA.trans hbel
  have KJ : Hid (Calls Try.prog 54 #[.slice a3 (tg p false).length c3] w' fun e w'' => ∃ v, e = .returned (.tuple #[v, .int .i64 (je (tg p false))]) ∧ Pk.Sl (jl (tg p false)) v w'' ∧ Below w'.heap.size w' w'') := njoin_sl (tg p false) a3 c3 w' (by have := hn.out; have := tg_len p false; show _ ≤ _; omega) hc3 v3
  have hpar : ((p.length : Int) % 2 == 1) = false := beq_false_of_ne (by omega)
  clear et hown hc3 v3 sP oA bA vp hcp hn ho hbel
  generalize (tg p false).length = m at *
  generalize je (tg p false) = c at *
  generalize jl (tg p false) = T at *
  generalize p.length = n at *
  go_enter Try.func35, Try.ntmps35
  go_wp2_with (at_builtin; refine wpList_apq rfl rfl rfl rfl hap ?_)
  refine KJ.out.mono (fun e w2 he => ?_)
  obtain ⟨v2, rfl, s2, b2⟩ := he
  have b4 := bb.trans (b2.mono bb.size)
  go_wp2_with fail
  go_ret2
  exact ⟨_, rfl, s2, b4⟩
theorem ntag_sl (p : List UInt8) (leaf : Bool) (ap : Option Addr) (cp : Nat) (w : World) (hn : Hid (p.length ≤ 4194300)) (hcp : p.length ≤ cp) (vp : Sp.Vw p ap w) :
    Calls Try.prog 35 #[.slice ap p.length cp, .bool leaf] w fun e w' => ∃ v, e = .returned (.tuple #[v, .int .i64 (je (tg p leaf))]) ∧ Pk.Sl (jl (tg p leaf)) v w' ∧ Below w.heap.size w w' := by
  by_cases h : p.length % 2 = 1
  · cases leaf
    · exact ntag_false_odd p ap cp w hn hcp vp h
    · exact ntag_true_odd p ap cp w hn hcp vp h
  · cases leaf
    · exact ntag_false_even p ap cp w hn hcp vp (by omega)
    · exact ntag_true_even p ap cp w hn hcp vp (by omega)
end Nb
end Go.Proofs.Ytcgimjlmihaegaa
/- Items that stand for shapes. -/
namespace Go.Proofs.Ytcgimjlmihaegaa
namespace Rs
open Nb Sp Pk Go.RowKit
set_option maxHeartbeats 400000 in
set_option maxRecDepth 100000 in
/-- PList of any kids. -/
theorem plist_sl (a : Option Addr) (n c : Nat) (w : World) : Calls Try.prog 53 #[.slice a n c] w fun e w' => e = .returned (.agg #[.bool true, .slice none 0 0, .slice a n c]) ∧ Below w.heap.size w w' := by
  have x0 := B3_new w
  have l0 : Below w.heap.size w (w.alloc (.cells #[.bool false, .slice none 0 0, .slice none 0 0] 42)) := (Below.refl _ _).alloc (Nat.le_refl _) _
  go_enter Try.func53, Try.ntmps53
  go_upto_region 1 with fail
  generalize w.alloc (.cells #[.bool false, .slice none 0 0, .slice none 0 0] 42) = W0 at *
  go_wp2_with (refine wpList_st3b rfl rfl rfl rfl x0 ?_)
  intro w2 g2 b2 z0 z1 z2
  have l2 : Hid (Below w.heap.size w w2) := l0.trans ⟨g2.os, g2.tape, g2.output, g2.size, fun j hj => g2.block j (by have := l0.size; omega) (fun e => by injection e with e; omega)⟩
  clear g2 b2 x0 l0
  go_wp2_with fail
  exact bodyPost_ret (resI _ _ _ w.heap.size 2 _ _ _ rfl rfl z0 z1 z2) rfl ⟨rfl, l2.out⟩
theorem sl_ty {b : List UInt8} {v : Value} {w : World} (h : Sl b v w) : Ty (fun _ => True) b v w := by
  obtain ⟨ao, cap, h1, h2, h3⟩ := h
  refine ⟨ao, cap, h1, h2, fun h0 => ?_⟩
  obtain ⟨g, off, e, hlt, hc⟩ := h3 h0
  exact ⟨g, off, e, trivial, hlt, hc⟩
/-- A text as an item. -/
theorem iv_text {b : List UInt8} {v : Value} {w : World} (h : Sl b v w) : Iv (fun _ => True) w (.mk false b []) (.bool false, v, .slice none 0 0) :=
  .mk false b [] v (.slice none 0 0) [] (sl_ty h) rfl (Kx_nil _ _) (fun j hj => absurd hj (by simp))
/-- A list of two texts, its kids in a block of their own. -/
theorem iv_two {b c : List UInt8} {u v : Value} {W : World} (hb : Sl b u W) (hc : Sl c v W) (T : TypeId) :
    Iv (fun _ => True) (W.alloc (.cells #[.bool false, u, .slice none 0 0, .bool false, v, .slice none 0 0] T)) (.mk true [] [.mk false b [], .mk false c []]) (.bool true, .slice none 0 0, .slice (some ⟨W.heap.size, 0, none⟩) 2 2) := by
  have HA := heap_alloc_new W (.cells #[.bool false, u, .slice none 0 0, .bool false, v, .slice none 0 0] T)
  have bA : Below W.heap.size W (W.alloc (.cells #[.bool false, u, .slice none 0 0, .bool false, v, .slice none 0 0] T)) := (Below.refl _ _).alloc (Nat.le_refl _) _
  refine .mk true [] [.mk false b [], .mk false c []] (.slice none 0 0) _ [(.bool false, u, .slice none 0 0), (.bool false, v, .slice none 0 0)] (Ty_nil _ _) rfl ⟨some ⟨W.heap.size, 0, none⟩, 2, rfl, Nat.le_refl _, fun _ => ⟨W.heap.size, 0, rfl, trivial, by simp, fun j hj => ?_⟩⟩ (fun j hj => ?_)
  · have hj2 : j = 0 ∨ j = 1 := by simp at hj; omega
    rcases hj2 with rfl | rfl
    · exact ⟨by simp only [World.cell?, HA]; rfl, by simp only [World.cell?, HA]; rfl, by simp only [World.cell?, HA]; rfl⟩
    · exact ⟨by simp only [World.cell?, HA]; rfl, by simp only [World.cell?, HA]; rfl, by simp only [World.cell?, HA]; rfl⟩
  · have hj2 : j = 0 ∨ j = 1 := by simp at hj; omega
    rcases hj2 with rfl | rfl
    · exact iv_text (Pk.Sl_below hb bA)
    · exact iv_text (Pk.Sl_below hc bA)
/-- The item that stands for a shape. -/
def itS (s : Shp) : It :=
  if s.1 = 1 then .mk true [] [.mk false (jl (tg s.2.1 true)) [], .mk false s.2.2.1 []]
  else if s.1 = 2 then .mk true [] [.mk false (jl (tg s.2.1 false)) [], .mk false (s.2.2.2.getD 0 []) []]
  else if s.1 = 3 then .mk true [] ((s.2.2.2 ++ [s.2.2.1]).map fun b => .mk false b [])
  else .mk false [] []
end Rs
end Go.Proofs.Ytcgimjlmihaegaa
/- lampbearerref.PSplit where there is no item, or a text. -/
namespace Go.Proofs.Ytcgimjlmihaegaa
namespace Pk
open Go.RowKit
set_option maxHeartbeats 1000000 in
set_option maxRecDepth 100000 in
theorem psplit_no (n cap : Nat) (ao : Option Addr) (w : World)
    (KR : Hid (∀ wx : World, Below w.heap.size w wx → Calls Try.prog 51 #[.slice ao n cap] wx fun e w' => e = .returned (.tuple #[.int .i64 0, .int .i64 0, .bool false, .bool false]) ∧ Below wx.heap.size wx w')) :
    Calls Try.prog 33 #[.slice ao n cap] w fun e w' => ∃ v, e = .returned (.tuple #[v3 v, .int .i64 0, .int .i64 1]) ∧ Iv (w.heap.size ≤ ·) w' It.no v ∧ Below w.heap.size w w' := by
  have x0 := B3_new w
  have l0 : Below w.heap.size w (w.alloc (.cells #[.bool false, .slice none 0 0, .slice none 0 0] 42)) := (Below.refl _ _).alloc (Nat.le_refl _) _
  go_enter Try.func33, Try.ntmps33
  go_upto_region 1 with fail
  generalize w.alloc (.cells #[.bool false, .slice none 0 0, .slice none 0 0] 42) = W0 at *
  obtain ⟨h, eh⟩ : ∃ h, h = w.heap.size := ⟨_, rfl⟩
  have EH : Hid (h = w.heap.size) := eh
  rw [← eh] at x0 ⊢
  clear eh
  go_wp2_with fail
  refine (KR.out _ l0).mono (fun e w1 he => ?_)
  obtain ⟨rfl, b1⟩ := he
  have x1 : B3 h w1 := B3_gb (r := none) x0 (gb_below b1) nofun
  have l1 := l0.trans (b1.mono l0.size)
  clear x0 l0 b1 KR
  go_wp2_with (refine wpList_st3b rfl rfl rfl rfl x1 ?_)
  intro w2 g2 b2 z0 z1 z2
  have l2 : Hid (Below w.heap.size w w2) := l1.trans ⟨g2.os, g2.tape, g2.output, g2.size, fun j hj => g2.block j (by have := l1.size; omega) (fun e => by injection e with e; have := EH.out; omega)⟩
  clear g2 b2 x1 l1
  go_wp2_with fail
  exact bodyPost_ret (v := .tuple #[.agg #[.bool false, .slice none 0 0, .slice none 0 0], .int .i64 0, .int .i64 1]) (resI3 _ _ _ h 2 3 4 _ _ _ _ _ rfl rfl rfl rfl z0 z1 z2) rfl ⟨(.bool false, .slice none 0 0, .slice none 0 0), rfl, .mk _ _ _ _ _ [] (Ty_nil _ _) rfl (Kx_nil _ _) (fun j hj => absurd hj (by simp)), l2.out⟩
theorem sl_part {b : List UInt8} {g off cap f t : Nat} {w : World} (hft : f ≤ t) (ht : t ≤ b.length) (hcap : b.length ≤ cap) (hg : g < w.heap.size) (hc : ∀ j, j < b.length → w.cell? ⟨g, off + j, none⟩ = some (.int .u8 (Sp.bz b j))) (a' : Option Addr) (ha : f < t → a' = some ⟨g, off + f, none⟩) : Sl ((b.take t).drop f) (.slice a' (t - f) (cap - f)) w := by
  have ld : ((b.take t).drop f).length = t - f := by rw [List.length_drop, List.length_take]; omega
  refine ⟨a', cap - f, by rw [ld], by rw [ld]; omega, fun h0 => ?_⟩
  rw [ld] at h0
  refine ⟨g, off + f, ha (by omega), hg, fun j hj => ?_⟩
  rw [ld] at hj
  rw [Nat.add_assoc, hc (f + j) (by omega), bz_drop, bz_take b t (f + j) (by omega)]
set_option maxHeartbeats 1000000 in
set_option maxRecDepth 100000 in
theorem psplit_text (b : List UInt8) (g off cap f t : Nat) (w : World) (hb : b.length ≤ 4194304) (hcap : b.length ≤ cap) (hft : f ≤ t) (ht : t ≤ b.length) (hf : f < t ∨ f < cap) (hg : g < w.heap.size) (hc : ∀ j, j < b.length → w.cell? ⟨g, off + j, none⟩ = some (.int .u8 (Sp.bz b j)))
    (KR : Hid (∀ wx : World, Below w.heap.size w wx → Calls Try.prog 51 #[.slice (some ⟨g, off, none⟩) b.length cap] wx fun e w' => e = .returned (.tuple #[.int .i64 (f : Int), .int .i64 (t : Int), .bool false, .bool true]) ∧ Below wx.heap.size wx w')) :
    Calls Try.prog 33 #[.slice (some ⟨g, off, none⟩) b.length cap] w fun e w' => ∃ v, e = .returned (.tuple #[v3 v, .int .i64 (t : Int), .int .i64 0]) ∧ Iv (w.heap.size ≤ ·) w' (.mk false ((b.take t).drop f) []) v ∧ Below w.heap.size w w' := by
  have x0 := B3_new w
  have l0 : Below w.heap.size w (w.alloc (.cells #[.bool false, .slice none 0 0, .slice none 0 0] 42)) := (Below.refl _ _).alloc (Nat.le_refl _) _
  have KT : Hid (∀ (a : Option Addr) (n c : Nat) (wx : World), Calls Try.prog 52 #[.slice a n c] wx fun e w' => e = .returned (.agg #[.bool false, .slice a n c, .slice none 0 0]) ∧ Below wx.heap.size wx w') := ptext_any
  have HA : Hid (∀ wx : World, Below w.heap.size w wx → ∃ a3 c3 w', (Builtin.append_ #[22, 22] 22 #[.slice (some ⟨wx.heap.size, 0, none⟩) 0 0, .slice (some ⟨g, off + f, none⟩) (t - f) (cap - f)]).run Try.prog (wx.alloc (.cells #[] 5)) = .ok (.slice a3 (t - f) c3) w' ∧ Ty (wx.heap.size ≤ ·) ((b.take t).drop f) (.slice a3 (t - f) c3) w' ∧ Below wx.heap.size wx w') := fun wx hb => by
    have b1 : Below wx.heap.size wx (wx.alloc (.cells #[] 5)) := (Below.refl _ _).alloc (Nat.le_refl _) _
    have ld : ((b.take t).drop f).length = t - f := by rw [List.length_drop, List.length_take]; omega
    have bw := hb.trans (b1.mono hb.size)
    have s1 := sl_part (w := wx.alloc (.cells #[] 5)) hft ht hcap (Nat.lt_of_lt_of_le hg bw.size) (fun j hj => (bw.cell (p := ⟨g, off + j, none⟩) hg).trans (hc j hj)) (some ⟨g, off + f, none⟩) (fun _ => rfl)
    obtain ⟨v', w', hap, hown, hbel⟩ := app_sl (x := []) 22 (own_nil_b (Nat.le_refl _)) s1 (by simp) (by rw [ld, List.length_nil]; omega)
    rw [List.nil_append] at hown
    have tx := Tx_ty (own_tx hown)
    have tx' := tx
    obtain ⟨a3, c3, rfl, _⟩ := tx
    rw [ld] at hap tx'
    exact ⟨a3, c3, w', hap, tx', b1.trans hbel⟩
  have i1 : (f : Int) ≤ (t : Int) := by omega
  have i2 : (t : Int) ≤ (cap : Int) := by omega
  have i3 : (0 : Int) ≤ (f : Int) := by omega
  have i4 : (f : Int) < (cap : Int) := by omega
  clear hb hcap hft ht hf hg hc
  generalize b.length = L at *
  go_enter Try.func33, Try.ntmps33
  go_upto_region 1 with fail
  generalize w.alloc (.cells #[.bool false, .slice none 0 0, .slice none 0 0] 42) = W0 at *
  obtain ⟨h, eh⟩ : ∃ h, h = w.heap.size := ⟨_, rfl⟩
  have EH : Hid (h = w.heap.size) := eh
  rw [← eh] at x0 ⊢
  clear eh
  go_wp2_with fail
  refine (KR.out _ l0).mono (fun e w1 he => ?_)
  obtain ⟨rfl, b1⟩ := he
  have x1 : B3 h w1 := B3_gb (r := none) x0 (gb_below b1) nofun
  have l1 := l0.trans (b1.mono l0.size)
  obtain ⟨a3, c3, w3, hap, ty3, b3⟩ := HA.out _ l1
  have x3 : B3 h w3 := B3_gb (r := none) x1 (gb_below b3) nofun
  have l3 := l1.trans (b3.mono l1.size)
  have TY : Hid (Ty (h + 1 ≤ ·) ((b.take t).drop f) (.slice a3 (t - f) c3) w3) := Ty_mono ty3 (fun k hk _ => by have := x1.hi; omega)
  clear x0 l0 b1 KR HA x1 l1 ty3 b3
  go_wp2_with (at_builtin; refine wpList_apw rfl rfl rfl rfl hap ?_)
  refine (KT.out _ _ _ _).mono (fun e w4 he => ?_)
  obtain ⟨rfl, b4⟩ := he
  have x4 : B3 h w4 := B3_gb (r := none) x3 (gb_below b4) nofun
  have l4 := l3.trans (b4.mono l3.size)
  have TY4 : Hid (Ty (h + 1 ≤ ·) ((b.take t).drop f) (.slice a3 (t - f) c3) w4) := Ty_gb (r := none) TY.out (gb_below b4) (fun _ _ => nofun)
  clear x3 l3 b4 TY hap KT
  go_wp2_with (refine wpList_st3b rfl rfl rfl rfl x4 ?_)
  intro w5 g5 b5 z0 z1 z2
  have l5 : Hid (Below w.heap.size w w5) := l4.trans ⟨g5.os, g5.tape, g5.output, g5.size, fun j hj => g5.block j (by have := l4.size; omega) (fun e => by injection e with e; have := EH.out; omega)⟩
  have TY5 : Hid (Ty (w.heap.size ≤ ·) ((b.take t).drop f) (.slice a3 (t - f) c3) w5) := Ty_mono (Ty_gb TY4.out g5 (fun k hk e => by injection e with e; omega)) (fun k hk _ => by have := EH.out; omega)
  clear g5 b5 x4 l4 TY4
  go_wp2_with fail
  exact bodyPost_ret (v := .tuple #[.agg #[.bool false, .slice a3 (t - f) c3, .slice none 0 0], .int .i64 (t : Int), .int .i64 0]) (resI3 _ _ _ h 2 3 4 _ _ _ _ _ rfl rfl rfl rfl z0 z1 z2) rfl ⟨(.bool false, .slice a3 (t - f) c3, .slice none 0 0), rfl, .mk _ _ _ _ _ [] TY5.out rfl (Kx_nil _ _) (fun j hj => absurd hj (by simp)), l5.out⟩
set_option maxHeartbeats 1000000 in
set_option maxRecDepth 100000 in
theorem psplit_text0 (b : List UInt8) (g off t : Nat) (w : World) (ht : t = b.length) (hg : g < w.heap.size) (hc : ∀ j, j < b.length → w.cell? ⟨g, off + j, none⟩ = some (.int .u8 (Sp.bz b j)))
    (KR : Hid (∀ wx : World, Below w.heap.size w wx → Calls Try.prog 51 #[.slice (some ⟨g, off, none⟩) b.length t] wx fun e w' => e = .returned (.tuple #[.int .i64 (t : Int), .int .i64 (t : Int), .bool false, .bool true]) ∧ Below wx.heap.size wx w')) :
    Calls Try.prog 33 #[.slice (some ⟨g, off, none⟩) b.length t] w fun e w' => ∃ v, e = .returned (.tuple #[v3 v, .int .i64 (t : Int), .int .i64 0]) ∧ Iv (w.heap.size ≤ ·) w' (.mk false ((b.take t).drop t) []) v ∧ Below w.heap.size w w' := by
  have x0 := B3_new w
  have l0 : Below w.heap.size w (w.alloc (.cells #[.bool false, .slice none 0 0, .slice none 0 0] 42)) := (Below.refl _ _).alloc (Nat.le_refl _) _
  have KT : Hid (∀ (a : Option Addr) (n c : Nat) (wx : World), Calls Try.prog 52 #[.slice a n c] wx fun e w' => e = .returned (.agg #[.bool false, .slice a n c, .slice none 0 0]) ∧ Below wx.heap.size wx w') := ptext_any
  have HA : Hid (∀ wx : World, Below w.heap.size w wx → ∃ a3 c3 w', (Builtin.append_ #[22, 22] 22 #[.slice (some ⟨wx.heap.size, 0, none⟩) 0 0, .slice (some ⟨g, off, none⟩) 0 0]).run Try.prog (wx.alloc (.cells #[] 5)) = .ok (.slice a3 0 c3) w' ∧ Ty (wx.heap.size ≤ ·) ((b.take t).drop t) (.slice a3 0 c3) w' ∧ Below wx.heap.size wx w') := fun wx hb => by
    have b1 : Below wx.heap.size wx (wx.alloc (.cells #[] 5)) := (Below.refl _ _).alloc (Nat.le_refl _) _
    have ld : ((b.take t).drop t).length = 0 := by rw [List.length_drop, List.length_take]; omega
    have bw := hb.trans (b1.mono hb.size)
    have s1 := sl_part (cap := t) (w := wx.alloc (.cells #[] 5)) (Nat.le_refl t) (by omega) (by omega) (Nat.lt_of_lt_of_le hg bw.size) (fun j hj => (bw.cell (p := ⟨g, off + j, none⟩) hg).trans (hc j hj)) (some ⟨g, off, none⟩) (fun h => by omega)
    rw [Nat.sub_self] at s1
    obtain ⟨v', w', hap, hown, hbel⟩ := app_sl (x := []) 22 (own_nil_b (Nat.le_refl _)) s1 (by simp) (by rw [ld, List.length_nil]; omega)
    rw [List.nil_append] at hown
    have tx := Tx_ty (own_tx hown)
    have tx' := tx
    obtain ⟨a3, c3, rfl, _⟩ := tx
    rw [ld] at hap tx'
    exact ⟨a3, c3, w', hap, tx', b1.trans hbel⟩
  have i3 : (0 : Int) ≤ (t : Int) := by omega
  clear ht hg hc
  generalize b.length = L at *
  go_enter Try.func33, Try.ntmps33
  go_upto_region 1 with fail
  generalize w.alloc (.cells #[.bool false, .slice none 0 0, .slice none 0 0] 42) = W0 at *
  obtain ⟨h, eh⟩ : ∃ h, h = w.heap.size := ⟨_, rfl⟩
  have EH : Hid (h = w.heap.size) := eh
  rw [← eh] at x0 ⊢
  clear eh
  go_wp2_with fail
  refine (KR.out _ l0).mono (fun e w1 he => ?_)
  obtain ⟨rfl, b1⟩ := he
  have x1 : B3 h w1 := B3_gb (r := none) x0 (gb_below b1) nofun
  have l1 := l0.trans (b1.mono l0.size)
  obtain ⟨a3, c3, w3, hap, ty3, b3⟩ := HA.out _ l1
  have x3 : B3 h w3 := B3_gb (r := none) x1 (gb_below b3) nofun
  have l3 := l1.trans (b3.mono l1.size)
  have TY : Hid (Ty (h + 1 ≤ ·) ((b.take t).drop t) (.slice a3 0 c3) w3) := Ty_mono ty3 (fun k hk _ => by have := x1.hi; omega)
  clear x0 l0 b1 KR HA x1 l1 ty3 b3
  go_wp2_with (at_builtin; refine wpList_apw rfl rfl rfl rfl hap ?_)
  refine (KT.out _ _ _ _).mono (fun e w4 he => ?_)
  obtain ⟨rfl, b4⟩ := he
  have x4 : B3 h w4 := B3_gb (r := none) x3 (gb_below b4) nofun
  have l4 := l3.trans (b4.mono l3.size)
  have TY4 : Hid (Ty (h + 1 ≤ ·) ((b.take t).drop t) (.slice a3 0 c3) w4) := Ty_gb (r := none) TY.out (gb_below b4) (fun _ _ => nofun)
  clear x3 l3 b4 TY hap KT
  go_wp2_with (refine wpList_st3b rfl rfl rfl rfl x4 ?_)
  intro w5 g5 b5 z0 z1 z2
  have l5 : Hid (Below w.heap.size w w5) := l4.trans ⟨g5.os, g5.tape, g5.output, g5.size, fun j hj => g5.block j (by have := l4.size; omega) (fun e => by injection e with e; have := EH.out; omega)⟩
  have TY5 : Hid (Ty (w.heap.size ≤ ·) ((b.take t).drop t) (.slice a3 0 c3) w5) := Ty_mono (Ty_gb TY4.out g5 (fun k hk e => by injection e with e; omega)) (fun k hk _ => by have := EH.out; omega)
  clear g5 b5 x4 l4 TY4
  go_wp2_with fail
  exact bodyPost_ret (v := .tuple #[.agg #[.bool false, .slice a3 0 c3, .slice none 0 0], .int .i64 (t : Int), .int .i64 0]) (resI3 _ _ _ h 2 3 4 _ _ _ _ _ rfl rfl rfl rfl z0 z1 z2) rfl ⟨(.bool false, .slice a3 0 c3, .slice none 0 0), rfl, .mk _ _ _ _ _ [] TY5.out rfl (Kx_nil _ _) (fun j hj => absurd hj (by simp)), l5.out⟩
end Pk
end Go.Proofs.Ytcgimjlmihaegaa
/- lampbearerref.PSplit: lists; what holds while kids are read. -/
namespace Go.Proofs.Ytcgimjlmihaegaa
namespace Pk
open Go.RowKit
structure PL (w : World) (h gi : Nat) (C : List UInt8) (kv : Value) (ks : List It) (vs : List V3) (r : List UInt8) (wr : World) : Prop where
  e : rkids C = (rkids r).map fun l => ks ++ l
  l : ks.length + r.length ≤ C.length
  x : B3 h wr
  y : B3 gi wr
  c0 : wr.cell? ⟨gi, 0, none⟩ = some (.bool true)
  c1 : wr.cell? ⟨gi, 1, none⟩ = some (.slice none 0 0)
  c2 : wr.cell? ⟨gi, 2, none⟩ = some kv
  b : Below w.heap.size w wr
  o : wr.ownsRow (gi + 1) 42 3 kv vs.length (c3 vs)
  n : vs.length = ks.length
  i : ∀ j, j < ks.length → Iv (fun k => gi + 1 ≤ k ∧ kv.ownBlock ≠ some k) wr (ks.getD j It.no) (vs.getD j n3)
theorem cell_gb' {w w' : World} {r : Option Nat} {g o : Nat} {v : Value} (c : w.cell? ⟨g, o, none⟩ = some v) (hg : g < w.heap.size) (hb : w.grownBy w' r) (hr : some g ≠ r) : w'.cell? ⟨g, o, none⟩ = some v :=
  (World.cell?_of_block (a := ⟨g, o, none⟩) (hb.block g hg hr)).trans c
theorem cell_set_ne (w : World) (g o o' : Nat) (v : Value) (h : o' ≠ o) : (w.setCell ⟨g, o, none⟩ v).cell? ⟨g, o', none⟩ = w.cell? ⟨g, o', none⟩ :=
  World.cell?_setCell_other w _ _ v (fun e => h (by injection e with _ e2 _; exact e2.symm))
theorem B3_set {G o : Nat} {w : World} (v : Value) (h : B3 G w) (ho : o < 3) : B3 G (w.setCell ⟨G, o, none⟩ v) := by
  refine ⟨by rw [show (w.setCell ⟨G, o, none⟩ v).heap.size = w.heap.size by simp [World.setCell]]; exact h.hi, fun j hj => ?_, fun j => by rw [World.frozen?_setCell]; exact h.f j⟩
  by_cases e : j = o
  · subst e
    obtain ⟨u, hu⟩ := Option.isSome_iff_exists.1 (h.c j hj)
    rw [World.cell?_setCell_same w ⟨G, j, none⟩ v hu]
    rfl
  · rw [cell_set_ne w G o j v e]
    exact h.c j hj
set_option maxRecDepth 100000 in
theorem PL_step {w wr w5 : World} {h gi : Nat} {C r r' : List UInt8} {kv : Value} {ks : List It} {vs : List V3} {t : It} {l : Bool} {a1 a2 : Option Addr} {n1 c1 n2 c2 : Nat} (ty : TypeId) (hh : w.heap.size ≤ h) (hgi : h < gi)
    (H : PL w h gi C kv ks vs r wr) (hr0 : 0 < r.length) (hg : Below wr.heap.size wr w5) (hi : ritem r = some (t, r')) (iv : Iv (wr.heap.size ≤ ·) w5 t (.bool l, .slice a1 n1 c1, .slice a2 n2 c2)) (hC : C.length ≤ 4194304) :
    ∃ kv' w7, (Builtin.append_ #[40, 40] ty #[kv, .slice (some ⟨w5.heap.size, 0, none⟩) 1 1]).run Try.prog (w5.alloc (.cells #[.bool l, .slice a1 n1 c1, .slice a2 n2 c2] 42)) = .ok kv' w7 ∧ (w7.cell? ⟨gi, 2, none⟩ = some kv ∧ w7.frozen? ⟨gi, 2, none⟩ = false) ∧ PL w h gi C kv' (ks ++ [t]) (vs ++ [(.bool l, .slice a1 n1 c1, .slice a2 n2 c2)]) r' (w7.setCell ⟨gi, 2, none⟩ kv') := by
  obtain ⟨i0, hi0, hz0, hz1, hz2⟩ := info_parts infoI
  have hgl := H.y.hi
  have hlo := H.o.lt
  have hs := ritem_shorter hi
  have hk := H.l
  have hn := H.n
  have o5 : w5.ownsRow (gi + 1) 42 3 kv vs.length (c3 vs) := ownb H.o hg
  have hwr := hg.size
  have hnew := heap_alloc_new w5 (.cells #[.bool l, .slice a1 n1 c1, .slice a2 n2 c2] 42)
  have b5 : Below w5.heap.size w5 (w5.alloc (.cells #[.bool l, .slice a1 n1 c1, .slice a2 n2 c2] 42)) := (Below.refl _ _).alloc (Nat.le_refl _) _
  have o6 := o5.alloc (.cells #[.bool l, .slice a1 n1 c1, .slice a2 n2 c2] 42)
  generalize w5.alloc (.cells #[.bool l, .slice a1 n1 c1, .slice a2 n2 c2] 42) = w6 at *
  have hs6 := b5.size
  obtain ⟨G, cap, w7, hr, h7, hgr, hG, _⟩ := run_append_lies (P := Try.prog) w6 40 ty (gi + 1) 42 i0 (.agg #[.bool false, .slice none 0 0, .slice none 0 0]) 3 56 Try.underlying40 hi0 hz0 hz1 hz2 rfl (by decide) kv vs.length (c3 vs) o6 ⟨w5.heap.size, 0, none⟩ 1 1 [.bool l, .slice a1 n1 c1, .slice a2 n2 c2] rfl
    (fun j u hj => by
      have ea : (⟨w5.heap.size, 0, none⟩ : Addr).add j = ⟨w5.heap.size, j, none⟩ := by unfold Addr.add; split <;> simp_all
      rw [ea]
      simp only [World.cell?, hnew]
      simpa using hj) (fun u hu => by
        simp only [List.mem_cons, List.not_mem_nil, or_false] at hu
        rcases hu with rfl | rfl | rfl <;> rfl) (by decide) (by unfold maxLen; omega) (by omega) (by omega) _ rfl
  have hvo : ∀ k, kv.ownBlock = some k → gi + 1 ≤ k ∧ k < wr.heap.size := hlo
  have hGS : ∀ k, k < w6.heap.size → kv.ownBlock ≠ some k → some G ≠ some k := fun k hk1 hk2 e => by
    injection e with e
    subst e
    rcases hG with hG | hG
    · exact hk2 hG
    · omega
  have hno : ∀ j, j ≤ gi → some j ≠ kv.ownBlock := fun j hj e => by have := (hvo j e.symm).1; omega
  have g5 : wr.grownBy w5 none := gb_below hg
  have g6 : w5.grownBy w6 none := gb_below b5
  have x7 : B3 h w7 := B3_gb (B3_gb (B3_gb H.x g5 nofun) g6 nofun) hgr (hno h (by omega))
  have y7 : B3 gi w7 := B3_gb (B3_gb (B3_gb H.y g5 nofun) g6 nofun) hgr (hno gi (Nat.le_refl _))
  have cc : ∀ o v, wr.cell? ⟨gi, o, none⟩ = some v → w7.cell? ⟨gi, o, none⟩ = some v := fun o v c => cell_gb' (cell_gb' (cell_gb' c hgl g5 nofun) (by omega) g6 nofun) (by omega) hgr (hno gi (Nat.le_refl _))
  have hbl : Below w.heap.size w w7 := ((H.b.trans (hg.mono H.b.size)).trans (b5.mono (by have := H.b.size; omega))).trans ⟨hgr.os, hgr.tape, hgr.output, hgr.size, fun j hj => hgr.block j (by have := H.b.size; omega) (hno j (by omega))⟩
  have hGg : gi + 1 ≤ G := by
    rcases hG with hG | hG
    · exact (hvo G hG).1
    · omega
  refine ⟨_, w7, hr, ⟨cc 2 _ H.c2, y7.f 2⟩, ⟨?_, ?_, ?_, ?_, ?_, ?_, ?_, ?_, ?_, ?_, fun j hj => ?_⟩⟩
  · rw [H.e, rkids_some hr0 hi, Option.map_map]
    congr 1
    funext x
    simp
  · rw [List.length_append, List.length_singleton]
    omega
  · exact B3_gb x7 (gb_set _ _ _ _) (fun e => by injection e with e; omega)
  · exact B3_set _ y7 (by decide)
  · rw [cell_set_ne _ _ _ _ _ (by decide)]; exact cc 0 _ H.c0
  · rw [cell_set_ne _ _ _ _ _ (by decide)]; exact cc 1 _ H.c1
  · exact World.cell?_setCell_same w7 ⟨gi, 2, none⟩ _ (cc 2 _ H.c2)
  · exact hbl.setCell (p := ⟨gi, 2, none⟩) (by show w.heap.size ≤ gi; omega) _
  · rw [List.length_append, c3_app]
    exact h7.kept (gb_set _ _ _ _) (.inr (fun e => by
      have e2 : (some G : Option Nat) = some gi := e
      injection e2 with e2
      omega))
  · rw [List.length_append, List.length_append, hn]
    rfl
  · rw [List.length_append, List.length_singleton] at hj
    by_cases hj2 : j < ks.length
    · have e1 : (ks ++ [t]).getD j It.no = ks.getD j It.no := by simp [List.getD_eq_getElem?_getD, List.getElem?_append_left hj2]
      have e2 : (vs ++ [((.bool l, .slice a1 n1 c1, .slice a2 n2 c2) : V3)]).getD j n3 = vs.getD j n3 := by simp [List.getD_eq_getElem?_getD, List.getElem?_append_left (hn ▸ hj2)]
      rw [e1, e2]
      have i6 := Iv_below (Iv_below (H.i j hj2) hg) b5
      have i7 := Iv_gb (Iv_mono (S' := fun k => (gi + 1 ≤ k ∧ some G ≠ some k) ∧ kv.ownBlock ≠ some k) i6 (fun k hk1 hk2 => ⟨⟨hk1.1, hGS k hk2 hk1.2⟩, hk1.2⟩)) hgr (fun k hk1 e => hk1.2 e.symm)
      exact Iv_gb (Iv_mono i7 (fun k hk1 _ => hk1.1)) (gb_set _ _ _ _) (fun k hk1 e => by injection e with e; omega)
    · have ej : j = ks.length := by omega
      subst ej
      have e1 : (ks ++ [t]).getD ks.length It.no = t := by simp [List.getD_eq_getElem?_getD]
      have e2 : (vs ++ [((.bool l, .slice a1 n1 c1, .slice a2 n2 c2) : V3)]).getD ks.length n3 = (.bool l, .slice a1 n1 c1, .slice a2 n2 c2) := by rw [← hn]; simp [List.getD_eq_getElem?_getD]
      rw [e1, e2]
      have i6 := Iv_below iv b5
      have hS : ∀ k, wr.heap.size ≤ k → kv.ownBlock ≠ some k := fun k hk1 e => by have := (hvo k e).2; omega
      have i7 := Iv_gb (Iv_mono (S' := fun k => (gi + 1 ≤ k ∧ some G ≠ some k) ∧ kv.ownBlock ≠ some k) i6 (fun k hk1 hk2 => ⟨⟨by omega, hGS k hk2 (hS k hk1)⟩, hS k hk1⟩)) hgr (fun k hk1 e => hk1.2 e.symm)
      exact Iv_gb (Iv_mono i7 (fun k hk1 _ => hk1.1)) (gb_set _ _ _ _) (fun k hk1 e => by injection e with e; omega)
end Pk
end Go.Proofs.Ytcgimjlmihaegaa
/- A list of items that grows in a variable of its own. -/
namespace Go.Proofs.Ytcgimjlmihaegaa
namespace Rs
open Nb Sp Pk Go.RowKit
/-- An item's variable at gi, whose kids grow from world w on. -/
structure GL (w : World) (gi : Nat) (kv : Value) (vs : List V3) (wr : World) : Prop where
  g : gi < w.heap.size
  y : B3 gi wr
  c0 : wr.cell? ⟨gi, 0, none⟩ = some (.bool true)
  c1 : wr.cell? ⟨gi, 1, none⟩ = some (.slice none 0 0)
  c2 : wr.cell? ⟨gi, 2, none⟩ = some kv
  b : w.grownBy wr (some gi)
  o : wr.ownsRow w.heap.size 42 3 kv vs.length (Pk.c3 vs)
/-- Variables of an item that are new. -/
structure LN (gi : Nat) (w : World) : Prop where
  y : B3 gi w
  c0 : w.cell? ⟨gi, 0, none⟩ = some (.bool true)
  c1 : w.cell? ⟨gi, 1, none⟩ = some (.slice none 0 0)
  c2 : w.cell? ⟨gi, 2, none⟩ = some (.slice none 0 0)
theorem LN_new (w : World) : LN w.heap.size (w.alloc (.cells #[.bool true, .slice none 0 0, .slice none 0 0] 42)) := by
  have hn := heap_alloc_new w (.cells #[.bool true, .slice none 0 0, .slice none 0 0] 42)
  refine ⟨⟨by simp, fun o ho => ?_, fun o => by simp only [World.frozen?, hn]; simp⟩, by simp only [World.cell?, hn]; rfl, by simp only [World.cell?, hn]; rfl, by simp only [World.cell?, hn]; rfl⟩
  simp only [World.cell?, hn]
  have : o = 0 ∨ o = 1 ∨ o = 2 := by omega
  rcases this with rfl | rfl | rfl <;> rfl
theorem LN_below {gi : Nat} {w w' : World} (h : LN gi w) (hb : Below w.heap.size w w') : LN gi w' :=
  ⟨B3_gb (r := none) h.y (gb_below hb) nofun, (hb.cell (p := ⟨gi, 0, none⟩) h.y.hi).trans h.c0, (hb.cell (p := ⟨gi, 1, none⟩) h.y.hi).trans h.c1, (hb.cell (p := ⟨gi, 2, none⟩) h.y.hi).trans h.c2⟩
theorem GL_new {w : World} {gi : Nat} (h : LN gi w) : GL w gi (.slice none 0 0) [] w :=
  ⟨h.y.hi, h.y, h.c0, h.c1, h.c2, gb_refl w _, World.ownsRow_nil _ _ _ _⟩
set_option maxRecDepth 100000 in
theorem GL_step {w wr w6 : World} {gi g : Nat} {kv : Value} {vs : List V3} {l : Bool} {a1 a2 : Option Addr} {n1 c1 n2 c2 : Nat} (ty : TypeId)
    (H : GL w gi kv vs wr) (hg : Below wr.heap.size wr w6) (k0 : w6.cell? ⟨g, 0, none⟩ = some (.bool l)) (k1 : w6.cell? ⟨g, 1, none⟩ = some (.slice a1 n1 c1)) (k2 : w6.cell? ⟨g, 2, none⟩ = some (.slice a2 n2 c2)) (hC : vs.length ≤ 4194304) :
    ∃ kv' w7, (Builtin.append_ #[40, 40] ty #[kv, .slice (some ⟨g, 0, none⟩) 1 1]).run Try.prog w6 = .ok kv' w7 ∧ (w7.cell? ⟨gi, 2, none⟩ = some kv ∧ w7.frozen? ⟨gi, 2, none⟩ = false) ∧ GL w gi kv' (vs ++ [(.bool l, .slice a1 n1 c1, .slice a2 n2 c2)]) (w7.setCell ⟨gi, 2, none⟩ kv') := by
  obtain ⟨i0, hi0, hz0, hz1, hz2⟩ := info_parts infoI
  have hgl := H.y.hi
  have hlo := H.o.lt
  have hgw := H.g
  have hws := H.b.size
  have o6 : w6.ownsRow w.heap.size 42 3 kv vs.length (Pk.c3 vs) := ownb H.o hg
  have hwr := hg.size
  obtain ⟨G, cap, w7, hr, h7, hgr, hG, _⟩ := run_append_lies (P := Try.prog) w6 40 ty w.heap.size 42 i0 (.agg #[.bool false, .slice none 0 0, .slice none 0 0]) 3 56 Try.underlying40 hi0 hz0 hz1 hz2 rfl (by decide) kv vs.length (Pk.c3 vs) o6 ⟨g, 0, none⟩ 1 1 [.bool l, .slice a1 n1 c1, .slice a2 n2 c2] rfl
    (fun j u hj => by
      have ea : (⟨g, 0, none⟩ : Addr).add j = ⟨g, j, none⟩ := by unfold Addr.add; split <;> simp_all
      rw [ea]
      match j, hj with
      | 0, hj => simp at hj; rw [← hj]; exact k0
      | 1, hj => simp at hj; rw [← hj]; exact k1
      | 2, hj => simp at hj; rw [← hj]; exact k2
      | n + 3, hj => simp at hj) (fun u hu => by
        simp only [List.mem_cons, List.not_mem_nil, or_false] at hu
        rcases hu with rfl | rfl | rfl <;> rfl) (by decide) (by unfold maxLen; omega) (by omega) (by omega) _ rfl
  have hvo : ∀ k, kv.ownBlock = some k → w.heap.size ≤ k ∧ k < wr.heap.size := hlo
  have hno : ∀ j, j < w.heap.size → some j ≠ kv.ownBlock := fun j hj e => by have := (hvo j e.symm).1; omega
  have g6 : wr.grownBy w6 none := gb_below hg
  have y7 : B3 gi w7 := B3_gb (B3_gb H.y g6 nofun) hgr (hno gi hgw)
  have cc : ∀ o v, wr.cell? ⟨gi, o, none⟩ = some v → w7.cell? ⟨gi, o, none⟩ = some v := fun o v c => cell_gb' (cell_gb' c hgl g6 nofun) (by omega) hgr (hno gi hgw)
  have hbl : w.grownBy w7 (some gi) := ⟨hgr.os.trans (hg.os.trans H.b.os), hgr.tape.trans (hg.tape.trans H.b.tape), hgr.output.trans (hg.output.trans H.b.output), Nat.le_trans hws (Nat.le_trans hwr hgr.size), fun j hj hne => (hgr.block j (by omega) (hno j hj)).trans ((hg.block j (by omega)).trans (H.b.block j hj hne))⟩
  have hGg : w.heap.size ≤ G := by
    rcases hG with hG | hG
    · exact (hvo G hG).1
    · omega
  refine ⟨_, w7, hr, ⟨cc 2 _ H.c2, y7.f 2⟩, ⟨H.g, ?_, ?_, ?_, ?_, ?_, ?_⟩⟩
  · exact B3_set _ y7 (by decide)
  · rw [cell_set_ne _ _ _ _ _ (by decide)]; exact cc 0 _ H.c0
  · rw [cell_set_ne _ _ _ _ _ (by decide)]; exact cc 1 _ H.c1
  · exact World.cell?_setCell_same w7 ⟨gi, 2, none⟩ _ (cc 2 _ H.c2)
  · exact gb_trans hbl (gb_set w7 gi 2 _)
  · rw [List.length_append, Pk.c3_app]
    exact h7.kept (gb_set _ _ _ _) (.inr (fun e => by
      have e2 : (some G : Option Nat) = some gi := e
      injection e2 with e2
      omega))
/-- An item's parts are what they ought to be. -/
def Fm (v : V3) : Prop := ∃ l a1 n1 c1 a2 n2 c2, v = (.bool l, .slice a1 n1 c1, .slice a2 n2 c2)
/-- Texts as kids. -/
def tv (v : Value) : V3 := (.bool false, v, .slice none 0 0)
/-- No byte stands in block G. -/
def NB (G : Nat) (w : World) : Prop := G < w.heap.size ∧ ∀ o x, w.cell? ⟨G, o, none⟩ ≠ some (.int .u8 x)
theorem NB_below {G : Nat} {w w' : World} (h : NB G w) (hb : Below w.heap.size w w') : NB G w' :=
  ⟨Nat.lt_of_lt_of_le h.1 hb.size, fun o x => by rw [hb.cell (p := ⟨G, o, none⟩) h.1]; exact h.2 o x⟩
theorem NB_new (w : World) : NB w.heap.size (w.alloc (.cells #[.bool false, .slice none 0 0, .slice none 0 0] 42)) := by
  have hn := heap_alloc_new w (.cells #[.bool false, .slice none 0 0, .slice none 0 0] 42)
  refine ⟨by simp, fun o x h => ?_⟩
  have hc : (w.alloc (.cells #[.bool false, .slice none 0 0, .slice none 0 0] 42)).cell? ⟨w.heap.size, o, none⟩ = (#[Value.bool false, .slice none 0 0, .slice none 0 0])[o]? := by
    simp only [World.cell?, hn]
    exact if_neg (by decide)
  rw [hc] at h
  match o with
  | 0 => simp at h
  | 1 => simp at h
  | 2 => simp at h
  | n + 3 => simp at h
theorem Sl_off {G : Nat} {b : List UInt8} {v : Value} {w : World} (h : Sl b v w) (hG : NB G w) : Ty (· ≠ G) b v w := by
  obtain ⟨ao, cap, h1, h2, h3⟩ := h
  refine ⟨ao, cap, h1, h2, fun h0 => ?_⟩
  obtain ⟨g, off, e, hlt, hc⟩ := h3 h0
  refine ⟨g, off, e, fun e2 => ?_, hlt, hc⟩
  subst e2
  exact hG.2 _ _ (hc 0 h0)
theorem iv_textS {S : Nat → Prop} {b : List UInt8} {v : Value} {w : World} (h : Ty S b v w) : Iv S w (.mk false b []) (.bool false, v, .slice none 0 0) :=
  .mk false b [] v (.slice none 0 0) [] h rfl (Kx_nil _ _) (fun j hj => absurd hj (by simp))
/-- A list of two texts, its kids in a block of their own; away from G. -/
theorem iv_twoS {G : Nat} {b c : List UInt8} {u v : Value} {W : World} (hG : NB G W) (hb : Sl b u W) (hc : Sl c v W) (T : TypeId) :
    Iv (· ≠ G) (W.alloc (.cells #[.bool false, u, .slice none 0 0, .bool false, v, .slice none 0 0] T)) (.mk true [] [.mk false b [], .mk false c []]) (.bool true, .slice none 0 0, .slice (some ⟨W.heap.size, 0, none⟩) 2 2) := by
  have HA := heap_alloc_new W (.cells #[.bool false, u, .slice none 0 0, .bool false, v, .slice none 0 0] T)
  have bA : Below W.heap.size W (W.alloc (.cells #[.bool false, u, .slice none 0 0, .bool false, v, .slice none 0 0] T)) := (Below.refl _ _).alloc (Nat.le_refl _) _
  have gA := NB_below hG bA
  refine .mk true [] [.mk false b [], .mk false c []] (.slice none 0 0) _ [(.bool false, u, .slice none 0 0), (.bool false, v, .slice none 0 0)] (Ty_nil _ _) rfl ⟨some ⟨W.heap.size, 0, none⟩, 2, rfl, Nat.le_refl _, fun _ => ⟨W.heap.size, 0, rfl, (by have := hG.1; omega), by simp, fun j hj => ?_⟩⟩ (fun j hj => ?_)
  · have hj2 : j = 0 ∨ j = 1 := by simp at hj; omega
    rcases hj2 with rfl | rfl
    · exact ⟨by simp only [World.cell?, HA]; rfl, by simp only [World.cell?, HA]; rfl, by simp only [World.cell?, HA]; rfl⟩
    · exact ⟨by simp only [World.cell?, HA]; rfl, by simp only [World.cell?, HA]; rfl, by simp only [World.cell?, HA]; rfl⟩
  · have hj2 : j = 0 ∨ j = 1 := by simp at hj; omega
    rcases hj2 with rfl | rfl
    · exact iv_textS (Sl_off (Pk.Sl_below hb bA) gA)
    · exact iv_textS (Sl_off (Pk.Sl_below hc bA) gA)
theorem NB_true {gi : Nat} {w : World} (h : LN gi w) (hb : ∀ o, 3 ≤ o → w.cell? ⟨gi, o, none⟩ = none) : NB gi w := by
  refine ⟨h.y.hi, fun o x e => ?_⟩
  match o with
  | 0 => rw [h.c0] at e; cases e
  | 1 => rw [h.c1] at e; cases e
  | 2 => rw [h.c2] at e; cases e
  | n + 3 => rw [hb (n + 3) (by omega)] at e; cases e
theorem NB_newT (w : World) : NB w.heap.size (w.alloc (.cells #[.bool true, .slice none 0 0, .slice none 0 0] 42)) := by
  have hn := heap_alloc_new w (.cells #[.bool true, .slice none 0 0, .slice none 0 0] 42)
  refine NB_true (LN_new w) (fun o ho => ?_)
  simp only [World.cell?, hn]
  match o, ho with
  | n + 3, _ => simp
/-- What has grown, as an item away from G. -/
theorem GL_ivS {G : Nat} {w wr : World} {gi : Nat} {kv : Value} {ps : List (List UInt8)} {hs : List Value} (H : GL w gi kv (hs.map tv) wr) (h : Hds ps hs w) (hG : NB G w) (hg : NB gi w) : Iv (· ≠ G) wr (.mk true [] (ps.map fun b => .mk false b [])) (.bool true, .slice none 0 0, kv) := by
  refine .mk true [] _ (.slice none 0 0) kv (hs.map tv) (Ty_nil _ _) (by rw [List.length_map, List.length_map, h.l]) (Kx_mono (own_kx H.o) (fun k hk _ => by have := hG.1; have := hk.1; omega)) (fun j hj => ?_)
  rw [List.length_map] at hj
  have e1 : (ps.map fun b => It.mk false b []).getD j It.no = .mk false (ps.getD j []) [] := by
    simp [List.getD_eq_getElem?_getD, List.getElem?_map, List.getElem?_eq_getElem hj]
  have e2 : (hs.map tv).getD j n3 = tv (hs.getD j undef) := by
    simp [List.getD_eq_getElem?_getD, List.getElem?_map, List.getElem?_eq_getElem (h.l ▸ hj)]
  rw [e1, e2]
  obtain ⟨ao, cap, h1, h2, h3⟩ := h.s j hj
  refine iv_textS ⟨ao, cap, h1, h2, fun h0 => ?_⟩
  obtain ⟨g, off, e, hlt, hc⟩ := h3 h0
  have n1 : g ≠ G := fun e2 => by subst e2; exact hG.2 _ _ (hc 0 h0)
  have n2 : g ≠ gi := fun e2 => by subst e2; exact hg.2 _ _ (hc 0 h0)
  exact ⟨g, off, e, n1, Nat.lt_of_lt_of_le hlt H.b.size, fun i hi => (World.cell?_of_block (a := ⟨g, off + i, none⟩) (H.b.block g hlt (fun e3 => by injection e3 with e3; exact n2 e3))).trans (hc i hi)⟩
theorem Sl_fm {b : List UInt8} {v : Value} {w : World} (h : Sl b v w) : ∃ a c, v = .slice a b.length c := by
  obtain ⟨a, c, e, _⟩ := h
  exact ⟨a, c, e⟩
end Rs
end Go.Proofs.Ytcgimjlmihaegaa
/- nib.Untag. -/
namespace Go.Proofs.Ytcgimjlmihaegaa
namespace Nb
open Go.RowKit
theorem res3t (f : Func) (tm : Array Value) (W : World) (a b c : Nat) (p q r : Value) (hf : f.results = #[.tmp a, .tmp b, .tmp c]) (h1 : tm.getD a undef = p) (h2 : tm.getD b undef = q) (h3 : tm.getD c undef = r) : (results f tm).run Try.prog W = .ok (.tuple #[p, q, r]) W := by
  simp at h1 h2 h3
  simp [results, hf, go_sem, h1, h2, h3]
/-- What a path with its head is read as. -/
def un : List UInt8 → List UInt8 × Bool × Int
  | x :: y :: r => if x = 0 then (if y = 0 then (r, false, 0) else ([], false, 1)) else if x = 1 then (y :: r, false, 0) else if x = 2 then (if y = 0 then (r, true, 0) else ([], false, 1)) else if x = 3 then (y :: r, true, 0) else ([], false, 1)
  | _ => ([], false, 1)
theorem own_at {B : Nat} {l : List UInt8} {v : Value} {w : World} (h : w.ownsRow B 5 1 v l.length (Pk.bcs l)) (h0 : 0 < l.length) : ∃ g cap, v = .slice (some ⟨g, 0, none⟩) l.length cap ∧ l.length ≤ cap ∧ (cap : Int) ≤ 9223372036854775807 ∧ ∀ k (a' : Option Addr), k ≤ l.length → (0 < l.length - k → a' = some ⟨g, k, none⟩) → Pk.Sl (l.drop k) (.slice a' (l.length - k) (cap - k)) w := by
  rcases h.2 with ⟨_, h4⟩ | ⟨g, cap, cur, h3, h5⟩
  · omega
  · subst h3
    refine ⟨g, cap, rfl, h5.2.2.1, by have := h5.2.2.2.1; unfold maxLen at this; omega, fun k a' hk ha => ?_⟩
    have ldr : (l.drop k).length = l.length - k := List.length_drop ..
    refine ⟨a', cap - k, by rw [ldr], by rw [ldr]; have := h5.2.2.1; omega, fun h1 => ?_⟩
    rw [ldr] at h1
    refine ⟨g, k, ha h1, Pk.lt_of_heap h5.2.1, fun j hj => ?_⟩
    rw [ldr] at hj
    rw [h.cellAt (k + j) (by omega)]
    have hkj : k + j < l.length := by omega
    simp [Pk.bcs, Sp.bz, List.getD_eq_getElem?_getD, List.getElem?_drop, hkj]
theorem cell_at {B g cap : Nat} {l : List UInt8} {w : World} (h : w.ownsRow B 5 1 (.slice (some ⟨g, 0, none⟩) l.length cap) l.length (Pk.bcs l)) (j : Nat) (hj : j < l.length) : w.cell? ⟨g, j, none⟩ = some (.int .u8 (Sp.bz l j)) := by
  rw [h.cellAt j (by omega)]
  simp [Pk.bcs, hj, Sp.bz]
set_option maxHeartbeats 1000000 in
set_option maxRecDepth 100000 in
theorem untag_none (ao : Option Addr) (cap : Nat) (w : World) :
    Calls Try.prog 49 #[.slice ao 0 cap] w fun e w' => ∃ v, e = .returned (.tuple #[v, .bool false, .int .i64 1]) ∧ Pk.Sl [] v w' ∧ Below w.heap.size w w' := by
  have KH : Hid (∀ wx : World, Calls Try.prog 70 #[.slice ao 0 cap] wx fun e w' => ∃ v, e = .returned v ∧ w'.ownsRow wx.heap.size 5 1 v 0 (Pk.bcs []) ∧ Below wx.heap.size wx w') := fun wx => halves_any [] ao cap wx (Nat.zero_le _) (Sp.Vw_nil _ _)
  go_enter Try.func49, Try.ntmps49
  go_wp2_with fail
  refine (KH.out _).mono (fun e w2 he => ?_)
  obtain ⟨v0, rfl, own, b1⟩ := he
  have hv0 : ∃ a c, v0 = .slice a 0 c := by
    rcases own.2 with ⟨h3, _⟩ | ⟨g, c, cur, h3, _⟩
    · exact ⟨none, 0, h3⟩
    · exact ⟨_, c, h3⟩
  obtain ⟨a, c, rfl⟩ := hv0
  clear own
  go_wp2_with fail
  exact bodyPost_ret (res3t _ _ _ 2 3 4 _ _ _ rfl rfl rfl rfl) rfl ⟨_, rfl, Pk.Sl_nil _, b1⟩
set_option maxHeartbeats 1000000 in
set_option maxRecDepth 100000 in
theorem untag_high (b : List UInt8) (ao : Option Addr) (cap : Nat) (X Y : Int) (w : World) (hn : Hid (b.length ≤ 2097152)) (vw : Sp.Vw b ao w) (h0 : 2 ≤ (hv b).length) (hX : Sp.bz (hv b) 0 = X) (hY : Sp.bz (hv b) 1 = Y) (hx : 3 < X)  :
    Calls Try.prog 49 #[.slice ao b.length cap] w fun e w' => ∃ v, e = .returned (.tuple #[v, .bool false, .int .i64 1]) ∧ Pk.Sl [] v w' ∧ Below w.heap.size w w' := by
  have KH : Hid (∀ wx : World, Sp.Vw b ao wx → Calls Try.prog 70 #[.slice ao b.length cap] wx fun e w' => ∃ v, e = .returned v ∧ w'.ownsRow wx.heap.size 5 1 v (hv b).length (Pk.bcs (hv b)) ∧ Below wx.heap.size wx w') := fun wx h => halves_any b ao cap wx hn h
  have VB : Hid (Sp.Vw b ao w) := vw
  have HL : Hid (2 ≤ (hv b).length) := h0
  have HX : Hid (Sp.bz (hv b) 0 = X ∧ Sp.bz (hv b) 1 = Y) := ⟨hX, hY⟩
  have d0 : decide ((3 : Int) < X) = true := decide_eq_true hx
  clear vw h0 hX hY hx
  go_enter Try.func49, Try.ntmps49
  go_wp2_with fail
  refine (KH.out _ VB.out).mono (fun e w2 he => ?_)
  obtain ⟨v0, rfl, own, b1⟩ := he
  obtain ⟨g, cp, rfl, hcp, hc6, SD⟩ := own_at own (by have := HL.out; omega)
  have c0 := cell_at own 0 (by have := HL.out; omega)
  have c1 := cell_at own 1 (by have := HL.out; omega)
  rw [HX.out.1] at c0
  rw [HX.out.2] at c1
  have SD : Hid (∀ k (a' : Option Addr), k ≤ (hv b).length → (0 < (hv b).length - k → a' = some ⟨g, k, none⟩) → Pk.Sl ((hv b).drop k) (.slice a' ((hv b).length - k) (cp - k)) w2) := SD
  have hcp : Hid ((hv b).length ≤ cp) := hcp
  clear own
  generalize (hv b).length = n at *
  have n0 : ((n : Int) == 0) = false := beq_false_of_ne (by have := HL.out; omega)
  have n1 : (0 : Int) < (n : Int) := by have := HL.out; omega
  have n2 : (1 : Int) < (n : Int) := by have := HL.out; omega
  have n3 : (1 : Int) ≤ (n : Int) := by omega
  have n4 : (2 : Int) ≤ (n : Int) := by omega
  have n5 : (1 : Int) < (cp : Int) := by have := HL.out; have := hcp.out; omega
  have n6 : (2 : Int) ≤ (cp : Int) := by omega
  go_wp2_with fail
  exact bodyPost_ret (res3t _ _ _ 2 3 4 _ _ _ rfl rfl rfl rfl) rfl ⟨_, rfl, Pk.Sl_nil _, b1⟩
set_option maxHeartbeats 1000000 in
set_option maxRecDepth 100000 in
theorem untag_1 (b : List UInt8) (ao : Option Addr) (cap : Nat) (Y : Int) (w : World) (hn : Hid (b.length ≤ 2097152)) (vw : Sp.Vw b ao w) (h0 : 2 ≤ (hv b).length) (hX : Sp.bz (hv b) 0 = (1 : Int)) (hY : Sp.bz (hv b) 1 = Y)   :
    Calls Try.prog 49 #[.slice ao b.length cap] w fun e w' => ∃ v, e = .returned (.tuple #[v, .bool false, .int .i64 0]) ∧ Pk.Sl ((hv b).drop 1) v w' ∧ Below w.heap.size w w' := by
  have KH : Hid (∀ wx : World, Sp.Vw b ao wx → Calls Try.prog 70 #[.slice ao b.length cap] wx fun e w' => ∃ v, e = .returned v ∧ w'.ownsRow wx.heap.size 5 1 v (hv b).length (Pk.bcs (hv b)) ∧ Below wx.heap.size wx w') := fun wx h => halves_any b ao cap wx hn h
  have VB : Hid (Sp.Vw b ao w) := vw
  have HL : Hid (2 ≤ (hv b).length) := h0
  have HX : Hid (Sp.bz (hv b) 0 = (1 : Int) ∧ Sp.bz (hv b) 1 = Y) := ⟨hX, hY⟩
  have d0 : bits .and .u8 1 2 = 0 := by decide +kernel
  have d1 : bits .and .u8 1 1 = 1 := by decide +kernel
  clear vw h0 hX hY
  go_enter Try.func49, Try.ntmps49
  go_wp2_with fail
  refine (KH.out _ VB.out).mono (fun e w2 he => ?_)
  obtain ⟨v0, rfl, own, b1⟩ := he
  obtain ⟨g, cp, rfl, hcp, hc6, SD⟩ := own_at own (by have := HL.out; omega)
  have c0 := cell_at own 0 (by have := HL.out; omega)
  have c1 := cell_at own 1 (by have := HL.out; omega)
  rw [HX.out.1] at c0
  rw [HX.out.2] at c1
  have SD : Hid (∀ k (a' : Option Addr), k ≤ (hv b).length → (0 < (hv b).length - k → a' = some ⟨g, k, none⟩) → Pk.Sl ((hv b).drop k) (.slice a' ((hv b).length - k) (cp - k)) w2) := SD
  have hcp : Hid ((hv b).length ≤ cp) := hcp
  clear own
  generalize (hv b).length = n at *
  have n0 : ((n : Int) == 0) = false := beq_false_of_ne (by have := HL.out; omega)
  have n1 : (0 : Int) < (n : Int) := by have := HL.out; omega
  have n2 : (1 : Int) < (n : Int) := by have := HL.out; omega
  have n3 : (1 : Int) ≤ (n : Int) := by omega
  have n4 : (2 : Int) ≤ (n : Int) := by omega
  have n5 : (1 : Int) < (cp : Int) := by have := HL.out; have := hcp.out; omega
  have n6 : (2 : Int) ≤ (cp : Int) := by omega
  go_wp2_with fail
  exact bodyPost_ret (res3t _ _ _ 2 3 4 _ _ _ rfl rfl rfl rfl) rfl ⟨_, rfl, SD.out 1 _ (by omega) (fun _ => rfl), b1⟩
set_option maxHeartbeats 1000000 in
set_option maxRecDepth 100000 in
theorem untag_3 (b : List UInt8) (ao : Option Addr) (cap : Nat) (Y : Int) (w : World) (hn : Hid (b.length ≤ 2097152)) (vw : Sp.Vw b ao w) (h0 : 2 ≤ (hv b).length) (hX : Sp.bz (hv b) 0 = (3 : Int)) (hY : Sp.bz (hv b) 1 = Y)   :
    Calls Try.prog 49 #[.slice ao b.length cap] w fun e w' => ∃ v, e = .returned (.tuple #[v, .bool true, .int .i64 0]) ∧ Pk.Sl ((hv b).drop 1) v w' ∧ Below w.heap.size w w' := by
  have KH : Hid (∀ wx : World, Sp.Vw b ao wx → Calls Try.prog 70 #[.slice ao b.length cap] wx fun e w' => ∃ v, e = .returned v ∧ w'.ownsRow wx.heap.size 5 1 v (hv b).length (Pk.bcs (hv b)) ∧ Below wx.heap.size wx w') := fun wx h => halves_any b ao cap wx hn h
  have VB : Hid (Sp.Vw b ao w) := vw
  have HL : Hid (2 ≤ (hv b).length) := h0
  have HX : Hid (Sp.bz (hv b) 0 = (3 : Int) ∧ Sp.bz (hv b) 1 = Y) := ⟨hX, hY⟩
  have d0 : bits .and .u8 3 2 = 2 := by decide +kernel
  have d1 : bits .and .u8 3 1 = 1 := by decide +kernel
  clear vw h0 hX hY
  go_enter Try.func49, Try.ntmps49
  go_wp2_with fail
  refine (KH.out _ VB.out).mono (fun e w2 he => ?_)
  obtain ⟨v0, rfl, own, b1⟩ := he
  obtain ⟨g, cp, rfl, hcp, hc6, SD⟩ := own_at own (by have := HL.out; omega)
  have c0 := cell_at own 0 (by have := HL.out; omega)
  have c1 := cell_at own 1 (by have := HL.out; omega)
  rw [HX.out.1] at c0
  rw [HX.out.2] at c1
  have SD : Hid (∀ k (a' : Option Addr), k ≤ (hv b).length → (0 < (hv b).length - k → a' = some ⟨g, k, none⟩) → Pk.Sl ((hv b).drop k) (.slice a' ((hv b).length - k) (cp - k)) w2) := SD
  have hcp : Hid ((hv b).length ≤ cp) := hcp
  clear own
  generalize (hv b).length = n at *
  have n0 : ((n : Int) == 0) = false := beq_false_of_ne (by have := HL.out; omega)
  have n1 : (0 : Int) < (n : Int) := by have := HL.out; omega
  have n2 : (1 : Int) < (n : Int) := by have := HL.out; omega
  have n3 : (1 : Int) ≤ (n : Int) := by omega
  have n4 : (2 : Int) ≤ (n : Int) := by omega
  have n5 : (1 : Int) < (cp : Int) := by have := HL.out; have := hcp.out; omega
  have n6 : (2 : Int) ≤ (cp : Int) := by omega
  go_wp2_with fail
  exact bodyPost_ret (res3t _ _ _ 2 3 4 _ _ _ rfl rfl rfl rfl) rfl ⟨_, rfl, SD.out 1 _ (by omega) (fun _ => rfl), b1⟩
set_option maxHeartbeats 1000000 in
set_option maxRecDepth 100000 in
theorem untag_0n (b : List UInt8) (ao : Option Addr) (cap : Nat) (Y : Int) (w : World) (hn : Hid (b.length ≤ 2097152)) (vw : Sp.Vw b ao w) (h0 : 2 ≤ (hv b).length) (hX : Sp.bz (hv b) 0 = (0 : Int)) (hY : Sp.bz (hv b) 1 = Y)  (hy : ¬ Y = 0) :
    Calls Try.prog 49 #[.slice ao b.length cap] w fun e w' => ∃ v, e = .returned (.tuple #[v, .bool false, .int .i64 1]) ∧ Pk.Sl [] v w' ∧ Below w.heap.size w w' := by
  have KH : Hid (∀ wx : World, Sp.Vw b ao wx → Calls Try.prog 70 #[.slice ao b.length cap] wx fun e w' => ∃ v, e = .returned v ∧ w'.ownsRow wx.heap.size 5 1 v (hv b).length (Pk.bcs (hv b)) ∧ Below wx.heap.size wx w') := fun wx h => halves_any b ao cap wx hn h
  have VB : Hid (Sp.Vw b ao w) := vw
  have HL : Hid (2 ≤ (hv b).length) := h0
  have HX : Hid (Sp.bz (hv b) 0 = (0 : Int) ∧ Sp.bz (hv b) 1 = Y) := ⟨hX, hY⟩
  have d0 : bits .and .u8 0 2 = 0 := by decide +kernel
  have d1 : bits .and .u8 0 1 = 0 := by decide +kernel
  have d2 : (Y != 0) = true := by simpa using hy
  clear vw h0 hX hY hy
  go_enter Try.func49, Try.ntmps49
  go_wp2_with fail
  refine (KH.out _ VB.out).mono (fun e w2 he => ?_)
  obtain ⟨v0, rfl, own, b1⟩ := he
  obtain ⟨g, cp, rfl, hcp, hc6, SD⟩ := own_at own (by have := HL.out; omega)
  have c0 := cell_at own 0 (by have := HL.out; omega)
  have c1 := cell_at own 1 (by have := HL.out; omega)
  rw [HX.out.1] at c0
  rw [HX.out.2] at c1
  have SD : Hid (∀ k (a' : Option Addr), k ≤ (hv b).length → (0 < (hv b).length - k → a' = some ⟨g, k, none⟩) → Pk.Sl ((hv b).drop k) (.slice a' ((hv b).length - k) (cp - k)) w2) := SD
  have hcp : Hid ((hv b).length ≤ cp) := hcp
  clear own
  generalize (hv b).length = n at *
  have n0 : ((n : Int) == 0) = false := beq_false_of_ne (by have := HL.out; omega)
  have n1 : (0 : Int) < (n : Int) := by have := HL.out; omega
  have n2 : (1 : Int) < (n : Int) := by have := HL.out; omega
  have n3 : (1 : Int) ≤ (n : Int) := by omega
  have n4 : (2 : Int) ≤ (n : Int) := by omega
  have n5 : (1 : Int) < (cp : Int) := by have := HL.out; have := hcp.out; omega
  have n6 : (2 : Int) ≤ (cp : Int) := by omega
  go_wp2_with fail
  exact bodyPost_ret (res3t _ _ _ 2 3 4 _ _ _ rfl rfl rfl rfl) rfl ⟨_, rfl, Pk.Sl_nil _, b1⟩
set_option maxHeartbeats 1000000 in
set_option maxRecDepth 100000 in
theorem untag_0z (b : List UInt8) (ao : Option Addr) (cap : Nat) (w : World) (hn : Hid (b.length ≤ 2097152)) (vw : Sp.Vw b ao w) (h0 : 2 ≤ (hv b).length) (hX : Sp.bz (hv b) 0 = (0 : Int)) (hY : Sp.bz (hv b) 1 = 0)   :
    Calls Try.prog 49 #[.slice ao b.length cap] w fun e w' => ∃ v, e = .returned (.tuple #[v, .bool false, .int .i64 0]) ∧ Pk.Sl ((hv b).drop 2) v w' ∧ Below w.heap.size w w' := by
  have KH : Hid (∀ wx : World, Sp.Vw b ao wx → Calls Try.prog 70 #[.slice ao b.length cap] wx fun e w' => ∃ v, e = .returned v ∧ w'.ownsRow wx.heap.size 5 1 v (hv b).length (Pk.bcs (hv b)) ∧ Below wx.heap.size wx w') := fun wx h => halves_any b ao cap wx hn h
  have VB : Hid (Sp.Vw b ao w) := vw
  have HL : Hid (2 ≤ (hv b).length) := h0
  have HX : Hid (Sp.bz (hv b) 0 = (0 : Int) ∧ Sp.bz (hv b) 1 = 0) := ⟨hX, hY⟩
  have d0 : bits .and .u8 0 2 = 0 := by decide +kernel
  have d1 : bits .and .u8 0 1 = 0 := by decide +kernel
  clear vw h0 hX hY
  go_enter Try.func49, Try.ntmps49
  go_wp2_with fail
  refine (KH.out _ VB.out).mono (fun e w2 he => ?_)
  obtain ⟨v0, rfl, own, b1⟩ := he
  obtain ⟨g, cp, rfl, hcp, hc6, SD⟩ := own_at own (by have := HL.out; omega)
  have c0 := cell_at own 0 (by have := HL.out; omega)
  have c1 := cell_at own 1 (by have := HL.out; omega)
  rw [HX.out.1] at c0
  rw [HX.out.2] at c1
  have SD : Hid (∀ k (a' : Option Addr), k ≤ (hv b).length → (0 < (hv b).length - k → a' = some ⟨g, k, none⟩) → Pk.Sl ((hv b).drop k) (.slice a' ((hv b).length - k) (cp - k)) w2) := SD
  have hcp : Hid ((hv b).length ≤ cp) := hcp
  clear own
  generalize (hv b).length = n at *
  have n0 : ((n : Int) == 0) = false := beq_false_of_ne (by have := HL.out; omega)
  have n1 : (0 : Int) < (n : Int) := by have := HL.out; omega
  have n2 : (1 : Int) < (n : Int) := by have := HL.out; omega
  have n3 : (1 : Int) ≤ (n : Int) := by omega
  have n4 : (2 : Int) ≤ (n : Int) := by omega
  have n5 : (1 : Int) < (cp : Int) := by have := HL.out; have := hcp.out; omega
  have n6 : (2 : Int) ≤ (cp : Int) := by omega
  by_cases e : cp = 2
  · subst e
    have hn2 : n = 2 := by have := HL.out; have := hcp.out; omega
    subst hn2
    clear n0 n1 n2 n3 n4 n5 n6
    go_wp2_with fail
    exact bodyPost_ret (res3t _ _ _ 2 3 4 _ _ _ rfl rfl rfl rfl) rfl ⟨_, rfl, SD.out 2 _ (Nat.le_refl _) (fun h => absurd h (by decide)), b1⟩
  · have n7 : (2 : Int) < (cp : Int) := by omega
    go_wp2_with fail
    exact bodyPost_ret (res3t _ _ _ 2 3 4 _ _ _ rfl rfl rfl rfl) rfl ⟨_, rfl, SD.out 2 _ (by omega) (fun _ => rfl), b1⟩
set_option maxHeartbeats 1000000 in
set_option maxRecDepth 100000 in
theorem untag_2n (b : List UInt8) (ao : Option Addr) (cap : Nat) (Y : Int) (w : World) (hn : Hid (b.length ≤ 2097152)) (vw : Sp.Vw b ao w) (h0 : 2 ≤ (hv b).length) (hX : Sp.bz (hv b) 0 = (2 : Int)) (hY : Sp.bz (hv b) 1 = Y)  (hy : ¬ Y = 0) :
    Calls Try.prog 49 #[.slice ao b.length cap] w fun e w' => ∃ v, e = .returned (.tuple #[v, .bool false, .int .i64 1]) ∧ Pk.Sl [] v w' ∧ Below w.heap.size w w' := by
  have KH : Hid (∀ wx : World, Sp.Vw b ao wx → Calls Try.prog 70 #[.slice ao b.length cap] wx fun e w' => ∃ v, e = .returned v ∧ w'.ownsRow wx.heap.size 5 1 v (hv b).length (Pk.bcs (hv b)) ∧ Below wx.heap.size wx w') := fun wx h => halves_any b ao cap wx hn h
  have VB : Hid (Sp.Vw b ao w) := vw
  have HL : Hid (2 ≤ (hv b).length) := h0
  have HX : Hid (Sp.bz (hv b) 0 = (2 : Int) ∧ Sp.bz (hv b) 1 = Y) := ⟨hX, hY⟩
  have d0 : bits .and .u8 2 2 = 2 := by decide +kernel
  have d1 : bits .and .u8 2 1 = 0 := by decide +kernel
  have d2 : (Y != 0) = true := by simpa using hy
  clear vw h0 hX hY hy
  go_enter Try.func49, Try.ntmps49
  go_wp2_with fail
  refine (KH.out _ VB.out).mono (fun e w2 he => ?_)
  obtain ⟨v0, rfl, own, b1⟩ := he
  obtain ⟨g, cp, rfl, hcp, hc6, SD⟩ := own_at own (by have := HL.out; omega)
  have c0 := cell_at own 0 (by have := HL.out; omega)
  have c1 := cell_at own 1 (by have := HL.out; omega)
  rw [HX.out.1] at c0
  rw [HX.out.2] at c1
  have SD : Hid (∀ k (a' : Option Addr), k ≤ (hv b).length → (0 < (hv b).length - k → a' = some ⟨g, k, none⟩) → Pk.Sl ((hv b).drop k) (.slice a' ((hv b).length - k) (cp - k)) w2) := SD
  have hcp : Hid ((hv b).length ≤ cp) := hcp
  clear own
  generalize (hv b).length = n at *
  have n0 : ((n : Int) == 0) = false := beq_false_of_ne (by have := HL.out; omega)
  have n1 : (0 : Int) < (n : Int) := by have := HL.out; omega
  have n2 : (1 : Int) < (n : Int) := by have := HL.out; omega
  have n3 : (1 : Int) ≤ (n : Int) := by omega
  have n4 : (2 : Int) ≤ (n : Int) := by omega
  have n5 : (1 : Int) < (cp : Int) := by have := HL.out; have := hcp.out; omega
  have n6 : (2 : Int) ≤ (cp : Int) := by omega
  go_wp2_with fail
  exact bodyPost_ret (res3t _ _ _ 2 3 4 _ _ _ rfl rfl rfl rfl) rfl ⟨_, rfl, Pk.Sl_nil _, b1⟩
set_option maxHeartbeats 1000000 in
set_option maxRecDepth 100000 in
theorem untag_2z (b : List UInt8) (ao : Option Addr) (cap : Nat) (w : World) (hn : Hid (b.length ≤ 2097152)) (vw : Sp.Vw b ao w) (h0 : 2 ≤ (hv b).length) (hX : Sp.bz (hv b) 0 = (2 : Int)) (hY : Sp.bz (hv b) 1 = 0)   :
    Calls Try.prog 49 #[.slice ao b.length cap] w fun e w' => ∃ v, e = .returned (.tuple #[v, .bool true, .int .i64 0]) ∧ Pk.Sl ((hv b).drop 2) v w' ∧ Below w.heap.size w w' := by
  have KH : Hid (∀ wx : World, Sp.Vw b ao wx → Calls Try.prog 70 #[.slice ao b.length cap] wx fun e w' => ∃ v, e = .returned v ∧ w'.ownsRow wx.heap.size 5 1 v (hv b).length (Pk.bcs (hv b)) ∧ Below wx.heap.size wx w') := fun wx h => halves_any b ao cap wx hn h
  have VB : Hid (Sp.Vw b ao w) := vw
  have HL : Hid (2 ≤ (hv b).length) := h0
  have HX : Hid (Sp.bz (hv b) 0 = (2 : Int) ∧ Sp.bz (hv b) 1 = 0) := ⟨hX, hY⟩
  have d0 : bits .and .u8 2 2 = 2 := by decide +kernel
  have d1 : bits .and .u8 2 1 = 0 := by decide +kernel
  clear vw h0 hX hY
  go_enter Try.func49, Try.ntmps49
  go_wp2_with fail
  refine (KH.out _ VB.out).mono (fun e w2 he => ?_)
  obtain ⟨v0, rfl, own, b1⟩ := he
  obtain ⟨g, cp, rfl, hcp, hc6, SD⟩ := own_at own (by have := HL.out; omega)
  have c0 := cell_at own 0 (by have := HL.out; omega)
  have c1 := cell_at own 1 (by have := HL.out; omega)
  rw [HX.out.1] at c0
  rw [HX.out.2] at c1
  have SD : Hid (∀ k (a' : Option Addr), k ≤ (hv b).length → (0 < (hv b).length - k → a' = some ⟨g, k, none⟩) → Pk.Sl ((hv b).drop k) (.slice a' ((hv b).length - k) (cp - k)) w2) := SD
  have hcp : Hid ((hv b).length ≤ cp) := hcp
  clear own
  generalize (hv b).length = n at *
  have n0 : ((n : Int) == 0) = false := beq_false_of_ne (by have := HL.out; omega)
  have n1 : (0 : Int) < (n : Int) := by have := HL.out; omega
  have n2 : (1 : Int) < (n : Int) := by have := HL.out; omega
  have n3 : (1 : Int) ≤ (n : Int) := by omega
  have n4 : (2 : Int) ≤ (n : Int) := by omega
  have n5 : (1 : Int) < (cp : Int) := by have := HL.out; have := hcp.out; omega
  have n6 : (2 : Int) ≤ (cp : Int) := by omega
  by_cases e : cp = 2
  · subst e
    have hn2 : n = 2 := by have := HL.out; have := hcp.out; omega
    subst hn2
    clear n0 n1 n2 n3 n4 n5 n6
    go_wp2_with fail
    exact bodyPost_ret (res3t _ _ _ 2 3 4 _ _ _ rfl rfl rfl rfl) rfl ⟨_, rfl, SD.out 2 _ (Nat.le_refl _) (fun h => absurd h (by decide)), b1⟩
  · have n7 : (2 : Int) < (cp : Int) := by omega
    go_wp2_with fail
    exact bodyPost_ret (res3t _ _ _ 2 3 4 _ _ _ rfl rfl rfl rfl) rfl ⟨_, rfl, SD.out 2 _ (by omega) (fun _ => rfl), b1⟩
theorem bz_0 (x : UInt8) (r : List UInt8) : Sp.bz (x :: r) 0 = (x.toNat : Int) := rfl
theorem bz_1 (x y : UInt8) (r : List UInt8) : Sp.bz (x :: y :: r) 1 = (y.toNat : Int) := rfl
theorem untag_sl (b : List UInt8) (ao : Option Addr) (cap : Nat) (w : World) (hn : Hid (b.length ≤ 2097152)) (vw : Sp.Vw b ao w) :
    Calls Try.prog 49 #[.slice ao b.length cap] w fun e w' => ∃ v, e = .returned (.tuple #[v, .bool (un (hv b)).2.1, .int .i64 (un (hv b)).2.2]) ∧ Pk.Sl (un (hv b)).1 v w' ∧ Below w.heap.size w w' := by
  cases b with
  | nil => exact untag_none ao cap w
  | cons c r =>
    have hc := UInt8.toNat_lt c
    generalize hx : UInt8.ofNat (c.toNat / 16) = x
    generalize hy : UInt8.ofNat (c.toNat % 16) = y
    have e : hv (c :: r) = x :: y :: hv r := by rw [hv, hx, hy]
    have h0 : 2 ≤ (hv (c :: r)).length := by rw [e]; simp
    have nat0 : ∀ z : UInt8, ∀ m : UInt8, z.toNat = m.toNat → z = m := fun z m h => UInt8.toNat_inj.1 h
    have X0 : Sp.bz (hv (c :: r)) 0 = (x.toNat : Int) := by rw [e]; rfl
    have Y0 : Sp.bz (hv (c :: r)) 1 = (y.toNat : Int) := by rw [e]; rfl
    rw [e]
    by_cases x0 : x = 0
    · subst x0
      by_cases y0 : y = 0
      · subst y0
        have k := untag_0z (c :: r) ao cap w hn vw h0 X0 Y0
        rw [e] at k
        exact k
      · have k := untag_0n (c :: r) ao cap _ w hn vw h0 X0 Y0 (fun h => y0 (nat0 y 0 (by have : ((0 : UInt8).toNat) = 0 := rfl; omega)))
        have eu : un (0 :: y :: hv r) = ([], false, 1) := by simp [un, y0]
        rw [eu]
        exact k
    · by_cases x1 : x = 1
      · subst x1
        have k := untag_1 (c :: r) ao cap _ w hn vw h0 X0 Y0
        rw [e] at k
        exact k
      · by_cases x2 : x = 2
        · subst x2
          by_cases y0 : y = 0
          · subst y0
            have k := untag_2z (c :: r) ao cap w hn vw h0 X0 Y0
            rw [e] at k
            exact k
          · have k := untag_2n (c :: r) ao cap _ w hn vw h0 X0 Y0 (fun h => y0 (nat0 y 0 (by have : ((0 : UInt8).toNat) = 0 := rfl; omega)))
            have eu : un (2 :: y :: hv r) = ([], false, 1) := by simp [un, y0]
            rw [eu]
            exact k
        · by_cases x3 : x = 3
          · subst x3
            have k := untag_3 (c :: r) ao cap _ w hn vw h0 X0 Y0
            rw [e] at k
            exact k
          · have hx3 : 3 < x.toNat := by
              rcases Nat.lt_or_ge 3 x.toNat with h | h
              · exact h
              · exfalso
                have : x.toNat = 0 ∨ x.toNat = 1 ∨ x.toNat = 2 ∨ x.toNat = 3 := by omega
                rcases this with h | h | h | h
                · exact x0 (nat0 x 0 h)
                · exact x1 (nat0 x 1 h)
                · exact x2 (nat0 x 2 h)
                · exact x3 (nat0 x 3 h)
            have k := untag_high (c :: r) ao cap _ _ w hn vw h0 X0 Y0 (by omega)
            have eu : un (x :: y :: hv r) = ([], false, 1) := by simp [un, x0, x1, x2, x3]
            rw [eu]
            exact k
end Nb
end Go.Proofs.Ytcgimjlmihaegaa
/- lampbearerref.NUntag. -/
namespace Go.Proofs.Ytcgimjlmihaegaa
namespace Nb
open Go.RowKit
theorem pick_lf (l2 lf : Bool) (k : Nat) (h : (if lf then 1 else 0) = k) (h1 : (if l2 then 1 else 0) < k + 1) (h2 : ¬ (if l2 then 1 else 0) < k) : l2 = lf := by
  subst h
  cases l2 <;> cases lf <;> simp_all
theorem tagged2 (p b : List UInt8) (leaf : Bool) : (je (tg p leaf) = 0 ∧ jl (tg p leaf) = b) ↔ tg p leaf = hv b := by
  rw [← tagged]
  by_cases h : JF (tg p leaf)
  · rw [je_yes h, jl_yes h]
    exact ⟨fun k => ⟨h, k.2⟩, fun k => ⟨rfl, k.2⟩⟩
  · rw [je_no h]
    exact ⟨fun k => absurd k.1 (by decide), fun k => absurd k.1 h⟩
theorem tagged3 (p b : List UInt8) (leaf : Bool) (h : ¬ tg p leaf = hv b) : je (tg p leaf) = 1 ∨ (je (tg p leaf) = 0 ∧ jl (tg p leaf) ≠ b) := by
  by_cases hj : JF (tg p leaf)
  · exact .inr ⟨je_yes hj, fun e => h ((tagged2 p b leaf).1 ⟨je_yes hj, e⟩)⟩
  · exact .inl (je_no hj)
theorem un_yes (b : List UInt8) (f : Nat) (leaf : Bool) (h1 : 1 ≤ f) (h2 : f ≤ 2) (h : tg ((hv b).drop f) leaf = hv b) : un (hv b) = ((hv b).drop f, leaf, 0) := by
  cases b with
  | nil =>
    exfalso
    have := congrArg List.length h
    unfold tg hd at this
    simp [hv] at this
  | cons c r =>
    have hl := hv_len r
    rw [hv] at h ⊢
    generalize UInt8.ofNat (c.toNat / 16) = x at *
    generalize UInt8.ofNat (c.toNat % 16) = y at *
    have hf : f = 1 ∨ f = 2 := by omega
    rcases hf with rfl | rfl
    · simp only [List.drop_succ_cons, List.drop_zero] at h ⊢
      unfold tg hd at h
      rw [if_pos (by rw [List.length_cons, hl]; omega)] at h
      cases leaf
      · simp at h
        subst h
        rfl
      · simp at h
        subst h
        rfl
    · simp only [List.drop_succ_cons, List.drop_zero] at h ⊢
      unfold tg hd at h
      rw [if_neg (by rw [hl]; omega)] at h
      cases leaf
      · simp at h
        obtain ⟨rfl, rfl⟩ := h
        rfl
      · simp at h
        obtain ⟨rfl, rfl⟩ := h
        rfl
theorem un_no (b : List UInt8) (h : ∀ f, 1 ≤ f → f < 3 → ∀ leaf, tg ((hv b).drop f) leaf ≠ hv b) : un (hv b) = ([], false, 1) := by
  cases b with
  | nil => rfl
  | cons c r =>
    have hl := hv_len r
    rw [hv] at h ⊢
    generalize UInt8.ofNat (c.toNat / 16) = x at *
    generalize UInt8.ofNat (c.toNat % 16) = y at *
    have A := h 1 (by omega) (by omega)
    have B := h 2 (by omega) (by omega)
    simp only [List.drop_succ_cons, List.drop_zero] at A B
    have A0 := A false
    have A1 := A true
    have B0 := B false
    have B1 := B true
    unfold tg hd at A0 A1 B0 B1
    rw [if_pos (by rw [List.length_cons, hl]; omega)] at A0 A1
    rw [if_neg (by rw [hl]; omega)] at B0 B1
    simp at A0 A1 B0 B1
    rw [un]
    by_cases x0 : x = 0
    · rw [if_pos x0, if_neg (fun e => B0 x0.symm e.symm)]
    · rw [if_neg x0, if_neg (fun e => A0 e.symm)]
      by_cases x2 : x = 2
      · rw [if_pos x2, if_neg (fun e => B1 x2.symm e.symm)]
      · rw [if_neg x2, if_neg (fun e => A1 e.symm)]
set_option maxHeartbeats 2000000 in
set_option maxRecDepth 100000 in
theorem nuntag_none (ao : Option Addr) (cap : Nat) (w : World) :
    Calls Try.prog 15 #[.slice ao 0 cap] w fun e w' => ∃ v, e = .returned (.tuple #[v, .bool false, .int .i64 1]) ∧ Pk.Sl [] v w' ∧ Below w.heap.size w w' := by
  go_enter Try.func15, Try.ntmps15
  go_wp2
  refine wp_loop_rounds 1 ?_
  rw [rounds_succ]
  go_wp2
  exact bodyPost_ret (res3t _ _ _ 2 3 4 _ _ _ rfl rfl rfl rfl) rfl ⟨_, rfl, Pk.Sl_nil _, Below.refl _ _⟩
set_option maxHeartbeats 2000000 in
set_option maxRecDepth 100000 in
theorem nuntag_some (b : List UInt8) (ao : Option Addr) (cap : Nat) (w : World) (h0 : 0 < b.length) (hn : Hid (b.length ≤ 2097140)) (hcap : b.length ≤ cap) (vw : Sp.Vw b ao w) :
    Calls Try.prog 15 #[.slice ao b.length cap] w fun e w' => ∃ v, e = .returned (.tuple #[v, .bool (un (hv b)).2.1, .int .i64 (un (hv b)).2.2]) ∧ Pk.Sl (un (hv b)).1 v w' ∧ Below w.heap.size w w' := by
  have KN : Hid (∀ wx : World, Below w.heap.size w wx → Calls Try.prog 34 #[.slice ao b.length cap] wx fun e w' => ∃ v, e = .returned v ∧ w'.ownsRow wx.heap.size 5 1 v (hv b).length (Pk.bcs (hv b)) ∧ Below wx.heap.size wx w') := fun wx h => nhalves_any b ao cap wx (by have := hn.out; show _ ≤ _; omega) (Sp.Vw_below vw h)
  have KT : Hid (∀ (f : Nat) (leaf : Bool) (a : Option Addr) (c : Nat) (wx : World), Pk.Sl ((hv b).drop f) (.slice a ((hv b).length - f) c) wx → Calls Try.prog 35 #[.slice a ((hv b).length - f) c, .bool leaf] wx fun e w' => ∃ v, e = .returned (.tuple #[v, .int .i64 (je (tg ((hv b).drop f) leaf))]) ∧ Pk.Sl (jl (tg ((hv b).drop f) leaf)) v w' ∧ Below wx.heap.size wx w') := fun f leaf a c wx h => by
    obtain ⟨a2, c2, e2, h2, v2⟩ := h
    have ldr : ((hv b).drop f).length = (hv b).length - f := List.length_drop ..
    injection e2 with e3 e4 e5
    subst e3 e5
    rw [← ldr]
    exact ntag_sl _ leaf a c wx (by have := hn.out; have := hv_len b; show _ ≤ _; omega) h2 v2
  have HC : Hid (∀ wx : World, Below w.heap.size w wx → (convert 22 9 (.slice ao b.length cap)).run Try.prog wx = .ok (.string ⟨b.toArray⟩) wx) := fun wx hb => Pk.Sl_conv ⟨ao, cap, rfl, hcap, Sp.Vw_below vw hb⟩
  have HL : Hid ((hv b).length = 2 * b.length) := hv_len b
  have H0 : Hid (0 < b.length) := h0
  have hw2 : Hid (wrap64 (2 * (b.length : Int)) = 2 * (b.length : Int)) := by
    have hn' := hn.out
    show _ = _
    unfold wrap64; omega
  clear vw hcap h0
  go_enter Try.func15, Try.ntmps15
  go_wp2_with fail
  go_loopw [5] (fun i wr => ∃ f : Nat, 1 ≤ f ∧ f ≤ 3 ∧ i = .int .i64 (f : Int) ∧ Hid (∀ f', 1 ≤ f' → f' < f → ∀ leaf, tg ((hv b).drop f') leaf ≠ hv b) ∧ Below w.heap.size w wr) (fun i _ => ((3 : Int) - intOf i).toNat)
  case atStart => exact ⟨1, Nat.le_refl _, by decide, rfl, fun f' h1 h2 => by omega, Below.refl _ _⟩
  case round =>
    obtain ⟨f, hf1, hf3, rfl, hN, hb⟩ := hrel
    by_cases hf2 : f ≤ 2
    · have d1 : decide ((f : Int) ≤ 2) = true := decide_eq_true (by omega)
      have d2 : decide ((f : Int) ≤ 2 * (b.length : Int)) = true := decide_eq_true (by have := H0.out; omega)
      have hs := stp f (by show _ ≤ _; omega)
      have HF1 : Hid (1 ≤ f) := hf1
      have HF2 : Hid (f ≤ 2) := hf2
      have hw := hw2.out
      go_wp2_with fail
      clear hw d1 d2
      obtain ⟨G, eG⟩ : ∃ G, G = wr.heap.size := ⟨_, rfl⟩
      have cA : (wr.alloc (.cells #[.bool false, .bool true] 4)).cell? ⟨wr.heap.size, 0, none⟩ = some (.bool false) := by simp [go_sem]
      have cB : (wr.alloc (.cells #[.bool false, .bool true] 4)).cell? ⟨wr.heap.size, 1, none⟩ = some (.bool true) := by simp [go_sem]
      have hA : wr.heap.size < (wr.alloc (.cells #[.bool false, .bool true] 4)).heap.size := by simp
      have bA : Below w.heap.size w (wr.alloc (.cells #[.bool false, .bool true] 4)) := hb.alloc hb.size _
      rw [← eG] at cA cB hA ⊢
      generalize wr.alloc (.cells #[.bool false, .bool true] 4) = WA at *
      clear eG hb
      go_loopw [24] (fun i wx => ∃ k : Nat, k ≤ 2 ∧ i = .int .i64 (k : Int) ∧ Hid (∀ l2 : Bool, (if l2 then 1 else 0) < k → tg ((hv b).drop f) l2 ≠ hv b) ∧ wx.cell? ⟨G, 0, none⟩ = some (.bool false) ∧ wx.cell? ⟨G, 1, none⟩ = some (.bool true) ∧ G < wx.heap.size ∧ Below w.heap.size w wx) (fun i _ => ((2 : Int) - intOf i).toNat)
      case atStart => exact ⟨0, Nat.zero_le _, rfl, fun l2 h => by omega, cA, cB, hA, bA⟩
      case round =>
        clear cA cB hA bA
        obtain ⟨k, hk, rfl, hno, c20, c21, hG, b2⟩ := hrel
        by_cases hk2 : k < 2
        · have d1 : decide ((k : Int) < 2) = true := decide_eq_true (by omega)
          have dk : (k : Int) < 2 := by omega
          have hw := stp k (by show _ ≤ _; omega)
          obtain ⟨lf, HLF, ck⟩ : ∃ lf : Bool, Hid ((if lf then 1 else 0) = k) ∧ wr.cell? ⟨G, k, none⟩ = some (.bool lf) := by
            have : k = 0 ∨ k = 1 := by omega
            rcases this with rfl | rfl
            · exact ⟨false, rfl, c20⟩
            · exact ⟨true, rfl, c21⟩
          go_wp2_with fail
          refine (KN.out _ b2).mono (fun e w4 he => ?_)
          obtain ⟨v0, rfl, own, b3'⟩ := he
          obtain ⟨g, cp, rfl, hcp, hc6, SD⟩ := own_at own (by rw [HL.out]; have := H0.out; omega)
          have b3 := b2.trans (b3'.mono b2.size)
          have c40 := (b3'.cell (p := ⟨G, 0, none⟩) hG).trans c20
          have c41 := (b3'.cell (p := ⟨G, 1, none⟩) hG).trans c21
          have hG3 := Nat.lt_of_lt_of_le hG b3'.size
          have n4 : (f : Int) ≤ ((hv b).length : Int) := by rw [HL.out]; have := H0.out; omega
          have n3 : (0 : Int) ≤ (f : Int) := by omega
          have HCP : Hid ((hv b).length ≤ cp) := hcp
          have n6 : (f : Int) ≤ (cp : Int) := by omega
          clear own b3' c20 c21 ck hG b2 hcp
          by_cases e : cp = f
          · have sd := SD f (some ⟨g, 0, none⟩) (by omega) (fun h => by have := HCP.out; omega)
            have e := e.symm
            subst e
            rw [Nat.sub_self] at sd
            clear SD
            go_wp2_with fail
            refine (KT.out f lf _ _ _ sd).mono (fun e w5 he => ?_)
            obtain ⟨v1, rfl, s1, b4⟩ := he
            have bb := b3.trans (b4.mono b3.size)
            have hcv1 := Pk.Sl_conv s1
            have hcv2 := HC.out _ bb
            have SP := Pk.Sl_below sd b4
            have SP : Hid _ := SP
            have c6 := (b4.cell (p := ⟨G, 0, none⟩) hG3).trans c40
            have c7 := (b4.cell (p := ⟨G, 1, none⟩) hG3).trans c41
            have hG5 := Nat.lt_of_lt_of_le hG3 b4.size
            clear s1 sd b4 b3 c40 c41
            by_cases ok : tg ((hv b).drop f) lf = hv b
            · obtain ⟨j0, j1⟩ := (tagged2 _ b lf).2 ok
              have HU : Hid (un (hv b) = ((hv b).drop f, lf, 0)) := un_yes b f lf HF1.out HF2.out ok
              rw [j1] at hcv1
              rw [j0]
              clear ok j0 j1 c6 c7
              go_wp2_with fail
              exact bodyPost_ret (res3t _ _ _ 2 3 4 _ _ _ rfl rfl rfl rfl) rfl ⟨_, by rw [HU.out]; rfl, by rw [HU.out]; exact SP.out, bb⟩
            · have HNO : Hid (∀ l2 : Bool, (if l2 then 1 else 0) < k + 1 → tg ((hv b).drop f) l2 ≠ hv b) := fun l2 h => by
                by_cases e2 : (if l2 then 1 else 0) < k
                · exact hno.out l2 e2
                · have : l2 = lf := pick_lf l2 lf k HLF.out h e2
                  rw [this]; exact ok
              rcases tagged3 _ b lf ok with j0 | ⟨j0, j1⟩
              · rw [j0]
                clear ok j0 hno SP
                go_wp2_with fail
                have hw := hw.out
                go_roundw
                case rel => exact ⟨k + 1, hk2, step_v k _ (by first | exact hw | rfl), HNO, c6, c7, hG5, bb⟩
                case measure => exact msr k 2 hk2 _ (by first | exact hw | rfl)
              · rw [j0]
                have hne : (jl (tg ((hv b).drop f) lf) == b) = false := beq_false_of_ne j1
                clear ok j0 j1 hno SP
                go_wp2_with fail
                have hw := hw.out
                go_roundw
                case rel => exact ⟨k + 1, hk2, step_v k _ (by first | exact hw | rfl), HNO, c6, c7, hG5, bb⟩
                case measure => exact msr k 2 hk2 _ (by first | exact hw | rfl)
          · have sd := SD f (some ⟨g, f, none⟩) (by omega) (fun _ => rfl)
            have n7 : (f : Int) < (cp : Int) := by omega
            clear SD e
            go_wp2_with fail
            refine (KT.out f lf _ _ _ sd).mono (fun e w5 he => ?_)
            obtain ⟨v1, rfl, s1, b4⟩ := he
            have bb := b3.trans (b4.mono b3.size)
            have hcv1 := Pk.Sl_conv s1
            have hcv2 := HC.out _ bb
            have SP := Pk.Sl_below sd b4
            have SP : Hid _ := SP
            have c6 := (b4.cell (p := ⟨G, 0, none⟩) hG3).trans c40
            have c7 := (b4.cell (p := ⟨G, 1, none⟩) hG3).trans c41
            have hG5 := Nat.lt_of_lt_of_le hG3 b4.size
            clear s1 sd b4 b3 c40 c41
            by_cases ok : tg ((hv b).drop f) lf = hv b
            · obtain ⟨j0, j1⟩ := (tagged2 _ b lf).2 ok
              have HU : Hid (un (hv b) = ((hv b).drop f, lf, 0)) := un_yes b f lf HF1.out HF2.out ok
              rw [j1] at hcv1
              rw [j0]
              clear ok j0 j1 c6 c7
              go_wp2_with fail
              exact bodyPost_ret (res3t _ _ _ 2 3 4 _ _ _ rfl rfl rfl rfl) rfl ⟨_, by rw [HU.out]; rfl, by rw [HU.out]; exact SP.out, bb⟩
            · have HNO : Hid (∀ l2 : Bool, (if l2 then 1 else 0) < k + 1 → tg ((hv b).drop f) l2 ≠ hv b) := fun l2 h => by
                by_cases e2 : (if l2 then 1 else 0) < k
                · exact hno.out l2 e2
                · have : l2 = lf := pick_lf l2 lf k HLF.out h e2
                  rw [this]; exact ok
              rcases tagged3 _ b lf ok with j0 | ⟨j0, j1⟩
              · rw [j0]
                clear ok j0 hno SP
                go_wp2_with fail
                have hw := hw.out
                go_roundw
                case rel => exact ⟨k + 1, hk2, step_v k _ (by first | exact hw | rfl), HNO, c6, c7, hG5, bb⟩
                case measure => exact msr k 2 hk2 _ (by first | exact hw | rfl)
              · rw [j0]
                have hne : (jl (tg ((hv b).drop f) lf) == b) = false := beq_false_of_ne j1
                clear ok j0 j1 hno SP
                go_wp2_with fail
                have hw := hw.out
                go_roundw
                case rel => exact ⟨k + 1, hk2, step_v k _ (by first | exact hw | rfl), HNO, c6, c7, hG5, bb⟩
                case measure => exact msr k 2 hk2 _ (by first | exact hw | rfl)
        · obtain rfl : k = 2 := by omega
          have HN2 : Hid (∀ f', 1 ≤ f' → f' < f + 1 → ∀ leaf, tg ((hv b).drop f') leaf ≠ hv b) := fun f' h1 h2 leaf => by
            by_cases e : f' = f
            · subst e; exact hno.out leaf (by cases leaf <;> decide)
            · exact hN.out f' h1 (by omega) leaf
          clear hno hN c20 c21
          go_wp2_with fail
          have hw := hs.out
          go_roundw
          case rel => exact ⟨f + 1, by omega, by omega, step_v f _ (by first | exact hw | rfl), HN2, b2⟩
          case measure => exact msr f 3 (by omega) _ (by first | exact hw | rfl)
    · obtain rfl : f = 3 := by omega
      have HU : Hid (un (hv b) = ([], false, 1)) := un_no b hN.out
      clear hN
      go_wp2_with fail
      exact bodyPost_ret (res3t _ _ _ 2 3 4 _ _ _ rfl rfl rfl rfl) rfl ⟨_, by rw [HU.out]; rfl, by rw [HU.out]; exact Pk.Sl_nil _, hb⟩
theorem nuntag_sl (b : List UInt8) (ao : Option Addr) (cap : Nat) (w : World) (hn : Hid (b.length ≤ 2097140)) (hcap : b.length ≤ cap) (vw : Sp.Vw b ao w) :
    Calls Try.prog 15 #[.slice ao b.length cap] w fun e w' => ∃ v, e = .returned (.tuple #[v, .bool (un (hv b)).2.1, .int .i64 (un (hv b)).2.2]) ∧ Pk.Sl (un (hv b)).1 v w' ∧ Below w.heap.size w w' := by
  by_cases h0 : 0 < b.length
  · exact nuntag_some b ao cap w h0 hn hcap vw
  · have e : b = [] := List.length_eq_zero_iff.1 (by omega)
    subst e
    exact nuntag_none ao cap w
end Nb
end Go.Proofs.Ytcgimjlmihaegaa
/- The one form of an item, as a list of bytes; it is read as it was written. -/
namespace Go.Proofs.Ytcgimjlmihaegaa
namespace Pk
open Go.RowKit
/-- A head. -/
def hdr (mark n : Nat) : List UInt8 := if n < 48 then [UInt8.ofNat (mark + n)] else UInt8.ofNat (mark + 47 + (nu n).length) :: nu n
mutual
/-- The form of an item. -/
def enc : It → List UInt8
  | .mk false t _ => if t.length = 1 ∧ Sp.bz t 0 < 128 then t else hdr 128 t.length ++ t
  | .mk true _ ks => hdr 192 (encs ks).length ++ encs ks
/-- The forms of items, one behind the other. -/
def encs : List It → List UInt8
  | [] => []
  | k :: r => enc k ++ encs r
end
mutual
/-- What means something of an item. -/
def bar : It → It
  | .mk false t _ => .mk false t []
  | .mk true _ ks => .mk true [] (bars ks)
def bars : List It → List It
  | [] => []
  | k :: r => bar k :: bars r
end
theorem nu_8 (n : Nat) (h : n < 18446744073709551616) : (nu n).length ≤ 8 := by
  rcases Nat.lt_or_ge 8 (nu n).length with h1 | h1
  · exfalso
    have k := cb_low (nu n) (nu_cb n) (by omega)
    have hv : vb 0 (nu n) = n := nu_vb n (Nat.lt_trans h (by decide))
    rw [hv] at k
    have k2 : 256 ^ 8 ≤ 256 ^ ((nu n).length - 1) := Nat.pow_le_pow_right (by decide) (by omega)
    have k3 : (256 : Nat) ^ 8 = 18446744073709551616 := by decide
    omega
  · exact h1
theorem nu_pos (n : Nat) (h0 : 0 < n) (h : n < 18446744073709551616) : 0 < (nu n).length := by
  rcases Nat.eq_zero_or_pos (nu n).length with h1 | h1
  · exfalso
    have e : nu n = [] := List.length_eq_zero_iff.1 h1
    have hv : vb 0 (nu n) = n := nu_vb n (Nat.lt_trans h (by decide))
    rw [e] at hv
    have : vb 0 [] = 0 := rfl
    omega
  · exact h1
theorem u8_of (n : Nat) (h : n < 256) : (UInt8.ofNat n).toNat = n := by rw [UInt8.toNat_ofNat']; omega
/-- A size is read behind its head's first byte as it was written. -/
theorem rsz_hdr (n : Nat) (r : List UInt8) (h : n < 18446744073709551616) (hr : n ≤ r.length) : ∃ s k, s < 64 ∧ (∀ mark, mark + 64 ≤ 256 → hdr mark n ++ r = UInt8.ofNat (mark + s) :: ((hdr mark n).drop 1 ++ r) ∧ rsz s ((hdr mark n).drop 1 ++ r) = some (n, k) ∧ ((hdr mark n).drop 1 ++ r).drop k = r) := by
  by_cases h48 : n < 48
  · refine ⟨n, 0, by omega, fun mark _ => ?_⟩
    have e : hdr mark n = [UInt8.ofNat (mark + n)] := by unfold hdr; rw [if_pos h48]
    rw [e]
    refine ⟨rfl, ?_, rfl⟩
    unfold rsz
    rw [if_pos h48]
  · have l8 := nu_8 n h
    have l0 := nu_pos n (by omega) h
    have hv : vb 0 (nu n) = n := nu_vb n (Nat.lt_trans h (by decide))
    refine ⟨47 + (nu n).length, (nu n).length, by omega, fun mark _ => ?_⟩
    have e : hdr mark n = UInt8.ofNat (mark + 47 + (nu n).length) :: nu n := by unfold hdr; rw [if_neg h48]
    rw [e]
    refine ⟨by rw [Nat.add_assoc]; rfl, ?_, ?_⟩
    · have e1 : 47 + (nu n).length - 47 = (nu n).length := by omega
      simp only [List.drop_succ_cons, List.drop_zero]
      unfold rsz
      rw [if_neg (by omega), e1, if_neg (by rw [List.length_append]; omega), List.take_left, if_neg (nu_cb n), hv, if_neg h48, List.drop_left, if_neg (by omega)]
    · simp only [List.drop_succ_cons, List.drop_zero]
      rw [List.drop_left]
theorem ritem_text (t r : List UInt8) (ks : List It) (h : t.length < 18446744073709551616) : ritem (enc (.mk false t ks) ++ r) = some (.mk false t [], r) := by
  unfold enc
  by_cases h1 : t.length = 1 ∧ Sp.bz t 0 < 128
  · rw [if_pos h1]
    match t, h1 with
    | [c], h1 =>
      have hc : c.toNat < 128 := by have := h1.2; simp [Sp.bz] at this; omega
      unfold ritem rit
      simp only [List.cons_append, List.nil_append]
      rw [if_pos hc]
  · rw [if_neg h1, List.append_assoc]
    obtain ⟨s, k, hs, H⟩ := rsz_hdr t.length (t ++ r) h (by rw [List.length_append]; omega)
    obtain ⟨e1, e2, e3⟩ := H 128 (by decide)
    rw [e1]
    have hu : (UInt8.ofNat (128 + s)).toNat = 128 + s := u8_of _ (by omega)
    unfold ritem rit
    dsimp only
    rw [hu, if_neg (by omega), if_pos (by omega), show 128 + s - 128 = s by omega]
    unfold rtx
    rw [e2]
    dsimp only
    rw [e3, if_neg (by rw [List.length_append]; omega)]
    rw [if_neg (fun h2 => h1 ⟨h2.1, by
      have hz : Sp.bz (t ++ r) 0 = Sp.bz t 0 := by
        simp only [Sp.bz, List.getD_eq_getElem?_getD]
        rw [List.getElem?_append_left (by omega)]
      rw [← hz]; exact h2.2⟩)]
    simp
theorem ritem_lists (ks : List It) (a r : List UInt8) (h : (encs ks).length < 18446744073709551616) (hk : rkids (encs ks) = some (bars ks)) : ritem (enc (.mk true a ks) ++ r) = some (.mk true [] (bars ks), r) := by
  unfold enc
  rw [List.append_assoc]
  obtain ⟨s, k, hs, H⟩ := rsz_hdr (encs ks).length (encs ks ++ r) h (by rw [List.length_append]; omega)
  obtain ⟨e1, e2, e3⟩ := H 192 (by decide)
  rw [e1]
  have hu : (UInt8.ofNat (192 + s)).toNat = 192 + s := u8_of _ (by omega)
  unfold ritem rit
  dsimp only
  rw [hu, if_neg (by omega), if_neg (by omega), show 192 + s - 192 = s by omega, e2]
  dsimp only
  rw [e3, if_neg (by rw [List.length_append]; omega), List.take_left, List.drop_left, hk]
  rfl
theorem enc_pos (t : It) : 0 < (enc t).length := by
  cases t with
  | mk l t ks =>
    have hh : ∀ m n, 0 < (hdr m n).length := fun m n => by unfold hdr; split <;> simp
    cases l
    · unfold enc
      split
      · rename_i h; omega
      · rw [List.length_append]; have := hh 128 t.length; omega
    · unfold enc
      rw [List.length_append]
      have := hh 192 (encs ks).length
      omega
mutual
theorem ritem_enc : ∀ (t : It) (r : List UInt8), (enc t).length < 18446744073709551616 → ritem (enc t ++ r) = some (bar t, r)
  | .mk false t ks, r, h => by
    have hl : t.length < 18446744073709551616 := by
      unfold enc at h
      split at h
      · exact h
      · rw [List.length_append] at h; omega
    rw [ritem_text t r ks hl]
    rfl
  | .mk true a ks, r, h => by
    have hl : (encs ks).length < 18446744073709551616 := by
      unfold enc at h
      rw [List.length_append] at h; omega
    rw [ritem_lists ks a r hl (rkids_encs ks hl)]
    rfl
theorem rkids_encs : ∀ ks : List It, (encs ks).length < 18446744073709551616 → rkids (encs ks) = some (bars ks)
  | [], _ => rkids_nil
  | k :: ks, h => by
    unfold encs at h ⊢
    rw [List.length_append] at h
    have h0 := enc_pos k
    rw [rkids_some (by rw [List.length_append]; omega) (ritem_enc k (encs ks) (by omega)), rkids_encs ks (by omega)]
    rfl
end
end Pk
end Go.Proofs.Ytcgimjlmihaegaa
/- What is read has the form that was read. -/
namespace Go.Proofs.Ytcgimjlmihaegaa
namespace Pk
open Go.RowKit
theorem rsz_back {s n k : Nat} {q : List UInt8} (hs : s < 64) (h : rsz s q = some (n, k)) : ∀ mark, hdr mark n = UInt8.ofNat (mark + s) :: q.take k := by
  intro mark
  unfold rsz at h
  split at h
  · rename_i h48
    simp only [Option.some.injEq, Prod.mk.injEq] at h
    obtain ⟨rfl, rfl⟩ := h
    unfold hdr
    rw [if_pos h48]
    rfl
  · rename_i h48
    split at h
    · cases h
    · rename_i h1
      split at h
      · cases h
      · rename_i h2
        split at h
        · cases h
        · rename_i h3
          split at h
          · cases h
          · simp only [Option.some.injEq, Prod.mk.injEq] at h
            obtain ⟨rfl, rfl⟩ := h
            have lt : (q.take (s - 47)).length = s - 47 := by rw [List.length_take]; omega
            have e : nu (vb 0 (q.take (s - 47))) = q.take (s - 47) := nu_back _ h2 (by omega)
            unfold hdr
            rw [if_neg h3, e, lt, show mark + 47 + (s - 47) = mark + s by omega]
theorem head_u8 (c : UInt8) (m s : Nat) (h : c.toNat = m + s) : UInt8.ofNat (m + s) = c := by
  rw [← h]
  exact UInt8.ofNat_toNat
mutual
theorem enc_back : ∀ (N : Nat) (b r : List UInt8) (t : It), b.length ≤ N → ritem b = some (t, r) → b = enc t ++ r
  | 0, [], _, _, _, h => by cases h
  | 0, _ :: _, _, _, hb, _ => by simp at hb
  | N + 1, [], _, _, _, h => by cases h
  | N + 1, c :: q, r, t, hb, h => by
    have h8 := UInt8.toNat_lt c
    rw [List.length_cons] at hb
    unfold ritem rit at h
    dsimp only at h
    split at h
    · rename_i h1
      simp only [Option.some.injEq, Prod.mk.injEq] at h
      obtain ⟨rfl, rfl⟩ := h
      unfold enc
      rw [if_pos ⟨rfl, by show ((c.toNat : Nat) : Int) < 128; omega⟩]
      rfl
    · rename_i h1
      split at h
      · rename_i h2
        cases hr : rtx (c.toNat - 128) q with
        | none => rw [hr] at h; simp at h
        | some p =>
          rw [hr] at h
          simp only [Option.map_some, Option.some.injEq, Prod.mk.injEq] at h
          unfold rtx at hr
          split at hr
          · cases hr
          · rename_i n k hz
            split at hr
            · cases hr
            · rename_i h3
              split at hr
              · cases hr
              · rename_i h4
                simp only [Option.some.injEq] at hr
                subst hr
                obtain ⟨rfl, rfl⟩ := h
                have lt : ((q.drop k).take n).length = n := by rw [List.length_take]; omega
                unfold enc
                rw [if_neg (fun h5 => h4 ⟨by rw [lt] at h5; exact h5.1, by
                  have h6 := h5.2
                  rw [lt] at h5
                  rwa [bz_take _ n 0 (by omega)] at h6⟩), lt, rsz_back (by omega) hz 128, head_u8 c 128 (c.toNat - 128) (by omega)]
                simp only [List.cons_append, List.append_assoc]
                rw [List.take_append_drop, List.take_append_drop]
      · rename_i h2
        split at h
        · cases h
        · rename_i n k hz
          split at h
          · cases h
          · rename_i h3
            cases hk : rkids ((q.drop k).take n) with
            | none => rw [hk] at h; simp at h
            | some ks =>
              rw [hk] at h
              simp only [Option.map_some, Option.some.injEq, Prod.mk.injEq] at h
              obtain ⟨rfl, rfl⟩ := h
              have lt : ((q.drop k).take n).length = n := by rw [List.length_take]; omega
              have ek := encs_back N ((q.drop k).take n) ks (by rw [lt, ]; rw [List.length_drop] at h3; omega) hk
              unfold enc
              rw [← ek, lt, rsz_back (by omega) hz 192, head_u8 c 192 (c.toNat - 192) (by omega)]
              simp only [List.cons_append, List.append_assoc]
              rw [List.take_append_drop, List.take_append_drop]
theorem encs_back : ∀ (N : Nat) (b : List UInt8) (ks : List It), b.length ≤ N → rkids b = some ks → b = encs ks
  | _, [], ks, _, h => by
    rw [rkids_nil] at h
    cases h
    rfl
  | 0, _ :: _, _, hb, _ => by simp at hb
  | N + 1, c :: q, ks, hb, h => by
    have hb' := hb
    rw [List.length_cons] at hb'
    cases hi : ritem (c :: q) with
    | none =>
      rw [rkids_none (by simp) hi] at h
      cases h
    | some p =>
      obtain ⟨t, r⟩ := p
      have hs := ritem_shorter hi
      rw [List.length_cons] at hs
      rw [rkids_some (by simp) hi] at h
      cases hk : rkids r with
      | none => rw [hk] at h; cases h
      | some l =>
        rw [hk] at h
        cases h
        have e1 := enc_back (N + 1) (c :: q) r t hb hi
        have e2 := encs_back N r l (by omega) hk
        unfold encs
        rw [← e2]
        exact e1
end
end Pk
end Go.Proofs.Ytcgimjlmihaegaa
/- The shape whose form a text is: two ways to it. -/
namespace Go.Proofs.Ytcgimjlmihaegaa
namespace Rs
open Nb Sp Pk Go.RowKit
theorem un_or' (b : List UInt8) : (∃ p leaf, un (hv b) = (p, leaf, 0) ∧ jl (tg p leaf) = b ∧ pb p = true) ∨ un (hv b) = ([], false, 1) := by
  by_cases h : ∀ f, 1 ≤ f → f < 3 → ∀ leaf, tg ((hv b).drop f) leaf ≠ hv b
  · right; exact un_no b h
  · left
    have : ∃ f leaf, 1 ≤ f ∧ f < 3 ∧ tg ((hv b).drop f) leaf = hv b := by
      apply Classical.byContradiction
      intro hn
      exact h fun f h1 h2 leaf e => hn ⟨f, leaf, h1, h2, e⟩
    obtain ⟨f, leaf, h1, h2, e⟩ := this
    refine ⟨_, _, un_yes b f leaf h1 (by omega) e, ((tagged2 _ b leaf).2 e).2, ?_⟩
    rw [pb_iff]
    exact (tg_jf _ leaf).1 (by rw [e]; exact jf_hv b)
/-- A text's item. -/
def tI (b : List UInt8) : It := .mk false b []
def txt : It → List UInt8 | .mk _ b _ => b
def isL : It → Bool | .mk l _ _ => l
def kds : It → List It | .mk _ _ ks => ks
abbrev zS : Shp := (0, [], [], [])
/-- The shape for which an item would stand. -/
def shp (t : It) : Option Shp :=
  if isL t = false then (if txt t = [] then some zS else none)
  else if (kds t).all (fun k => !isL k) then
    (if (kds t).length = 2 then
      (if (un (hv (txt ((kds t).getD 0 It.no)))).2.2 = 0 then some (if (un (hv (txt ((kds t).getD 0 It.no)))).2.1 then (1, (un (hv (txt ((kds t).getD 0 It.no)))).1, txt ((kds t).getD 1 It.no), []) else (2, (un (hv (txt ((kds t).getD 0 It.no)))).1, [], [txt ((kds t).getD 1 It.no)])) else none)
     else if (kds t).length = 17 then some (3, [], txt ((kds t).getD 16 It.no), ((kds t).map txt).take 16) else none)
  else none
/-- What root.Read answers. -/
def rdS (b : List UInt8) : Shp × Int := if (dc b).2 = 0 then (match shp (dc b).1 with | some s => if isS s then (s, 0) else (zS, 1) | none => (zS, 1)) else (zS, 1)
/-- What is tried. -/
def tries (t : It) : List Shp :=
  if (kds t).length = 2 then [zS, if (un (hv (txt ((kds t).getD 0 It.no)))).2.1 then (1, (un (hv (txt ((kds t).getD 0 It.no)))).1, txt ((kds t).getD 1 It.no), []) else (2, (un (hv (txt ((kds t).getD 0 It.no)))).1, [], [txt ((kds t).getD 1 It.no)])]
  else if (kds t).length = 17 then [zS, (3, [], txt ((kds t).getD 16 It.no), ((kds t).map txt).take 16)] else [zS]
/-- What HRead answers. -/
def fits (b : List UInt8) (s : Shp) : Bool := isS s && decide (enc (itS s) = b)
def hrd (b : List UInt8) : Shp × Int := if (dc b).2 = 0 then (match (tries (dc b).1).find? (fits b) with | some s => (s, 0) | none => (zS, 1)) else (zS, 1)
theorem bars_map : ∀ l : List (List UInt8), bars (l.map fun b => .mk false b []) = l.map fun b => .mk false b []
  | [] => by simp [bars]
  | b :: r => by rw [List.map_cons, bars, bars_map r, bar]
theorem bar_itS (s : Shp) : bar (itS s) = itS s := by
  unfold itS
  split
  · simp [bar, bars]
  · split
    · simp [bar, bars]
    · split
      · rw [bar, bars_map]
      · simp [bar]
theorem dc_yes {b : List UInt8} (h : (dc b).2 = 0) (hb : b.length < 18446744073709551616) : b = enc (dc b).1 ∧ bar (dc b).1 = (dc b).1 := by
  unfold dc at h ⊢
  cases hr : ritem b with
  | none => rw [hr] at h; simp at h
  | some p =>
    obtain ⟨t, r⟩ := p
    rw [hr] at h
    dsimp only at h ⊢
    by_cases h0 : r.length = 0
    · rw [if_pos h0] at h ⊢
      have e0 : r = [] := List.length_eq_zero_iff.1 h0
      subst e0
      have e := enc_back b.length b [] t (Nat.le_refl _) hr
      rw [List.append_nil] at e
      refine ⟨e, ?_⟩
      have k := ritem_enc t [] (by rw [← e]; exact hb)
      rw [List.append_nil, ← e, hr] at k
      injection k with k
      injection k with k _
      exact k.symm
    · rw [if_neg h0] at h; simp at h
theorem fits_iff {b : List UInt8} (h : (dc b).2 = 0) (hb : b.length < 18446744073709551616) (s : Shp) : fits b s = true ↔ isS s = true ∧ itS s = (dc b).1 := by
  obtain ⟨e, eb⟩ := dc_yes h hb
  unfold fits
  rw [Bool.and_eq_true, decide_eq_true_iff]
  constructor
  · intro ⟨h1, h2⟩
    refine ⟨h1, ?_⟩
    have k1 := ritem_enc (itS s) [] (by rw [h2]; exact hb)
    have k2 := ritem_enc (dc b).1 [] (by rw [← e]; exact hb)
    rw [h2, e, k2, eb, bar_itS] at k1
    injection k1 with k1
    injection k1 with k1 _
    exact k1.symm
  · intro ⟨h1, h2⟩
    exact ⟨h1, by rw [h2, ← e]⟩
theorem bars_eq : ∀ ks : List It, bars ks = ks.map bar
  | [] => by simp [bars]
  | k :: r => by rw [bars, bars_eq r, List.map_cons]
theorem text_bar (k : It) (h : bar k = k) (hl : isL k = false) : k = .mk false (txt k) [] := by
  obtain ⟨l, b, ks⟩ := k
  cases l with
  | true => simp [isL] at hl
  | false => rw [bar] at h; rw [← h]; rfl
theorem bar_kids {t : It} (h : bar t = t) : ∀ k ∈ kds t, bar k = k := by
  obtain ⟨l, b, ks⟩ := t
  cases l with
  | false =>
    rw [bar] at h
    injection h with _ _ h
    subst h
    intro k hk
    cases hk
  | true =>
    rw [bar] at h
    injection h with _ _ h
    rw [bars_eq] at h
    intro k hk
    obtain ⟨i, hi, rfl⟩ := List.getElem_of_mem hk
    have hi2 : i < ks.length := hi
    have e := congrArg (fun l => l[i]?) h
    simp only [List.getElem?_map, List.getElem?_eq_getElem hi2, Option.map_some, Option.some.injEq] at e
    exact e
theorem list_bar {t : It} (h : bar t = t) (hl : isL t = true) : t = .mk true [] (kds t) := by
  obtain ⟨l, b, ks⟩ := t
  cases l with
  | false => simp [isL] at hl
  | true =>
    rw [bar] at h
    injection h with _ h _
    subst h
    rfl
theorem kids_texts {t : It} (h : bar t = t) (hk : (kds t).all (fun k => !isL k) = true) : kds t = (kds t).map fun k => .mk false (txt k) [] := by
  have hb := bar_kids h
  rw [List.all_eq_true] at hk
  conv => lhs; rw [← List.map_id (kds t)]
  apply List.map_congr_left
  intro k hm
  have := hk k hm
  exact text_bar k (hb k hm) (by simpa using this)
/-- Both come to the same. -/
theorem hrd_eq (b : List UInt8) (hb : b.length < 18446744073709551616) : hrd b = rdS b := by
  unfold hrd rdS
  by_cases h : (dc b).2 = 0
  · rw [if_pos h, if_pos h]
    obtain ⟨e, eb⟩ := dc_yes h hb
    have hf := fits_iff h hb
    generalize (dc b).1 = t at *
    clear e h
    have hz : fits b zS = true ↔ t = .mk false [] [] := by
      rw [hf]
      have e1 : isS zS = true := rfl
      have e2 : itS zS = .mk false [] [] := rfl
      rw [e1, e2]
      exact ⟨fun h => h.2.symm, fun h => ⟨rfl, h.symm⟩⟩
    cases hl : isL t with
    | false =>
      have et : t = .mk false (txt t) [] := text_bar t eb hl
      have ek : kds t = [] := by rw [et]; rfl
      have e1 : tries t = [zS] := by unfold tries; rw [ek]; rfl
      have e2 : shp t = if txt t = [] then some zS else none := by unfold shp; rw [if_pos hl]
      rw [e1, e2]
      by_cases h0 : txt t = []
      · rw [if_pos h0]
        have : fits b zS = true := hz.2 (by rw [et, h0])
        rw [List.find?_cons_of_pos this]
        rfl
      · rw [if_neg h0]
        have : ¬ fits b zS = true := fun hh => h0 (by rw [hz.1 hh]; rfl)
        rw [List.find?_cons_of_neg this]
        rfl
    | true =>
      have hz2 : ¬ fits b zS = true := fun hh => by rw [hz.1 hh] at hl; simp [isL] at hl
      have et := list_bar eb hl
      unfold shp
      rw [if_neg (by rw [hl]; decide)]
      cases hk : (kds t).all (fun k => !isL k) with
      | false =>
        rw [if_neg (by decide)]
        have hn : (tries t).find? (fits b) = none := by
          rw [List.find?_eq_none]
          intro s _ hs
          have h1 := (hf s).1 hs
          have h2 : (kds t).all (fun k => !isL k) = true := by
            rw [← h1.2]
            unfold itS
            split
            · rfl
            · split
              · rfl
              · split
                · simp [kds, isL]
                · rfl
          rw [hk] at h2
          cases h2
        rw [hn]
      | true =>
        rw [if_pos rfl]
        have kt := kids_texts eb hk
        unfold tries
        by_cases k2 : (kds t).length = 2
        · rw [if_pos k2, if_pos k2]
          have kt2 : kds t = [.mk false (txt ((kds t).getD 0 It.no)) [], .mk false (txt ((kds t).getD 1 It.no)) []] := by
            match hm : kds t, k2 with
            | [x, y], _ =>
              rw [hm] at kt
              exact kt
          rw [List.find?_cons_of_neg hz2]
          generalize hA : txt ((kds t).getD 0 It.no) = A at *
          generalize hB : txt ((kds t).getD 1 It.no) = B at *
          rcases un_or' A with ⟨p, leaf, e1, e2, e3⟩ | e1
          · rw [e1]
            dsimp only
            rw [if_pos rfl]
            cases leaf with
            | true =>
              rw [if_pos rfl]
              have ei : itS (1, p, B, []) = t := by
                rw [et, kt2, ← e2]
                rfl
              dsimp only
              by_cases hs : isS (1, p, B, []) = true
              · rw [if_pos hs, List.find?_cons_of_pos ((hf _).2 ⟨hs, ei⟩)]
              · rw [if_neg hs, List.find?_cons_of_neg (fun hh => hs ((hf _).1 hh).1)]
                rfl
            | false =>
              rw [if_neg (by decide)]
              have ei : itS (2, p, [], [B]) = t := by
                rw [et, kt2, ← e2]
                rfl
              dsimp only
              by_cases hs : isS (2, p, [], [B]) = true
              · rw [if_pos hs, List.find?_cons_of_pos ((hf _).2 ⟨hs, ei⟩)]
              · rw [if_neg hs, List.find?_cons_of_neg (fun hh => hs ((hf _).1 hh).1)]
                rfl
          · rw [e1]
            dsimp only
            rw [if_neg (by decide), if_neg (by decide)]
            have hs : ¬ isS (2, [], [], [B]) = true := by simp [isS]
            rw [List.find?_cons_of_neg (fun hh => hs ((hf _).1 hh).1)]
            rfl
        · rw [if_neg k2, if_neg k2]
          by_cases k3 : (kds t).length = 17
          · rw [if_pos k3, if_pos k3, List.find?_cons_of_neg hz2]
            have ei : itS (3, [], txt ((kds t).getD 16 It.no), ((kds t).map txt).take 16) = t := by
              have ew : ((kds t).map txt).take 16 ++ [txt ((kds t).getD 16 It.no)] = (kds t).map txt := by
                have e4 : ((kds t).map txt).length = 17 := by rw [List.length_map, k3]
                conv => rhs; rw [← List.take_append_drop 16 ((kds t).map txt)]
                congr 1
                rw [List.drop_eq_getElem_cons (by omega), List.drop_eq_nil_iff.2 (by omega)]
                rw [List.getElem_map, List.getD_eq_getElem?_getD, List.getElem?_eq_getElem (by omega)]
                rfl
              show It.mk true [] ((((kds t).map txt).take 16 ++ [txt ((kds t).getD 16 It.no)]).map fun b => .mk false b []) = t
              rw [ew, List.map_map]
              conv => rhs; rw [et, kt]
              rfl
            dsimp only
            by_cases hs : isS (3, [], txt ((kds t).getD 16 It.no), ((kds t).map txt).take 16) = true
            · rw [if_pos hs, List.find?_cons_of_pos ((hf _).2 ⟨hs, ei⟩)]
            · rw [if_neg hs, List.find?_cons_of_neg (fun hh => hs ((hf _).1 hh).1)]
              rfl
          · rw [if_neg k3, if_neg k3, List.find?_cons_of_neg hz2]
            rfl
  · rw [if_neg h, if_neg h]
end Rs
end Go.Proofs.Ytcgimjlmihaegaa
/- Variables of shapes; root.taggedShape. -/
namespace Go.Proofs.Ytcgimjlmihaegaa
namespace Rs
open Nb Sp Pk Go.RowKit
theorem infoSh : (Try.prog.info? 25).map (·.size) = some 4 := by kernel_rfl
/-- A variable of a shape at block G, in which there is no byte. -/
structure BS (G : Nat) (w : World) : Prop where
  hi : G < w.heap.size
  c : ∀ o, o < 4 → (w.cell? ⟨G, o, none⟩).isSome = true
  f : ∀ o, w.frozen? ⟨G, o, none⟩ = false
  n : ∀ o x, w.cell? ⟨G, o, none⟩ ≠ some (.int .u8 x)
theorem BS_nb {G : Nat} {w : World} (h : BS G w) : NB G w := ⟨h.hi, h.n⟩
theorem BS_gb {G : Nat} {w w' : World} {r : Option Nat} (h : BS G w) (hb : w.grownBy w' r) (hr : some G ≠ r) : BS G w' := by
  have hbk : w'.heap[G]? = w.heap[G]? := hb.block G h.hi hr
  exact ⟨Nat.lt_of_lt_of_le h.hi hb.size, fun o ho => by rw [World.cell?_of_block (a := ⟨G, o, none⟩) hbk]; exact h.c o ho, fun o => (World.frozen?_of_block (a := ⟨G, o, none⟩) hbk).trans (h.f o), fun o x => by rw [World.cell?_of_block (a := ⟨G, o, none⟩) hbk]; exact h.n o x⟩
theorem BS_new (w : World) : BS w.heap.size (w.alloc (.cells #[.int .i64 0, .slice none 0 0, .slice none 0 0, .slice none 0 0] 25)) := by
  have hn := heap_alloc_new w (.cells #[.int .i64 0, .slice none 0 0, .slice none 0 0, .slice none 0 0] 25)
  have hc : ∀ o, (w.alloc (.cells #[.int .i64 0, .slice none 0 0, .slice none 0 0, .slice none 0 0] 25)).cell? ⟨w.heap.size, o, none⟩ = (#[Value.int .i64 0, .slice none 0 0, .slice none 0 0, .slice none 0 0])[o]? := fun o => by
    simp only [World.cell?, hn]
    exact if_neg (by decide)
  refine ⟨by simp, fun o ho => ?_, fun o => by simp only [World.frozen?, hn]; simp, fun o x h => ?_⟩
  · rw [hc]
    have : o = 0 ∨ o = 1 ∨ o = 2 ∨ o = 3 := by omega
    rcases this with rfl | rfl | rfl | rfl <;> rfl
  · rw [hc] at h
    match o with
    | 0 => simp at h
    | 1 => simp at h
    | 2 => simp at h
    | 3 => simp at h
    | n + 4 => simp at h
theorem wp_stS {op : Oper} {a : Act} {w : World} {K : Act → World → Prop} {Q : Exit → Act → World → Prop} {x y : Operand} {G : Nat} {k : Int} {a1 a2 a3 : Option Addr} {n1 c1 n2 c2 n3 c3 : Nat} (ho : op.op = .store 25 x y)
    (hx : a.eval x = .pointer (some ⟨G, 0, none⟩)) (hy : a.eval y = .agg #[.int .i64 k, .slice a1 n1 c1, .slice a2 n2 c2, .slice a3 n3 c3]) (hB : BS G w)
    (h : ∀ w', w.grownBy w' (some G) → w'.cell? ⟨G, 0, none⟩ = some (.int .i64 k) → w'.cell? ⟨G, 1, none⟩ = some (.slice a1 n1 c1) → w'.cell? ⟨G, 2, none⟩ = some (.slice a2 n2 c2) → w'.cell? ⟨G, 3, none⟩ = some (.slice a3 n3 c3) → K (a.put op.dst undef) w') : op.wp Try.prog a w K Q := by
  have ht : w.there G 0 4 := fun j hj => by rw [Nat.zero_add]; exact ⟨hB.c j hj, hB.f j⟩
  have hs := World.rangeAt_setCells_same w G 0 [.int .i64 k, .slice a1 n1 c1, .slice a2 n2 c2, .slice a3 n3 c3] ht
  refine wp_store_mid 25 x y ho G 0 #[.int .i64 k, .slice a1 n1 c1, .slice a2 n2 c2, .slice a3 n3 c3] hx hy ht infoSh (all_oneCell_toArray (cs := [.int .i64 k, .slice a1 n1 c1, .slice a2 n2 c2, .slice a3 n3 c3]) (fun v hv => by simp only [List.mem_cons, List.not_mem_nil, or_false] at hv; rcases hv with rfl | rfl | rfl | rfl <;> rfl)) ?_
  exact h _ (Pk.gb_sets G _ 0 w) (hs 0 _ rfl) (hs 1 _ rfl) (hs 2 _ rfl) (hs 3 _ rfl)
theorem wpList_stS {ops : Array Oper} {rest : List Oper} {op : Oper} {a : Act} {w : World} {Q : Exit → Act → World → Prop} {x y : Operand} {G : Nat} {k : Int} {a1 a2 a3 : Option Addr} {n1 c1 n2 c2 n3 c3 : Nat} (hgd : op.guard = none) (ho : op.op = .store 25 x y)
    (hx : a.eval x = .pointer (some ⟨G, 0, none⟩)) (hy : a.eval y = .agg #[.int .i64 k, .slice a1 n1 c1, .slice a2 n2 c2, .slice a3 n3 c3]) (hB : BS G w)
    (h : ∀ w', w.grownBy w' (some G) → w'.cell? ⟨G, 0, none⟩ = some (.int .i64 k) → w'.cell? ⟨G, 1, none⟩ = some (.slice a1 n1 c1) → w'.cell? ⟨G, 2, none⟩ = some (.slice a2 n2 c2) → w'.cell? ⟨G, 3, none⟩ = some (.slice a3 n3 c3) → wpList Try.prog ops Q rest (a.put op.dst undef) w') : wpList Try.prog ops Q (op :: rest) a w :=
  wpList_plain hgd fun _ hK => wp_stS ho hx hy hB (fun w' g z0 z1 z2 z3 => hK _ _ (h w' g z0 z1 z2 z3))
theorem resS2 (f : Func) (tm : Array Value) (W : World) (g s z : Nat) (p q r t v : Value) (hf : f.results = #[.cell s 25, .tmp z]) (h : tm.getD s undef = .pointer (some ⟨g, 0, none⟩)) (h2 : tm.getD z undef = v) (c0 : W.cell? ⟨g, 0, none⟩ = some p) (c1 : W.cell? ⟨g, 1, none⟩ = some q) (c2 : W.cell? ⟨g, 2, none⟩ = some r) (c3 : W.cell? ⟨g, 3, none⟩ = some t) : (results f tm).run Try.prog W = .ok (.tuple #[.agg #[p, q, r, t], v]) W := by
  simp at h h2
  simp [results, hf, go_sem, h, h2, c0, c1, c2, c3]
theorem Sl_gb {G : Nat} {b : List UInt8} {v : Value} {w w' : World} (h : Sl b v w) (hG : NB G w) (hg : w.grownBy w' (some G)) : Sl b v w' := by
  obtain ⟨ao, cap, h1, h2, h3⟩ := h
  refine ⟨ao, cap, h1, h2, fun h0 => ?_⟩
  obtain ⟨g, off, e, hlt, hc⟩ := h3 h0
  have n1 : g ≠ G := fun e2 => by subst e2; exact hG.2 _ _ (hc 0 h0)
  exact ⟨g, off, e, Nat.lt_of_lt_of_le hlt hg.size, fun j hj => (World.cell?_of_block (a := ⟨g, off + j, none⟩) (hg.block g hlt (fun e3 => by injection e3 with e3; exact n1 e3))).trans (hc j hj)⟩
theorem Ls_gb {G : Nat} {ps : List (List UInt8)} {v : Value} {w w' : World} (h : Ls ps v w) (hG : NB G w) (hv : v.ownBlock ≠ some G) (hg : w.grownBy w' (some G)) : Ls ps v w' := by
  obtain ⟨ao, cap, h1, h3⟩ := h
  refine ⟨ao, cap, h1, fun h0 => ?_⟩
  obtain ⟨g, off, e, hlt, hc⟩ := h3 h0
  have n1 : g ≠ G := fun e2 => by subst e2; apply hv; rw [h1, e]; rfl
  refine ⟨g, off, e, Nat.lt_of_lt_of_le hlt hg.size, fun i hi => ?_⟩
  obtain ⟨vi, k1, k2⟩ := hc i hi
  exact ⟨vi, (World.cell?_of_block (a := ⟨g, off + i, none⟩) (hg.block g hlt (fun e3 => by injection e3 with e3; exact n1 e3))).trans k1, Sl_gb k2 hG hg⟩
theorem Sh_gb {G : Nat} {s : Shp} {v : V4} {w w' : World} (h : Sh s v w) (hG : NB G w) (hv : v.2.2.2.ownBlock ≠ some G) (hg : w.grownBy w' (some G)) : Sh s v w' :=
  ⟨h.1, Sl_gb h.2.1 hG hg, Sl_gb h.2.2.1 hG hg, Ls_gb h.2.2.2 hG hv hg⟩
/-- Its row lies in blocks from B on. -/
def Rf (B : Nat) (v : Value) : Prop := ∀ a, v.ownBlock = some a → B ≤ a
def F4 (v : V4) : Prop := ∃ k a1 n1 c1 a2 n2 c2 a3 n3 c3, v = (.int .i64 k, .slice a1 n1 c1, .slice a2 n2 c2, .slice a3 n3 c3)
/-- What a call answers: a shape, or none. -/
def PS (w : World) (o : Option Shp) (e : Ending) (w' : World) : Prop := ∃ v, e = .returned (.tuple #[v4 v, .bool o.isSome]) ∧ (∀ s, o = some s → Sh s v w' ∧ Rf w.heap.size v.2.2.2) ∧ Below w.heap.size w w' ∧ F4 v
/-- What a tag and what stands behind it are the shape of. -/
def ts (tag b : List UInt8) : Option Shp := if (un (hv tag)).2.2 = 0 then some (if (un (hv tag)).2.1 then (1, (un (hv tag)).1, b, []) else (2, (un (hv tag)).1, [], [b])) else none
theorem Ls_nil' (w : World) : Ls [] (.slice none 0 0) w := ⟨none, 0, rfl, fun h => absurd h (by decide)⟩
theorem ls_one {b : List UInt8} {u : Value} {W : World} {T : TypeId} (hb : Sl b u W) : Ls [b] (.slice (some ⟨W.heap.size, 0, none⟩) 1 1) (W.alloc (.cells #[u] T)) := by
  have HA := heap_alloc_new W (.cells #[u] T)
  have bA : Below W.heap.size W (W.alloc (.cells #[u] T)) := (Below.refl _ _).alloc (Nat.le_refl _) _
  refine ⟨_, 1, rfl, fun _ => ⟨W.heap.size, 0, rfl, by simp, fun i hi => ?_⟩⟩
  have hi2 : i = 0 := by simp at hi; omega
  subst hi2
  exact ⟨u, by simp only [World.cell?, HA]; rfl, Sl_below hb bA⟩
set_option maxHeartbeats 2000000 in
set_option maxRecDepth 100000 in
theorem tshape_walk (b P : List UInt8) (L : Bool) (E : Int) (o : Option Shp) (ho : Hid (o = if E = 0 then some (if L then (1, P, b, []) else (2, P, [], [b])) else none)) (a1 a2 : Option Addr) (n1 c1 n2 c2 : Nat) (w : World) (hE : Hid (E = 0 ∨ E = 1)) (hb : Hid (Sl b (.slice a2 n2 c2) w))
    (KU : Hid (∀ wx : World, Below w.heap.size w wx → Calls Try.prog 49 #[.slice a1 n1 c1] wx fun e w' => ∃ v, e = .returned (.tuple #[v, .bool L, .int .i64 E]) ∧ Sl P v w' ∧ Below wx.heap.size wx w')) :
    Calls Try.prog 28 #[.slice a1 n1 c1, .slice a2 n2 c2] w (PS w o) := by
  have x0 := BS_new w
  have l0 : Below w.heap.size w (w.alloc (.cells #[.int .i64 0, .slice none 0 0, .slice none 0 0, .slice none 0 0] 25)) := (Below.refl _ _).alloc (Nat.le_refl _) _
  go_enter Try.func28, Try.ntmps28
  go_upto_region 1 with fail
  generalize w.alloc (.cells #[.int .i64 0, .slice none 0 0, .slice none 0 0, .slice none 0 0] 25) = W0 at *
  obtain ⟨h, eh⟩ : ∃ h, h = w.heap.size := ⟨_, rfl⟩
  have EH : Hid (h = w.heap.size) := eh
  rw [← eh] at x0 ⊢
  clear eh
  go_wp2_with fail
  refine (KU.out _ l0).mono ?_
  rintro e w1 ⟨v, rfl, s1, b1⟩
  obtain ⟨pa, pc, rfl⟩ := Sl_fm s1
  have l1 : Below w.heap.size w w1 := l0.trans (b1.mono l0.size)
  have x1 : BS h w1 := BS_gb (r := none) x0 (gb_below b1) nofun
  have HS1 : Hid (Sl P (.slice pa P.length pc) w1) := s1
  have HS2 : Hid (Sl b (.slice a2 n2 c2) w1) := Sl_below hb.out l1
  clear KU l0 b1 x0 s1
  generalize P.length = m at *
  rcases hE.out with rfl | rfl
  · cases L with
    | true =>
      obtain rfl : o = some (1, P, b, []) := ho.out
      go_upto_region 5 with fail
      go_wp2_with (refine wpList_stS rfl rfl rfl rfl x1 ?_)
      intro w6 g6 z0 z1 z2 z3
      have l6 : Hid (Below w.heap.size w w6) := l1.trans ⟨g6.os, g6.tape, g6.output, g6.size, fun j hj => g6.block j (by have := l1.size; omega) (fun e => by injection e with e; have := EH.out; omega)⟩
      have S6 : Hid (Sh (1, P, b, []) (.int .i64 1, .slice pa m pc, .slice a2 n2 c2, .slice none 0 0) w6) := Sh_gb (G := h) ⟨rfl, HS1.out, HS2.out, Ls_nil' _⟩ (BS_nb x1) nofun g6
      clear g6 x1 l1
      go_wp2_with fail
      exact bodyPost_ret (v := .tuple #[.agg #[.int .i64 1, .slice pa m pc, .slice a2 n2 c2, .slice none 0 0], .bool true]) (resS2 _ _ _ h 4 5 _ _ _ _ _ rfl rfl rfl z0 z1 z2 z3) rfl ⟨(.int .i64 1, .slice pa m pc, .slice a2 n2 c2, .slice none 0 0), rfl, fun s hs => by cases hs; exact ⟨S6.out, nofun⟩, l6.out, ⟨_, _, _, _, _, _, _, _, _, _, rfl⟩⟩
    | false =>
      obtain rfl : o = some (2, P, [], [b]) := ho.out
      have hA := BS_gb (r := none) x1 (World.grownBy_alloc w1 (.cells #[.slice a2 n2 c2] 22) none) nofun
      have bA : Below w1.heap.size w1 (w1.alloc (.cells #[.slice a2 n2 c2] 22)) := (Below.refl _ _).alloc (Nat.le_refl _) _
      have lA := l1.trans (bA.mono l1.size)
      have L3 : Ls [b] (.slice (some ⟨w1.heap.size, 0, none⟩) 1 1) (w1.alloc (.cells #[.slice a2 n2 c2] 22)) := ls_one HS2.out
      have SA : Hid (Sh (2, P, [], [b]) (.int .i64 2, .slice pa m pc, .slice none 0 0, .slice (some ⟨w1.heap.size, 0, none⟩) 1 1) (w1.alloc (.cells #[.slice a2 n2 c2] 22))) := ⟨rfl, Sl_below HS1.out bA, Sl_nil _, L3⟩
      have HW : Hid (h < w1.heap.size) := x1.hi
      clear L3 bA x1
      have RFF : Hid (Rf w.heap.size (.slice (some ⟨w1.heap.size, 0, none⟩) 1 1)) := fun a ha => by
        have : w1.heap.size = a := by simpa [Value.ownBlock] using ha
        have := l1.size
        omega
      clear l1
      go_upto_region 6 with fail
      go_wp2_with (refine wpList_stS rfl rfl rfl rfl hA ?_)
      intro w6 g6 z0 z1 z2 z3
      have l6 : Hid (Below w.heap.size w w6) := lA.trans ⟨g6.os, g6.tape, g6.output, g6.size, fun j hj => g6.block j (by have := lA.size; omega) (fun e => by injection e with e; have := EH.out; omega)⟩
      have S6 : Hid (Sh (2, P, [], [b]) (.int .i64 2, .slice pa m pc, .slice none 0 0, .slice (some ⟨w1.heap.size, 0, none⟩) 1 1) w6) := Sh_gb (G := h) SA.out (BS_nb hA) (fun e => by
        have : w1.heap.size = h := by simpa [Value.ownBlock] using e
        have := HW.out
        omega) g6
      clear g6 hA lA SA
      go_wp2_with fail
      exact bodyPost_ret (v := .tuple #[.agg #[.int .i64 2, .slice pa m pc, .slice none 0 0, .slice (some ⟨w1.heap.size, 0, none⟩) 1 1], .bool true]) (resS2 _ _ _ h 4 5 _ _ _ _ _ rfl rfl rfl z0 z1 z2 z3) rfl ⟨(.int .i64 2, .slice pa m pc, .slice none 0 0, .slice (some ⟨w1.heap.size, 0, none⟩) 1 1), rfl, fun s hs => by cases hs; exact ⟨S6.out, RFF.out⟩, l6.out, ⟨_, _, _, _, _, _, _, _, _, _, rfl⟩⟩
  · obtain rfl : o = none := ho.out
    go_upto_region 3 with fail
    go_wp2_with (refine wpList_stS rfl rfl rfl rfl x1 ?_)
    intro w6 g6 z0 z1 z2 z3
    have l6 : Hid (Below w.heap.size w w6) := l1.trans ⟨g6.os, g6.tape, g6.output, g6.size, fun j hj => g6.block j (by have := l1.size; omega) (fun e => by injection e with e; have := EH.out; omega)⟩
    clear g6 x1 l1
    go_wp2_with fail
    exact bodyPost_ret (v := .tuple #[.agg #[.int .i64 0, .slice none 0 0, .slice none 0 0, .slice none 0 0], .bool false]) (resS2 _ _ _ h 4 5 _ _ _ _ _ rfl rfl rfl z0 z1 z2 z3) rfl ⟨(.int .i64 0, .slice none 0 0, .slice none 0 0, .slice none 0 0), rfl, nofun, l6.out, ⟨_, _, _, _, _, _, _, _, _, _, rfl⟩⟩
theorem tshape_any (tag b : List UInt8) (a1 a2 : Option Addr) (c1 c2 : Nat) (w : World) (h1 : Sl tag (.slice a1 tag.length c1) w) (h2 : Sl b (.slice a2 b.length c2) w) (hn : tag.length ≤ 2097152) :
    Calls Try.prog 28 #[.slice a1 tag.length c1, .slice a2 b.length c2] w (PS w (ts tag b)) := by
  refine tshape_walk b (un (hv tag)).1 (un (hv tag)).2.1 (un (hv tag)).2.2 (ts tag b) rfl a1 a2 _ c1 _ c2 w ?_ h2 (fun wx hb => ?_)
  · rcases un_or' tag with ⟨p, l, e, _⟩ | e
    · rw [e]; exact .inl rfl
    · rw [e]; exact .inr rfl
  · obtain ⟨ao, cap, e, _, hv⟩ := Sl_below h1 hb
    injection e with e1 _ _
    exact untag_sl tag a1 c1 wx hn (by rw [e1]; exact hv)
end Rs
end Go.Proofs.Ytcgimjlmihaegaa
/- A region that draws its order: some values stand fast whatever the order (class 0), some hang on when they come (class 1: new blocks), and the rest come behind all these, one behind the other (class 2). -/
namespace Go.Proofs.Ytcgimjlmihaegaa
namespace RG
open RI RS RN Go.RowKit
variable {P : Program} {ops : Array Oper} {Q : Exit → Act → World → Prop}
def cls (ks : List Nat) (j : Nat) : Nat := ks.getD j 2
def updU (U : Nat → Value) (i : Nat) (v : Value) : Nat → Value := fun j => if j = i then v else U j
/-- A step of class 0. -/
def DStep (P : Program) (ops : Array Oper) (I : (Nat → Bool) → (Nat → Value) → World → Prop) (i : Nat) (o : Oper) (v : Value) (a : Act) : Prop :=
  (Region.wanted o (yielded ops a.tmps) = true ∧ ∀ (K : Value → World → Prop) d U w, I d U w → may ops d i → (∀ w', I (don d i) U w' → K v w') → upv P K ((execOp a.eval o).run P w)) ∨
  (Region.wanted o (yielded ops a.tmps) = false ∧ v = undef ∧ ∀ d U w, I d U w → may ops d i → I (don d i) U w)
/-- A step of class 1. -/
def NStep (P : Program) (ops : Array Oper) (I : (Nat → Bool) → (Nat → Value) → World → Prop) (j : Nat) (o : Oper) (a : Act) : Prop :=
  ∀ (K : Value → World → Prop) d U w, I d U w → may ops d j → (∀ v w', I (don d j) (updU U j v) w' → K v w') → upv P K ((execOp a.eval o).run P w)
/-- The walk in the text's order: class 0 by its value, class 1 by its fact. -/
def Walk (P : Program) (ops : Array Oper) (I : (Nat → Bool) → (Nat → Value) → World → Prop) (E : Act → Prop) : Nat → List Oper → List Nat → Act → Prop
  | j, o :: r, k :: ks, a =>
    if k = 0 then ∃ v, DStep P ops I j o v a ∧ Walk P ops I E (j + 1) r ks (a.put o.dst v)
    else if k = 1 then o.guard = none ∧ NStep P ops I j o a ∧ Walk P ops I E (j + 1) r ks a
    else Walk P ops I E (j + 1) r ks a
  | _, _, _, a => E a
def tl : List Oper → List Nat → List Oper
  | o :: r, k :: ks => if k = 2 then o :: tl r ks else tl r ks
  | _, _ => []
def putN (U : Nat → Value) : Nat → List Oper → List Nat → Act → Act
  | j, o :: r, k :: ks, a => if k = 1 then putN U (j + 1) r ks (a.put o.dst (U j)) else putN U (j + 1) r ks a
  | _, _, _, a => a
/-- What each operation is bound to, through others too, as bits. -/
def mask1 (ms : List Nat) (o : Oper) : Nat := o.after.toList.foldl (fun m e => if Region.binds .any e then m ||| (1 <<< e.on) ||| ms.getD e.on 0 else m) 0
def masks (ops : Array Oper) : Nat → List Nat
  | 0 => []
  | k + 1 => masks ops k ++ [((ops[k]?).map (mask1 (masks ops k))).getD 0]
def pairC (ops : Array Oper) (ks : List Nat) (i j : Nat) : Bool :=
  match ops[i]?, ops[j]? with
  | some x, some y =>
    match y.dst with
    | none => true
    | some t =>
      if cls ks i = 2 then true
      else if cls ks j = 2 then true
      else (x.dst != some t || i == j) && (if cls ks j = 1 then !(x.looksAt ops).contains t else (!(x.looksAt ops).contains t || (decide (j < i) && bindsOn x j) || (decide (i < j) && bindsOn y i)))
  | _, _ => true
def okC (ops : Array Oper) (ks : List Nat) : Bool :=
  RI.early ops && decide (ks.length = ops.size) && (List.range ops.size).all fun i =>
    (((ops[i]?).map fun o => !isSel o.op).getD true && decide (cls ks i ≤ 2)) && (List.range ops.size).all (fun j => pairC ops ks i j) &&
    (if cls ks i = 2 then (List.range ops.size).all fun j => (decide (cls ks j = 2) && decide (i ≤ j)) || ((masks ops ops.size).getD i 0).testBit j else true)
theorem masks_len (ops : Array Oper) : ∀ k, (masks ops k).length = k
  | 0 => rfl
  | k + 1 => by rw [masks, List.length_append, masks_len ops k]; rfl
theorem masks_get (ops : Array Oper) : ∀ n k, k < n → (masks ops n).getD k 0 = ((ops[k]?).map (mask1 (masks ops k))).getD 0
  | 0, k, h => absurd h (by omega)
  | n + 1, k, h => by
    rw [masks]
    by_cases e : k = n
    · subst e
      rw [List.getD_eq_getElem?_getD, List.getElem?_append_right (by rw [masks_len]; omega), masks_len]
      simp
    · rw [List.getD_eq_getElem?_getD, List.getElem?_append_left (by rw [masks_len]; omega), ← List.getD_eq_getElem?_getD]
      exact masks_get ops n k (by omega)
def Closed (ops : Array Oper) (d : Nat → Bool) : Prop := ∀ (j : Nat) (o : Oper), ops[j]? = some o → d j = true → ∀ e, e ∈ o.after → Region.binds .any e = true → d e.on = true
theorem mask1_bit (ms : List Nat) (o : Oper) (i : Nat) (h : (mask1 ms o).testBit i = true) : ∃ e, e ∈ o.after ∧ Region.binds .any e = true ∧ (e.on = i ∨ (ms.getD e.on 0).testBit i = true) := by
  unfold mask1 at h
  have key : ∀ (l : List Edge) (m : Nat), (l.foldl (fun m e => if Region.binds .any e then m ||| (1 <<< e.on) ||| ms.getD e.on 0 else m) m).testBit i = true → m.testBit i = true ∨ ∃ e, e ∈ l ∧ Region.binds .any e = true ∧ (e.on = i ∨ (ms.getD e.on 0).testBit i = true) := by
    intro l
    induction l with
    | nil => intro m h; exact .inl h
    | cons e r ih =>
      intro m h
      rw [List.foldl_cons] at h
      rcases ih _ h with h1 | ⟨e', h1, h2⟩
      · by_cases hb : Region.binds .any e = true
        · rw [if_pos hb, Nat.testBit_or, Nat.testBit_or, Bool.or_eq_true, Bool.or_eq_true] at h1
          rcases h1 with (h1 | h1) | h1
          · exact .inl h1
          · refine .inr ⟨e, List.mem_cons_self .., hb, .inl ?_⟩
            rw [Nat.one_shiftLeft, Nat.testBit_two_pow] at h1
            simpa using h1
          · exact .inr ⟨e, List.mem_cons_self .., hb, .inr h1⟩
        · rw [if_neg hb] at h1; exact .inl h1
      · exact .inr ⟨e', List.mem_cons_of_mem _ h1, h2⟩
  rcases key _ 0 h with h1 | ⟨e, h1, h2⟩
  · rw [Nat.zero_testBit] at h1; cases h1
  · exact ⟨e, by simpa using h1, h2⟩
theorem mask_done (he : RI.early ops = true) (d : Nat → Bool) (hcl : Closed ops d) : ∀ (n j : Nat), j < n → n ≤ ops.size → (∀ o, ops[j]? = some o → ∀ e, e ∈ o.after → Region.binds .any e = true → d e.on = true) → ∀ i, (((ops[j]?).map (mask1 (masks ops j))).getD 0).testBit i = true → d i = true
  | 0, j, h, _, _, _, _ => absurd h (by omega)
  | n + 1, j, hj, hn, hd, i, h => by
    have hjs : j < ops.size := by omega
    rw [Array.getElem?_eq_getElem hjs] at h
    simp only [Option.map_some, Option.getD_some] at h
    obtain ⟨e, h1, h2, h3⟩ := mask1_bit _ _ _ h
    have h4 := hd _ (Array.getElem?_eq_getElem hjs) e h1 h2
    rcases h3 with rfl | h3
    · exact h4
    · have hlt : e.on < j := by
        have h5 := List.all_eq_true.1 he j (List.mem_range.2 hjs)
        rw [Array.getElem?_eq_getElem hjs] at h5
        simp only [Option.map_some, Option.getD_some, Array.all_eq_true_iff_forall_mem] at h5
        have := h5 e h1
        rw [h2] at this
        simpa using this
      rw [masks_get ops j e.on hlt] at h3
      exact mask_done he d hcl n e.on (by omega) (by omega) (fun o ho => hcl e.on o ho h4) i h3
theorem fr_get2 (V : Nat → Value) (a : Act) (d c : Nat → Bool) (i t : Nat) : ∀ k, (∀ j, j < k → (ops[j]?).bind (·.dst) = some t → (j < i ∧ d j = true ∧ c j = true) ∨ (d j = false ∧ (c j = false ∨ i ≤ j))) → (fr ops V d a k).tmps[t]? = (fr ops V c a (min k i)).tmps[t]?
  | 0, _ => by simp [fr]
  | k + 1, h => by
    have ih := fr_get2 V a d c i t k (fun j hj => h j (by omega))
    have hk := h k (by omega)
    by_cases hi : k < i
    · rw [show min (k + 1) i = k + 1 by omega, fr, fr]
      rw [show min k i = k by omega] at ih
      by_cases e : (ops[k]?).bind (·.dst) = some t
      · rcases hk e with ⟨_, h2, h3⟩ | ⟨h1, h2 | h2⟩
        · rw [h2, h3]; simp only [if_true]; rw [put_get, put_get]; simp only [get_size ih, ih]
        · rw [h1, h2]; exact ih
        · omega
      · have q : ∀ (x : Act) (b : Bool), (if b then x.put ((ops[k]?).bind (·.dst)) (V k) else x).tmps[t]? = x.tmps[t]? := by
          intro x b; cases b
          · rfl
          · simp only [if_true]; rw [put_get, if_neg e]
        rw [q, q, ih]
    · rw [show min (k + 1) i = i by omega, fr]
      rw [show min k i = i by omega] at ih
      by_cases e : (ops[k]?).bind (·.dst) = some t
      · rcases hk e with ⟨h1, _⟩ | ⟨h2, _⟩
        · omega
        · rw [h2]; exact ih
      · cases d k
        · exact ih
        · simp only [if_true]; rw [put_get, if_neg e]; exact ih
theorem fr_put2 (V : Nat → Value) (a : Act) (d : Nat → Bool) (i : Nat) (hd : d i = false) : ∀ k, (∀ j, j < k → d j = true → ∀ t, (ops[i]?).bind (·.dst) = some t → (ops[j]?).bind (·.dst) ≠ some t) →
    fr ops V (don d i) a k = if i < k then (fr ops V d a k).put ((ops[i]?).bind (·.dst)) (V i) else fr ops V d a k
  | 0, _ => by simp [fr]
  | k + 1, h => by
    have ih := fr_put2 V a d i hd k (fun j hj => h j (by omega))
    rw [fr, fr]
    by_cases e : k = i
    · subst e
      rw [don_same, hd, ih, if_neg (show ¬ k < k by omega), if_pos (show k < k + 1 by omega)]
      simp
    · rw [don_other _ _ _ e, ih]
      by_cases h1 : i < k
      · rw [if_pos h1, if_pos (show i < k + 1 by omega)]
        cases hk : d k with
        | false => simp
        | true =>
          simp only [if_true]
          exact Act.put_comm _ _ _ (fun t ht => h k (by omega) hk t ht)
      · rw [if_neg h1, if_neg (show ¬ i < k + 1 by omega)]
def isD (ks : List Nat) (j : Nat) : Bool := cls ks j == 0
/-- What the walk gives. -/
theorem walk_vals {I : (Nat → Bool) → (Nat → Value) → World → Prop} {E : Act → Prop} (ks : List Nat) (a : Act) : ∀ (l : List Oper) (k : List Nat) (m : Nat) (V : Nat → Value), l.length = k.length → (∀ j o, l[j]? = some o → ops[m + j]? = some o) → (∀ j c, k[j]? = some c → cls ks (m + j) = c) → Walk P ops I E m l k (fr ops V (isD ks) a m) →
    ∃ V', (∀ j, j < m → V' j = V j) ∧ (∀ j o, l[j]? = some o → cls ks (m + j) = 0 → DStep P ops I (m + j) o (V' (m + j)) (fr ops V' (isD ks) a (m + j))) ∧ (∀ j o, l[j]? = some o → cls ks (m + j) = 1 → o.guard = none ∧ NStep P ops I (m + j) o (fr ops V' (isD ks) a (m + j))) ∧ E (fr ops V' (isD ks) a (m + l.length))
  | [], k, m, V, _, _, _, h => ⟨V, fun _ _ => rfl, fun j o hj => by simp at hj, fun j o hj => by simp at hj, by cases k <;> simpa [Walk] using h⟩
  | o :: r, [], m, V, hl, _, _, h => absurd hl (by simp)
  | o :: r, c :: k, m, V, hlen, hl, hc, h => by
    have hkm : ops[m]? = some o := by simpa using hl 0 o rfl
    have hcm : cls ks m = c := by simpa using hc 0 c rfl
    have frV : ∀ V1 V2 : Nat → Value, ∀ n, (∀ j, j < n → V1 j = V2 j) → fr ops V1 (isD ks) a n = fr ops V2 (isD ks) a n := fun V1 V2 n hv => fr_V a (isD ks) V1 V2 n (fun j hj _ => hv j hj)
    have hl' : ∀ j o', r[j]? = some o' → ops[m + 1 + j]? = some o' := fun j o' hj => by have := hl (j + 1) o' (by simpa using hj); rwa [show m + (j + 1) = m + 1 + j by omega] at this
    have hc' : ∀ j c', k[j]? = some c' → cls ks (m + 1 + j) = c' := fun j c' hj => by have := hc (j + 1) c' (by simpa using hj); rwa [show m + (j + 1) = m + 1 + j by omega] at this
    unfold Walk at h
    by_cases h0 : c = 0
    · rw [if_pos h0] at h
      obtain ⟨v, h1, h2⟩ := h
      let W : Nat → Value := fun j => if j = m then v else V j
      have hW : fr ops W (isD ks) a (m + 1) = (fr ops V (isD ks) a m).put o.dst v := by
        rw [fr, frV W V m (fun j hj => by simp only [W]; rw [if_neg (by omega)])]
        simp [isD, hcm, h0, hkm, W]
      rw [← hW] at h2
      obtain ⟨V', e1, e2, e3, e4⟩ := walk_vals ks a r k (m + 1) W (by simpa using hlen) hl' hc' h2
      have eV : fr ops V' (isD ks) a m = fr ops V (isD ks) a m := frV V' V m (fun j hj => by rw [e1 j (by omega)]; simp only [W]; rw [if_neg (by omega)])
      refine ⟨V', fun j hj => ?_, fun j o' hj hcj => ?_, fun j o' hj hcj => ?_, ?_⟩
      · rw [e1 j (by omega)]; simp only [W]; rw [if_neg (by omega)]
      · cases j with
        | zero =>
          have : o' = o := by simpa using hj.symm
          subst this
          rw [Nat.add_zero, e1 m (by omega), eV]
          simpa [W] using h1
        | succ j => rw [show m + (j + 1) = m + 1 + j by omega] at hcj ⊢; exact e2 j o' (by simpa using hj) hcj
      · cases j with
        | zero => rw [Nat.add_zero, hcm, h0] at hcj; exact absurd hcj (by decide)
        | succ j => rw [show m + (j + 1) = m + 1 + j by omega] at hcj ⊢; exact e3 j o' (by simpa using hj) hcj
      · rw [show m + (o :: r).length = m + 1 + r.length by simp; omega]; exact e4
    · rw [if_neg h0] at h
      have hskip : fr ops V (isD ks) a (m + 1) = fr ops V (isD ks) a m := by
        rw [fr]; simp [isD, hcm, h0]
      by_cases h1 : c = 1
      · rw [if_pos h1] at h
        obtain ⟨hg, hn, h2⟩ := h
        rw [← hskip] at h2
        obtain ⟨V', e1, e2, e3, e4⟩ := walk_vals ks a r k (m + 1) V (by simpa using hlen) hl' hc' h2
        have eV : fr ops V' (isD ks) a m = fr ops V (isD ks) a m := frV V' V m (fun j hj => e1 j (by omega))
        refine ⟨V', fun j hj => e1 j (by omega), fun j o' hj hcj => ?_, fun j o' hj hcj => ?_, ?_⟩
        · cases j with
          | zero => rw [Nat.add_zero, hcm] at hcj; exact absurd hcj h0
          | succ j => rw [show m + (j + 1) = m + 1 + j by omega] at hcj ⊢; exact e2 j o' (by simpa using hj) hcj
        · cases j with
          | zero =>
            have : o' = o := by simpa using hj.symm
            subst this
            rw [Nat.add_zero, eV]
            exact ⟨hg, hn⟩
          | succ j => rw [show m + (j + 1) = m + 1 + j by omega] at hcj ⊢; exact e3 j o' (by simpa using hj) hcj
        · rw [show m + (o :: r).length = m + 1 + r.length by simp; omega]; exact e4
      · rw [if_neg h1] at h
        rw [← hskip] at h
        obtain ⟨V', e1, e2, e3, e4⟩ := walk_vals ks a r k (m + 1) V (by simpa using hlen) hl' hc' h
        refine ⟨V', fun j hj => e1 j (by omega), fun j o' hj hcj => ?_, fun j o' hj hcj => ?_, ?_⟩
        · cases j with
          | zero => rw [Nat.add_zero, hcm] at hcj; exact absurd hcj h0
          | succ j => rw [show m + (j + 1) = m + 1 + j by omega] at hcj ⊢; exact e2 j o' (by simpa using hj) hcj
        · cases j with
          | zero => rw [Nat.add_zero, hcm] at hcj; exact absurd hcj h1
          | succ j => rw [show m + (j + 1) = m + 1 + j by omega] at hcj ⊢; exact e3 j o' (by simpa using hj) hcj
        · rw [show m + (o :: r).length = m + 1 + r.length by simp; omega]; exact e4
/-- The value of each that is not of class 2. -/
def VU (ks : List Nat) (V U : Nat → Value) (j : Nat) : Value := if cls ks j = 1 then U j else V j
def isDN (ks : List Nat) (j : Nat) : Bool := cls ks j == 0 || cls ks j == 1
theorem tl_skip : ∀ (l : List Oper) (ks : List Nat) (m n : Nat), m ≤ n → (∀ j, m ≤ j → j < n → ks.getD j 2 ≠ 2) → n ≤ ks.length → l.length = ks.length → tl (l.drop m) (ks.drop m) = tl (l.drop n) (ks.drop n) := by
  intro l ks m n hmn h hn hl
  induction n with
  | zero => have : m = 0 := by omega
            subst this; rfl
  | succ n ih =>
    by_cases e : m = n + 1
    · subst e; rfl
    · rw [ih (by omega) (fun j h1 h2 => h j h1 (by omega)) (by omega)]
      have hk : n < ks.length := by omega
      have hl' : n < l.length := by omega
      rw [List.drop_eq_getElem_cons hl', List.drop_eq_getElem_cons hk, tl, if_neg]
      have := h n (by omega) (by omega)
      rwa [List.getD_eq_getElem?_getD, List.getElem?_eq_getElem hk] at this
theorem tl_here (l : List Oper) (ks : List Nat) (n : Nat) (hl : n < l.length) (hk : n < ks.length) (h : ks.getD n 2 = 2) : tl (l.drop n) (ks.drop n) = l[n] :: tl (l.drop (n + 1)) (ks.drop (n + 1)) := by
  rw [List.drop_eq_getElem_cons hl, List.drop_eq_getElem_cons hk, tl, if_pos]
  rwa [List.getD_eq_getElem?_getD, List.getElem?_eq_getElem hk] at h
theorem wp_region_genI {id : Nat} {a : Act} {w : World} (I : (Nat → Bool) → (Nat → Value) → World → Prop) (ks : List Nat)
    (hm : P.follows .mixedOrders = true) (hok : okC ops ks = true) (h0 : I (fun _ => false) (fun _ => undef) w.drew)
    (hs : Walk P ops I (fun a' => ∀ d (U : Nat → Value) w', I d U w' → (∀ j, j < ops.size → d j = decide (cls ks j ≠ 2)) → wpList P ops Q (tl ops.toList ks) (putN U 0 ops.toList ks a') w') 0 ops.toList ks a) : (Code.region id ops true).wp P Q a w := by
  have hok' := hok
  unfold okC at hok'
  rw [Bool.and_eq_true, Bool.and_eq_true] at hok'
  obtain ⟨⟨he, hlen0⟩, hp⟩ := hok'
  have hlen : ks.length = ops.size := by simpa using hlen0
  have hcget : ∀ j c, ks[j]? = some c → cls ks j = c := fun j c h => by unfold cls; rw [List.getD_eq_getElem?_getD, h]; rfl
  have hgetc : ∀ j c, j < ops.size → cls ks j = c → ks[j]? = some c := fun j c hj h => by
    unfold cls at h
    rw [List.getD_eq_getElem?_getD, List.getElem?_eq_getElem (by omega)] at h
    rw [List.getElem?_eq_getElem (by omega)]
    simpa using h
  obtain ⟨V, _, hstD, hstN, hE⟩ := walk_vals (P := P) (ops := ops) ks a ops.toList ks 0 (fun _ => undef) (by simp [hlen]) (fun j o hj => by simpa using hj) (fun j c hj => by rw [Nat.zero_add]; exact hcget j c hj) hs
  simp only [Nat.zero_add] at hstD hstN hE
  rw [show ops.toList.length = ops.size by simp] at hE
  have hrow : ∀ i, i < ops.size → ((ops[i]?).map fun o => !isSel o.op).getD true = true ∧ (∀ j, j < ops.size → pairC ops ks i j = true) ∧ (cls ks i = 2 → ∀ j, j < ops.size → (cls ks j = 2 ∧ i ≤ j) ∨ ((masks ops ops.size).getD i 0).testBit j = true) := by
    intro i hi
    have h1 := List.all_eq_true.1 hp i (List.mem_range.2 hi)
    rw [Bool.and_eq_true, Bool.and_eq_true, Bool.and_eq_true] at h1
    refine ⟨h1.1.1.1, fun j hj => List.all_eq_true.1 h1.1.2 j (List.mem_range.2 hj), fun hc j hj => ?_⟩
    have h2 := h1.2
    rw [if_pos hc] at h2
    have h3 := List.all_eq_true.1 h2 j (List.mem_range.2 hj)
    rw [Bool.or_eq_true, Bool.and_eq_true, decide_eq_true_eq, decide_eq_true_eq] at h3
    exact h3
  have hthree : ∀ i, i < ops.size → cls ks i ≤ 2 := by
    intro i hi
    have h1 := List.all_eq_true.1 hp i (List.mem_range.2 hi)
    rw [Bool.and_eq_true, Bool.and_eq_true, Bool.and_eq_true] at h1
    simpa using h1.1.1.2
  have pair : ∀ (i j : Nat) (x y : Oper) (t : Nat), ops[i]? = some x → ops[j]? = some y → cls ks i ≠ 2 → cls ks j ≠ 2 → y.dst = some t → (x.dst = some t → i = j) ∧ (t ∈ x.looksAt ops → cls ks j ≠ 1 ∧ ((j < i ∧ bindsOn x j = true) ∨ (i < j ∧ bindsOn y i = true))) := by
    intro i j x y t hx hy hci hcj ht
    have hi : i < ops.size := (Array.getElem?_eq_some_iff.1 hx).1
    have hj : j < ops.size := (Array.getElem?_eq_some_iff.1 hy).1
    have h2 := (hrow i hi).2.1 j hj
    unfold pairC at h2
    simp only [hx, hy, ht, if_neg hci, if_neg hcj] at h2
    rw [Bool.and_eq_true] at h2
    refine ⟨fun e => ?_, fun hm => ?_⟩
    · have := h2.1
      rw [e] at this
      simpa using this
    · have h3 := h2.2
      by_cases hc1 : cls ks j = 1
      · rw [if_pos hc1] at h3
        simp at h3
        exact absurd hm h3
      · rw [if_neg hc1] at h3
        simp at h3
        refine ⟨hc1, ?_⟩
        rcases h3 with (h | h) | h
        · exact absurd hm h
        · exact .inl h
        · exact .inr h
  have nosel : ∀ (i : Nat) (x : Oper) cs b, ops[i]? = some x → x.op ≠ .select cs b := by
    intro i x cs b hx hc
    have hi : i < ops.size := (Array.getElem?_eq_some_iff.1 hx).1
    have h1 := (hrow i hi).1
    rw [hx] at h1
    simp [hc, isSel] at h1
  have deps : ∀ (d : Nat → Bool) (i : Nat) (o : Oper), may ops d i → ops[i]? = some o → ∀ e, e ∈ o.after → Region.binds .any e = true → d e.on = true := by
    intro d i o hmay ho e h1 h2
    have := hmay.2 o ho
    rw [Array.all_eq_true_iff_forall_mem] at this
    have := this e h1
    rw [h2] at this
    simpa using this
  have tailb : ∀ (d : Nat → Bool) (i : Nat), Closed ops d → cls ks i = 2 → i < ops.size → may ops d i → ∀ j, j < ops.size → (cls ks j ≠ 2 ∨ j < i) → d j = true := by
    intro d i hcl hc hi hmay j hj hor
    rcases (hrow i hi).2.2 hc j hj with ⟨h1, h2⟩ | h
    · rcases hor with h3 | h3
      · exact absurd h1 h3
      · omega
    · rw [masks_get ops ops.size i hi] at h
      exact mask_done he d hcl ops.size i hi (Nat.le_refl _) (fun o ho => deps d i o hmay ho) j h
  let J1 : (Nat → Bool) → Act → World → Prop := fun d x wx => ∃ U : Nat → Value, x = fr ops (VU ks V U) d a ops.size ∧ I d U wx ∧ Closed ops d ∧ (∀ j, cls ks j = 2 → d j = false) ∧ ∃ j, j < ops.size ∧ cls ks j ≠ 2 ∧ d j = false
  let J2 : (Nat → Bool) → Act → World → Prop := fun d x wx => ∃ m, m ≤ ops.size ∧ Closed ops d ∧ (∀ j, j < ops.size → d j = (decide (cls ks j ≠ 2) || decide (j < m))) ∧ wpList P ops Q (tl (ops.toList.drop m) (ks.drop m)) x wx
  have putfr : ∀ (U : Nat → Value) (m : Nat), m ≤ ops.size → putN U m (ops.toList.drop m) (ks.drop m) (fr ops (VU ks V U) (fun j => isD ks j || (cls ks j == 1 && decide (j < m))) a ops.size) = fr ops (VU ks V U) (isDN ks) a ops.size := by
    intro U m hm
    obtain ⟨k, hk⟩ : ∃ k, m + k = ops.size := ⟨ops.size - m, by omega⟩
    induction k generalizing m with
    | zero =>
      have : m = ops.size := by omega
      subst this
      rw [List.drop_eq_nil_of_le (by simp), putN.eq_def]
      simp only
      exact fr_congr _ a _ _ ops.size (fun j hj => by unfold isD isDN; rw [decide_eq_true hj, Bool.and_true])
    | succ k ih =>
      have hml : m < ops.size := by omega
      have hl' : m < ops.toList.length := by simpa using hml
      have hk' : m < ks.length := by omega
      rw [List.drop_eq_getElem_cons hl', List.drop_eq_getElem_cons hk', putN]
      have hcm : cls ks m = ks[m] := by unfold cls; rw [List.getD_eq_getElem?_getD, List.getElem?_eq_getElem hk']; rfl
      have hom : ops[m]? = some ops.toList[m] := by rw [Array.getElem?_eq_getElem hml]; simp
      by_cases h1 : ks[m] = 1
      · rw [if_pos h1]
        have hd0 : (isD ks m || (cls ks m == 1 && decide (m < m))) = false := by
          simp [isD, hcm, h1]
        have e1 : (fun j => isD ks j || (cls ks j == 1 && decide (j < m + 1))) = don (fun j => isD ks j || (cls ks j == 1 && decide (j < m))) m := by
          funext j
          by_cases hj : j = m
          · subst hj; rw [don_same]; simp [hcm, h1]
          · rw [don_other _ _ _ hj]
            rw [show decide (j < m + 1) = decide (j < m) by rw [decide_eq_decide]; omega]
        have e2 := fr_put2 (ops := ops) (VU ks V U) a (fun j => isD ks j || (cls ks j == 1 && decide (j < m))) m hd0 ops.size (fun j hj hdj t ht hjt => by
          obtain ⟨y, hy⟩ : ∃ y, ops[j]? = some y := ⟨ops[j], Array.getElem?_eq_getElem hj⟩
          rw [hy] at hjt
          rw [hom] at ht
          have hcj : cls ks j ≠ 2 := by
            intro h2
            rw [show ((isD ks j || (cls ks j == 1 && decide (j < m))) = false) by simp [isD, h2]] at hdj
            cases hdj
          have := (pair m j _ y t hom hy (by rw [hcm, h1]; decide) hcj hjt).1 ht
          subst this
          rw [hd0] at hdj; cases hdj)
        rw [if_pos hml] at e2
        have hV : VU ks V U m = U m := by unfold VU; rw [if_pos (by rw [hcm, h1])]
        rw [← ih (m + 1) (by omega) (by omega), e1, e2, hV, hom]
        rfl
      · rw [if_neg h1, ← ih (m + 1) (by omega) (by omega)]
        congr 1
        refine fr_congr _ a _ _ ops.size (fun j _ => ?_)
        by_cases hj : j = m
        · subst hj
          have : (cls ks j == 1) = false := by rw [hcm]; simpa using h1
          rw [this, Bool.false_and, Bool.false_and]
        · rw [show decide (j < m + 1) = decide (j < m) by rw [decide_eq_decide]; omega]
  have enter : ∀ d x wx (U : Nat → Value), x = fr ops (VU ks V U) d a ops.size → I d U wx → Closed ops d → (∀ j, cls ks j = 2 → d j = false) → (∀ j, j < ops.size → cls ks j ≠ 2 → d j = true) → J2 d x wx := by
    intro d x wx U hx hIw hcl hf htr
    have hdd : ∀ j, j < ops.size → d j = decide (cls ks j ≠ 2) := fun j hj => by
      by_cases hc : cls ks j = 2
      · rw [hf j hc, hc]; simp
      · rw [htr j hj hc]; simp [hc]
    refine ⟨0, Nat.zero_le _, hcl, fun j hj => ?_, ?_⟩
    · by_cases hc : cls ks j = 2
      · rw [hf j hc, hc]; simp
      · rw [htr j hj hc]; simp [hc]
    · have h1 := hE d U wx hIw hdd
      have h2 := putfr U 0 (Nat.zero_le _)
      rw [List.drop_zero, List.drop_zero] at h2 ⊢
      have h3 : fr ops V (isD ks) a ops.size = fr ops (VU ks V U) (fun j => isD ks j || (cls ks j == 1 && decide (j < 0))) a ops.size := by
        rw [fr_congr (VU ks V U) a _ (isD ks) ops.size (fun j _ => by simp)]
        refine fr_V a (isD ks) V (VU ks V U) ops.size (fun j _ hd => ?_)
        unfold VU
        rw [if_neg]
        intro h
        unfold isD at hd
        rw [h] at hd
        cases hd
      rw [h3, h2] at h1
      rw [hx, fr_congr (VU ks V U) a d (isDN ks) ops.size (fun j hj => ?_)]
      · exact h1
      · by_cases hc : cls ks j = 2
        · rw [hf j hc]; simp [isDN, hc]
        · rw [htr j hj hc]
          unfold isDN
          have h3c := hthree j hj
          by_cases h0c : cls ks j = 0
          · simp [h0c]
          · by_cases h1c : cls ks j = 1
            · simp [h1c]
            · omega
  refine wp_region_inv (fun d x wx => J1 d x wx ∨ J2 d x wx) hm he ?_ ?_ ?_
  · have hz : ∀ V', fr ops V' (fun _ => false) a ops.size = a := by
      intro V'
      have : ∀ k, fr ops V' (fun _ => false) a k = a := by
        intro k
        induction k with
        | zero => rfl
        | succ k ih => rw [fr, ih]; simp
      exact this _
    have hcl0 : Closed ops (fun _ => false) := fun _ _ _ h => by cases h
    by_cases hall : ∀ j, j < ops.size → cls ks j = 2
    · exact .inr (enter _ _ _ (fun _ => undef) (hz _).symm h0 hcl0 (fun _ _ => rfl) (fun j hj h => absurd (hall j hj) h))
    · rw [Classical.not_forall] at hall
      obtain ⟨j, hj⟩ := hall
      rw [Classical.not_imp] at hj
      exact .inl ⟨fun _ => undef, (hz _).symm, h0, hcl0, (fun _ _ => rfl), j, hj.1, hj.2, rfl⟩
  · rintro d x wx i (⟨U, rfl, hI, hcl, hfz, j0, hj0, hcj0, hdj0⟩ | ⟨m, hm', hcl, hd, hw⟩) hi hmay
    · have hci : cls ks i ≠ 2 := by
        intro h
        have := tailb d i hcl h hi hmay j0 hj0 (.inl hcj0)
        rw [hdj0] at this; cases this
      obtain ⟨o, ho⟩ : ∃ o, ops[i]? = some o := ⟨ops[i], Array.getElem?_eq_getElem hi⟩
      have hdeps := deps d i o hmay ho
      have hput : ∀ (V' : Nat → Value) v, v = V' i → (fr ops V' d a ops.size).put o.dst v = fr ops V' (don d i) a ops.size := by
        rintro V' v rfl
        rw [fr_put2 V' a d i hmay.1 ops.size (fun j hj hdj t ht => fun hjt => ?_), if_pos hi, ho]
        · rfl
        · obtain ⟨y, hy⟩ : ∃ y, ops[j]? = some y := ⟨ops[j], Array.getElem?_eq_getElem hj⟩
          rw [hy] at hjt
          rw [ho] at ht
          have hcj : cls ks j ≠ 2 := by intro h; rw [hfz j h] at hdj; cases hdj
          have := (pair i j o y t ho hy hci hcj hjt).1 ht
          subst this
          rw [hmay.1] at hdj; cases hdj
      have hclo : Closed ops (don d i) := by
        intro j o' hj hdj e e1 e2
        have : d e.on = true := by
          by_cases hji : j = i
          · subst hji
            rw [ho] at hj
            cases hj
            exact hdeps e e1 e2
          · rw [don_other _ _ _ hji] at hdj
            exact hcl j o' hj hdj e e1 e2
        unfold don; split
        · rfl
        · exact this
      have hnext : ∀ (U' : Nat → Value) x w', x = fr ops (VU ks V U') (don d i) a ops.size → I (don d i) U' w' → J1 (don d i) x w' ∨ J2 (don d i) x w' := by
        intro U' x w' hx hI'
        have hf' : ∀ j, cls ks j = 2 → don d i j = false := fun j hj => by
          have hji : j ≠ i := by intro e; subst e; exact hci hj
          rw [don_other _ _ _ hji]; exact hfz j hj
        by_cases hall : ∀ j, j < ops.size → cls ks j ≠ 2 → don d i j = true
        · exact .inr (enter _ _ _ U' hx hI' hclo hf' hall)
        · refine .inl ⟨U', hx, hI', hclo, hf', ?_⟩
          rw [Classical.not_forall] at hall
          obtain ⟨j, hj⟩ := hall
          rw [Classical.not_imp, Classical.not_imp] at hj
          exact ⟨j, hj.1, hj.2.1, by simpa using hj.2.2⟩
      have hsame : ∀ t, t ∈ o.looksAt ops → (fr ops (VU ks V U) d a ops.size).tmps[t]? = (fr ops V (isD ks) a i).tmps[t]? := by
        intro t ht
        have := fr_get2 (ops := ops) (VU ks V U) a d (isD ks) i t ops.size (fun j hj hjt => by
          obtain ⟨y, hy⟩ : ∃ y, ops[j]? = some y := ⟨ops[j], Array.getElem?_eq_getElem hj⟩
          rw [hy] at hjt
          by_cases hc2 : cls ks j = 2
          · exact .inr ⟨hfz j hc2, .inl (by simp [isD, hc2])⟩
          · obtain ⟨hc1, hb⟩ := (pair i j o y t ho hy hci hc2 hjt).2 ht
            have hc0 : cls ks j = 0 := by have := hthree j hj; omega
            rcases hb with ⟨h1, h2⟩ | ⟨h1, h2⟩
            · obtain ⟨e, e1, e2, e3⟩ := bindsOn_spec h2
              exact .inl ⟨h1, e3 ▸ hdeps e e1 e2, by simp [isD, hc0]⟩
            · refine .inr ⟨?_, .inr (by omega)⟩
              cases hdj : d j with
              | false => rfl
              | true =>
                obtain ⟨e, e1, e2, e3⟩ := bindsOn_spec h2
                have := hcl j y hy hdj e e1 e2
                rw [e3, hmay.1] at this; cases this)
        rw [this, show min ops.size i = i by omega, fr_V a (isD ks) (VU ks V U) V i (fun j hj hdj => by
          unfold VU
          rw [if_neg]
          intro h
          unfold isD at hdj
          rw [h] at hdj
          cases hdj)]
      have hex : execOp (fr ops (VU ks V U) d a ops.size).eval o = execOp (fr ops V (isD ks) a i).eval o := by
        refine execOp_congr o (fun cs b => nosel i o cs b ho) (fun x hx => ?_)
        cases x with
        | tmp t => exact eval_get (hsame t (mem_looks hx))
        | _ => rfl
      have hwa := wanted_get hsame
      by_cases hc0 : cls ks i = 0
      · have hVi : V i = VU ks V U i := by unfold VU; rw [if_neg (by omega)]
        unfold wpOp
        rw [ho]
        simp only
        rcases hstD i o (by simpa using ho) hc0 with ⟨h1, h2⟩ | ⟨h1, h2, h3⟩
        · rw [hwa, h1, if_pos rfl]
          refine .inl ?_
          unfold Oper.wp
          rw [hex]
          exact upv_upon (h2 _ d U wx hI hmay (fun w' hI' => hnext U _ _ (hput _ _ hVi) hI'))
        · rw [hwa, h1]
          simp only [Bool.false_eq_true, if_false]
          exact hnext U _ _ (hput _ _ (h2.symm.trans hVi)) (h3 d U wx hI hmay)
      · have hc1 : cls ks i = 1 := by have := hthree i hi; omega
        obtain ⟨hg, hrun⟩ := hstN i o (by simpa using ho) hc1
        unfold wpOp
        rw [ho]
        simp only
        rw [if_pos (show Region.wanted o (yielded ops (fr ops (VU ks V U) d a ops.size).tmps) = true by simp [Region.wanted, hg])]
        refine .inl ?_
        unfold Oper.wp
        rw [hex]
        refine upv_upon (hrun _ d U wx hI hmay (fun v w' hI' => ?_))
        have hU : ∀ j, j ≠ i → updU U i v j = U j := fun j hj => by unfold updU; rw [if_neg hj]
        have hUi : updU U i v i = v := by simp [updU]
        have hfr : fr ops (VU ks V U) d a ops.size = fr ops (VU ks V (updU U i v)) d a ops.size := fr_V a d _ _ _ (fun j _ hdj => by
          have hji : j ≠ i := by intro e; subst e; rw [hmay.1] at hdj; cases hdj
          unfold VU; rw [hU j hji])
        have hval : v = VU ks V (updU U i v) i := by unfold VU; rw [if_pos hc1, hUi]
        exact hnext (updU U i v) _ _ (by rw [hfr]; exact hput _ _ hval) hI'
    · have hci : cls ks i = 2 := by
        have h1 := hd i hi
        rw [hmay.1] at h1
        by_cases hc : cls ks i = 2
        · exact hc
        · simp [hc] at h1
      have him : ¬ i < m := by
        intro h
        have h1 := hd i hi
        rw [hmay.1, decide_eq_true h] at h1
        simp at h1
      have hbefore := tailb d i hcl hci hi hmay
      have hnone : ∀ j, m ≤ j → j < i → ks.getD j 2 ≠ 2 := by
        intro j h1 h2 h3
        have h4 := hbefore j (by omega) (.inr h2)
        rw [hd j (by omega)] at h4
        have : cls ks j = 2 := h3
        rw [this, decide_eq_false (show ¬ j < m by omega)] at h4
        simp at h4
      have hlo : ops.toList.length = ks.length := by simp [hlen]
      rw [tl_skip ops.toList ks m i (by omega) hnone (by omega) hlo, tl_here ops.toList ks i (by simpa using hi) (by omega) hci] at hw
      have hcloD : Closed ops (don d i) := by
        obtain ⟨o, ho⟩ : ∃ o, ops[i]? = some o := ⟨ops[i], Array.getElem?_eq_getElem hi⟩
        intro j o' hj hdj e e1 e2
        have : d e.on = true := by
          by_cases hji : j = i
          · subst hji; exact deps d j o' hmay hj e e1 e2
          · rw [don_other _ _ _ hji] at hdj
            exact hcl j o' hj hdj e e1 e2
        unfold don; split
        · rfl
        · exact this
      have key : ∀ x' w', wpList P ops Q (tl (ops.toList.drop (i + 1)) (ks.drop (i + 1))) x' w' → J1 (don d i) x' w' ∨ J2 (don d i) x' w' := fun x' w' h => .inr ⟨i + 1, by omega, hcloD, fun j hj => by
        by_cases hji : j = i
        · subst hji; rw [don_same]; simp
        · rw [don_other _ _ _ hji, hd j hj]
          by_cases hc : cls ks j = 2
          · have e : decide (j < m) = decide (j < i + 1) := by
              rw [decide_eq_decide]
              constructor
              · intro _; omega
              · intro h1
                rcases Nat.lt_or_ge j m with h2 | h2
                · exact h2
                · exact absurd hc (hnone j h2 (by omega))
            rw [e]
          · simp [hc], h⟩
      refine wpOp_mono key ?_
      unfold wpOp
      rw [Array.getElem?_eq_getElem hi]
      rw [show ops.toList[i] = ops[i] by simp] at hw
      exact hw
  · rintro d x wx (⟨_, _, _, _, _, j, hj, _, hdj⟩ | ⟨m, hm', hcl, hd, hw⟩) hall
    · have := hall j hj
      rw [hdj] at this; cases this
    · have hlo : ops.toList.length = ks.length := by simp [hlen]
      rw [tl_skip ops.toList ks m ops.size hm' (fun j h1 h2 h3 => by
        have h4 := hall j h2
        rw [hd j h2] at h4
        have : cls ks j = 2 := h3
        rw [this, decide_eq_false (show ¬ j < m by omega)] at h4
        simp at h4) (by omega) hlo, List.drop_eq_nil_of_le (by simp)] at hw
      unfold tl at hw
      exact hw
/-- S throughout; of each of class 1 that is done, Y; of each two, X. -/
def SYX (S : World → Prop) (Y : Nat → Value → World → Prop) (X : Value → Value → Prop) (ks : List Nat) (d : Nat → Bool) (U : Nat → Value) (w : World) : Prop :=
  S w ∧ (∀ j, ks[j]? = some 1 → d j = true → Y j (U j) w) ∧ (∀ i j, ks[i]? = some 1 → ks[j]? = some 1 → i ≠ j → d i = true → d j = true → X (U i) (U j))
structure Lasts (S : World → Prop) (Y : Nat → Value → World → Prop) : Prop where
  s : ∀ w1 w2, S w1 → Below w1.heap.size w1 w2 → S w2
  y : ∀ j v w1 w2, Y j v w1 → Below w1.heap.size w1 w2 → Y j v w2
theorem syx_on {S : World → Prop} {Y : Nat → Value → World → Prop} {X : Value → Value → Prop} {ks : List Nat} {d : Nat → Bool} {U : Nat → Value} {i : Nat} {w w' : World} (hL : Lasts S Y) (hi : ks[i]? ≠ some 1) (h : SYX S Y X ks d U w) (hb : Below w.heap.size w w') : SYX S Y X ks (don d i) U w' := by
  have hd : ∀ j, ks[j]? = some 1 → don d i j = true → d j = true := fun j hj h => by
    have hji : j ≠ i := by intro e; subst e; exact hi hj
    rwa [don_other _ _ _ hji] at h
  exact ⟨hL.s _ _ h.1 hb, fun j h1 h2 => hL.y _ _ _ _ (h.2.1 j h1 (hd j h1 h2)) hb, fun k j h1 h2 h3 h4 h5 => h.2.2 k j h1 h2 h3 (hd k h1 h4) (hd j h2 h5)⟩
section
variable {S : World → Prop} {Y : Nat → Value → World → Prop} {X : Value → Value → Prop} {E : Act → Prop} {j : Nat} {o : Oper} {r : List Oper} {k ks : List Nat} {a a' : Act} {v : Value}
theorem go1 (hL : Lasts S Y) (hj : ks[j]? ≠ some 1) (hg : o.guard = none)
    (h : ∀ (K : Value → World → Prop) w, S w → (∀ w', Below w.heap.size w w' → K v w') → upv P K ((execOp a.eval o).run P w)) (he : a.put o.dst v = a')
    (hr : Walk P ops (SYX S Y X ks) E (j + 1) r k a') : Walk P ops (SYX S Y X ks) E j (o :: r) (0 :: k) a := by
  unfold Walk
  rw [if_pos rfl]
  exact ⟨v, .inl ⟨by simp [Region.wanted, hg], fun K d U w hI _ hK => h K w hI.1 (fun w' hb => hK w' (syx_on hL hj hI hb))⟩, he ▸ hr⟩
theorem go1g (hL : Lasts S Y) (hj : ks[j]? ≠ some 1) (hg : Region.wanted o (yielded ops a.tmps) = true)
    (h : ∀ (K : Value → World → Prop) w, S w → (∀ w', Below w.heap.size w w' → K v w') → upv P K ((execOp a.eval o).run P w)) (he : a.put o.dst v = a')
    (hr : Walk P ops (SYX S Y X ks) E (j + 1) r k a') : Walk P ops (SYX S Y X ks) E j (o :: r) (0 :: k) a := by
  unfold Walk
  rw [if_pos rfl]
  exact ⟨v, .inl ⟨hg, fun K d U w hI _ hK => h K w hI.1 (fun w' hb => hK w' (syx_on hL hj hI hb))⟩, he ▸ hr⟩
theorem go0 (hL : Lasts S Y) (hj : ks[j]? ≠ some 1) (hg : Region.wanted o (yielded ops a.tmps) = false) (he : a.put o.dst undef = a')
    (hr : Walk P ops (SYX S Y X ks) E (j + 1) r k a') : Walk P ops (SYX S Y X ks) E j (o :: r) (0 :: k) a := by
  unfold Walk
  rw [if_pos rfl]
  exact ⟨undef, .inr ⟨hg, rfl, fun d U w hI _ => syx_on hL hj hI (Below.refl _ _)⟩, he ▸ hr⟩
theorem goN (hL : Lasts S Y) (hg : o.guard = none)
    (h : ∀ (K : Value → World → Prop) w, S w → (∀ v w', Below w.heap.size w w' → Y j v w' → (∀ i u, Y i u w → X u v ∧ X v u) → K v w') → upv P K ((execOp a.eval o).run P w))
    (hr : Walk P ops (SYX S Y X ks) E (j + 1) r k a) : Walk P ops (SYX S Y X ks) E j (o :: r) (1 :: k) a := by
  unfold Walk
  rw [if_neg (by decide), if_pos rfl]
  refine ⟨hg, fun K d U w hI hmay hK => h K w hI.1 (fun v w' hb hYn hXn => hK v w' ?_), hr⟩
  have hU : ∀ i, i ≠ j → updU U j v i = U i := fun i hi => by unfold updU; rw [if_neg hi]
  have hUj : updU U j v j = v := by simp [updU]
  have hdon : ∀ i, i ≠ j → don d j i = true → d i = true := fun i hi h => by rwa [don_other _ _ _ hi] at h
  refine ⟨hL.s _ _ hI.1 hb, fun i h1 h2 => ?_, fun i l h1 h2 h3 h4 h5 => ?_⟩
  · by_cases hi : i = j
    · subst hi; rw [hUj]; exact hYn
    · rw [hU i hi]; exact hL.y _ _ _ _ (hI.2.1 i h1 (hdon i hi h2)) hb
  · by_cases hl : l = j
    · subst hl
      rw [hUj, hU i h3]
      exact (hXn i _ (hI.2.1 i h1 (hdon i h3 h4))).1
    · by_cases hi : i = j
      · subst hi
        rw [hUj, hU l hl]
        exact (hXn l _ (hI.2.1 l h2 (hdon l hl h5))).2
      · rw [hU i hi, hU l hl]; exact hI.2.2 i l h1 h2 h3 (hdon i hi h4) (hdon l hl h5)
end
theorem goT {I : (Nat → Bool) → (Nat → Value) → World → Prop} {E : Act → Prop} {j : Nat} {o : Oper} {r : List Oper} {k : List Nat} {a : Act}
    (hr : Walk P ops I E (j + 1) r k a) : Walk P ops I E j (o :: r) (2 :: k) a := by
  unfold Walk
  rw [if_neg (by decide), if_neg (by decide)]
  exact hr
theorem go_end {I : (Nat → Bool) → (Nat → Value) → World → Prop} {E : Act → Prop} {j : Nat} {a : Act} (h : E a) : Walk P ops I E j [] [] a := by
  unfold Walk; exact h
theorem walk_mono {I : (Nat → Bool) → (Nat → Value) → World → Prop} {E E' : Act → Prop} (h : ∀ a, E a → E' a) : ∀ (l : List Oper) (k : List Nat) (j : Nat) (a : Act), Walk P ops I E j l k a → Walk P ops I E' j l k a
  | [], [], _, _, hs => by unfold Walk at *; exact h _ hs
  | [], _ :: _, _, _, hs => by unfold Walk at *; exact h _ hs
  | _ :: _, [], _, _, hs => by unfold Walk at *; exact h _ hs
  | o :: r, c :: k, j, a, hs => by
    unfold Walk at *
    by_cases h0 : c = 0
    · rw [if_pos h0] at *
      obtain ⟨v, h1, h2⟩ := hs
      exact ⟨v, h1, walk_mono h r k _ _ h2⟩
    · rw [if_neg h0] at *
      by_cases h1 : c = 1
      · rw [if_pos h1] at *
        exact ⟨hs.1, hs.2.1, walk_mono h r k _ _ hs.2.2⟩
      · rw [if_neg h1] at *
        exact walk_mono h r k _ _ hs
theorem wp_region_gen {id : Nat} {a : Act} {w : World} (S : World → Prop) (Y : Nat → Value → World → Prop) (X : Value → Value → Prop) (ks : List Nat)
    (hm : P.follows .mixedOrders = true) (hok : okC ops ks = true) (h0 : S w.drew)
    (hs : Walk P ops (SYX S Y X ks) (fun a' => ∀ (U : Nat → Value) w', S w' → (∀ j, ks[j]? = some 1 → Y j (U j) w') → (∀ i j, ks[i]? = some 1 → ks[j]? = some 1 → i ≠ j → X (U i) (U j)) → wpList P ops Q (tl ops.toList ks) (putN U 0 ops.toList ks a') w') 0 ops.toList ks a) : (Code.region id ops true).wp P Q a w := by
  have hlen : ks.length = ops.size := by
    have h := hok
    unfold okC at h
    rw [Bool.and_eq_true, Bool.and_eq_true] at h
    simpa using h.1.2
  refine wp_region_genI (SYX S Y X ks) ks hm hok ⟨h0, (fun _ _ h => by cases h), (fun _ _ _ _ _ h => by cases h)⟩ (walk_mono (fun a' h d U w' hI hd => ?_) _ _ _ _ hs)
  have hdone : ∀ j, ks[j]? = some 1 → d j = true := fun j hj => by
    have hjl : j < ops.size := by have := (List.getElem?_eq_some_iff.1 hj).1; omega
    rw [hd j hjl]
    have : cls ks j = 1 := by unfold cls; rw [List.getD_eq_getElem?_getD, hj]; rfl
    rw [this]; rfl
  exact h U w' hI.1 (fun j hj => hI.2.1 j hj (hdone j hj)) (fun i j hi hj hne => hI.2.2 i j hi hj hne (hdone i hi) (hdone j hj))
end RG
end Go.Proofs.Ytcgimjlmihaegaa
