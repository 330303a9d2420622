/- lampbearerref.grown: a road. -/
import Derived.Test.YtdcbgldelfhohaaPackC
import Derived.Test.YtdcbgldelfhohaaPackB
import Derived.Tactics
import Derived.Test.YtdcbgldelfhohaaPackA
import Derived.Deep.Cut
import Derived.ProofKit
import Derived.OpenShut
import Derived.ShutString
import Derived.ChangeOld
import Derived.Lib.SmallJoins
import Derived.SizedLaws
namespace Go.Proofs.Ytdcbgldelfhohaa
namespace Tr
open Nb Go.RowKit
theorem ks_lit {B : Nat} {w : World} {k : Int} {b1 b2 b3 : Option Addr} {m1 e1 m2 e2 m3 e3 : Nat} (h : B ≤ w.heap.size) : Ks (B ≤ ·) [(.int .i64 k, .slice b1 m1 e1, .slice b2 m2 e2, .slice b3 m3 e3)] (.slice (some ⟨w.heap.size, 0, none⟩) 1 1) (w.alloc (.cells #[.int .i64 k, .slice b1 m1 e1, .slice b2 m2 e2, .slice b3 m3 e3] 25)) := by
  have HA := heap_alloc_new w (.cells #[.int .i64 k, .slice b1 m1 e1, .slice b2 m2 e2, .slice b3 m3 e3] 25)
  refine ⟨_, _, rfl, Nat.le_refl _, fun _ => ⟨_, _, rfl, h, by simp, fun j hj => ?_⟩⟩
  have e : j = 0 := by simpa using hj
  subst e
  refine ⟨?_, ?_, ?_, ?_⟩ <;> (simp only [World.cell?, HA]; rfl)
theorem st_take (l : By) (c : Nat) : (st l).extract 0 c = st (l.take c) := by
  unfold st
  apply ByteArray.ext
  simp [ByteArray.extract, ByteArray.copySlice]
inductive GC5 (W0 : World) (p q : By) (g off n m cap g2 c : Nat) (X Y : ByteArray) (d : Nat → Bool) (x : Act) (wx : World) : Prop where
  | mk (u3 u27 u28 u29 u30 u31 u32 u33 u34 u35 u36 u37 u38 u39 u40 : Value) (hx : x = { tmps := #[.slice (some ⟨g, off, none⟩) n cap, undef, .pointer (some ⟨g2, 0, none⟩), u3, undef, undef, undef, undef, undef, .slice (some ⟨g, off, none⟩) n cap, .int .i64 (n : Int), .bool false, undef, .slice (some ⟨g, off, none⟩) n cap, .int .i64 (n : Int), .bool false, undef, undef, undef, undef, undef, undef, undef, undef, undef, undef, undef, u27, u28, u29, u30, u31, u32, u33, u34, u35, u36, u37, u38, u39, u40, undef, undef, undef, undef, undef, undef, undef, undef, undef, undef, undef, undef, undef, undef, undef, undef, undef, undef, undef, undef, undef, undef, undef, undef, undef, undef, undef, undef, undef, undef, undef, undef, undef, undef, undef, undef, undef, undef, undef, undef, undef, undef, undef, undef, undef, undef, undef, undef, undef, undef, undef, undef, undef, undef, undef, undef, undef, undef, undef], defers := [] }) (hw : Below W0.heap.size W0 wx) (p0 : d 0 = true → u27 = .slice (some ⟨g, off, none⟩) n cap) (p1 : d 1 = true → u28 = .pointer (some ⟨g, off, none⟩)) (p2 : d 2 = true → u29 = .pointer (some ⟨g, off, none⟩)) (p3 : d 3 = true → u30 = .string X) (p5 : d 5 = true → u32 = .slice (some ⟨g, off, none⟩) n cap) (p6 : d 6 = true → u33 = .slice (some ⟨g, off, none⟩) n cap) (p7 : d 7 = true → u34 = .int .i64 (n : Int)) (p8 : d 8 = true → u35 = .int .i64 (m : Int)) (p9 : d 9 = true → u36 = .pointer (some ⟨g, off + m * 2, none⟩)) (p10 : d 10 = true → u37 = .pointer (some ⟨g, off + m * 2, none⟩)) (p11 : d 11 = true → u38 = .string Y) (p13 : d 13 = true → u40 = .int .i64 (c : Int)) (p14 : d 14 = true → u3 = .int .i64 (c : Int)) (z4 : d 4 = true → SlC p u31 wx) (z12 : d 12 = true → SlC q u39 wx) : GC5 W0 p q g off n m cap g2 c X Y d x wx
inductive GR7 (w W0 : World) (pp : By) (lr : Rt) (T : Nd) (g off n cap g2 c : Nat) (X Z : ByteArray) (v27 v28 v29 v30 v31 v32 v33 v34 v35 v36 v37 v38 v39 v40 : Value) (d : Nat → Bool) (x : Act) (wx : World) : Prop where
  | mk (u43 u44 u45 u46 u47 u48 u49 u50 u51 u52 u53 u54 u55 : Value) (hx : x = { tmps := #[.slice (some ⟨g, off, none⟩) n cap, undef, .pointer (some ⟨g2, 0, none⟩), .int .i64 (c : Int), undef, undef, undef, undef, undef, .slice (some ⟨g, off, none⟩) n cap, .int .i64 (n : Int), .bool false, undef, .slice (some ⟨g, off, none⟩) n cap, .int .i64 (n : Int), .bool false, undef, undef, undef, undef, undef, undef, undef, undef, undef, undef, undef, v27, v28, v29, v30, v31, v32, v33, v34, v35, v36, v37, v38, v39, v40, .int .i64 (c : Int), .bool true, u43, u44, u45, u46, u47, u48, u49, u50, u51, u52, u53, u54, u55, undef, undef, undef, undef, undef, undef, undef, undef, undef, undef, undef, undef, undef, undef, undef, undef, undef, undef, undef, undef, undef, undef, undef, undef, undef, undef, undef, undef, undef, undef, undef, undef, undef, undef, undef, undef, undef, undef, undef, undef, undef, undef, undef, undef], defers := [] }) (hw : GW w W0 g2 (d 13) wx) (p0 : d 0 = true → u43 = .slice (some ⟨g, off, none⟩) n cap) (p1 : d 1 = true → u44 = .pointer (some ⟨g, off, none⟩)) (p2 : d 2 = true → u45 = .pointer (some ⟨g, off, none⟩)) (p3 : d 3 = true → u46 = .string X) (p4 : d 4 = true → u47 = .int .i64 (c : Int)) (p5 : d 5 = true → u48 = .string Z) (p7 : d 7 = true → u50 = .slice (some ⟨g, off, none⟩) n cap) (p8 : d 8 = true → u51 = .int .i64 (c : Int)) (z6 : d 6 = true → ∃ a c, u49 = .slice a pp.length c ∧ Bs (W0.heap.size ≤ ·) pp u49 wx) (z9 : d 9 = true → d 13 = false → Rv lr u52 wx) (z10 : d 10 = true → ∃ y, u53 = v4 y ∧ Nv (W0.heap.size ≤ ·) wx T y) (z11 : d 11 = true → ∃ a c y, u54 = .slice a 1 c ∧ Ks (W0.heap.size ≤ ·) [y] u54 wx ∧ Nv (W0.heap.size ≤ ·) wx T y) (z12 : d 12 = true → ∃ a1 c1 a3 c3 y, u55 = .agg #[.int .i64 2, .slice a1 pp.length c1, .slice none 0 0, .slice a3 1 c3] ∧ Bs (W0.heap.size ≤ ·) pp (.slice a1 pp.length c1) wx ∧ Ks (W0.heap.size ≤ ·) [y] (.slice a3 1 c3) wx ∧ Nv (W0.heap.size ≤ ·) wx T y) (z13 : d 13 = true → ∃ a1 c1 a3 c3 y, wx.cell? ⟨g2, 0, none⟩ = some (.int .i64 2) ∧ wx.cell? ⟨g2, 1, none⟩ = some (.slice a1 pp.length c1) ∧ wx.cell? ⟨g2, 2, none⟩ = some (.slice none 0 0) ∧ wx.cell? ⟨g2, 3, none⟩ = some (.slice a3 1 c3) ∧ Bs (W0.heap.size ≤ ·) pp (.slice a1 pp.length c1) wx ∧ Ks (W0.heap.size ≤ ·) [y] (.slice a3 1 c3) wx ∧ Nv (W0.heap.size ≤ ·) wx T y) (y10 : d 10 = true → d 9 = true) (y11 : d 11 = true → d 10 = true) (y12 : d 12 = true → d 6 = true ∧ d 11 = true) (y13 : d 13 = true → d 3 = true ∧ d 6 = true ∧ d 9 = true ∧ d 10 = true ∧ d 11 = true) : GR7 w W0 pp lr T g off n cap g2 c X Z v27 v28 v29 v30 v31 v32 v33 v34 v35 v36 v37 v38 v39 v40 d x wx
set_option maxHeartbeats 2000000 in
set_option maxRecDepth 100000 in
theorem grown_road (p q : By) (g off cap n m c : Nat) (w : World) (hn : 2 ≤ n) (hm : m + 1 = n) (hn2 : n ≤ 1048576) (hg0 : g < w.heap.size) (h0 : w.cell? ⟨g, off, none⟩ = some (.string (st p))) (h1 : w.cell? ⟨g, off + m * 2, none⟩ = some (.string (st q))) (hc : 0 < c) (hcp : c ≤ p.length) (pp : By) (hpp : pp = p.take c) (lr : Rt) (T : Nd) (KSH0 : Hid (∀ wx : World, Below w.heap.size w wx → Calls Try.prog 44 #[.slice (some ⟨g, off, none⟩) n cap, .int .i64 (c : Int)] wx fun e w' => ∃ x, e = .returned x ∧ Rv lr x w' ∧ Below wx.heap.size wx w')) (KG : Hid (∀ (x : Value) (wx : World), Rv lr x wx → Calls Try.prog 24 #[x] wx fun e w' => ∃ y : V4, e = .returned (v4 y) ∧ Nv (wx.heap.size ≤ ·) w' T y ∧ Below wx.heap.size wx w'))
    (hpl : p.length ≤ 4194304) (hql : q.length ≤ 4194304) (KN : Hid (∀ (a b : Value) (wx : World), SlC p a wx → SlC q b wx → Calls Try.prog 43 #[a, b] wx fun e w' => e = .returned (.int .i64 (c : Int)) ∧ Below wx.heap.size wx w')) :
    Calls Try.prog 24 #[.slice (some ⟨g, off, none⟩) n cap] w fun e w' => ∃ u : V4, e = .returned (v4 u) ∧ Nv (w.heap.size ≤ ·) w' (.mk 2 pp [] [T]) u ∧ Below w.heap.size w w' := by
  have B0 : Below w.heap.size w (w.alloc (.cells #[.int .i64 0, .slice none 0 0, .slice none 0 0, .slice none 0 0] 25)) := (Below.refl _ _).alloc (Nat.le_refl _) _
  have k0 := (B0.cell (p := ⟨g, off, none⟩) hg0).trans h0
  have l0 := (B0.cell (p := ⟨g, off + m * 2, none⟩) hg0).trans h1
  have hg : g < (w.alloc (.cells #[.int .i64 0, .slice none 0 0, .slice none 0 0, .slice none 0 0] 25)).heap.size := Nat.lt_of_lt_of_le hg0 B0.size
  have HX : Hid (∀ W : World, ∃ c W', (convert 9 22 (.string (st p))).run Try.prog W = .ok (.slice (some ⟨W.heap.size, 0, none⟩) p.length c) W' ∧ SlC p (.slice (some ⟨W.heap.size, 0, none⟩) p.length c) W' ∧ W'.heap.size = W.heap.size + 1 ∧ Below W.heap.size W W') := st_slc p hpl
  have HY : Hid (∀ W : World, ∃ c W', (convert 9 22 (.string (st q))).run Try.prog W = .ok (.slice (some ⟨W.heap.size, 0, none⟩) q.length c) W' ∧ SlC q (.slice (some ⟨W.heap.size, 0, none⟩) q.length c) W' ∧ W'.heap.size = W.heap.size + 1 ∧ Below W.heap.size W W') := st_slc q hql
  have HZ : Hid (∀ W : World, ∃ cc W', (convert 9 22 (.string (st pp))).run Try.prog W = .ok (.slice (some ⟨W.heap.size, 0, none⟩) pp.length cc) W' ∧ Pk.Sl pp (.slice (some ⟨W.heap.size, 0, none⟩) pp.length cc) W' ∧ W'.heap.size = W.heap.size + 1 ∧ Below W.heap.size W W') := st_sl pp
  have KSH : Hid (∀ wx : World, Below (w.alloc (.cells #[.int .i64 0, .slice none 0 0, .slice none 0 0, .slice none 0 0] 25)).heap.size (w.alloc (.cells #[.int .i64 0, .slice none 0 0, .slice none 0 0, .slice none 0 0] 25)) wx → Calls Try.prog 44 #[.slice (some ⟨g, off, none⟩) n cap, .int .i64 (c : Int)] wx fun e w' => ∃ x, e = .returned x ∧ Rv lr x w' ∧ Below wx.heap.size wx w') := fun wx hb => KSH0.out wx (B0.trans (hb.mono B0.size))
  have BV := B4_new w
  have HGL : Hid (w.heap.size ≤ (w.alloc (.cells #[.int .i64 0, .slice none 0 0, .slice none 0 0, .slice none 0 0] 25)).heap.size) := B0.size
  have HG2 : Hid (w.heap.size < (w.alloc (.cells #[.int .i64 0, .slice none 0 0, .slice none 0 0, .slice none 0 0] 25)).heap.size) := by show _ < _; simp
  have zt : (st p).extract 0 c = st pp := by rw [hpp]; exact st_take p c
  have zs : (c : Int) ≤ ((st p).size : Int) := by rw [st_size]; omega
  have zs2 : (0 : Int) ≤ (c : Int) := by omega
  have e0 : ((n : Int) == 0) = false := beq_eq_false_iff_ne.2 (by omega)
  have e1 : ((n : Int) == 1) = false := beq_eq_false_iff_ne.2 (by omega)
  have e2 : (n == 0) = false := beq_eq_false_iff_ne.2 (by omega)
  have e3 : (n == 1) = false := beq_eq_false_iff_ne.2 (by omega)
  have i0 : (0 : Int) < (n : Int) := by omega
  have i1 : IntKind.i64.wrap ((n : Int) - 1) = (m : Int) := by rw [IntKind.wrap_i64]; omega
  have i2 : (0 : Int) ≤ (m : Int) := by omega
  have i3 : (m : Int) < (n : Int) := by omega
  have i4 : 0 < n := by omega
  have i5 : m < n := by omega
  have i6 : (0 : Int) < (c : Int) := by omega
  have i7 : decide ((0 : Int) < (c : Int)) = true := decide_eq_true i6
  have i8 : decide (0 < c) = true := decide_eq_true hc
  generalize st pp = Z at *
  generalize st p = X at *
  generalize st q = Y at *
  clear h0 h1 hg0 hn hm KSH0 hcp hn2 hpp
  go_enter Try.func24, Try.ntmps24
  go_upto_region 5 with fail
  generalize w.alloc (.cells #[.int .i64 0, .slice none 0 0, .slice none 0 0, .slice none 0 0] 25) = W0 at *
  obtain ⟨g2, eg2⟩ : ∃ g2, g2 = w.heap.size := ⟨_, rfl⟩
  have HG2B : Hid (w.heap.size ≤ g2) := by show _ ≤ _; omega
  rw [← eg2] at BV HG2 ⊢
  have E2 : Hid (g2 = w.heap.size) := eg2
  clear eg2
  have hw0 : Below W0.heap.size W0 W0.drew := (Below.refl _ _).drew
  refine RI.wp_region_inv (GC5 W0 p q g off n m cap g2 c X Y) (by kernel_rfl) (by kernel_rfl) ?_ ?_ ?_
  · exact ⟨undef, undef, undef, undef, undef, undef, undef, undef, undef, undef, undef, undef, undef, undef, undef, rfl, hw0, nofun, nofun, nofun, nofun, nofun, nofun, nofun, nofun, nofun, nofun, nofun, nofun, nofun, nofun, nofun⟩
  · skip
    intro d x wx i hI hi hm
    obtain ⟨u3, u27, u28, u29, u30, u31, u32, u33, u34, u35, u36, u37, u38, u39, u40, rfl, hw, p0, p1, p2, p3, p5, p6, p7, p8, p9, p10, p11, p13, p14, z4, z12⟩ := hI
    have hi' : i = 0 ∨ i = 1 ∨ i = 2 ∨ i = 3 ∨ i = 4 ∨ i = 5 ∨ i = 6 ∨ i = 7 ∨ i = 8 ∨ i = 9 ∨ i = 10 ∨ i = 11 ∨ i = 12 ∨ i = 13 ∨ i = 14 := by simp at hi; omega
    have hd := hm.2
    have hf := hm.1
    clear hm hi
    rcases hi' with rfl | rfl | rfl | rfl | rfl | rfl | rfl | rfl | rfl | rfl | rfl | rfl | rfl | rfl | rfl
    · refine RI.wpOp_plain rfl rfl ?_
      go_simp
      exact ⟨u3, _, u28, u29, u30, u31, u32, u33, u34, u35, u36, u37, u38, u39, u40, rfl, hw, fun _ => rfl, p1, p2, p3, p5, p6, p7, p8, p9, p10, p11, p13, p14, z4, z12⟩
    · have hd := hd _ rfl
      simp [Region.binds] at hd
      obtain rfl := p0 (by simp [hd])
      refine RI.wpOp_plain rfl rfl ?_
      go_simp
      exact ⟨u3, _, _, u29, u30, u31, u32, u33, u34, u35, u36, u37, u38, u39, u40, rfl, hw, p0, fun _ => rfl, p2, p3, p5, p6, p7, p8, p9, p10, p11, p13, p14, z4, z12⟩
    · have hd := hd _ rfl
      simp [Region.binds] at hd
      obtain rfl := p1 (by simp [hd])
      refine RI.wpOp_plain rfl rfl ?_
      go_simp
      exact ⟨u3, u27, _, _, u30, u31, u32, u33, u34, u35, u36, u37, u38, u39, u40, rfl, hw, p0, p1, fun _ => rfl, p3, p5, p6, p7, p8, p9, p10, p11, p13, p14, z4, z12⟩
    · have hd := hd _ rfl
      simp [Region.binds] at hd
      obtain rfl := p2 (by simp [hd])
      refine RI.wpOp_plain rfl rfl ?_
      have x0 := (hw.cell (p := ⟨g, off, none⟩) hg).trans k0
      go_simp
      exact ⟨u3, u27, u28, _, _, u31, u32, u33, u34, u35, u36, u37, u38, u39, u40, rfl, hw, p0, p1, p2, fun _ => rfl, p5, p6, p7, p8, p9, p10, p11, p13, p14, z4, z12⟩
    · have hd := hd _ rfl
      simp [Region.binds] at hd
      obtain rfl := p3 (by simp [hd])
      refine RI.wpOp_plain rfl rfl ?_
      obtain ⟨cq, w1, hcv, hs1, hsz, hb1⟩ := HX.out wx
      go_simp
      exact ⟨u3, u27, u28, u29, _, _, u32, u33, u34, u35, u36, u37, u38, u39, u40, rfl, hw.trans (hb1.mono hw.size), p0, p1, p2, p3, p5, p6, p7, p8, p9, p10, p11, p13, p14, fun _ => hs1, (fun h => SlC_below (z12 h) hb1)⟩
    · refine RI.wpOp_plain rfl rfl ?_
      go_simp
      exact ⟨u3, u27, u28, u29, u30, u31, _, u33, u34, u35, u36, u37, u38, u39, u40, rfl, hw, p0, p1, p2, p3, fun _ => rfl, p6, p7, p8, p9, p10, p11, p13, p14, z4, z12⟩
    · refine RI.wpOp_plain rfl rfl ?_
      go_simp
      exact ⟨u3, u27, u28, u29, u30, u31, u32, _, u34, u35, u36, u37, u38, u39, u40, rfl, hw, p0, p1, p2, p3, p5, fun _ => rfl, p7, p8, p9, p10, p11, p13, p14, z4, z12⟩
    · have hd := hd _ rfl
      simp [Region.binds] at hd
      obtain rfl := p6 (by simp [hd])
      refine RI.wpOp_plain rfl rfl ?_
      go_simp
      exact ⟨u3, u27, u28, u29, u30, u31, u32, _, _, u35, u36, u37, u38, u39, u40, rfl, hw, p0, p1, p2, p3, p5, p6, fun _ => rfl, p8, p9, p10, p11, p13, p14, z4, z12⟩
    · have hd := hd _ rfl
      simp [Region.binds] at hd
      obtain rfl := p7 (by simp [hd])
      refine RI.wpOp_plain rfl rfl ?_
      go_simp
      exact ⟨u3, u27, u28, u29, u30, u31, u32, u33, _, _, u36, u37, u38, u39, u40, rfl, hw, p0, p1, p2, p3, p5, p6, p7, fun _ => rfl, p9, p10, p11, p13, p14, z4, z12⟩
    · have hd := hd _ rfl
      simp [Region.binds] at hd
      obtain rfl := p5 (by simp [hd])
      obtain rfl := p8 (by simp [hd])
      refine RI.wpOp_plain rfl rfl ?_
      go_simp
      exact ⟨u3, u27, u28, u29, u30, u31, _, u33, u34, _, _, u37, u38, u39, u40, rfl, hw, p0, p1, p2, p3, p5, p6, p7, p8, fun _ => rfl, p10, p11, p13, p14, z4, z12⟩
    · have hd := hd _ rfl
      simp [Region.binds] at hd
      obtain rfl := p9 (by simp [hd])
      refine RI.wpOp_plain rfl rfl ?_
      go_simp
      exact ⟨u3, u27, u28, u29, u30, u31, u32, u33, u34, u35, _, _, u38, u39, u40, rfl, hw, p0, p1, p2, p3, p5, p6, p7, p8, p9, fun _ => rfl, p11, p13, p14, z4, z12⟩
    · have hd := hd _ rfl
      simp [Region.binds] at hd
      obtain rfl := p10 (by simp [hd])
      refine RI.wpOp_plain rfl rfl ?_
      have x0 := (hw.cell (p := ⟨g, off + m * 2, none⟩) hg).trans l0
      go_simp
      exact ⟨u3, u27, u28, u29, u30, u31, u32, u33, u34, u35, u36, _, _, u39, u40, rfl, hw, p0, p1, p2, p3, p5, p6, p7, p8, p9, p10, fun _ => rfl, p13, p14, z4, z12⟩
    · have hd := hd _ rfl
      simp [Region.binds] at hd
      obtain rfl := p11 (by simp [hd])
      refine RI.wpOp_plain rfl rfl ?_
      obtain ⟨cq, w1, hcv, hs1, hsz, hb1⟩ := HY.out wx
      go_simp
      exact ⟨u3, u27, u28, u29, u30, u31, u32, u33, u34, u35, u36, u37, _, _, u40, rfl, hw.trans (hb1.mono hw.size), p0, p1, p2, p3, p5, p6, p7, p8, p9, p10, p11, p13, p14, (fun h => SlC_below (z4 h) hb1), fun _ => hs1⟩
    · have hd := hd _ rfl
      simp [Region.binds] at hd
      refine RI.wpOp_plain rfl rfl ?_
      go_simp
      refine (KN.out _ _ _ (z4 (by simp [hd])) (z12 (by simp [hd]))).mono ?_
      rintro e w1 ⟨rfl, hb1⟩
      exact ⟨u3, u27, u28, u29, u30, u31, u32, u33, u34, u35, u36, u37, u38, u39, _, rfl, hw.trans (hb1.mono hw.size), p0, p1, p2, p3, p5, p6, p7, p8, p9, p10, p11, fun _ => rfl, p14, (fun h => SlC_below (z4 h) hb1), (fun h => SlC_below (z12 h) hb1)⟩
    · have hd := hd _ rfl
      simp [Region.binds] at hd
      obtain rfl := p0 (by simp [hd])
      obtain rfl := p1 (by simp [hd])
      obtain rfl := p2 (by simp [hd])
      obtain rfl := p3 (by simp [hd])
      obtain rfl := p5 (by simp [hd])
      obtain rfl := p6 (by simp [hd])
      obtain rfl := p7 (by simp [hd])
      obtain rfl := p8 (by simp [hd])
      obtain rfl := p9 (by simp [hd])
      obtain rfl := p10 (by simp [hd])
      obtain rfl := p11 (by simp [hd])
      obtain rfl := p13 (by simp [hd])
      refine RI.wpOp_plain rfl rfl ?_
      go_simp
      exact ⟨_, _, _, _, _, u31, _, _, _, _, _, _, _, u39, _, rfl, hw, p0, p1, p2, p3, p5, p6, p7, p8, p9, p10, p11, p13, fun _ => rfl, z4, z12⟩
  · skip
    intro d x wx hI hd
    obtain ⟨u3, u27, u28, u29, u30, u31, u32, u33, u34, u35, u36, u37, u38, u39, u40, rfl, hw, p0, p1, p2, p3, p5, p6, p7, p8, p9, p10, p11, p13, p14, z4, z12⟩ := hI
    obtain rfl := p14 (hd 14 (by decide))
    clear p0 p1 p2 p3 p5 p6 p7 p8 p9 p10 p11 p13 z4 z12
    have hw7 : GW w W0 g2 false wx.drew := ⟨fun _ => hw.drew, fun _ => B4_gb (r := none) BV (gb_below hw.drew) (fun e => by cases e), (B0.trans (hw.mono B0.size)).drew, hw.size⟩
    clear hw HX HY KN
    go_upto_region 7 with fail
    refine RI.wp_region_inv (GR7 w W0 pp lr T g off n cap g2 c X Z u27 u28 u29 u30 u31 u32 u33 u34 u35 u36 u37 u38 u39 u40) (by kernel_rfl) (by kernel_rfl) ?_ ?_ ?_
    · exact ⟨undef, undef, undef, undef, undef, undef, undef, undef, undef, undef, undef, undef, undef, rfl, hw7, nofun, nofun, nofun, nofun, nofun, nofun, nofun, nofun, nofun, nofun, nofun, nofun, nofun, nofun, nofun, nofun, nofun, nofun⟩
    · skip
      intro d x wx i hI hi hm
      obtain ⟨u43, u44, u45, u46, u47, u48, u49, u50, u51, u52, u53, u54, u55, rfl, hw, p0, p1, p2, p3, p4, p5, p7, p8, z6, z9, z10, z11, z12, z13, y10, y11, y12, y13⟩ := hI
      have hi' : i = 0 ∨ i = 1 ∨ i = 2 ∨ i = 3 ∨ i = 4 ∨ i = 5 ∨ i = 6 ∨ i = 7 ∨ i = 8 ∨ i = 9 ∨ i = 10 ∨ i = 11 ∨ i = 12 ∨ i = 13 := by simp at hi; omega
      have hd := hm.2
      have hf := hm.1
      clear hm hi
      rcases hi' with rfl | rfl | rfl | rfl | rfl | rfl | rfl | rfl | rfl | rfl | rfl | rfl | rfl | rfl
      · refine RI.wpOp_plain rfl rfl ?_
        go_simp
        exact ⟨_, u44, u45, u46, u47, u48, u49, u50, u51, u52, u53, u54, u55, rfl, hw, fun _ => rfl, p1, p2, p3, p4, p5, p7, p8, z6, z9, z10, z11, z12, z13, y10, y11, y12, y13⟩
      · have hd := hd _ rfl
        simp [Region.binds] at hd
        obtain rfl := p0 (by simp [hd])
        refine RI.wpOp_plain rfl rfl ?_
        go_simp
        exact ⟨_, _, u45, u46, u47, u48, u49, u50, u51, u52, u53, u54, u55, rfl, hw, p0, fun _ => rfl, p2, p3, p4, p5, p7, p8, z6, z9, z10, z11, z12, z13, y10, y11, y12, y13⟩
      · have hd := hd _ rfl
        simp [Region.binds] at hd
        obtain rfl := p1 (by simp [hd])
        refine RI.wpOp_plain rfl rfl ?_
        go_simp
        exact ⟨u43, _, _, u46, u47, u48, u49, u50, u51, u52, u53, u54, u55, rfl, hw, p0, p1, fun _ => rfl, p3, p4, p5, p7, p8, z6, z9, z10, z11, z12, z13, y10, y11, y12, y13⟩
      · have hd := hd _ rfl
        simp [Region.binds] at hd
        obtain rfl := p2 (by simp [hd])
        refine RI.wpOp_plain rfl rfl ?_
        have h13 : d 13 = false := by cases h : d 13 with | false => rfl | true => exact absurd (y13 h).1 (by simp [hf])
        have x0 := ((hw.a h13).cell (p := ⟨g, off, none⟩) hg).trans k0
        go_simp
        exact ⟨u43, u44, _, _, u47, u48, u49, u50, u51, u52, u53, u54, u55, rfl, hw, p0, p1, p2, fun _ => rfl, p4, p5, p7, p8, z6, z9, z10, z11, z12, z13, y10, y11, y12, fun h => absurd h (by simp [RI.don, h13])⟩
      · refine RI.wpOp_plain rfl rfl ?_
        go_simp
        exact ⟨u43, u44, u45, u46, _, u48, u49, u50, u51, u52, u53, u54, u55, rfl, hw, p0, p1, p2, p3, fun _ => rfl, p5, p7, p8, z6, z9, z10, z11, z12, z13, y10, y11, y12, y13⟩
      · have hd := hd _ rfl
        simp [Region.binds] at hd
        obtain rfl := p3 (by simp [hd])
        obtain rfl := p4 (by simp [hd])
        refine RI.wpOp_plain rfl rfl ?_
        go_simp
        exact ⟨u43, u44, u45, _, _, _, u49, u50, u51, u52, u53, u54, u55, rfl, hw, p0, p1, p2, p3, p4, fun _ => rfl, p7, p8, z6, z9, z10, z11, z12, z13, y10, y11, y12, y13⟩
      · have hd := hd _ rfl
        simp [Region.binds] at hd
        obtain rfl := p5 (by simp [hd])
        refine RI.wpOp_plain rfl rfl ?_
        have h13 : d 13 = false := by cases h : d 13 with | false => rfl | true => exact absurd (y13 h).2.1 (by simp [hf])
        have h12 : d 12 = false := by cases h : d 12 with | false => rfl | true => exact absurd (y12 h).1 (by simp [hf])
        obtain ⟨cq, w1, hcv, hs1, hsz, hb1⟩ := HZ.out wx
        go_simp
        exact ⟨u43, u44, u45, u46, u47, _, _, u50, u51, u52, u53, u54, u55, rfl, ⟨fun h => (hw.a h).trans (hb1.mono hw.s), fun h => B4_gb (r := none) (hw.v h) (gb_below hb1) (fun e => by cases e), hw.b.trans (hb1.mono (Nat.le_trans HGL.out hw.s)), Nat.le_trans hw.s hb1.size⟩, p0, p1, p2, p3, p4, p5, p7, p8, fun _ => ⟨_, _, rfl, sl_bs (S := (W0.heap.size ≤ ·)) hw.s hs1⟩, (fun h k => Rv_below (z9 h k) hb1), (fun h => (z10 h).imp fun y hy => ⟨hy.1, Nv_below hy.2 hb1⟩), (fun h => (z11 h).imp fun a ha => ha.imp fun c hc => hc.imp fun y hy => ⟨hy.1, Ks_below hy.2.1 hb1, Nv_below hy.2.2 hb1⟩), (fun h => absurd h (by simp [RI.don, h12])), (fun h => absurd h (by simp [RI.don, h13])), (y10), (y11), (fun h => absurd h (by simp [RI.don, h12])), fun h => absurd h (by simp [RI.don, h13])⟩
      · refine RI.wpOp_plain rfl rfl ?_
        go_simp
        exact ⟨u43, u44, u45, u46, u47, u48, u49, _, u51, u52, u53, u54, u55, rfl, hw, p0, p1, p2, p3, p4, p5, fun _ => rfl, p8, z6, z9, z10, z11, z12, z13, y10, y11, y12, y13⟩
      · refine RI.wpOp_plain rfl rfl ?_
        go_simp
        exact ⟨u43, u44, u45, u46, u47, u48, u49, u50, _, u52, u53, u54, u55, rfl, hw, p0, p1, p2, p3, p4, p5, p7, fun _ => rfl, z6, z9, z10, z11, z12, z13, y10, y11, y12, y13⟩
      · have hd := hd _ rfl
        simp [Region.binds] at hd
        obtain rfl := p7 (by simp [hd])
        obtain rfl := p8 (by simp [hd])
        refine RI.wpOp_plain rfl rfl ?_
        have h13 : d 13 = false := by cases h : d 13 with | false => rfl | true => exact absurd (y13 h).2.2.1 (by simp [hf])
        have h12 : d 12 = false := by cases h : d 12 with | false => rfl | true => exact absurd (y10 (y11 (y12 h).2)) (by simp [hf])
        go_simp
        refine (KSH.out _ (hw.a h13)).mono ?_
        rintro e w1 ⟨x1, rfl, hs1, hb1⟩
        exact ⟨u43, u44, u45, u46, u47, u48, u49, _, _, _, u53, u54, u55, rfl, ⟨fun h => (hw.a h).trans (hb1.mono hw.s), fun h => B4_gb (r := none) (hw.v h) (gb_below hb1) (fun e => by cases e), hw.b.trans (hb1.mono (Nat.le_trans HGL.out hw.s)), Nat.le_trans hw.s hb1.size⟩, p0, p1, p2, p3, p4, p5, p7, p8, (fun h => (z6 h).imp fun a ha => ha.imp fun c hc => ⟨hc.1, Bs_below hc.2 hb1⟩), fun _ _ => hs1, (fun h => (z10 h).imp fun y hy => ⟨hy.1, Nv_below hy.2 hb1⟩), (fun h => (z11 h).imp fun a ha => ha.imp fun c hc => hc.imp fun y hy => ⟨hy.1, Ks_below hy.2.1 hb1, Nv_below hy.2.2 hb1⟩), (fun h => absurd h (by simp [RI.don, h12])), (fun h => absurd h (by simp [RI.don, h13])), fun _ => rfl, (y11), (fun h => absurd h (by simp [RI.don, h12])), fun h => absurd h (by simp [RI.don, h13])⟩
      · have hd := hd _ rfl
        simp [Region.binds] at hd
        refine RI.wpOp_plain rfl rfl ?_
        have h13 : d 13 = false := by cases h : d 13 with | false => rfl | true => exact absurd (y13 h).2.2.2.1 (by simp [hf])
        have h12 : d 12 = false := by cases h : d 12 with | false => rfl | true => exact absurd (y11 (y12 h).2) (by simp [hf])
        have rv := z9 (by simp [hd]) h13
        go_simp
        refine (KG.out _ _ rv).mono ?_
        rintro e w1 ⟨y, rfl, hy, hb1⟩
        exact ⟨u43, u44, u45, u46, u47, u48, u49, u50, u51, u52, _, u54, u55, rfl, ⟨fun h => (hw.a h).trans (hb1.mono hw.s), fun h => B4_gb (r := none) (hw.v h) (gb_below hb1) (fun e => by cases e), hw.b.trans (hb1.mono (Nat.le_trans HGL.out hw.s)), Nat.le_trans hw.s hb1.size⟩, p0, p1, p2, p3, p4, p5, p7, p8, (fun h => (z6 h).imp fun a ha => ha.imp fun c hc => ⟨hc.1, Bs_below hc.2 hb1⟩), (fun h k => Rv_below (z9 h k) hb1), fun _ => ⟨y, rfl, Nv_mono hy (fun k h _ => Nat.le_trans hw.s h)⟩, (fun h => (z11 h).imp fun a ha => ha.imp fun c hc => hc.imp fun y hy => ⟨hy.1, Ks_below hy.2.1 hb1, Nv_below hy.2.2 hb1⟩), (fun h => absurd h (by simp [RI.don, h12])), (fun h => absurd h (by simp [RI.don, h13])), fun _ => by simp [RI.don, hd], fun _ => rfl, (fun h => absurd h (by simp [RI.don, h12])), fun h => absurd h (by simp [RI.don, h13])⟩
      · have hd := hd _ rfl
        simp [Region.binds] at hd
        refine RI.wpOp_plain rfl rfl ?_
        have h13 : d 13 = false := by cases h : d 13 with | false => rfl | true => exact absurd (y13 h).2.2.2.2 (by simp [hf])
        have h12 : d 12 = false := by cases h : d 12 with | false => rfl | true => exact absurd (y12 h).2 (by simp [hf])
        obtain ⟨y, rfl, hy⟩ := z10 (by simp [hd])
        obtain ⟨yk, b1, m1, e1, b2, m2, e2, b3, m3, e3, rfl⟩ := Nv_form hy
        dsimp only [v4]
        have hb1 : Below wx.heap.size wx (wx.alloc (.cells #[.int .i64 yk, .slice b1 m1 e1, .slice b2 m2 e2, .slice b3 m3 e3] 25)) := (Below.refl _ _).alloc (Nat.le_refl _) _
        go_simp
        exact ⟨u43, u44, u45, u46, u47, u48, u49, u50, u51, u52, _, _, u55, rfl, ⟨fun h => (hw.a h).trans (hb1.mono hw.s), fun h => B4_gb (r := none) (hw.v h) (gb_below hb1) (fun e => by cases e), hw.b.trans (hb1.mono (Nat.le_trans HGL.out hw.s)), Nat.le_trans hw.s hb1.size⟩, p0, p1, p2, p3, p4, p5, p7, p8, (fun h => (z6 h).imp fun a ha => ha.imp fun c hc => ⟨hc.1, Bs_below hc.2 hb1⟩), (fun h k => Rv_below (z9 h k) hb1), (fun h => (z10 h).imp fun y hy => ⟨hy.1, Nv_below hy.2 hb1⟩), fun _ => ⟨_, _, _, rfl, ks_lit hw.s, Nv_below hy hb1⟩, (fun h => absurd h (by simp [RI.don, h12])), (fun h => absurd h (by simp [RI.don, h13])), (y10), fun _ => by simp [RI.don, hd], (fun h => absurd h (by simp [RI.don, h12])), fun h => absurd h (by simp [RI.don, h13])⟩
      · have hd := hd _ rfl
        simp [Region.binds] at hd
        refine RI.wpOp_plain rfl rfl ?_
        obtain ⟨qa, qc, rfl, hb6⟩ := z6 (by simp [hd])
        obtain ⟨ra, rc, y, rfl, hk11, hn11⟩ := z11 (by simp [hd])
        go_simp
        exact ⟨u43, u44, u45, u46, u47, u48, _, u50, u51, u52, u53, _, _, rfl, hw, p0, p1, p2, p3, p4, p5, p7, p8, z6, z9, z10, z11, fun _ => ⟨_, _, _, _, _, rfl, hb6, hk11, hn11⟩, z13, y10, y11, fun _ => ⟨by simp [RI.don, hd], by simp [RI.don, hd]⟩, y13⟩
      · have hd := hd _ rfl
        simp [Region.binds] at hd
        obtain rfl := p0 (by simp [hd])
        obtain rfl := p1 (by simp [hd])
        obtain rfl := p2 (by simp [hd])
        obtain rfl := p3 (by simp [hd])
        obtain rfl := p4 (by simp [hd])
        obtain rfl := p5 (by simp [hd])
        obtain rfl := p7 (by simp [hd])
        obtain rfl := p8 (by simp [hd])
        refine RI.wpOp_plain rfl rfl ?_
        obtain ⟨qa, qc, ra, rc, y, rfl, hb6, hk11, hn11⟩ := z12 (by simp [hd])
        refine wp_st4 rfl rfl rfl (hw.v hf) ?_
        intro w1 gb1 s0 s1 s2 s3
        have NE : ∀ k, W0.heap.size ≤ k → some k ≠ some g2 := fun k hk e => by injection e with e; have := HG2.out; omega
        simp only [Act.put]
        exact ⟨_, _, _, _, _, _, u49, _, _, u52, u53, u54, _, rfl, ⟨nofun, nofun, hw.b.grown gb1 (Nat.le_trans HGL.out hw.s) (fun k e => by injection e with e; have := HG2B.out; omega), Nat.le_trans hw.s gb1.size⟩, p0, p1, p2, p3, p4, p5, p7, p8, fun h => (z6 h).imp fun a ha => ha.imp fun c hc => ⟨hc.1, Bs_gb hc.2 gb1 NE⟩, (fun _ h => nomatch h), fun h => (z10 h).imp fun y hy => ⟨hy.1, Nv_gb hy.2 gb1 NE⟩, fun h => (z11 h).imp fun a ha => ha.imp fun c hc => hc.imp fun y hy => ⟨hy.1, Ks_gb hy.2.1 gb1 NE, Nv_gb hy.2.2 gb1 NE⟩, fun _ => ⟨_, _, _, _, _, rfl, Bs_gb hb6 gb1 NE, Ks_gb hk11 gb1 NE, Nv_gb hn11 gb1 NE⟩, fun _ => ⟨_, _, _, _, _, s0, s1, s2, s3, Bs_gb hb6 gb1 NE, Ks_gb hk11 gb1 NE, Nv_gb hn11 gb1 NE⟩, y10, y11, y12, fun _ => ⟨by simp [RI.don, hd], by simp [RI.don, hd], by simp [RI.don, hd], by simp [RI.don, hd], by simp [RI.don, hd]⟩⟩
    · skip
      intro d x wx hI hd
      obtain ⟨u43, u44, u45, u46, u47, u48, u49, u50, u51, u52, u53, u54, u55, rfl, hw, p0, p1, p2, p3, p4, p5, p7, p8, z6, z9, z10, z11, z12, z13, y10, y11, y12, y13⟩ := hI
      obtain ⟨a1, c1, a3, c3, y, s0, s1, s2, s3, t1, t2, t3⟩ := z13 (hd 13 (by decide))
      have HB : Hid (Below w.heap.size w wx) := hw.b
      have N : Hid (Nv (w.heap.size ≤ ·) wx (.mk 2 pp [] [T]) (.int .i64 2, .slice a1 pp.length c1, .slice none 0 0, .slice a3 1 c3)) := .mk 2 _ [] [T] _ _ _ [y] (Bs_mono t1 (fun k h _ => Nat.le_trans HGL.out h)) (Bs_nil _ _) rfl (Ks_mono t2 (fun k h _ => Nat.le_trans HGL.out h)) (fun j hj => by
        have e : j = 0 := by simpa using hj
        subst e
        exact Nv_mono t3 (fun k h _ => Nat.le_trans HGL.out h))
      clear p0 p1 p2 p3 p4 p5 p7 p8 z6 z9 z10 z11 z12 z13 y10 y11 y12 y13 hw t1 t2 t3
      generalize pp.length = np at *
      go_wp2_with fail
      exact bodyPost_ret (v := .agg #[.int .i64 2, .slice a1 np c1, .slice none 0 0, .slice a3 1 c3]) (resN _ _ _ g2 2 _ _ _ _ rfl rfl s0 s1 s2 s3) rfl (by first | exact ⟨(.int .i64 2, .slice a1 np c1, .slice none 0 0, .slice a3 1 c3), rfl, by first | exact N.out | (rw [E2.out]; exact N.out), by first | exact HB.out | (rw [E2.out]; exact HB.out)⟩ | exact ⟨.int .i64 2, .slice a1 np c1, .slice none 0 0, .slice a3 1 c3, rfl, by first | exact N.out | (rw [E2.out]; exact N.out), by first | exact HB.out | (rw [E2.out]; exact HB.out)⟩)
end Tr
end Go.Proofs.Ytdcbgldelfhohaa
/- lampbearerref.grown: a fork, its parts in memory. -/
namespace Go.Proofs.Ytdcbgldelfhohaa
namespace Tr
open Nb Go.RowKit
theorem wpl_app {P : Program} {ops : Array Oper} {rest : List Oper} {o : Oper} {a : Act} {Q : Exit → Act → World → Prop} {s x : Operand} {t : TypeId} {v v2 v' : Value} {w w' : World} (hgd : o.guard = none) (ho : o.op = .call { callee := .builtin .append, args := #[s, x], argTypes := #[t, t] }) (hs : a.eval s = v) (hx : a.eval x = v2)
    (hr : (Builtin.append_ #[t, t] o.type #[v, v2]).run P w = .ok v' w') (h : wpList P ops Q rest (a.put o.dst v') w') : wpList P ops Q (o :: rest) a w := by
  refine wpList_plain hgd fun _ hK => ?_
  unfold Oper.wp execOp
  simp only [ho, resolve, invoke, builtin, Sem.run_bind, Sem.run_pure, Result.andThen_ok, List.map_toArray, List.map_cons, List.map_nil, hs, hx, hr]
  exact hK _ _ h
/-- A node is laid among nodes. -/
theorem wp_st4o {op : Oper} {a : Act} {w : World} {K : Act → World → Prop} {Q : Exit → Act → World → Prop} {x y : Operand} {G o : Nat} {k : Int} {a1 a2 a3 : Option Addr} {n1 c1 n2 c2 n3 c3 : Nat} (ho : op.op = .store 25 x y)
    (hx : a.eval x = .pointer (some ⟨G, o, none⟩)) (hy : a.eval y = .agg #[.int .i64 k, .slice a1 n1 c1, .slice a2 n2 c2, .slice a3 n3 c3]) (ht : w.there G o 4)
    (h : ∀ w', w.grownBy w' (some G) → w'.cell? ⟨G, o, none⟩ = some (.int .i64 k) → w'.cell? ⟨G, o + 1, none⟩ = some (.slice a1 n1 c1) → w'.cell? ⟨G, o + 2, none⟩ = some (.slice a2 n2 c2) → w'.cell? ⟨G, o + 3, none⟩ = some (.slice a3 n3 c3) → (∀ z, z < o ∨ o + 4 ≤ z → w'.cell? ⟨G, z, none⟩ = w.cell? ⟨G, z, none⟩) → (∀ z, w'.frozen? ⟨G, z, none⟩ = w.frozen? ⟨G, z, none⟩) → K (a.put op.dst undef) w') : op.wp Try.prog a w K Q := by
  have hs := World.rangeAt_setCells_same w G o [.int .i64 k, .slice a1 n1 c1, .slice a2 n2 c2, .slice a3 n3 c3] ht
  refine wp_store_mid 25 x y ho G o #[.int .i64 k, .slice a1 n1 c1, .slice a2 n2 c2, .slice a3 n3 c3] hx hy ht infoNd (all_oneCell_toArray (cs := [.int .i64 k, .slice a1 n1 c1, .slice a2 n2 c2, .slice a3 n3 c3]) (fun v hv => by simp only [List.mem_cons, List.not_mem_nil, or_false] at hv; rcases hv with rfl | rfl | rfl | rfl <;> rfl)) ?_
  refine h _ (gb_sets G _ o w) (hs 0 _ rfl) (hs 1 _ rfl) (hs 2 _ rfl) (hs 3 _ rfl) (fun z hz => ?_) (fun z => by rw [World.frozen?_setCells])
  refine World.cell?_setCells_out G _ o w ⟨G, z, none⟩ (fun _ _ => ?_)
  rcases hz with hz | hz
  · left; exact hz
  · right; exact hz
theorem wpList_st4 {ops : Array Oper} {rest : List Oper} {op : Oper} {a : Act} {w : World} {Q : Exit → Act → World → Prop} {x y : Operand} {G : Nat} {k : Int} {a1 a2 a3 : Option Addr} {n1 c1 n2 c2 n3 c3 : Nat} (hgd : op.guard = none) (ho : op.op = .store 25 x y)
    (hx : a.eval x = .pointer (some ⟨G, 0, none⟩)) (hy : a.eval y = .agg #[.int .i64 k, .slice a1 n1 c1, .slice a2 n2 c2, .slice a3 n3 c3]) (hB : B4 G w)
    (h : ∀ w', w.grownBy w' (some G) → w'.cell? ⟨G, 0, none⟩ = some (.int .i64 k) → w'.cell? ⟨G, 1, none⟩ = some (.slice a1 n1 c1) → w'.cell? ⟨G, 2, none⟩ = some (.slice a2 n2 c2) → w'.cell? ⟨G, 3, none⟩ = some (.slice a3 n3 c3) → wpList Try.prog ops Q rest (a.put op.dst undef) w') : wpList Try.prog ops Q (op :: rest) a w :=
  wpList_plain hgd fun _ hK => wp_st4 ho hx hy hB (fun w' h1 h2 h3 h4 h5 => hK _ _ (h w' h1 h2 h3 h4 h5))
/-- The fork's variable. -/
def F4 (g4 gk : Nat) (vv : Value) (w : World) : Prop := g4 < w.heap.size ∧ w.cell? ⟨g4, 0, none⟩ = some (.int .i64 3) ∧ w.cell? ⟨g4, 1, none⟩ = some (.slice none 0 0) ∧ w.cell? ⟨g4, 2, none⟩ = some vv ∧ w.cell? ⟨g4, 3, none⟩ = some (.slice (some ⟨gk, 0, none⟩) 16 16) ∧ ∀ o, w.frozen? ⟨g4, o, none⟩ = false
theorem F4_gb {g4 gk : Nat} {vv : Value} {w w' : World} {r : Option Nat} (h : F4 g4 gk vv w) (hb : w.grownBy w' r) (hr : some g4 ≠ r) : F4 g4 gk vv w' := by
  obtain ⟨h1, h2, h3, h4, h5, h6⟩ := h
  have hbk : w'.heap[g4]? = w.heap[g4]? := hb.block g4 h1 hr
  exact ⟨Nat.lt_of_lt_of_le h1 hb.size, (World.cell?_of_block (a := ⟨g4, 0, none⟩) hbk).trans h2, (World.cell?_of_block (a := ⟨g4, 1, none⟩) hbk).trans h3, (World.cell?_of_block (a := ⟨g4, 2, none⟩) hbk).trans h4, (World.cell?_of_block (a := ⟨g4, 3, none⟩) hbk).trans h5, fun o => (World.frozen?_of_block (a := ⟨g4, o, none⟩) hbk).trans (h6 o)⟩
theorem there_gb {g o n : Nat} {w w' : World} {r : Option Nat} (h : w.there g o n) (hg : g < w.heap.size) (hb : w.grownBy w' r) (hr : some g ≠ r) : w'.there g o n := fun j hj => by
  have hbk : w'.heap[g]? = w.heap[g]? := hb.block g hg hr
  exact ⟨by rw [World.cell?_of_block (a := ⟨g, o + j, none⟩) hbk]; exact (h j hj).1, by rw [World.frozen?_of_block (a := ⟨g, o + j, none⟩) hbk]; exact (h j hj).2⟩
/-- The sixteen kids, the first i of them grown. -/
structure KB (B gk : Nat) (T : Nat → Nd) (i : Nat) (w : World) : Prop where
  hi : gk < w.heap.size
  t : w.there gk 0 64
  k : ∃ Y : Nat → V4, ∀ j, j < i → (w.cell? ⟨gk, 4 * j, none⟩ = some (Y j).1 ∧ w.cell? ⟨gk, 4 * j + 1, none⟩ = some (Y j).2.1 ∧ w.cell? ⟨gk, 4 * j + 2, none⟩ = some (Y j).2.2.1 ∧ w.cell? ⟨gk, 4 * j + 3, none⟩ = some (Y j).2.2.2) ∧ Nv (B ≤ ·) w (T j) (Y j)
theorem KB_gb {B gk : Nat} {T : Nat → Nd} {i : Nat} {w w' : World} {r : Option Nat} (h : KB B gk T i w) (hb : w.grownBy w' r) (hr : some gk ≠ r) (hB : ∀ k, B ≤ k → some k ≠ r) : KB B gk T i w' := by
  obtain ⟨Y, hY⟩ := h.k
  have hbk : w'.heap[gk]? = w.heap[gk]? := hb.block gk h.hi hr
  refine ⟨Nat.lt_of_lt_of_le h.hi hb.size, there_gb h.t h.hi hb hr, Y, fun j hj => ?_⟩
  obtain ⟨⟨c0, c1, c2, c3⟩, hn⟩ := hY j hj
  exact ⟨⟨(World.cell?_of_block (a := ⟨gk, 4 * j, none⟩) hbk).trans c0, (World.cell?_of_block (a := ⟨gk, 4 * j + 1, none⟩) hbk).trans c1, (World.cell?_of_block (a := ⟨gk, 4 * j + 2, none⟩) hbk).trans c2, (World.cell?_of_block (a := ⟨gk, 4 * j + 3, none⟩) hbk).trans c3⟩, Nv_gb hn hb hB⟩
/-- What stands behind i rounds. -/
structure GO (w : World) (B g2 g4 gk : Nat) (bv : By) (vv : Value) (T : Nat → Nd) (i : Nat) (wr : World) : Prop where
  b : Below w.heap.size w wr
  s : B ≤ wr.heap.size
  v : B4 g2 wr
  f : F4 g4 gk vv wr
  k : KB B gk T i wr
  u : Bs (B ≤ ·) bv vv wr
theorem GO_below {w : World} {B g2 g4 gk : Nat} {v : By} {vv : Value} {T : Nat → Nd} {i : Nat} {wr w' : World} (h : GO w B g2 g4 gk v vv T i wr) (hb : Below wr.heap.size wr w') : GO w B g2 g4 gk v vv T i w' :=
  ⟨h.b.trans (hb.mono h.b.size), Nat.le_trans h.s hb.size, B4_gb (r := none) h.v (gb_below hb) (fun e => by cases e), F4_gb (r := none) h.f (gb_below hb) (fun e => by cases e), KB_gb (r := none) h.k (gb_below hb) (fun e => by cases e) (fun k _ e => by cases e), Bs_below h.u hb⟩
theorem GO_step {w : World} {B g2 g4 gk : Nat} {v : By} {vv : Value} {T : Nat → Nd} {i : Nat} {wr w' : World} {y : V4} (h : GO w B g2 g4 gk v vv T i wr) (hi : i < 16) (h2 : g2 ≠ gk) (h4 : g4 ≠ gk) (hk : w.heap.size ≤ gk) (hkB : gk < B) (hy : Nv (B ≤ ·) wr (T i) y) (hb : wr.grownBy w' (some gk))
    (c0 : w'.cell? ⟨gk, i * 4, none⟩ = some y.1) (c1 : w'.cell? ⟨gk, i * 4 + 1, none⟩ = some y.2.1) (c2 : w'.cell? ⟨gk, i * 4 + 2, none⟩ = some y.2.2.1) (c3 : w'.cell? ⟨gk, i * 4 + 3, none⟩ = some y.2.2.2) (co : ∀ z, z < i * 4 ∨ i * 4 + 4 ≤ z → w'.cell? ⟨gk, z, none⟩ = wr.cell? ⟨gk, z, none⟩) (cf : ∀ z, w'.frozen? ⟨gk, z, none⟩ = wr.frozen? ⟨gk, z, none⟩) : GO w B g2 g4 gk v vv T (i + 1) w' := by
  have NE : ∀ k, B ≤ k → some k ≠ some gk := fun k hk e => by injection e with e; omega
  refine ⟨h.b.grown hb h.b.size (fun k e => by injection e with e; omega), Nat.le_trans h.s hb.size, B4_gb h.v hb (fun e => by injection e with e; exact h2 e), F4_gb h.f hb (fun e => by injection e with e; exact h4 e), ⟨Nat.lt_of_lt_of_le h.k.hi hb.size, fun j hj => ⟨?_, ?_⟩, ?_⟩, Bs_gb h.u hb NE⟩
  · rw [Nat.zero_add]
    by_cases e : j < i * 4 ∨ i * 4 + 4 ≤ j
    · rw [co j e]; have := (h.k.t j hj).1; rwa [Nat.zero_add] at this
    · have : j = i * 4 ∨ j = i * 4 + 1 ∨ j = i * 4 + 2 ∨ j = i * 4 + 3 := by omega
      rcases this with rfl | rfl | rfl | rfl
      · rw [c0]; rfl
      · rw [c1]; rfl
      · rw [c2]; rfl
      · rw [c3]; rfl
  · rw [Nat.zero_add, cf]; have := (h.k.t j hj).2; rwa [Nat.zero_add] at this
  · obtain ⟨Y, hY⟩ := h.k.k
    refine ⟨fun j => if j = i then y else Y j, fun j hj => ?_⟩
    by_cases e : j = i
    · subst e
      simp only [if_true]
      rw [Nat.mul_comm 4 j]
      exact ⟨⟨c0, c1, c2, c3⟩, Nv_gb hy hb NE⟩
    · simp only [if_neg e]
      obtain ⟨⟨d0, d1, d2, d3⟩, hn⟩ := hY j (by omega)
      exact ⟨⟨(co _ (by omega)).trans d0, (co _ (by omega)).trans d1, (co _ (by omega)).trans d2, (co _ (by omega)).trans d3⟩, Nv_gb hn hb NE⟩
/-- The node at the end. -/
theorem GO_end {w : World} {B g2 g4 gk : Nat} {v : By} {vv : Value} {T : Nat → Nd} {wr : World} {S : Nat → Prop} (h : GO w B g2 g4 gk v vv T 16 wr) (hB : ∀ k, B ≤ k → S k) (hk : S gk) : Nv S wr (.mk 3 [] v ((List.range 16).map T)) (.int .i64 3, .slice none 0 0, vv, .slice (some ⟨gk, 0, none⟩) 16 16) := by
  obtain ⟨Y, hY⟩ := h.k.k
  refine .mk 3 [] v _ _ _ _ ((List.range 16).map Y) (Bs_nil _ _) (Bs_mono h.u (fun k hk _ => hB k hk)) (by simp) ⟨_, _, rfl, by simp, fun _ => ⟨gk, 0, rfl, hk, h.k.hi, fun j hj => ?_⟩⟩ (fun j hj => ?_)
  · have hj16 : j < 16 := by simpa using hj
    rw [getD_range Y 16 j n4 hj16, Nat.zero_add]
    exact (hY j hj16).1
  · have hj16 : j < 16 := by simpa using hj
    rw [getD_range Y 16 j n4 hj16, getD_range T 16 j Nd.no hj16]
    exact Nv_mono (hY j hj16).2 (fun k hk _ => hB k hk)
theorem F4_set {g4 gk : Nat} {vv : Value} {w : World} (h : F4 g4 gk vv w) (x : Value) : F4 g4 gk x (w.setCell ⟨g4, 2, none⟩ x) := by
  obtain ⟨h1, h2, h3, h4, h5, h6⟩ := h
  have ne : ∀ o, o ≠ 2 → (⟨g4, 2, none⟩ : Addr) ≠ ⟨g4, o, none⟩ := fun o ho e => by injection e with _ e; exact ho e.symm
  refine ⟨by rw [World.setCell]; simpa using h1, ?_, ?_, ?_, ?_, fun o => ?_⟩
  · rw [World.cell?_setCell_other _ _ _ _ (ne 0 (by decide))]; exact h2
  · rw [World.cell?_setCell_other _ _ _ _ (ne 1 (by decide))]; exact h3
  · rw [World.cell?_setCell_same _ _ _ h4]
  · rw [World.cell?_setCell_other _ _ _ _ (ne 3 (by decide))]; exact h5
  · have := World.frozen?_setCells g4 [x] 2 w ⟨g4, o, none⟩
    rw [← h6 o, ← this]
    rfl
theorem prt_take (i : Nat) (M : Rt) (k : Nat) (h : k < M.length) : prt i (M.take (k + 1)) = prt i (M.take k) ++ (if ((M.getD k n2).1.headD 0).toNat = i then [M.getD k n2] else []) := by
  unfold prt
  rw [List.take_add_one, List.filter_append, List.getD_eq_getElem?_getD, List.getElem?_eq_getElem h]
  congr 1
  simp only [Option.toList_some, Option.getD_some, List.filter_cons, List.filter_nil, beq_iff_eq]
theorem infoNd2 : (Try.prog.info? 25).map (fun i => (i.zero, i.size, i.bytes)) = some (some (.agg #[.int .i64 0, .slice none 0 0, .slice none 0 0, .slice none 0 0]), 4, 80) := by kernel_rfl
/-- make([]api.Node, 16). -/
theorem made16 (w : World) : ∃ w', (Instr.makeSlice 23 (.int .i64 16) (.int .i64 16)).run Try.prog w = .ok (.slice (some ⟨w.heap.size, 0, none⟩) 16 16) w' ∧ w'.heap.size = w.heap.size + 1 ∧ w'.there w.heap.size 0 64 ∧ Below w.heap.size w w' := by
  obtain ⟨i0, hi, hz0, hz1, hz2⟩ := info_parts infoNd2
  have hr := run_make (P := Try.prog) w 23 25 i0 _ Try.underlying23 hi hz0 .i64 .i64 16 16 (by omega) (Int.le_refl _) (by rw [hz2]; decide) (by decide)
  refine ⟨_, hr, by simp, fun j hj => ?_, (Below.refl _ _).alloc (Nat.le_refl _) _⟩
  have hn := heap_alloc_new w (.cells (madeCells (Value.agg #[.int .i64 0, .slice none 0 0, .slice none 0 0, .slice none 0 0]).cells ((16 : Int).toNat * i0.size)) 25)
  have hs : j < (madeCells (Value.agg #[.int .i64 0, .slice none 0 0, .slice none 0 0, .slice none 0 0]).cells ((16 : Int).toNat * i0.size)).size := by rw [size_madeCells, hz1]; exact hj
  constructor
  · simp only [World.cell?, hn, Nat.zero_add]
    simp
    exact hs
  · simp only [World.frozen?, hn]
    simp
end Tr
end Go.Proofs.Ytdcbgldelfhohaa
/- lampbearerref.grown: a fork. -/
namespace Go.Proofs.Ytdcbgldelfhohaa
namespace Tr
open Nb Go.RowKit
structure GX (w : World) (B g2 g4 gk : Nat) (v : By) (vv : Value) (T : Nat → Nd) (i lo : Nat) (pt : Rt) (pv : Value) (f : Bool) (wx : World) : Prop where
  a : f = false → GO w B g2 g4 gk v vv T i wx
  o : f = false → Ow lo pt pv wx
  e : f = true → GO w B g2 g4 gk v vv T (i + 1) wx
theorem GX_below {w : World} {B g2 g4 gk : Nat} {v : By} {vv : Value} {T : Nat → Nd} {i lo : Nat} {pt : Rt} {pv : Value} {f : Bool} {wx w' : World} (h : GX w B g2 g4 gk v vv T i lo pt pv f wx) (hb : Below wx.heap.size wx w') : GX w B g2 g4 gk v vv T i lo pt pv f w' :=
  ⟨fun e => GO_below (h.a e) hb, fun e => Pk.ownb (h.o e) hb, fun e => GO_below (h.e e) hb⟩
theorem there_sub {w : World} {g i : Nat} (h : w.there g 0 64) (hi : i < 16) : w.there g (i * 4) 4 := fun j hj => by
  have := h (i * 4 + j) (by omega)
  rwa [Nat.zero_add] at this
structure GV (w : World) (B g2 g4 gk : Nat) (v : By) (T : Nat → Nd) (f8 f9 : Bool) (sl u0 : Value) (wx : World) : Prop where
  a : f8 = false → GO w B g2 g4 gk [] (.slice none 0 0) T 0 wx
  b : Below w.heap.size w wx
  e : f8 = true → ∃ a c, GO w B g2 g4 gk v (.slice a v.length c) T 0 wx
  m : f9 = false → u0 = sl
theorem GV_set {w : World} {B g2 g4 gk : Nat} {v : By} {T : Nat → Nd} {wx : World} {a : Option Addr} {c : Nat} (h : GO w B g2 g4 gk [] (.slice none 0 0) T 0 wx) (hne : g2 ≠ g4 ∧ gk ≠ g4 ∧ g4 < B ∧ w.heap.size ≤ g4) (hb : Bs (B ≤ ·) v (.slice a v.length c) wx) : GO w B g2 g4 gk v (.slice a v.length c) T 0 (wx.setCell ⟨g4, 2, none⟩ (.slice a v.length c)) := by
  have gb := gb_set wx g4 2 (.slice a v.length c)
  have NE : ∀ k, B ≤ k → some k ≠ some g4 := fun k hk e => by injection e with e; omega
  exact ⟨h.b.grown gb h.b.size (fun k e => by injection e with e; omega), Nat.le_trans h.s gb.size, B4_gb h.v gb (fun e => by injection e with e; exact hne.1 e), F4_set h.f _, KB_gb h.k gb (fun e => by injection e with e; exact hne.2.1 e) NE, Bs_gb hb gb NE⟩
theorem st_head : ∀ (x : By) (_ : x ≠ []) (h : 0 < (st x).size), ((st x)[0]'h).toNat = (x.headD 0).toNat
  | [], hx, _ => absurd rfl hx
  | _ :: _, _, _ => rfl
theorem msr_up' (k n : Nat) (h : k < n) : ((n : Int) - intOf (.int .i64 ((k : Int) + 1))).toNat < ((n : Int) - intOf (.int .i64 (k : Int))).toNat := by
  simp only [intOf]
  omega
inductive GK21n (w : World) (B lo : Nat) (T : Nat → Nd) (v : By) (pt : Rt) (g off n cap g2 g4 gk i k : Nat) (X : ByteArray) (oa : Option Addr) (on oc : Nat) (v8 v27 v28 v29 v30 v31 v32 v33 v34 v35 v36 v37 v38 v39 v40 v78 v79 v80 v81 v82 v83 v84 v85 v86 v87 v88 v89 v90 v98 : Value) (d : Nat → Bool) (x : Act) (wx : World) : Prop where
  | mk (u91 u92 u93 u94 u95 u96 u97 : Value) (hx : x = { tmps := #[.slice (some ⟨g, off, none⟩) n cap, undef, .pointer (some ⟨g2, 0, none⟩), .int .i64 0, .pointer (some ⟨g4, 0, none⟩), .int .i64 (i : Int), .slice oa on oc, undef, v8, .slice (some ⟨g, off, none⟩) n cap, .int .i64 (n : Int), .bool false, undef, .slice (some ⟨g, off, none⟩) n cap, .int .i64 (n : Int), .bool false, undef, undef, undef, undef, undef, undef, undef, undef, undef, undef, undef, v27, v28, v29, v30, v31, v32, v33, v34, v35, v36, v37, v38, v39, v40, .int .i64 0, .bool false, undef, undef, undef, undef, undef, undef, undef, undef, undef, undef, undef, undef, undef, .slice (some ⟨gk, 0, none⟩) 16 16, .agg #[.int .i64 3, .slice none 0 0, .slice none 0 0, .slice (some ⟨gk, 0, none⟩) 16 16], .slice (some ⟨g, off, none⟩) n cap, .pointer (some ⟨g, off, none⟩), .pointer (some ⟨g, off, none⟩), .string X, .bool false, undef, undef, undef, undef, undef, undef, undef, undef, .int .i64 (i : Int), .bool true, .int .i64 (i : Int), .slice (some ⟨g, off, none⟩) n cap, .int .i64 (n : Int), .int .i64 (k : Int), .bool false, v78, v79, v80, v81, v82, v83, v84, v85, v86, v87, v88, v89, v90, u91, u92, u93, u94, u95, u96, u97, v98, undef], defers := [] }) (hw : GX w B g2 g4 gk v (.slice none 0 0) T i lo pt (.slice oa on oc) (d 7) wx) (p0 : d 0 = true → u91 = .pointer (some ⟨g4, 3, none⟩)) (p1 : d 1 = true → u92 = .slice (some ⟨gk, 0, none⟩) 16 16) (p2 : d 2 = true → u93 = .int .i64 (i : Int)) (p3 : d 3 = true → u94 = .slice oa on oc) (p6 : d 6 = true → u97 = .pointer (some ⟨gk, i * 4, none⟩)) (z4 : d 4 = true → d 7 = false → Rv (cut 1 pt) u95 wx) (z5 : d 5 = true → ∃ y, u96 = v4 y ∧ (d 7 = false → Nv (B ≤ ·) wx (T i) y)) (y7 : d 7 = true → d 1 = true ∧ d 4 = true ∧ d 5 = true) : GK21n w B lo T v pt g off n cap g2 g4 gk i k X oa on oc v8 v27 v28 v29 v30 v31 v32 v33 v34 v35 v36 v37 v38 v39 v40 v78 v79 v80 v81 v82 v83 v84 v85 v86 v87 v88 v89 v90 v98 d x wx
set_option maxHeartbeats 4000000 in
set_option maxRecDepth 100000 in
theorem grown_fork_n (l M : Rt) (p q v : By) (g off cap n m : Nat) (w : World) (hn : 2 ≤ n) (hm : m + 1 = n) (hn2 : n ≤ 1048576) (hln : l.length = n) (_hcap : n ≤ cap) (hg0 : g < w.heap.size) (hp : (l.getD 0 n2).1 = p) (hq : (l.getD m n2).1 = q) (hp0 : p ≠ []) (hv : v = []) (hM : M = l) (hM1 : Hid (∀ r ∈ M, r.1 ≠ []))
    (hcl : Hid (∀ j, j < l.length → w.cell? ⟨g, off + 2 * j, none⟩ = some (.string (st (l.getD j n2).1)) ∧ w.cell? ⟨g, off + 2 * j + 1, none⟩ = some (.string (st (l.getD j n2).2))))
    (T : Nat → Nd) (KG : Hid (∀ (i : Nat) (x : Value) (wx : World), i < 16 → Rv (cut 1 (prt i M)) x wx → Calls Try.prog 24 #[x] wx fun e w' => ∃ y : V4, e = .returned (v4 y) ∧ Nv (wx.heap.size ≤ ·) w' (T i) y ∧ Below wx.heap.size wx w'))
    (hpl : p.length ≤ 4194304) (hql : q.length ≤ 4194304) (KN : Hid (∀ (a b : Value) (wx : World), SlC p a wx → SlC q b wx → Calls Try.prog 43 #[a, b] wx fun e w' => e = .returned (.int .i64 0) ∧ Below wx.heap.size wx w')) :
    Calls Try.prog 24 #[.slice (some ⟨g, off, none⟩) n cap] w fun e w' => ∃ u : V4, e = .returned (v4 u) ∧ Nv (w.heap.size ≤ ·) w' (.mk 3 [] v ((List.range 16).map T)) u ∧ Below w.heap.size w w' := by
  have h0 : w.cell? ⟨g, off, none⟩ = some (.string (st p)) := by have := (hcl.out 0 (by omega)).1; rw [hp] at this; exact this
  have h1 : w.cell? ⟨g, off + m * 2, none⟩ = some (.string (st q)) := by have := (hcl.out m (by omega)).1; rw [hq, Nat.mul_comm] at this; exact this
  have B0 : Below w.heap.size w (w.alloc (.cells #[.int .i64 0, .slice none 0 0, .slice none 0 0, .slice none 0 0] 25)) := (Below.refl _ _).alloc (Nat.le_refl _) _
  have k0 := (B0.cell (p := ⟨g, off, none⟩) hg0).trans h0
  have l0 := (B0.cell (p := ⟨g, off + m * 2, none⟩) hg0).trans h1
  have hg : g < (w.alloc (.cells #[.int .i64 0, .slice none 0 0, .slice none 0 0, .slice none 0 0] 25)).heap.size := Nat.lt_of_lt_of_le hg0 B0.size
  have HX : Hid (∀ W : World, ∃ c W', (convert 9 22 (.string (st p))).run Try.prog W = .ok (.slice (some ⟨W.heap.size, 0, none⟩) p.length c) W' ∧ SlC p (.slice (some ⟨W.heap.size, 0, none⟩) p.length c) W' ∧ W'.heap.size = W.heap.size + 1 ∧ Below W.heap.size W W') := st_slc p hpl
  have HY : Hid (∀ W : World, ∃ c W', (convert 9 22 (.string (st q))).run Try.prog W = .ok (.slice (some ⟨W.heap.size, 0, none⟩) q.length c) W' ∧ SlC q (.slice (some ⟨W.heap.size, 0, none⟩) q.length c) W' ∧ W'.heap.size = W.heap.size + 1 ∧ Below W.heap.size W W') := st_slc q hql
  have HV : Hid (∀ W : World, ∃ c W', (convert 9 22 (.string (st v))).run Try.prog W = .ok (.slice (some ⟨W.heap.size, 0, none⟩) v.length c) W' ∧ Pk.Sl v (.slice (some ⟨W.heap.size, 0, none⟩) v.length c) W' ∧ W'.heap.size = W.heap.size + 1 ∧ Below W.heap.size W W') := st_sl v
  have BV := B4_new w
  have HGL : Hid (w.heap.size ≤ (w.alloc (.cells #[.int .i64 0, .slice none 0 0, .slice none 0 0, .slice none 0 0] 25)).heap.size) := B0.size
  have HG2 : Hid (w.heap.size < (w.alloc (.cells #[.int .i64 0, .slice none 0 0, .slice none 0 0, .slice none 0 0] 25)).heap.size) := by show _ < _; simp
  have e0 : ((n : Int) == 0) = false := beq_eq_false_iff_ne.2 (by omega)
  have e1 : ((n : Int) == 1) = false := beq_eq_false_iff_ne.2 (by omega)
  have e2 : (n == 0) = false := beq_eq_false_iff_ne.2 (by omega)
  have e3 : (n == 1) = false := beq_eq_false_iff_ne.2 (by omega)
  have i0 : (0 : Int) < (n : Int) := by omega
  have i1 : IntKind.i64.wrap ((n : Int) - 1) = (m : Int) := by rw [IntKind.wrap_i64]; omega
  have i2 : (0 : Int) ≤ (m : Int) := by omega
  have i3 : (m : Int) < (n : Int) := by omega
  have i4 : 0 < n := by omega
  have i5 : m < n := by omega
  have HC0 : Hid (g < w.heap.size) := hg0
  have HN : Hid (l.length = n ∧ 2 ≤ n ∧ n ≤ 1048576 ∧ m + 1 = n) := ⟨hln, hn, hn2, hm⟩
  have HM : Hid (M = l) := hM
  have HXI : Hid ((st p).toList.isEmpty = false) := by show _ = _; rw [st_list]; cases p with | nil => exact absurd rfl hp0 | cons _ _ => rfl
  have HVE : Hid (v = []) := hv
  have HML : Hid (M.length = n) := by show _ = _; rw [hM]; exact hln
  have HMC : Hid (∀ j, j < n → w.cell? ⟨g, off + 2 * j, none⟩ = some (.string (st (M.getD j n2).1)) ∧ w.cell? ⟨g, off + 2 * j + 1, none⟩ = some (.string (st (M.getD j n2).2))) := by rw [hM]; rw [← hln]; exact hcl.out
  clear hp hq hM hn hm hn2 hln hp0 hv
  generalize st p = X at *
  generalize st q = Y at *
  clear h1 hg0
  go_enter Try.func24, Try.ntmps24
  go_upto_region 5 with fail
  generalize w.alloc (.cells #[.int .i64 0, .slice none 0 0, .slice none 0 0, .slice none 0 0] 25) = W0 at *
  obtain ⟨g2, eg2⟩ : ∃ g2, g2 = w.heap.size := ⟨_, rfl⟩
  have HG2B : Hid (w.heap.size ≤ g2) := by show _ ≤ _; omega
  rw [← eg2] at BV HG2 ⊢
  have E2 : Hid (g2 = w.heap.size) := eg2
  clear eg2
  have hw0 : Below W0.heap.size W0 W0.drew := (Below.refl _ _).drew
  refine RI.wp_region_inv (GC5 W0 p q g off n m cap g2 0 X Y) (by kernel_rfl) (by kernel_rfl) ?_ ?_ ?_
  · exact ⟨undef, undef, undef, undef, undef, undef, undef, undef, undef, undef, undef, undef, undef, undef, undef, rfl, hw0, nofun, nofun, nofun, nofun, nofun, nofun, nofun, nofun, nofun, nofun, nofun, nofun, nofun, nofun, nofun⟩
  · skip
    intro d x wx i hI hi hm
    obtain ⟨u3, u27, u28, u29, u30, u31, u32, u33, u34, u35, u36, u37, u38, u39, u40, rfl, hw, p0, p1, p2, p3, p5, p6, p7, p8, p9, p10, p11, p13, p14, z4, z12⟩ := hI
    have hi' : i = 0 ∨ i = 1 ∨ i = 2 ∨ i = 3 ∨ i = 4 ∨ i = 5 ∨ i = 6 ∨ i = 7 ∨ i = 8 ∨ i = 9 ∨ i = 10 ∨ i = 11 ∨ i = 12 ∨ i = 13 ∨ i = 14 := by simp at hi; omega
    have hd := hm.2
    have hf := hm.1
    clear hm hi
    rcases hi' with rfl | rfl | rfl | rfl | rfl | rfl | rfl | rfl | rfl | rfl | rfl | rfl | rfl | rfl | rfl
    · refine RI.wpOp_plain rfl rfl ?_
      go_simp
      exact ⟨u3, _, u28, u29, u30, u31, u32, u33, u34, u35, u36, u37, u38, u39, u40, rfl, hw, fun _ => rfl, p1, p2, p3, p5, p6, p7, p8, p9, p10, p11, p13, p14, z4, z12⟩
    · have hd := hd _ rfl
      simp [Region.binds] at hd
      obtain rfl := p0 (by simp [hd])
      refine RI.wpOp_plain rfl rfl ?_
      go_simp
      exact ⟨u3, _, _, u29, u30, u31, u32, u33, u34, u35, u36, u37, u38, u39, u40, rfl, hw, p0, fun _ => rfl, p2, p3, p5, p6, p7, p8, p9, p10, p11, p13, p14, z4, z12⟩
    · have hd := hd _ rfl
      simp [Region.binds] at hd
      obtain rfl := p1 (by simp [hd])
      refine RI.wpOp_plain rfl rfl ?_
      go_simp
      exact ⟨u3, u27, _, _, u30, u31, u32, u33, u34, u35, u36, u37, u38, u39, u40, rfl, hw, p0, p1, fun _ => rfl, p3, p5, p6, p7, p8, p9, p10, p11, p13, p14, z4, z12⟩
    · have hd := hd _ rfl
      simp [Region.binds] at hd
      obtain rfl := p2 (by simp [hd])
      refine RI.wpOp_plain rfl rfl ?_
      have x0 := (hw.cell (p := ⟨g, off, none⟩) hg).trans k0
      go_simp
      exact ⟨u3, u27, u28, _, _, u31, u32, u33, u34, u35, u36, u37, u38, u39, u40, rfl, hw, p0, p1, p2, fun _ => rfl, p5, p6, p7, p8, p9, p10, p11, p13, p14, z4, z12⟩
    · have hd := hd _ rfl
      simp [Region.binds] at hd
      obtain rfl := p3 (by simp [hd])
      refine RI.wpOp_plain rfl rfl ?_
      obtain ⟨cq, w1, hcv, hs1, hsz, hb1⟩ := HX.out wx
      go_simp
      exact ⟨u3, u27, u28, u29, _, _, u32, u33, u34, u35, u36, u37, u38, u39, u40, rfl, hw.trans (hb1.mono hw.size), p0, p1, p2, p3, p5, p6, p7, p8, p9, p10, p11, p13, p14, fun _ => hs1, (fun h => SlC_below (z12 h) hb1)⟩
    · refine RI.wpOp_plain rfl rfl ?_
      go_simp
      exact ⟨u3, u27, u28, u29, u30, u31, _, u33, u34, u35, u36, u37, u38, u39, u40, rfl, hw, p0, p1, p2, p3, fun _ => rfl, p6, p7, p8, p9, p10, p11, p13, p14, z4, z12⟩
    · refine RI.wpOp_plain rfl rfl ?_
      go_simp
      exact ⟨u3, u27, u28, u29, u30, u31, u32, _, u34, u35, u36, u37, u38, u39, u40, rfl, hw, p0, p1, p2, p3, p5, fun _ => rfl, p7, p8, p9, p10, p11, p13, p14, z4, z12⟩
    · have hd := hd _ rfl
      simp [Region.binds] at hd
      obtain rfl := p6 (by simp [hd])
      refine RI.wpOp_plain rfl rfl ?_
      go_simp
      exact ⟨u3, u27, u28, u29, u30, u31, u32, _, _, u35, u36, u37, u38, u39, u40, rfl, hw, p0, p1, p2, p3, p5, p6, fun _ => rfl, p8, p9, p10, p11, p13, p14, z4, z12⟩
    · have hd := hd _ rfl
      simp [Region.binds] at hd
      obtain rfl := p7 (by simp [hd])
      refine RI.wpOp_plain rfl rfl ?_
      go_simp
      exact ⟨u3, u27, u28, u29, u30, u31, u32, u33, _, _, u36, u37, u38, u39, u40, rfl, hw, p0, p1, p2, p3, p5, p6, p7, fun _ => rfl, p9, p10, p11, p13, p14, z4, z12⟩
    · have hd := hd _ rfl
      simp [Region.binds] at hd
      obtain rfl := p5 (by simp [hd])
      obtain rfl := p8 (by simp [hd])
      refine RI.wpOp_plain rfl rfl ?_
      go_simp
      exact ⟨u3, u27, u28, u29, u30, u31, _, u33, u34, _, _, u37, u38, u39, u40, rfl, hw, p0, p1, p2, p3, p5, p6, p7, p8, fun _ => rfl, p10, p11, p13, p14, z4, z12⟩
    · have hd := hd _ rfl
      simp [Region.binds] at hd
      obtain rfl := p9 (by simp [hd])
      refine RI.wpOp_plain rfl rfl ?_
      go_simp
      exact ⟨u3, u27, u28, u29, u30, u31, u32, u33, u34, u35, _, _, u38, u39, u40, rfl, hw, p0, p1, p2, p3, p5, p6, p7, p8, p9, fun _ => rfl, p11, p13, p14, z4, z12⟩
    · have hd := hd _ rfl
      simp [Region.binds] at hd
      obtain rfl := p10 (by simp [hd])
      refine RI.wpOp_plain rfl rfl ?_
      have x0 := (hw.cell (p := ⟨g, off + m * 2, none⟩) hg).trans l0
      go_simp
      exact ⟨u3, u27, u28, u29, u30, u31, u32, u33, u34, u35, u36, _, _, u39, u40, rfl, hw, p0, p1, p2, p3, p5, p6, p7, p8, p9, p10, fun _ => rfl, p13, p14, z4, z12⟩
    · have hd := hd _ rfl
      simp [Region.binds] at hd
      obtain rfl := p11 (by simp [hd])
      refine RI.wpOp_plain rfl rfl ?_
      obtain ⟨cq, w1, hcv, hs1, hsz, hb1⟩ := HY.out wx
      go_simp
      exact ⟨u3, u27, u28, u29, u30, u31, u32, u33, u34, u35, u36, u37, _, _, u40, rfl, hw.trans (hb1.mono hw.size), p0, p1, p2, p3, p5, p6, p7, p8, p9, p10, p11, p13, p14, (fun h => SlC_below (z4 h) hb1), fun _ => hs1⟩
    · have hd := hd _ rfl
      simp [Region.binds] at hd
      refine RI.wpOp_plain rfl rfl ?_
      go_simp
      refine (KN.out _ _ _ (z4 (by simp [hd])) (z12 (by simp [hd]))).mono ?_
      rintro e w1 ⟨rfl, hb1⟩
      exact ⟨u3, u27, u28, u29, u30, u31, u32, u33, u34, u35, u36, u37, u38, u39, _, rfl, hw.trans (hb1.mono hw.size), p0, p1, p2, p3, p5, p6, p7, p8, p9, p10, p11, fun _ => rfl, p14, (fun h => SlC_below (z4 h) hb1), (fun h => SlC_below (z12 h) hb1)⟩
    · have hd := hd _ rfl
      simp [Region.binds] at hd
      obtain rfl := p0 (by simp [hd])
      obtain rfl := p1 (by simp [hd])
      obtain rfl := p2 (by simp [hd])
      obtain rfl := p3 (by simp [hd])
      obtain rfl := p5 (by simp [hd])
      obtain rfl := p6 (by simp [hd])
      obtain rfl := p7 (by simp [hd])
      obtain rfl := p8 (by simp [hd])
      obtain rfl := p9 (by simp [hd])
      obtain rfl := p10 (by simp [hd])
      obtain rfl := p11 (by simp [hd])
      obtain rfl := p13 (by simp [hd])
      refine RI.wpOp_plain rfl rfl ?_
      go_simp
      exact ⟨_, _, _, _, _, u31, _, _, _, _, _, _, _, u39, _, rfl, hw, p0, p1, p2, p3, p5, p6, p7, p8, p9, p10, p11, p13, fun _ => rfl, z4, z12⟩
  · skip
    intro d x wx hI hd
    obtain ⟨u3, u27, u28, u29, u30, u31, u32, u33, u34, u35, u36, u37, u38, u39, u40, rfl, hw, p0, p1, p2, p3, p5, p6, p7, p8, p9, p10, p11, p13, p14, z4, z12⟩ := hI
    obtain rfl := p14 (hd 14 (by decide))
    clear p0 p1 p2 p3 p5 p6 p7 p8 p9 p10 p11 p13 z4 z12
    obtain ⟨w8, hr8, hs8, ht8, hb8⟩ := made16 wx
    have hXi : X.toList.isEmpty = false := HXI.out
    have HW8 : Hid (Below W0.heap.size W0 w8) := hw.trans (hb8.mono hw.size)
    have HA4 := heap_alloc_new w8 (.cells #[.int .i64 3, .slice none 0 0, .slice none 0 0, .slice (some ⟨wx.heap.size, 0, none⟩) 16 16] 25)
    have HB4 : Below w8.heap.size w8 (w8.alloc (.cells #[.int .i64 3, .slice none 0 0, .slice none 0 0, .slice (some ⟨wx.heap.size, 0, none⟩) 16 16] 25)) := (Below.refl _ _).alloc (Nat.le_refl _) _
    have HF4 : F4 w8.heap.size wx.heap.size (.slice none 0 0) (w8.alloc (.cells #[.int .i64 3, .slice none 0 0, .slice none 0 0, .slice (some ⟨wx.heap.size, 0, none⟩) 16 16] 25)) := by
      refine ⟨by simp, ?_, ?_, ?_, ?_, fun o => by simp only [World.frozen?, HA4]; simp⟩ <;> (simp only [World.cell?, HA4]; rfl)
    have G0 : GO w (w8.alloc (.cells #[.int .i64 3, .slice none 0 0, .slice none 0 0, .slice (some ⟨wx.heap.size, 0, none⟩) 16 16] 25)).heap.size g2 w8.heap.size wx.heap.size v (.slice none 0 0) T 0 (w8.alloc (.cells #[.int .i64 3, .slice none 0 0, .slice none 0 0, .slice (some ⟨wx.heap.size, 0, none⟩) 16 16] 25)) := by
      have b8 : Below W0.heap.size W0 (w8.alloc (.cells #[.int .i64 3, .slice none 0 0, .slice none 0 0, .slice (some ⟨wx.heap.size, 0, none⟩) 16 16] 25)) := HW8.out.trans (HB4.mono HW8.out.size)
      exact ⟨B0.trans (b8.mono HGL.out), Nat.le_refl _, B4_gb (r := none) BV (gb_below b8) (fun e => by cases e), HF4, ⟨Nat.lt_of_lt_of_le (by omega) HB4.size, there_gb (r := none) ht8 (by omega) (gb_below HB4) (fun e => by cases e), fun _ => n4, fun j hj => absurd hj (by omega)⟩, by rw [HVE.out]; exact Bs_nil _ _⟩
    have HG4 : Hid (g2 < wx.heap.size ∧ wx.heap.size < w8.heap.size ∧ w8.heap.size < (w8.alloc (.cells #[.int .i64 3, .slice none 0 0, .slice none 0 0, .slice (some ⟨wx.heap.size, 0, none⟩) 16 16] 25)).heap.size) := ⟨Nat.lt_of_lt_of_le HG2.out hw.size, by omega, by simp⟩
    have x8 := (HW8.out.cell (p := ⟨g, off, none⟩) hg).trans k0
    have x9 := ((HW8.out.trans (HB4.mono HW8.out.size)).cell (p := ⟨g, off, none⟩) hg).trans k0
    have HNE0 := HG4.out
    clear HX HY KN HF4 HA4 hw0
    have HS8 : Hid (w8.heap.size = wx.heap.size + 1) := hs8
    clear hs8
    generalize wx.heap.size = gk at *
    go_wp2_with fail
    generalize w8.alloc (.cells #[.int .i64 3, .slice none 0 0, .slice none 0 0, .slice (some ⟨gk, 0, none⟩) 16 16] 25) = W1 at *
    clear x8 x9 hr8 ht8 hb8 hw HB4
    generalize hg4 : w8.heap.size = g4 at *
    have HLT2 : Hid (g2 < gk ∧ gk < W1.heap.size) := ⟨by omega, by omega⟩
    have HNE : Hid (g2 ≠ gk ∧ g4 ≠ gk ∧ w.heap.size ≤ gk ∧ gk < W1.heap.size) := ⟨by omega, by omega, by have := HG2B.out; omega, by omega⟩
    have KSH : Hid (∀ (i lo : Nat) (x : Value) (wx : World), Ow lo (prt i M) x wx → Calls Try.prog 44 #[x, .int .i64 1] wx fun e w' => ∃ y, e = .returned y ∧ Rv (cut 1 (prt i M)) y w' ∧ Below wx.heap.size wx w') := fun i lo x wx ho => by
      obtain ⟨ao, cp, e1, e2, e3⟩ := own_rv ho
      subst e1
      refine (shorter_any (prt i M) 1 ao cp _ wx rfl (show _ ≤ _ from Nat.le_trans (List.length_filter_le _ _) (by rw [HML.out]; have := HN.out; omega)) (own_rv ho) (fun r hr => List.length_pos_iff.2 (hM1.out r (List.mem_filter.1 hr).1))).mono fun e w' he => ?_
      obtain ⟨y, h1, h2, h3⟩ := he
      exact ⟨y, h1, own_rv h2, h3⟩
    clear HNE0
    go_loopw [71] (fun x wr => ∃ i : Nat, i ≤ 16 ∧ x = .int .i64 (i : Int) ∧ GO w W1.heap.size g2 g4 gk v (.slice none 0 0) T i wr) (fun x _ => ((16 : Int) - intOf x).toNat)
    case atStart => exact ⟨0, Nat.zero_le _, rfl, G0⟩
    case round =>
      obtain ⟨i, hi, rfl, hG⟩ := hrel
      by_cases hlt : i < 16
      · have d1 : decide ((i : Int) < 16) = true := decide_eq_true (by omega)
        have HGi : Hid (GO w W1.heap.size g2 g4 gk v (.slice none 0 0) T i wr) := hG
        have HBi : Hid (Below w.heap.size w wr) := hG.b
        have i16 : Hid ((i : Int) < 16) := by show _ < _; omega
        have i16' : Hid ((0 : Int) ≤ (i : Int)) := by show _ ≤ _; omega
        clear hG
        generalize wr = wo at *
        clear wr
        go_wp2_with fail
        go_loopw [6, 76] (fun o x wr => ∃ k : Nat, k ≤ n ∧ x = .int .i64 (k : Int) ∧ Ow wo.heap.size (prt i (M.take k)) o wr ∧ Below wo.heap.size wo wr) (fun _ x _ => ((n : Int) - intOf x).toNat)
        case atStart => exact ⟨0, Nat.zero_le _, rfl, World.ownsRow_nil _ _ _ _, Below.refl _ _⟩
        case round =>
          obtain ⟨k, hk, rfl, ho, hB⟩ := hrel
          by_cases hkl : k < n
          · have d2 : decide ((k : Int) < (n : Int)) = true := decide_eq_true (by omega)
            have d3 : (0 : Int) ≤ (k : Int) := by omega
            have d4 : (k : Int) < (n : Int) := by omega
            obtain ⟨y0, y1⟩ := HMC.out k hkl
            have z0 := ((HBi.out.trans (hB.mono HBi.out.size)).cell (p := ⟨g, off + 2 * k, none⟩) HC0.out).trans y0
            have z1 := ((HBi.out.trans (hB.mono HBi.out.size)).cell (p := ⟨g, off + 2 * k + 1, none⟩) HC0.out).trans y1
            rw [Nat.mul_comm 2 k] at z0 z1
            have hMk : k < M.length := by rw [HML.out]; exact hkl
            have hne : (M.getD k n2).1 ≠ [] := hM1.out _ (by rw [List.getD_eq_getElem?_getD, List.getElem?_eq_getElem hMk]; exact List.getElem_mem hMk)
            have HPT : Hid (prt i (M.take (k + 1)) = prt i (M.take k) ++ (if ((M.getD k n2).1.headD 0).toNat = i then [M.getD k n2] else [])) := prt_take i M k hMk
            have HPL : Hid ((prt i (M.take k)).length ≤ k) := Nat.le_trans (List.length_filter_le _ _) (by rw [List.length_take]; omega)
            obtain ⟨A, eA⟩ : ∃ A, A = st (M.getD k n2).1 := ⟨_, rfl⟩
            obtain ⟨Z, eZ⟩ : ∃ Z, Z = st (M.getD k n2).2 := ⟨_, rfl⟩
            have hAs : 0 < A.size := by rw [eA, st_size]; exact List.length_pos_iff.2 hne
            have hAv : (A[0]'hAs).toNat = ((M.getD k n2).1.headD 0).toNat := by
              subst eA
              exact st_head _ hne hAs
            have HLT : Hid (∀ W : World, Rv [M.getD k n2] (.slice (some ⟨W.heap.size, 0, none⟩) 1 1) (W.alloc (.cells #[.string A, .string Z] 51))) := fun W => by rw [eA, eZ]; exact lit_rv _ W
            rw [← eA] at z0
            rw [← eZ] at z1
            clear y0 y1 eA eZ hne
            have E5 : Hid (wrap64 ((k : Int) + 1) = ((k + 1 : Nat) : Int)) := by have := HN.out; show _ = _; unfold wrap64; omega
            have bA : Below wr.heap.size wr (wr.alloc (.cells #[.string A, .string Z] 51)) := (Below.refl _ _).alloc (Nat.le_refl _) _
            have hc8 : ((M.getD k n2).1.headD 0).toNat < 256 := UInt8.toNat_lt _
            generalize ((M.getD k n2).1.headD 0).toNat = cc at *
            by_cases hci : cc = i
            · have t1 : ((cc : Int) == (i : Int)) = true := beq_iff_eq.2 (by omega)
              have t2 : (cc == i) = true := beq_iff_eq.2 hci
              have t3 : (wrap64 (cc : Int) == (i : Int)) = true := beq_iff_eq.2 (by unfold wrap64; omega)
              have HPT2 : Hid (prt i (M.take (k + 1)) = prt i (M.take k) ++ [M.getD k n2]) := by show _ = _; rw [HPT.out, if_pos hci]
              obtain ⟨v', w', hap, ho', hb', hgr⟩ := app_rv (lo := wo.heap.size) 47 (Pk.ownb (Pk.ownb ho bA) ((Below.refl _ _).alloc (Nat.le_refl _) (.cells #[.string A, .string Z] 51))) (HLT.out (wr.alloc (.cells #[.string A, .string Z] 51))) (by have := hB.size; simp; omega) (by have := HPL.out; have := HN.out; rw [List.length_singleton]; omega)
              rw [show (wr.alloc (.cells #[.string A, .string Z] 51)).heap.size = wr.heap.size + 1 by simp] at hap
              have HZ : Hid (Below wo.heap.size wo w') := (hB.trans ((bA.alloc (by simp) _).mono hB.size)).trans hb'
              have HO : Hid (Ow wo.heap.size (prt i (M.take (k + 1))) v' w') := by show Ow _ _ _ _; rw [HPT2.out]; exact ho'
              clear ho' hb' hgr bA hci
              obtain ⟨oa, on, oc, rfl⟩ := own_slice ho
              clear ho hB
              go_wp2_with (at_builtin; refine wpl_app rfl rfl rfl rfl hap ?_)
              rw [E5.out]
              exact ⟨⟨k + 1, hkl, rfl, HO.out, HZ.out⟩, msr_up k n hkl⟩
            · have t1 : ((cc : Int) == (i : Int)) = false := beq_eq_false_iff_ne.2 (by omega)
              have t2 : (cc == i) = false := beq_eq_false_iff_ne.2 hci
              have t3 : (wrap64 (cc : Int) == (i : Int)) = false := beq_eq_false_iff_ne.2 (by unfold wrap64; omega)
              have HPT2 : Hid (prt i (M.take (k + 1)) = prt i (M.take k)) := by show _ = _; rw [HPT.out, if_neg hci, List.append_nil]
              have HZ : Hid (Below wo.heap.size wo (wr.alloc (.cells #[.string A, .string Z] 51))) := hB.trans (bA.mono hB.size)
              have HO : Hid (Ow wo.heap.size (prt i (M.take (k + 1))) u6 (wr.alloc (.cells #[.string A, .string Z] 51))) := by show Ow _ _ _ _; rw [HPT2.out]; exact Pk.ownb ho bA
              clear bA hci
              clear ho hB
              go_wp2_with fail
              rw [E5.out]
              exact ⟨⟨k + 1, hkl, rfl, HO.out, HZ.out⟩, msr_up k n hkl⟩
          · have d2 : decide ((k : Int) < (n : Int)) = false := decide_eq_false (by omega)
            have ek : M.take k = M := List.take_of_length_le (by rw [HML.out]; omega)
            rw [ek] at ho
            have HGo : GO w W1.heap.size g2 g4 gk v (.slice none 0 0) T i wr := GO_below HGi.out hB
            obtain ⟨oa, on, oc, rfl⟩ := own_slice ho
            have HRv := own_rv ho
            have HOW : Hid (Ow wo.heap.size (prt i M) (.slice oa on oc) wr) := ho
            clear ho hB d2 ek HGi HBi
            go_upto_region 21 with fail
            have hw21 : GX w W1.heap.size g2 g4 gk v (.slice none 0 0) T i wo.heap.size (prt i M) (.slice oa on oc) false wr.drew := ⟨fun _ => GO_below HGo (Below.refl _ _).drew, fun _ => Pk.ownb HOW.out (Below.refl _ _).drew, nofun⟩
            clear HGo HRv HOW
            refine RI.wp_region_inv (GK21n w W1.heap.size wo.heap.size T v (prt i M) g off n cap g2 g4 gk i k X oa on oc u8 u27 u28 u29 u30 u31 u32 u33 u34 u35 u36 u37 u38 u39 u40 u78 u79 u80 u81 u82 u83 u84 u85 u86 u87 u88 u89 u90 u98) (by kernel_rfl) (by kernel_rfl) ?_ ?_ ?_
            · exact ⟨u91, u92, u93, u94, u95, u96, u97, rfl, hw21, nofun, nofun, nofun, nofun, nofun, nofun, nofun, nofun⟩
            · skip
              intro d x wx i hI hi hm
              obtain ⟨u91, u92, u93, u94, u95, u96, u97, rfl, hw, p0, p1, p2, p3, p6, z4, z5, y7⟩ := hI
              have hi' : i = 0 ∨ i = 1 ∨ i = 2 ∨ i = 3 ∨ i = 4 ∨ i = 5 ∨ i = 6 ∨ i = 7 := by simp at hi; omega
              have hd := hm.2
              have hf := hm.1
              clear hm hi
              rcases hi' with rfl | rfl | rfl | rfl | rfl | rfl | rfl | rfl
              · refine RI.wpOp_plain rfl rfl ?_
                go_simp
                exact ⟨_, u92, u93, u94, u95, u96, u97, rfl, hw, fun _ => rfl, p1, p2, p3, p6, z4, z5, y7⟩
              · have hd := hd _ rfl
                simp [Region.binds] at hd
                obtain rfl := p0 (by simp [hd])
                refine RI.wpOp_plain rfl rfl ?_
                have h7 : d 7 = false := by cases h : d 7 with | false => rfl | true => exact absurd (y7 h).1 (by simp [hf])
                have x0 := (hw.a h7).f.2.2.2.2.1
                go_simp
                exact ⟨_, _, u93, u94, u95, u96, u97, rfl, hw, p0, fun _ => rfl, p2, p3, p6, z4, z5, fun h => absurd h (by simp [RI.don, h7])⟩
              · refine RI.wpOp_plain rfl rfl ?_
                go_simp
                exact ⟨u91, u92, _, u94, u95, u96, u97, rfl, hw, p0, p1, fun _ => rfl, p3, p6, z4, z5, y7⟩
              · refine RI.wpOp_plain rfl rfl ?_
                go_simp
                exact ⟨u91, u92, u93, _, u95, u96, u97, rfl, hw, p0, p1, p2, fun _ => rfl, p6, z4, z5, y7⟩
              · have hd := hd _ rfl
                simp [Region.binds] at hd
                obtain rfl := p3 (by simp [hd])
                refine RI.wpOp_plain rfl rfl ?_
                have h7 : d 7 = false := by cases h : d 7 with | false => rfl | true => exact absurd (y7 h).2.1 (by simp [hf])
                have oo := hw.o h7
                go_simp
                refine (KSH.out i _ _ _ oo).mono ?_
                rintro e w1 ⟨x1, rfl, hs1, hb1⟩
                exact ⟨u91, u92, u93, _, _, u96, u97, rfl, GX_below hw hb1, p0, p1, p2, p3, p6, fun _ _ => hs1, (fun h => (z5 h).imp fun y hy => ⟨hy.1, fun k => Nv_below (hy.2 k) hb1⟩), fun h => absurd h (by simp [RI.don, h7])⟩
              · have hd := hd _ rfl
                simp [Region.binds] at hd
                refine RI.wpOp_plain rfl rfl ?_
                have h7 : d 7 = false := by cases h : d 7 with | false => rfl | true => exact absurd (y7 h).2.2 (by simp [hf])
                have rv := z4 (by simp [hd]) h7
                go_simp
                refine (KG.out i _ _ hlt rv).mono ?_
                rintro e w1 ⟨y, rfl, hy, hb1⟩
                exact ⟨u91, u92, u93, u94, u95, _, u97, rfl, GX_below hw hb1, p0, p1, p2, p3, p6, (fun h k => Rv_below (z4 h k) hb1), fun _ => ⟨y, rfl, fun _ => Nv_mono hy (fun k h _ => Nat.le_trans (hw.a h7).s h)⟩, fun h => absurd h (by simp [RI.don, h7])⟩
              · have hd := hd _ rfl
                simp [Region.binds] at hd
                obtain rfl := p0 (by simp [hd])
                obtain rfl := p1 (by simp [hd])
                obtain rfl := p2 (by simp [hd])
                obtain rfl := p3 (by simp [hd])
                refine RI.wpOp_plain rfl rfl ?_
                have e16 := i16.out
                have e16' := i16'.out
                go_simp
                exact ⟨_, _, _, _, u95, u96, _, rfl, hw, p0, p1, p2, p3, fun _ => rfl, z4, z5, y7⟩
              · have hd := hd _ rfl
                simp [Region.binds] at hd
                obtain rfl := p0 (by simp [hd])
                obtain rfl := p1 (by simp [hd])
                obtain rfl := p2 (by simp [hd])
                obtain rfl := p3 (by simp [hd])
                obtain rfl := p6 (by simp [hd])
                refine RI.wpOp_plain rfl rfl ?_
                obtain ⟨y, rfl, hy⟩ := z5 (by simp [hd])
                have hyn := hy hf
                obtain ⟨yk, b1, m1, e1, b2, m2, e2, b3, m3, e3, rfl⟩ := Nv_form hyn
                refine wp_st4o rfl rfl rfl (there_sub (hw.a hf).k.t hlt) ?_
                intro w1 gb1 s0 s1 s2 s3 so sf
                have GN := GO_step (hw.a hf) hlt HNE.out.1 HNE.out.2.1 HNE.out.2.2.1 HNE.out.2.2.2 hyn gb1 s0 s1 s2 s3 so sf
                simp only [Act.put]
                exact ⟨_, _, _, _, u95, _, _, rfl, ⟨nofun, nofun, fun _ => GN⟩, p0, p1, p2, p3, p6, (fun _ h => nomatch h), fun _ => ⟨_, rfl, fun h => nomatch h⟩, fun _ => ⟨by simp [RI.don, hd], by simp [RI.don, hd], by simp [RI.don, hd]⟩⟩
            · skip
              intro d x wx hI hd
              obtain ⟨u91, u92, u93, u94, u95, u96, u97, rfl, hw, p0, p1, p2, p3, p6, z4, z5, y7⟩ := hI
              have GN := hw.e (hd 7 (by decide))
              have HGN : Hid (GO w W1.heap.size g2 g4 gk v (.slice none 0 0) T (i + 1) wx) := GN
              clear GN hw p0 p1 p2 p3 p6 z4 z5 y7
              go_wp2_with fail
              exact ⟨⟨i + 1, hlt, by rw [Int.natCast_succ], HGN.out⟩, msr_up' i 16 hlt⟩
      · have d1 : decide ((i : Int) < 16) = false := decide_eq_false (by omega)
        have ei : i = 16 := by omega
        subst ei
        have HGE : GO w W1.heap.size g2 g4 gk v (.slice none 0 0) T 16 wr := hG
        obtain ⟨_, f0, f1, f2, f3, _⟩ := hG.f
        have hv2 := hG.v
        have HNV : Hid (Nv (gk ≤ ·) wr (.mk 3 [] v ((List.range 16).map T)) (.int .i64 3, .slice none 0 0, (.slice none 0 0), .slice (some ⟨gk, 0, none⟩) 16 16)) := GO_end hG (fun k hk => by have := HLT2.out; omega) (Nat.le_refl _)
        clear hG d1
        go_wp2_with (refine wpList_st4 rfl rfl rfl rfl hv2 ?_; intro w9 gb9 s0 s1 s2 s3)
        have N9 : Nv (w.heap.size ≤ ·) w9 (.mk 3 [] v ((List.range 16).map T)) (.int .i64 3, .slice none 0 0, (.slice none 0 0), .slice (some ⟨gk, 0, none⟩) 16 16) := Nv_mono (Nv_gb HNV.out gb9 (fun k hk e => by injection e with e; have := HLT2.out; omega)) (fun k hk _ => Nat.le_trans HNE.out.2.2.1 hk)
        have B9 : Below w.heap.size w w9 := HGE.b.grown gb9 HGE.b.size (fun k e => by injection e with e; have := HG2B.out; omega)
        exact bodyPost_ret (v := .agg #[.int .i64 3, .slice none 0 0, (.slice none 0 0), .slice (some ⟨gk, 0, none⟩) 16 16]) (resN _ _ _ g2 2 _ _ _ _ rfl rfl s0 s1 s2 s3) rfl ⟨(.int .i64 3, .slice none 0 0, (.slice none 0 0), .slice (some ⟨gk, 0, none⟩) 16 16), rfl, N9, B9⟩
inductive GV10 (w : World) (B : Nat) (T : Nat → Nd) (v : By) (g off n m cap g2 g4 gk : Nat) (X V : ByteArray) (v27 v28 v29 v30 v31 v32 v33 v34 v35 v36 v37 v38 v39 v40 : Value) (d : Nat → Bool) (x : Act) (wx : World) : Prop where
  | mk (u0 u63 u64 u65 u66 u67 u68 u69 u70 : Value) (hx : x = { tmps := #[u0, undef, .pointer (some ⟨g2, 0, none⟩), .int .i64 0, .pointer (some ⟨g4, 0, none⟩), undef, undef, undef, undef, .slice (some ⟨g, off, none⟩) n cap, .int .i64 (n : Int), .bool false, undef, .slice (some ⟨g, off, none⟩) n cap, .int .i64 (n : Int), .bool false, undef, undef, undef, undef, undef, undef, undef, undef, undef, undef, undef, v27, v28, v29, v30, v31, v32, v33, v34, v35, v36, v37, v38, v39, v40, .int .i64 0, .bool false, undef, undef, undef, undef, undef, undef, undef, undef, undef, undef, undef, undef, undef, .slice (some ⟨gk, 0, none⟩) 16 16, .agg #[.int .i64 3, .slice none 0 0, .slice none 0 0, .slice (some ⟨gk, 0, none⟩) 16 16], .slice (some ⟨g, off, none⟩) n cap, .pointer (some ⟨g, off, none⟩), .pointer (some ⟨g, off, none⟩), .string X, .bool true, u63, u64, u65, u66, u67, u68, u69, u70, undef, undef, undef, undef, undef, undef, undef, undef, undef, undef, undef, undef, undef, undef, undef, undef, undef, undef, undef, undef, undef, undef, undef, undef, undef, undef, undef, undef, undef], defers := [] }) (hw : GV w B g2 g4 gk v T (d 8) (d 9) (.slice (some ⟨g, off, none⟩) n cap) u0 wx) (p0 : d 0 = true → u63 = .slice (some ⟨g, off, none⟩) n cap) (p1 : d 1 = true → u64 = .pointer (some ⟨g, off, none⟩)) (p2 : d 2 = true → u65 = .pointer (some ⟨g, off + 1, none⟩)) (p3 : d 3 = true → u66 = .string V) (p5 : d 5 = true → u68 = .slice (some ⟨g, off, none⟩) n cap) (p6 : d 6 = true → u69 = .slice (some ⟨g, off + 2, none⟩) m (cap - 1)) (p7 : d 7 = true → u70 = .pointer (some ⟨g4, 2, none⟩)) (p9 : d 9 = true → u0 = .slice (some ⟨g, off + 2, none⟩) m (cap - 1)) (z4 : d 4 = true → ∃ a c, u67 = .slice a v.length c ∧ (d 8 = false → Bs (B ≤ ·) v (.slice a v.length c) wx)) (y8 : d 8 = true → d 4 = true) (y9 : d 9 = true → d 0 = true ∧ d 5 = true) : GV10 w B T v g off n m cap g2 g4 gk X V v27 v28 v29 v30 v31 v32 v33 v34 v35 v36 v37 v38 v39 v40 d x wx
inductive GK21v (w : World) (B lo : Nat) (T : Nat → Nd) (v : By) (pt : Rt) (g off n cap g2 g4 gk i k : Nat) (X : ByteArray) (oa : Option Addr) (on oc : Nat) (m vc vl : Nat) (va : Option Addr) (v8 v27 v28 v29 v30 v31 v32 v33 v34 v35 v36 v37 v38 v39 v40 v63 v64 v65 v66 v67 v68 v69 v70 v78 v79 v80 v81 v82 v83 v84 v85 v86 v87 v88 v89 v90 v98 : Value) (d : Nat → Bool) (x : Act) (wx : World) : Prop where
  | mk (u91 u92 u93 u94 u95 u96 u97 : Value) (hx : x = { tmps := #[.slice (some ⟨g, off + 2, none⟩) m (cap - 1), undef, .pointer (some ⟨g2, 0, none⟩), .int .i64 0, .pointer (some ⟨g4, 0, none⟩), .int .i64 (i : Int), .slice oa on oc, undef, v8, .slice (some ⟨g, off, none⟩) n cap, .int .i64 (n : Int), .bool false, undef, .slice (some ⟨g, off, none⟩) n cap, .int .i64 (n : Int), .bool false, undef, undef, undef, undef, undef, undef, undef, undef, undef, undef, undef, v27, v28, v29, v30, v31, v32, v33, v34, v35, v36, v37, v38, v39, v40, .int .i64 0, .bool false, undef, undef, undef, undef, undef, undef, undef, undef, undef, undef, undef, undef, undef, .slice (some ⟨gk, 0, none⟩) 16 16, .agg #[.int .i64 3, .slice none 0 0, .slice none 0 0, .slice (some ⟨gk, 0, none⟩) 16 16], .slice (some ⟨g, off, none⟩) n cap, .pointer (some ⟨g, off, none⟩), .pointer (some ⟨g, off, none⟩), .string X, .bool true, v63, v64, v65, v66, v67, v68, v69, v70, .int .i64 (i : Int), .bool true, .int .i64 (i : Int), .slice (some ⟨g, off + 2, none⟩) m (cap - 1), .int .i64 (m : Int), .int .i64 (k : Int), .bool false, v78, v79, v80, v81, v82, v83, v84, v85, v86, v87, v88, v89, v90, u91, u92, u93, u94, u95, u96, u97, v98, undef], defers := [] }) (hw : GX w B g2 g4 gk v (.slice va vl vc) T i lo pt (.slice oa on oc) (d 7) wx) (p0 : d 0 = true → u91 = .pointer (some ⟨g4, 3, none⟩)) (p1 : d 1 = true → u92 = .slice (some ⟨gk, 0, none⟩) 16 16) (p2 : d 2 = true → u93 = .int .i64 (i : Int)) (p3 : d 3 = true → u94 = .slice oa on oc) (p6 : d 6 = true → u97 = .pointer (some ⟨gk, i * 4, none⟩)) (z4 : d 4 = true → d 7 = false → Rv (cut 1 pt) u95 wx) (z5 : d 5 = true → ∃ y, u96 = v4 y ∧ (d 7 = false → Nv (B ≤ ·) wx (T i) y)) (y7 : d 7 = true → d 1 = true ∧ d 4 = true ∧ d 5 = true) : GK21v w B lo T v pt g off n cap g2 g4 gk i k X oa on oc m vc vl va v8 v27 v28 v29 v30 v31 v32 v33 v34 v35 v36 v37 v38 v39 v40 v63 v64 v65 v66 v67 v68 v69 v70 v78 v79 v80 v81 v82 v83 v84 v85 v86 v87 v88 v89 v90 v98 d x wx
set_option maxHeartbeats 4000000 in
set_option maxRecDepth 100000 in
theorem grown_fork_v (l M : Rt) (p q v : By) (g off cap n m : Nat) (w : World) (hn : 2 ≤ n) (hm : m + 1 = n) (hn2 : n ≤ 1048576) (hln : l.length = n) (hcap : n ≤ cap) (hg0 : g < w.heap.size) (hp : (l.getD 0 n2).1 = p) (hq : (l.getD m n2).1 = q) (hp0 : p = []) (hv : (l.getD 0 n2).2 = v) (hM : M = l.tail) (hM1 : Hid (∀ r ∈ M, r.1 ≠ []))
    (hcl : Hid (∀ j, j < l.length → w.cell? ⟨g, off + 2 * j, none⟩ = some (.string (st (l.getD j n2).1)) ∧ w.cell? ⟨g, off + 2 * j + 1, none⟩ = some (.string (st (l.getD j n2).2))))
    (T : Nat → Nd) (KG : Hid (∀ (i : Nat) (x : Value) (wx : World), i < 16 → Rv (cut 1 (prt i M)) x wx → Calls Try.prog 24 #[x] wx fun e w' => ∃ y : V4, e = .returned (v4 y) ∧ Nv (wx.heap.size ≤ ·) w' (T i) y ∧ Below wx.heap.size wx w'))
    (hpl : p.length ≤ 4194304) (hql : q.length ≤ 4194304) (KN : Hid (∀ (a b : Value) (wx : World), SlC p a wx → SlC q b wx → Calls Try.prog 43 #[a, b] wx fun e w' => e = .returned (.int .i64 0) ∧ Below wx.heap.size wx w')) :
    Calls Try.prog 24 #[.slice (some ⟨g, off, none⟩) n cap] w fun e w' => ∃ u : V4, e = .returned (v4 u) ∧ Nv (w.heap.size ≤ ·) w' (.mk 3 [] v ((List.range 16).map T)) u ∧ Below w.heap.size w w' := by
  have h0 : w.cell? ⟨g, off, none⟩ = some (.string (st p)) := by have := (hcl.out 0 (by omega)).1; rw [hp] at this; exact this
  have h1 : w.cell? ⟨g, off + m * 2, none⟩ = some (.string (st q)) := by have := (hcl.out m (by omega)).1; rw [hq, Nat.mul_comm] at this; exact this
  have h0v : w.cell? ⟨g, off + 1, none⟩ = some (.string (st v)) := by have := (hcl.out 0 (by omega)).2; rw [hv] at this; exact this
  have B0 : Below w.heap.size w (w.alloc (.cells #[.int .i64 0, .slice none 0 0, .slice none 0 0, .slice none 0 0] 25)) := (Below.refl _ _).alloc (Nat.le_refl _) _
  have k0 := (B0.cell (p := ⟨g, off, none⟩) hg0).trans h0
  have l0 := (B0.cell (p := ⟨g, off + m * 2, none⟩) hg0).trans h1
  have hg : g < (w.alloc (.cells #[.int .i64 0, .slice none 0 0, .slice none 0 0, .slice none 0 0] 25)).heap.size := Nat.lt_of_lt_of_le hg0 B0.size
  have HX : Hid (∀ W : World, ∃ c W', (convert 9 22 (.string (st p))).run Try.prog W = .ok (.slice (some ⟨W.heap.size, 0, none⟩) p.length c) W' ∧ SlC p (.slice (some ⟨W.heap.size, 0, none⟩) p.length c) W' ∧ W'.heap.size = W.heap.size + 1 ∧ Below W.heap.size W W') := st_slc p hpl
  have HY : Hid (∀ W : World, ∃ c W', (convert 9 22 (.string (st q))).run Try.prog W = .ok (.slice (some ⟨W.heap.size, 0, none⟩) q.length c) W' ∧ SlC q (.slice (some ⟨W.heap.size, 0, none⟩) q.length c) W' ∧ W'.heap.size = W.heap.size + 1 ∧ Below W.heap.size W W') := st_slc q hql
  have HV : Hid (∀ W : World, ∃ c W', (convert 9 22 (.string (st v))).run Try.prog W = .ok (.slice (some ⟨W.heap.size, 0, none⟩) v.length c) W' ∧ Pk.Sl v (.slice (some ⟨W.heap.size, 0, none⟩) v.length c) W' ∧ W'.heap.size = W.heap.size + 1 ∧ Below W.heap.size W W') := st_sl v
  have BV := B4_new w
  have HGL : Hid (w.heap.size ≤ (w.alloc (.cells #[.int .i64 0, .slice none 0 0, .slice none 0 0, .slice none 0 0] 25)).heap.size) := B0.size
  have HG2 : Hid (w.heap.size < (w.alloc (.cells #[.int .i64 0, .slice none 0 0, .slice none 0 0, .slice none 0 0] 25)).heap.size) := by show _ < _; simp
  have e0 : ((n : Int) == 0) = false := beq_eq_false_iff_ne.2 (by omega)
  have e1 : ((n : Int) == 1) = false := beq_eq_false_iff_ne.2 (by omega)
  have e2 : (n == 0) = false := beq_eq_false_iff_ne.2 (by omega)
  have e3 : (n == 1) = false := beq_eq_false_iff_ne.2 (by omega)
  have i0 : (0 : Int) < (n : Int) := by omega
  have i1 : IntKind.i64.wrap ((n : Int) - 1) = (m : Int) := by rw [IntKind.wrap_i64]; omega
  have i2 : (0 : Int) ≤ (m : Int) := by omega
  have i3 : (m : Int) < (n : Int) := by omega
  have i4 : 0 < n := by omega
  have i5 : m < n := by omega
  have HC0 : Hid (g < w.heap.size) := hg0
  have HN : Hid (l.length = n ∧ 2 ≤ n ∧ n ≤ 1048576 ∧ m + 1 = n) := ⟨hln, hn, hn2, hm⟩
  have HM : Hid (M = l.tail) := hM
  have HXI : Hid ((st p).toList.isEmpty = true) := by show _ = _; rw [st_list]; rw [hp0]; rfl
  have HML : Hid (M.length = m) := by show _ = _; rw [hM, List.length_tail]; omega
  have HMC : Hid (∀ j, j < m → w.cell? ⟨g, off + 2 + 2 * j, none⟩ = some (.string (st (M.getD j n2).1)) ∧ w.cell? ⟨g, off + 2 + 2 * j + 1, none⟩ = some (.string (st (M.getD j n2).2))) := fun j hj => by
    have hx := hcl.out (j + 1) (by omega)
    have ej : M.getD j n2 = l.getD (j + 1) n2 := by rw [hM]; cases l with | nil => simp at hln; omega | cons a r => rfl
    rw [ej, show off + 2 + 2 * j = off + 2 * (j + 1) by omega]
    exact hx
  have HS1 : Hid ((1 : Int) ≤ (n : Int)) := by show _ ≤ _; omega
  have HS2 : Hid ((n : Int) ≤ (cap : Int)) := by show _ ≤ _; omega
  have HS3 : Hid (n - 1 = m) := by show _ = _; omega
  have HS4 : Hid (¬ cap = 1) := by show ¬ _; omega
  clear hp hq hM hn hm hn2 hln hp0 hv
  generalize st p = X at *
  generalize st q = Y at *
  clear h1 hg0
  go_enter Try.func24, Try.ntmps24
  go_upto_region 5 with fail
  generalize w.alloc (.cells #[.int .i64 0, .slice none 0 0, .slice none 0 0, .slice none 0 0] 25) = W0 at *
  obtain ⟨g2, eg2⟩ : ∃ g2, g2 = w.heap.size := ⟨_, rfl⟩
  have HG2B : Hid (w.heap.size ≤ g2) := by show _ ≤ _; omega
  rw [← eg2] at BV HG2 ⊢
  have E2 : Hid (g2 = w.heap.size) := eg2
  clear eg2
  have hw0 : Below W0.heap.size W0 W0.drew := (Below.refl _ _).drew
  refine RI.wp_region_inv (GC5 W0 p q g off n m cap g2 0 X Y) (by kernel_rfl) (by kernel_rfl) ?_ ?_ ?_
  · exact ⟨undef, undef, undef, undef, undef, undef, undef, undef, undef, undef, undef, undef, undef, undef, undef, rfl, hw0, nofun, nofun, nofun, nofun, nofun, nofun, nofun, nofun, nofun, nofun, nofun, nofun, nofun, nofun, nofun⟩
  · skip
    intro d x wx i hI hi hm
    obtain ⟨u3, u27, u28, u29, u30, u31, u32, u33, u34, u35, u36, u37, u38, u39, u40, rfl, hw, p0, p1, p2, p3, p5, p6, p7, p8, p9, p10, p11, p13, p14, z4, z12⟩ := hI
    have hi' : i = 0 ∨ i = 1 ∨ i = 2 ∨ i = 3 ∨ i = 4 ∨ i = 5 ∨ i = 6 ∨ i = 7 ∨ i = 8 ∨ i = 9 ∨ i = 10 ∨ i = 11 ∨ i = 12 ∨ i = 13 ∨ i = 14 := by simp at hi; omega
    have hd := hm.2
    have hf := hm.1
    clear hm hi
    rcases hi' with rfl | rfl | rfl | rfl | rfl | rfl | rfl | rfl | rfl | rfl | rfl | rfl | rfl | rfl | rfl
    · refine RI.wpOp_plain rfl rfl ?_
      go_simp
      exact ⟨u3, _, u28, u29, u30, u31, u32, u33, u34, u35, u36, u37, u38, u39, u40, rfl, hw, fun _ => rfl, p1, p2, p3, p5, p6, p7, p8, p9, p10, p11, p13, p14, z4, z12⟩
    · have hd := hd _ rfl
      simp [Region.binds] at hd
      obtain rfl := p0 (by simp [hd])
      refine RI.wpOp_plain rfl rfl ?_
      go_simp
      exact ⟨u3, _, _, u29, u30, u31, u32, u33, u34, u35, u36, u37, u38, u39, u40, rfl, hw, p0, fun _ => rfl, p2, p3, p5, p6, p7, p8, p9, p10, p11, p13, p14, z4, z12⟩
    · have hd := hd _ rfl
      simp [Region.binds] at hd
      obtain rfl := p1 (by simp [hd])
      refine RI.wpOp_plain rfl rfl ?_
      go_simp
      exact ⟨u3, u27, _, _, u30, u31, u32, u33, u34, u35, u36, u37, u38, u39, u40, rfl, hw, p0, p1, fun _ => rfl, p3, p5, p6, p7, p8, p9, p10, p11, p13, p14, z4, z12⟩
    · have hd := hd _ rfl
      simp [Region.binds] at hd
      obtain rfl := p2 (by simp [hd])
      refine RI.wpOp_plain rfl rfl ?_
      have x0 := (hw.cell (p := ⟨g, off, none⟩) hg).trans k0
      go_simp
      exact ⟨u3, u27, u28, _, _, u31, u32, u33, u34, u35, u36, u37, u38, u39, u40, rfl, hw, p0, p1, p2, fun _ => rfl, p5, p6, p7, p8, p9, p10, p11, p13, p14, z4, z12⟩
    · have hd := hd _ rfl
      simp [Region.binds] at hd
      obtain rfl := p3 (by simp [hd])
      refine RI.wpOp_plain rfl rfl ?_
      obtain ⟨cq, w1, hcv, hs1, hsz, hb1⟩ := HX.out wx
      go_simp
      exact ⟨u3, u27, u28, u29, _, _, u32, u33, u34, u35, u36, u37, u38, u39, u40, rfl, hw.trans (hb1.mono hw.size), p0, p1, p2, p3, p5, p6, p7, p8, p9, p10, p11, p13, p14, fun _ => hs1, (fun h => SlC_below (z12 h) hb1)⟩
    · refine RI.wpOp_plain rfl rfl ?_
      go_simp
      exact ⟨u3, u27, u28, u29, u30, u31, _, u33, u34, u35, u36, u37, u38, u39, u40, rfl, hw, p0, p1, p2, p3, fun _ => rfl, p6, p7, p8, p9, p10, p11, p13, p14, z4, z12⟩
    · refine RI.wpOp_plain rfl rfl ?_
      go_simp
      exact ⟨u3, u27, u28, u29, u30, u31, u32, _, u34, u35, u36, u37, u38, u39, u40, rfl, hw, p0, p1, p2, p3, p5, fun _ => rfl, p7, p8, p9, p10, p11, p13, p14, z4, z12⟩
    · have hd := hd _ rfl
      simp [Region.binds] at hd
      obtain rfl := p6 (by simp [hd])
      refine RI.wpOp_plain rfl rfl ?_
      go_simp
      exact ⟨u3, u27, u28, u29, u30, u31, u32, _, _, u35, u36, u37, u38, u39, u40, rfl, hw, p0, p1, p2, p3, p5, p6, fun _ => rfl, p8, p9, p10, p11, p13, p14, z4, z12⟩
    · have hd := hd _ rfl
      simp [Region.binds] at hd
      obtain rfl := p7 (by simp [hd])
      refine RI.wpOp_plain rfl rfl ?_
      go_simp
      exact ⟨u3, u27, u28, u29, u30, u31, u32, u33, _, _, u36, u37, u38, u39, u40, rfl, hw, p0, p1, p2, p3, p5, p6, p7, fun _ => rfl, p9, p10, p11, p13, p14, z4, z12⟩
    · have hd := hd _ rfl
      simp [Region.binds] at hd
      obtain rfl := p5 (by simp [hd])
      obtain rfl := p8 (by simp [hd])
      refine RI.wpOp_plain rfl rfl ?_
      go_simp
      exact ⟨u3, u27, u28, u29, u30, u31, _, u33, u34, _, _, u37, u38, u39, u40, rfl, hw, p0, p1, p2, p3, p5, p6, p7, p8, fun _ => rfl, p10, p11, p13, p14, z4, z12⟩
    · have hd := hd _ rfl
      simp [Region.binds] at hd
      obtain rfl := p9 (by simp [hd])
      refine RI.wpOp_plain rfl rfl ?_
      go_simp
      exact ⟨u3, u27, u28, u29, u30, u31, u32, u33, u34, u35, _, _, u38, u39, u40, rfl, hw, p0, p1, p2, p3, p5, p6, p7, p8, p9, fun _ => rfl, p11, p13, p14, z4, z12⟩
    · have hd := hd _ rfl
      simp [Region.binds] at hd
      obtain rfl := p10 (by simp [hd])
      refine RI.wpOp_plain rfl rfl ?_
      have x0 := (hw.cell (p := ⟨g, off + m * 2, none⟩) hg).trans l0
      go_simp
      exact ⟨u3, u27, u28, u29, u30, u31, u32, u33, u34, u35, u36, _, _, u39, u40, rfl, hw, p0, p1, p2, p3, p5, p6, p7, p8, p9, p10, fun _ => rfl, p13, p14, z4, z12⟩
    · have hd := hd _ rfl
      simp [Region.binds] at hd
      obtain rfl := p11 (by simp [hd])
      refine RI.wpOp_plain rfl rfl ?_
      obtain ⟨cq, w1, hcv, hs1, hsz, hb1⟩ := HY.out wx
      go_simp
      exact ⟨u3, u27, u28, u29, u30, u31, u32, u33, u34, u35, u36, u37, _, _, u40, rfl, hw.trans (hb1.mono hw.size), p0, p1, p2, p3, p5, p6, p7, p8, p9, p10, p11, p13, p14, (fun h => SlC_below (z4 h) hb1), fun _ => hs1⟩
    · have hd := hd _ rfl
      simp [Region.binds] at hd
      refine RI.wpOp_plain rfl rfl ?_
      go_simp
      refine (KN.out _ _ _ (z4 (by simp [hd])) (z12 (by simp [hd]))).mono ?_
      rintro e w1 ⟨rfl, hb1⟩
      exact ⟨u3, u27, u28, u29, u30, u31, u32, u33, u34, u35, u36, u37, u38, u39, _, rfl, hw.trans (hb1.mono hw.size), p0, p1, p2, p3, p5, p6, p7, p8, p9, p10, p11, fun _ => rfl, p14, (fun h => SlC_below (z4 h) hb1), (fun h => SlC_below (z12 h) hb1)⟩
    · have hd := hd _ rfl
      simp [Region.binds] at hd
      obtain rfl := p0 (by simp [hd])
      obtain rfl := p1 (by simp [hd])
      obtain rfl := p2 (by simp [hd])
      obtain rfl := p3 (by simp [hd])
      obtain rfl := p5 (by simp [hd])
      obtain rfl := p6 (by simp [hd])
      obtain rfl := p7 (by simp [hd])
      obtain rfl := p8 (by simp [hd])
      obtain rfl := p9 (by simp [hd])
      obtain rfl := p10 (by simp [hd])
      obtain rfl := p11 (by simp [hd])
      obtain rfl := p13 (by simp [hd])
      refine RI.wpOp_plain rfl rfl ?_
      go_simp
      exact ⟨_, _, _, _, _, u31, _, _, _, _, _, _, _, u39, _, rfl, hw, p0, p1, p2, p3, p5, p6, p7, p8, p9, p10, p11, p13, fun _ => rfl, z4, z12⟩
  · skip
    intro d x wx hI hd
    obtain ⟨u3, u27, u28, u29, u30, u31, u32, u33, u34, u35, u36, u37, u38, u39, u40, rfl, hw, p0, p1, p2, p3, p5, p6, p7, p8, p9, p10, p11, p13, p14, z4, z12⟩ := hI
    obtain rfl := p14 (hd 14 (by decide))
    clear p0 p1 p2 p3 p5 p6 p7 p8 p9 p10 p11 p13 z4 z12
    obtain ⟨w8, hr8, hs8, ht8, hb8⟩ := made16 wx
    have hXi : X.toList.isEmpty = true := HXI.out
    have HW8 : Hid (Below W0.heap.size W0 w8) := hw.trans (hb8.mono hw.size)
    have HA4 := heap_alloc_new w8 (.cells #[.int .i64 3, .slice none 0 0, .slice none 0 0, .slice (some ⟨wx.heap.size, 0, none⟩) 16 16] 25)
    have HB4 : Below w8.heap.size w8 (w8.alloc (.cells #[.int .i64 3, .slice none 0 0, .slice none 0 0, .slice (some ⟨wx.heap.size, 0, none⟩) 16 16] 25)) := (Below.refl _ _).alloc (Nat.le_refl _) _
    have HF4 : F4 w8.heap.size wx.heap.size (.slice none 0 0) (w8.alloc (.cells #[.int .i64 3, .slice none 0 0, .slice none 0 0, .slice (some ⟨wx.heap.size, 0, none⟩) 16 16] 25)) := by
      refine ⟨by simp, ?_, ?_, ?_, ?_, fun o => by simp only [World.frozen?, HA4]; simp⟩ <;> (simp only [World.cell?, HA4]; rfl)
    have G0 : GO w (w8.alloc (.cells #[.int .i64 3, .slice none 0 0, .slice none 0 0, .slice (some ⟨wx.heap.size, 0, none⟩) 16 16] 25)).heap.size g2 w8.heap.size wx.heap.size [] (.slice none 0 0) T 0 (w8.alloc (.cells #[.int .i64 3, .slice none 0 0, .slice none 0 0, .slice (some ⟨wx.heap.size, 0, none⟩) 16 16] 25)) := by
      have b8 : Below W0.heap.size W0 (w8.alloc (.cells #[.int .i64 3, .slice none 0 0, .slice none 0 0, .slice (some ⟨wx.heap.size, 0, none⟩) 16 16] 25)) := HW8.out.trans (HB4.mono HW8.out.size)
      exact ⟨B0.trans (b8.mono HGL.out), Nat.le_refl _, B4_gb (r := none) BV (gb_below b8) (fun e => by cases e), HF4, ⟨Nat.lt_of_lt_of_le (by omega) HB4.size, there_gb (r := none) ht8 (by omega) (gb_below HB4) (fun e => by cases e), fun _ => n4, fun j hj => absurd hj (by omega)⟩, Bs_nil _ _⟩
    have HG4 : Hid (g2 < wx.heap.size ∧ wx.heap.size < w8.heap.size ∧ w8.heap.size < (w8.alloc (.cells #[.int .i64 3, .slice none 0 0, .slice none 0 0, .slice (some ⟨wx.heap.size, 0, none⟩) 16 16] 25)).heap.size) := ⟨Nat.lt_of_lt_of_le HG2.out hw.size, by omega, by simp⟩
    have x8 := (HW8.out.cell (p := ⟨g, off, none⟩) hg).trans k0
    have x9 := ((HW8.out.trans (HB4.mono HW8.out.size)).cell (p := ⟨g, off, none⟩) hg).trans k0
    have HNE0 := HG4.out
    clear HX HY KN HF4 HA4 hw0
    have HS8 : Hid (w8.heap.size = wx.heap.size + 1) := hs8
    clear hs8
    generalize wx.heap.size = gk at *
    go_wp2_with fail
    generalize w8.alloc (.cells #[.int .i64 3, .slice none 0 0, .slice none 0 0, .slice (some ⟨gk, 0, none⟩) 16 16] 25) = W1 at *
    clear x8 x9 hr8 ht8 hb8 hw HB4
    generalize hg4 : w8.heap.size = g4 at *
    have HG4N : Hid (g2 ≠ g4 ∧ gk ≠ g4 ∧ g4 < W1.heap.size) := ⟨by omega, by omega, by omega⟩
    have HG4G : Hid (w.heap.size ≤ g4) := by have := HG2B.out; show _ ≤ _; omega
    have hw10 : GV w W1.heap.size g2 g4 gk v T false false (.slice (some ⟨g, off, none⟩) n cap) (.slice (some ⟨g, off, none⟩) n cap) W1.drew := ⟨fun _ => GO_below G0 (Below.refl _ _).drew, G0.b.drew, nofun, fun _ => rfl⟩
    generalize st v = V at *
    have HVX := HV
    refine RI.wp_region_inv (GV10 w W1.heap.size T v g off n m cap g2 g4 gk X V u27 u28 u29 u30 u31 u32 u33 u34 u35 u36 u37 u38 u39 u40) (by kernel_rfl) (by kernel_rfl) ?_ ?_ ?_
    · exact ⟨.slice (some ⟨g, off, none⟩) n cap, undef, undef, undef, undef, undef, undef, undef, undef, rfl, hw10, nofun, nofun, nofun, nofun, nofun, nofun, nofun, nofun, nofun, nofun, nofun⟩
    · skip
      intro d x wx i hI hi hm
      obtain ⟨u0, u63, u64, u65, u66, u67, u68, u69, u70, rfl, hw, p0, p1, p2, p3, p5, p6, p7, p9, z4, y8, y9⟩ := hI
      have hi' : i = 0 ∨ i = 1 ∨ i = 2 ∨ i = 3 ∨ i = 4 ∨ i = 5 ∨ i = 6 ∨ i = 7 ∨ i = 8 ∨ i = 9 := by simp at hi; omega
      have hd := hm.2
      have hf := hm.1
      clear hm hi
      rcases hi' with rfl | rfl | rfl | rfl | rfl | rfl | rfl | rfl | rfl | rfl
      · refine RI.wpOp_plain rfl rfl ?_
        have h9 : d 9 = false := by cases h : d 9 with | false => rfl | true => exact absurd (y9 h).1 (by simp [hf])
        obtain rfl := hw.m h9
        go_simp
        exact ⟨_, _, u64, u65, u66, u67, u68, u69, u70, rfl, hw, fun _ => rfl, p1, p2, p3, p5, p6, p7, (fun h => absurd h (by simp [RI.don, h9])), z4, y8, (fun h => absurd h (by simp [RI.don, h9]))⟩
      · have hd := hd _ rfl
        simp [Region.binds] at hd
        obtain rfl := p0 (by simp [hd])
        refine RI.wpOp_plain rfl rfl ?_
        go_simp
        exact ⟨u0, _, _, u65, u66, u67, u68, u69, u70, rfl, hw, p0, fun _ => rfl, p2, p3, p5, p6, p7, p9, z4, y8, y9⟩
      · have hd := hd _ rfl
        simp [Region.binds] at hd
        obtain rfl := p1 (by simp [hd])
        refine RI.wpOp_plain rfl rfl ?_
        go_simp
        exact ⟨u0, u63, _, _, u66, u67, u68, u69, u70, rfl, hw, p0, p1, fun _ => rfl, p3, p5, p6, p7, p9, z4, y8, y9⟩
      · have hd := hd _ rfl
        simp [Region.binds] at hd
        obtain rfl := p2 (by simp [hd])
        refine RI.wpOp_plain rfl rfl ?_
        have x0 := (hw.b.cell (p := ⟨g, off + 1, none⟩) HC0.out).trans h0v
        go_simp
        exact ⟨u0, u63, u64, _, _, u67, u68, u69, u70, rfl, hw, p0, p1, p2, fun _ => rfl, p5, p6, p7, p9, z4, y8, y9⟩
      · have hd := hd _ rfl
        simp [Region.binds] at hd
        obtain rfl := p3 (by simp [hd])
        refine RI.wpOp_plain rfl rfl ?_
        have h8 : d 8 = false := by cases h : d 8 with | false => rfl | true => exact absurd (y8 h) (by simp [hf])
        obtain ⟨cq, w1, hcv, hs1, hsz, hb1⟩ := HVX.out wx
        go_simp
        exact ⟨u0, u63, u64, u65, _, _, u68, u69, u70, rfl, ⟨fun _ => GO_below (hw.a h8) hb1, hw.b.trans (hb1.mono hw.b.size), (fun h => absurd h (by simp [RI.don, h8])), hw.m⟩, p0, p1, p2, p3, p5, p6, p7, p9, fun _ => ⟨_, _, rfl, fun _ => sl_bs (S := (W1.heap.size ≤ ·)) (hw.a h8).s hs1⟩, (fun h => absurd h (by simp [RI.don, h8])), y9⟩
      · refine RI.wpOp_plain rfl rfl ?_
        have h9 : d 9 = false := by cases h : d 9 with | false => rfl | true => exact absurd (y9 h).2 (by simp [hf])
        obtain rfl := hw.m h9
        go_simp
        exact ⟨_, u63, u64, u65, u66, u67, _, u69, u70, rfl, hw, p0, p1, p2, p3, fun _ => rfl, p6, p7, (fun h => absurd h (by simp [RI.don, h9])), z4, y8, (fun h => absurd h (by simp [RI.don, h9]))⟩
      · have hd := hd _ rfl
        simp [Region.binds] at hd
        obtain rfl := p5 (by simp [hd])
        refine RI.wpOp_plain rfl rfl ?_
        have e1 := HS1.out
        have e2 := HS2.out
        have e3 := HS3.out
        have e4 := HS4.out
        go_simp
        exact ⟨u0, u63, u64, u65, u66, u67, _, _, u70, rfl, hw, p0, p1, p2, p3, p5, fun _ => rfl, p7, p9, z4, y8, y9⟩
      · have hd := hd _ rfl
        simp [Region.binds] at hd
        obtain rfl := p0 (by simp [hd])
        obtain rfl := p1 (by simp [hd])
        obtain rfl := p2 (by simp [hd])
        obtain rfl := p3 (by simp [hd])
        refine RI.wpOp_plain rfl rfl ?_
        go_simp
        exact ⟨u0, _, _, _, _, u67, u68, u69, _, rfl, hw, p0, p1, p2, p3, p5, p6, fun _ => rfl, p9, z4, y8, y9⟩
      · have hd := hd _ rfl
        simp [Region.binds] at hd
        obtain rfl := p0 (by simp [hd])
        obtain rfl := p1 (by simp [hd])
        obtain rfl := p2 (by simp [hd])
        obtain rfl := p3 (by simp [hd])
        obtain rfl := p7 (by simp [hd])
        refine RI.wpOp_plain rfl rfl ?_
        obtain ⟨qa, qc, rfl, hb6⟩ := z4 (by simp [hd])
        have GO8 := hw.a hf
        have f2 := GO8.f.2.2.2.1
        have ff := GO8.f.2.2.2.2.2 2
        go_simp
        exact ⟨u0, _, _, _, _, _, u68, u69, _, rfl, ⟨nofun, hw.b.setCell (by dsimp only; have := HG4G.out; omega) _, fun _ => ⟨qa, qc, GV_set GO8 ⟨HG4N.out.1, HG4N.out.2.1, HG4N.out.2.2, HG4G.out⟩ (hb6 hf)⟩, hw.m⟩, p0, p1, p2, p3, p5, p6, p7, p9, fun _ => ⟨_, _, rfl, fun h => nomatch h⟩, fun _ => by simp [RI.don, hd], y9⟩
      · have hd := hd _ rfl
        simp [Region.binds] at hd
        obtain rfl := p0 (by simp [hd])
        obtain rfl := p1 (by simp [hd])
        obtain rfl := p2 (by simp [hd])
        obtain rfl := p3 (by simp [hd])
        obtain rfl := p5 (by simp [hd])
        obtain rfl := p6 (by simp [hd])
        obtain rfl := p7 (by simp [hd])
        refine RI.wpOp_plain rfl rfl ?_
        go_simp
        exact ⟨_, _, _, _, _, u67, _, _, _, rfl, ⟨hw.a, hw.b, hw.e, nofun⟩, p0, p1, p2, p3, p5, p6, p7, fun _ => rfl, z4, y8, fun _ => ⟨by simp [RI.don, hd], by simp [RI.don, hd]⟩⟩
    · skip
      intro d x wx hI hd
      obtain ⟨u0, u63, u64, u65, u66, u67, u68, u69, u70, rfl, hw, p0, p1, p2, p3, p5, p6, p7, p9, z4, y8, y9⟩ := hI
      obtain rfl := p9 (hd 9 (by decide))
      obtain ⟨va, vc, G0⟩ := hw.e (hd 8 (by decide))
      clear hw p0 p1 p2 p3 p5 p6 p7 z4 y8 y9
      generalize v.length = vl at *
      obtain ⟨WL, eWL⟩ : ∃ WL, WL = wx := ⟨_, rfl⟩
      subst eWL
      go_wp2_with fail
      have HLT2 : Hid (g2 < gk ∧ gk < W1.heap.size) := ⟨by omega, by omega⟩
      have HNE : Hid (g2 ≠ gk ∧ g4 ≠ gk ∧ w.heap.size ≤ gk ∧ gk < W1.heap.size) := ⟨by omega, by omega, by have := HG2B.out; omega, by omega⟩
      have KSH : Hid (∀ (i lo : Nat) (x : Value) (wx : World), Ow lo (prt i M) x wx → Calls Try.prog 44 #[x, .int .i64 1] wx fun e w' => ∃ y, e = .returned y ∧ Rv (cut 1 (prt i M)) y w' ∧ Below wx.heap.size wx w') := fun i lo x wx ho => by
        obtain ⟨ao, cp, e1, e2, e3⟩ := own_rv ho
        subst e1
        refine (shorter_any (prt i M) 1 ao cp _ wx rfl (show _ ≤ _ from Nat.le_trans (List.length_filter_le _ _) (by rw [HML.out]; have := HN.out; omega)) (own_rv ho) (fun r hr => List.length_pos_iff.2 (hM1.out r (List.mem_filter.1 hr).1))).mono fun e w' he => ?_
        obtain ⟨y, h1, h2, h3⟩ := he
        exact ⟨y, h1, own_rv h2, h3⟩
      clear HNE0
      go_loopw [71] (fun x wr => ∃ i : Nat, i ≤ 16 ∧ x = .int .i64 (i : Int) ∧ GO w W1.heap.size g2 g4 gk v (.slice va vl vc) T i wr) (fun x _ => ((16 : Int) - intOf x).toNat)
      case atStart => exact ⟨0, Nat.zero_le _, rfl, G0⟩
      case round =>
        obtain ⟨i, hi, rfl, hG⟩ := hrel
        by_cases hlt : i < 16
        · have d1 : decide ((i : Int) < 16) = true := decide_eq_true (by omega)
          have HGi : Hid (GO w W1.heap.size g2 g4 gk v (.slice va vl vc) T i wr) := hG
          have HBi : Hid (Below w.heap.size w wr) := hG.b
          have i16 : Hid ((i : Int) < 16) := by show _ < _; omega
          have i16' : Hid ((0 : Int) ≤ (i : Int)) := by show _ ≤ _; omega
          clear hG
          generalize wr = wo at *
          clear wr
          go_wp2_with fail
          go_loopw [6, 76] (fun o x wr => ∃ k : Nat, k ≤ m ∧ x = .int .i64 (k : Int) ∧ Ow wo.heap.size (prt i (M.take k)) o wr ∧ Below wo.heap.size wo wr) (fun _ x _ => ((m : Int) - intOf x).toNat)
          case atStart => exact ⟨0, Nat.zero_le _, rfl, World.ownsRow_nil _ _ _ _, Below.refl _ _⟩
          case round =>
            obtain ⟨k, hk, rfl, ho, hB⟩ := hrel
            by_cases hkl : k < m
            · have d2 : decide ((k : Int) < (m : Int)) = true := decide_eq_true (by omega)
              have d3 : (0 : Int) ≤ (k : Int) := by omega
              have d4 : (k : Int) < (m : Int) := by omega
              obtain ⟨y0, y1⟩ := HMC.out k hkl
              have z0 := ((HBi.out.trans (hB.mono HBi.out.size)).cell (p := ⟨g, off + 2 + 2 * k, none⟩) HC0.out).trans y0
              have z1 := ((HBi.out.trans (hB.mono HBi.out.size)).cell (p := ⟨g, off + 2 + 2 * k + 1, none⟩) HC0.out).trans y1
              rw [Nat.mul_comm 2 k] at z0 z1
              have hMk : k < M.length := by rw [HML.out]; exact hkl
              have hne : (M.getD k n2).1 ≠ [] := hM1.out _ (by rw [List.getD_eq_getElem?_getD, List.getElem?_eq_getElem hMk]; exact List.getElem_mem hMk)
              have HPT : Hid (prt i (M.take (k + 1)) = prt i (M.take k) ++ (if ((M.getD k n2).1.headD 0).toNat = i then [M.getD k n2] else [])) := prt_take i M k hMk
              have HPL : Hid ((prt i (M.take k)).length ≤ k) := Nat.le_trans (List.length_filter_le _ _) (by rw [List.length_take]; omega)
              obtain ⟨A, eA⟩ : ∃ A, A = st (M.getD k n2).1 := ⟨_, rfl⟩
              obtain ⟨Z, eZ⟩ : ∃ Z, Z = st (M.getD k n2).2 := ⟨_, rfl⟩
              have hAs : 0 < A.size := by rw [eA, st_size]; exact List.length_pos_iff.2 hne
              have hAv : (A[0]'hAs).toNat = ((M.getD k n2).1.headD 0).toNat := by
                subst eA
                exact st_head _ hne hAs
              have HLT : Hid (∀ W : World, Rv [M.getD k n2] (.slice (some ⟨W.heap.size, 0, none⟩) 1 1) (W.alloc (.cells #[.string A, .string Z] 51))) := fun W => by rw [eA, eZ]; exact lit_rv _ W
              rw [← eA] at z0
              rw [← eZ] at z1
              clear y0 y1 eA eZ hne
              have E5 : Hid (wrap64 ((k : Int) + 1) = ((k + 1 : Nat) : Int)) := by have := HN.out; show _ = _; unfold wrap64; omega
              have bA : Below wr.heap.size wr (wr.alloc (.cells #[.string A, .string Z] 51)) := (Below.refl _ _).alloc (Nat.le_refl _) _
              have hc8 : ((M.getD k n2).1.headD 0).toNat < 256 := UInt8.toNat_lt _
              generalize ((M.getD k n2).1.headD 0).toNat = cc at *
              by_cases hci : cc = i
              · have t1 : ((cc : Int) == (i : Int)) = true := beq_iff_eq.2 (by omega)
                have t2 : (cc == i) = true := beq_iff_eq.2 hci
                have t3 : (wrap64 (cc : Int) == (i : Int)) = true := beq_iff_eq.2 (by unfold wrap64; omega)
                have HPT2 : Hid (prt i (M.take (k + 1)) = prt i (M.take k) ++ [M.getD k n2]) := by show _ = _; rw [HPT.out, if_pos hci]
                obtain ⟨v', w', hap, ho', hb', hgr⟩ := app_rv (lo := wo.heap.size) 47 (Pk.ownb (Pk.ownb ho bA) ((Below.refl _ _).alloc (Nat.le_refl _) (.cells #[.string A, .string Z] 51))) (HLT.out (wr.alloc (.cells #[.string A, .string Z] 51))) (by have := hB.size; simp; omega) (by have := HPL.out; have := HN.out; rw [List.length_singleton]; omega)
                rw [show (wr.alloc (.cells #[.string A, .string Z] 51)).heap.size = wr.heap.size + 1 by simp] at hap
                have HZ : Hid (Below wo.heap.size wo w') := (hB.trans ((bA.alloc (by simp) _).mono hB.size)).trans hb'
                have HO : Hid (Ow wo.heap.size (prt i (M.take (k + 1))) v' w') := by show Ow _ _ _ _; rw [HPT2.out]; exact ho'
                clear ho' hb' hgr bA hci
                obtain ⟨oa, on, oc, rfl⟩ := own_slice ho
                clear ho hB
                go_wp2_with (at_builtin; refine wpl_app rfl rfl rfl rfl hap ?_)
                rw [E5.out]
                exact ⟨⟨k + 1, hkl, rfl, HO.out, HZ.out⟩, msr_up k m hkl⟩
              · have t1 : ((cc : Int) == (i : Int)) = false := beq_eq_false_iff_ne.2 (by omega)
                have t2 : (cc == i) = false := beq_eq_false_iff_ne.2 hci
                have t3 : (wrap64 (cc : Int) == (i : Int)) = false := beq_eq_false_iff_ne.2 (by unfold wrap64; omega)
                have HPT2 : Hid (prt i (M.take (k + 1)) = prt i (M.take k)) := by show _ = _; rw [HPT.out, if_neg hci, List.append_nil]
                have HZ : Hid (Below wo.heap.size wo (wr.alloc (.cells #[.string A, .string Z] 51))) := hB.trans (bA.mono hB.size)
                have HO : Hid (Ow wo.heap.size (prt i (M.take (k + 1))) u6 (wr.alloc (.cells #[.string A, .string Z] 51))) := by show Ow _ _ _ _; rw [HPT2.out]; exact Pk.ownb ho bA
                clear bA hci
                clear ho hB
                go_wp2_with fail
                rw [E5.out]
                exact ⟨⟨k + 1, hkl, rfl, HO.out, HZ.out⟩, msr_up k m hkl⟩
            · have d2 : decide ((k : Int) < (m : Int)) = false := decide_eq_false (by omega)
              have ek : M.take k = M := List.take_of_length_le (by rw [HML.out]; omega)
              rw [ek] at ho
              have HGo : GO w W1.heap.size g2 g4 gk v (.slice va vl vc) T i wr := GO_below HGi.out hB
              obtain ⟨oa, on, oc, rfl⟩ := own_slice ho
              have HRv := own_rv ho
              have HOW : Hid (Ow wo.heap.size (prt i M) (.slice oa on oc) wr) := ho
              clear ho hB d2 ek HGi HBi
              go_upto_region 21 with fail
              have hw21 : GX w W1.heap.size g2 g4 gk v (.slice va vl vc) T i wo.heap.size (prt i M) (.slice oa on oc) false wr.drew := ⟨fun _ => GO_below HGo (Below.refl _ _).drew, fun _ => Pk.ownb HOW.out (Below.refl _ _).drew, nofun⟩
              clear HGo HRv HOW
              refine RI.wp_region_inv (GK21v w W1.heap.size wo.heap.size T v (prt i M) g off n cap g2 g4 gk i k X oa on oc m vc vl va u8 u27 u28 u29 u30 u31 u32 u33 u34 u35 u36 u37 u38 u39 u40 u63 u64 u65 u66 u67 u68 u69 u70 u78 u79 u80 u81 u82 u83 u84 u85 u86 u87 u88 u89 u90 u98) (by kernel_rfl) (by kernel_rfl) ?_ ?_ ?_
              · exact ⟨u91, u92, u93, u94, u95, u96, u97, rfl, hw21, nofun, nofun, nofun, nofun, nofun, nofun, nofun, nofun⟩
              · skip
                intro d x wx i hI hi hm
                obtain ⟨u91, u92, u93, u94, u95, u96, u97, rfl, hw, p0, p1, p2, p3, p6, z4, z5, y7⟩ := hI
                have hi' : i = 0 ∨ i = 1 ∨ i = 2 ∨ i = 3 ∨ i = 4 ∨ i = 5 ∨ i = 6 ∨ i = 7 := by simp at hi; omega
                have hd := hm.2
                have hf := hm.1
                clear hm hi
                rcases hi' with rfl | rfl | rfl | rfl | rfl | rfl | rfl | rfl
                · refine RI.wpOp_plain rfl rfl ?_
                  go_simp
                  exact ⟨_, u92, u93, u94, u95, u96, u97, rfl, hw, fun _ => rfl, p1, p2, p3, p6, z4, z5, y7⟩
                · have hd := hd _ rfl
                  simp [Region.binds] at hd
                  obtain rfl := p0 (by simp [hd])
                  refine RI.wpOp_plain rfl rfl ?_
                  have h7 : d 7 = false := by cases h : d 7 with | false => rfl | true => exact absurd (y7 h).1 (by simp [hf])
                  have x0 := (hw.a h7).f.2.2.2.2.1
                  go_simp
                  exact ⟨_, _, u93, u94, u95, u96, u97, rfl, hw, p0, fun _ => rfl, p2, p3, p6, z4, z5, fun h => absurd h (by simp [RI.don, h7])⟩
                · refine RI.wpOp_plain rfl rfl ?_
                  go_simp
                  exact ⟨u91, u92, _, u94, u95, u96, u97, rfl, hw, p0, p1, fun _ => rfl, p3, p6, z4, z5, y7⟩
                · refine RI.wpOp_plain rfl rfl ?_
                  go_simp
                  exact ⟨u91, u92, u93, _, u95, u96, u97, rfl, hw, p0, p1, p2, fun _ => rfl, p6, z4, z5, y7⟩
                · have hd := hd _ rfl
                  simp [Region.binds] at hd
                  obtain rfl := p3 (by simp [hd])
                  refine RI.wpOp_plain rfl rfl ?_
                  have h7 : d 7 = false := by cases h : d 7 with | false => rfl | true => exact absurd (y7 h).2.1 (by simp [hf])
                  have oo := hw.o h7
                  go_simp
                  refine (KSH.out i _ _ _ oo).mono ?_
                  rintro e w1 ⟨x1, rfl, hs1, hb1⟩
                  exact ⟨u91, u92, u93, _, _, u96, u97, rfl, GX_below hw hb1, p0, p1, p2, p3, p6, fun _ _ => hs1, (fun h => (z5 h).imp fun y hy => ⟨hy.1, fun k => Nv_below (hy.2 k) hb1⟩), fun h => absurd h (by simp [RI.don, h7])⟩
                · have hd := hd _ rfl
                  simp [Region.binds] at hd
                  refine RI.wpOp_plain rfl rfl ?_
                  have h7 : d 7 = false := by cases h : d 7 with | false => rfl | true => exact absurd (y7 h).2.2 (by simp [hf])
                  have rv := z4 (by simp [hd]) h7
                  go_simp
                  refine (KG.out i _ _ hlt rv).mono ?_
                  rintro e w1 ⟨y, rfl, hy, hb1⟩
                  exact ⟨u91, u92, u93, u94, u95, _, u97, rfl, GX_below hw hb1, p0, p1, p2, p3, p6, (fun h k => Rv_below (z4 h k) hb1), fun _ => ⟨y, rfl, fun _ => Nv_mono hy (fun k h _ => Nat.le_trans (hw.a h7).s h)⟩, fun h => absurd h (by simp [RI.don, h7])⟩
                · have hd := hd _ rfl
                  simp [Region.binds] at hd
                  obtain rfl := p0 (by simp [hd])
                  obtain rfl := p1 (by simp [hd])
                  obtain rfl := p2 (by simp [hd])
                  obtain rfl := p3 (by simp [hd])
                  refine RI.wpOp_plain rfl rfl ?_
                  have e16 := i16.out
                  have e16' := i16'.out
                  go_simp
                  exact ⟨_, _, _, _, u95, u96, _, rfl, hw, p0, p1, p2, p3, fun _ => rfl, z4, z5, y7⟩
                · have hd := hd _ rfl
                  simp [Region.binds] at hd
                  obtain rfl := p0 (by simp [hd])
                  obtain rfl := p1 (by simp [hd])
                  obtain rfl := p2 (by simp [hd])
                  obtain rfl := p3 (by simp [hd])
                  obtain rfl := p6 (by simp [hd])
                  refine RI.wpOp_plain rfl rfl ?_
                  obtain ⟨y, rfl, hy⟩ := z5 (by simp [hd])
                  have hyn := hy hf
                  obtain ⟨yk, b1, m1, e1, b2, m2, e2, b3, m3, e3, rfl⟩ := Nv_form hyn
                  refine wp_st4o rfl rfl rfl (there_sub (hw.a hf).k.t hlt) ?_
                  intro w1 gb1 s0 s1 s2 s3 so sf
                  have GN := GO_step (hw.a hf) hlt HNE.out.1 HNE.out.2.1 HNE.out.2.2.1 HNE.out.2.2.2 hyn gb1 s0 s1 s2 s3 so sf
                  simp only [Act.put]
                  exact ⟨_, _, _, _, u95, _, _, rfl, ⟨nofun, nofun, fun _ => GN⟩, p0, p1, p2, p3, p6, (fun _ h => nomatch h), fun _ => ⟨_, rfl, fun h => nomatch h⟩, fun _ => ⟨by simp [RI.don, hd], by simp [RI.don, hd], by simp [RI.don, hd]⟩⟩
              · skip
                intro d x wx hI hd
                obtain ⟨u91, u92, u93, u94, u95, u96, u97, rfl, hw, p0, p1, p2, p3, p6, z4, z5, y7⟩ := hI
                have GN := hw.e (hd 7 (by decide))
                have HGN : Hid (GO w W1.heap.size g2 g4 gk v (.slice va vl vc) T (i + 1) wx) := GN
                clear GN hw p0 p1 p2 p3 p6 z4 z5 y7
                go_wp2_with fail
                exact ⟨⟨i + 1, hlt, by rw [Int.natCast_succ], HGN.out⟩, msr_up' i 16 hlt⟩
        · have d1 : decide ((i : Int) < 16) = false := decide_eq_false (by omega)
          have ei : i = 16 := by omega
          subst ei
          have HGE : GO w W1.heap.size g2 g4 gk v (.slice va vl vc) T 16 wr := hG
          obtain ⟨_, f0, f1, f2, f3, _⟩ := hG.f
          have hv2 := hG.v
          have HNV : Hid (Nv (gk ≤ ·) wr (.mk 3 [] v ((List.range 16).map T)) (.int .i64 3, .slice none 0 0, (.slice va vl vc), .slice (some ⟨gk, 0, none⟩) 16 16)) := GO_end hG (fun k hk => by have := HLT2.out; omega) (Nat.le_refl _)
          clear hG d1
          go_wp2_with (refine wpList_st4 rfl rfl rfl rfl hv2 ?_; intro w9 gb9 s0 s1 s2 s3)
          have N9 : Nv (w.heap.size ≤ ·) w9 (.mk 3 [] v ((List.range 16).map T)) (.int .i64 3, .slice none 0 0, (.slice va vl vc), .slice (some ⟨gk, 0, none⟩) 16 16) := Nv_mono (Nv_gb HNV.out gb9 (fun k hk e => by injection e with e; have := HLT2.out; omega)) (fun k hk _ => Nat.le_trans HNE.out.2.2.1 hk)
          have B9 : Below w.heap.size w w9 := HGE.b.grown gb9 HGE.b.size (fun k e => by injection e with e; have := HG2B.out; omega)
          exact bodyPost_ret (v := .agg #[.int .i64 3, .slice none 0 0, (.slice va vl vc), .slice (some ⟨gk, 0, none⟩) 16 16]) (resN _ _ _ g2 2 _ _ _ _ rfl rfl s0 s1 s2 s3) rfl ⟨(.int .i64 3, .slice none 0 0, (.slice va vl vc), .slice (some ⟨gk, 0, none⟩) 16 16), rfl, N9, B9⟩
end Tr
end Go.Proofs.Ytdcbgldelfhohaa
/- A region that draws its order among its first operations alone, the others one behind the other. -/
namespace Go.Proofs.Ytdcbgldelfhohaa
namespace RS
open RI
variable {P : Program} {ops : Array Oper} {Q : Exit → Act → World → Prop}
/-- From k on each operation is bound to all ahead of it. -/
def tailOk (ops : Array Oper) (k : Nat) : Bool := (List.range ops.size).all fun j => decide (j < k) || ((ops[j]?).map fun o => (List.range j).all fun i => bindsOn o i).getD true
theorem bindsOn_spec {x : Oper} {j : Nat} (h : bindsOn x j = true) : ∃ e, e ∈ x.after ∧ Region.binds .any e = true ∧ e.on = j := by
  unfold bindsOn at h
  rw [Array.any_eq_true'] at h
  obtain ⟨e, h1, h2⟩ := h
  rw [Bool.and_eq_true, beq_iff_eq] at h2
  exact ⟨e, h1, h2.1, h2.2⟩
/-- The first k in the text's order, whatever order is drawn; the others one behind the other. -/
theorem wp_region_tail {id : Nat} {a : Act} {w : World} (S : World → Prop) (k : Nat) (hm : P.follows .mixedOrders = true) (hok : okOps ops = true) (ht : tailOk ops k = true) (h0 : S w.drew)
    (hs : Seq P ops (fun _ => S) (fun a' => ∀ w', S w' → wpList P ops Q (ops.toList.drop k) a' w') 0 (ops.toList.take k) a) : (Code.region id ops true).wp P Q a w := by
  have hok' := hok
  unfold okOps at hok'
  rw [Bool.and_eq_true] at hok'
  obtain ⟨he, hp⟩ := hok'
  by_cases hk : k ≤ ops.size
  case neg =>
    refine wp_region_seq (fun _ => S) hm hok h0 ?_
    have e1 : ops.toList.take k = ops.toList := List.take_of_length_le (by simp; omega)
    have e2 : ops.toList.drop k = [] := List.drop_eq_nil_of_le (by simp; omega)
    rw [e1, e2] at hs
    have : ∀ l i a, Seq P ops (fun _ => S) (fun a' => ∀ w', S w' → wpList P ops Q [] a' w') i l a → Seq P ops (fun _ => S) (fun a' => ∀ (d : Nat → Bool) w', S w' → (∀ i, i < ops.size → d i = true) → Q .normal a' w') i l a := by
      intro l
      induction l with
      | nil => intro i a h d w' hI _; exact h w' hI
      | cons o r ih => intro i a h; obtain ⟨v, h1, h2⟩ := h; exact ⟨v, h1, ih _ _ h2⟩
    exact this _ _ _ hs
  have hlen : (ops.toList.take k).length = k := by simp; omega
  -- the first k alone
  have vals : ∀ (l : List Oper) (m : Nat) (V : Nat → Value), (∀ j o, l[j]? = some o → ops[m + j]? = some o) → Seq P ops (fun _ => S) (fun a' => ∀ w', S w' → wpList P ops Q (ops.toList.drop k) a' w') m l (fr ops V tt a m) →
      ∃ V', (∀ j, j < m → V' j = V j) ∧ (∀ j o, l[j]? = some o → Step P ops (fun _ => S) (m + j) o (V' (m + j)) (fr ops V' tt a (m + j))) ∧ ∀ w', S w' → wpList P ops Q (ops.toList.drop k) (fr ops V' tt a (m + l.length)) w' := by
    intro l
    induction l with
    | nil => intro m V _ h; exact ⟨V, fun _ _ => rfl, fun j o hj => by simp at hj, by simpa [Seq] using h⟩
    | cons o r ih =>
      intro m V hl h
      obtain ⟨v, h1, h2⟩ := h
      have hkm : ops[m]? = some o := by simpa using hl 0 o rfl
      have frV : ∀ V1 V2 : Nat → Value, ∀ n, (∀ j, j < n → V1 j = V2 j) → fr ops V1 tt a n = fr ops V2 tt a n := by
        intro V1 V2 n
        induction n with
        | zero => intro _; rfl
        | succ n ih => intro hv; rw [fr, fr, ih (fun j hj => hv j (by omega)), hv n (by omega)]
      let W : Nat → Value := fun j => if j = m then v else V j
      have hW : fr ops W tt a (m + 1) = (fr ops V tt a m).put o.dst v := by
        rw [fr, frV W V m (fun j hj => by simp only [W]; rw [if_neg (by omega)])]
        simp [tt, hkm, W]
      rw [← hW] at h2
      obtain ⟨V', e1, e2, e3⟩ := ih (m + 1) W (fun j o' hj => by have := hl (j + 1) o' (by simpa using hj); rwa [show m + (j + 1) = m + 1 + j by omega] at this) h2
      refine ⟨V', fun j hj => ?_, fun j o' hj => ?_, ?_⟩
      · rw [e1 j (by omega)]; simp only [W]; rw [if_neg (by omega)]
      · cases j with
        | zero =>
          have : o' = o := by simpa using hj.symm
          subst this
          rw [Nat.add_zero, e1 m (by omega), frV V' V m (fun j hj => by rw [e1 j (by omega)]; simp only [W]; rw [if_neg (by omega)])]
          simpa [W] using h1
        | succ j => rw [show m + (j + 1) = m + 1 + j by omega]; exact e2 j o' (by simpa using hj)
      · rw [show m + (o :: r).length = m + 1 + r.length by simp; omega]; exact e3
  obtain ⟨V, _, hst, hE⟩ := vals (ops.toList.take k) 0 (fun _ => undef) (fun j o hj => by
    rw [List.getElem?_take] at hj
    split at hj
    · simpa using hj
    · cases hj) hs
  simp only [Nat.zero_add] at hst hE
  rw [hlen] at hE
  have pair : ∀ (i j : Nat) (x y : Oper) (t : Nat), ops[i]? = some x → ops[j]? = some y → y.dst = some t → (x.dst = some t → i = j) ∧ (t ∈ x.looksAt ops → (j < i ∧ bindsOn x j = true) ∨ (i < j ∧ bindsOn y i = true)) := by
    intro i j x y t hx hy ht
    have hi : i < ops.size := (Array.getElem?_eq_some_iff.1 hx).1
    have hj : j < ops.size := (Array.getElem?_eq_some_iff.1 hy).1
    have h1 := List.all_eq_true.1 hp i (List.mem_range.2 hi)
    rw [Bool.and_eq_true] at h1
    have h2 := List.all_eq_true.1 h1.2 j (List.mem_range.2 hj)
    unfold pairOk at h2
    simp only [hx, hy, ht] at h2
    simp at h2
    refine ⟨fun e => h2.1.resolve_left (fun h => h e), fun hm => ?_⟩
    rcases h2.2 with (h | h) | h
    · exact absurd hm h
    · exact .inl h
    · exact .inr h
  have nosel : ∀ (i : Nat) (x : Oper) cs b, ops[i]? = some x → x.op ≠ .select cs b := by
    intro i x cs b hx hc
    have hi : i < ops.size := (Array.getElem?_eq_some_iff.1 hx).1
    have h1 := List.all_eq_true.1 hp i (List.mem_range.2 hi)
    rw [Bool.and_eq_true, hx] at h1
    simp [hc, isSel] at h1
  have tailb : ∀ (d : Nat → Bool) (j : Nat), k ≤ j → j < ops.size → may ops d j → ∀ i, i < j → d i = true := by
    intro d j hkj hj hmay i hij
    have h1 := List.all_eq_true.1 ht j (List.mem_range.2 hj)
    rw [Bool.or_eq_true, Array.getElem?_eq_getElem hj] at h1
    rcases h1 with h1 | h1
    · rw [decide_eq_true_eq] at h1; omega
    · simp only [Option.map_some, Option.getD_some] at h1
      obtain ⟨e, e1, e2, e3⟩ := bindsOn_spec (List.all_eq_true.1 h1 i (List.mem_range.2 hij))
      have h2 := hmay.2 _ (Array.getElem?_eq_getElem hj)
      rw [Array.all_eq_true_iff_forall_mem] at h2
      have h3 := h2 e e1
      rw [e2, e3] at h3
      simpa using h3
  let J1 : (Nat → Bool) → Act → World → Prop := fun d x wx => x = fr ops V d a ops.size ∧ S wx ∧ (∀ j o, ops[j]? = some o → d j = true → ∀ e, e ∈ o.after → Region.binds .any e = true → d e.on = true) ∧ (∀ j, k ≤ j → d j = false) ∧ ∃ j, j < k ∧ d j = false
  let J2 : (Nat → Bool) → Act → World → Prop := fun d x wx => ∃ m, k ≤ m ∧ (∀ j, d j = decide (j < m)) ∧ wpList P ops Q (ops.toList.drop m) x wx
  have enter : ∀ d x wx, x = fr ops V d a ops.size → S wx → (∀ j, k ≤ j → d j = false) → (∀ j, j < k → d j = true) → J2 d x wx := by
    intro d x wx hx hS hf htr
    refine ⟨k, Nat.le_refl _, fun j => ?_, ?_⟩
    · by_cases hj : j < k
      · rw [htr j hj, decide_eq_true hj]
      · rw [hf j (by omega), decide_eq_false hj]
    · have key : ∀ n, k ≤ n → fr ops V d a n = fr ops V tt a k := by
        intro n
        induction n with
        | zero => intro h; have : k = 0 := by omega
                  subst this; rfl
        | succ n ih =>
          intro h
          by_cases hn : k ≤ n
          · rw [fr, hf n hn, ih hn]; simp
          · have : k = n + 1 := by omega
            subst this
            exact fr_congr V a d tt (n + 1) (fun j hj => htr j hj)
      rw [hx, key ops.size hk]
      exact hE wx hS
  refine wp_region_inv (fun d x wx => J1 d x wx ∨ J2 d x wx) hm he ?_ ?_ ?_
  · have hz : fr ops V (fun _ => false) a ops.size = a := by
      have : ∀ k, fr ops V (fun _ => false) a k = a := by
        intro k
        induction k with
        | zero => rfl
        | succ k ih => rw [fr, ih]; simp
      exact this _
    by_cases hk0 : k = 0
    · exact .inr (enter _ _ _ hz.symm h0 (fun _ _ => rfl) (fun j hj => by omega))
    · exact .inl ⟨hz.symm, h0, (fun _ _ _ h => by cases h), (fun _ _ => rfl), 0, by omega, rfl⟩
  · rintro d x wx i (⟨rfl, hI, hcl, hfz, j0, hj0, hdj0⟩ | ⟨m, hkm, hd, hw⟩) hi hmay
    · have hik : i < k := by
        rcases Nat.lt_or_ge i k with h | h
        · exact h
        · have := tailb d i h hi hmay j0 (by omega)
          rw [hdj0] at this; cases this
      obtain ⟨o, ho⟩ : ∃ o, ops[i]? = some o := ⟨ops[i], Array.getElem?_eq_getElem hi⟩
      have hdeps : ∀ e, e ∈ o.after → Region.binds .any e = true → d e.on = true := by
        intro e h1 h2
        have := hmay.2 o ho
        rw [Array.all_eq_true_iff_forall_mem] at this
        have := this e h1
        rw [h2] at this
        simpa using this
      have hsame : ∀ t, t ∈ o.looksAt ops → (fr ops V d a ops.size).tmps[t]? = (fr ops V tt a i).tmps[t]? := by
        intro t ht
        have := fr_get (ops := ops) V a d i t ops.size (fun j hj hjt => by
          obtain ⟨y, hy⟩ : ∃ y, ops[j]? = some y := ⟨ops[j], Array.getElem?_eq_getElem hj⟩
          rw [hy] at hjt
          rcases (pair i j o y t ho hy hjt).2 ht with ⟨h1, h2⟩ | ⟨h1, h2⟩
          · obtain ⟨e, e1, e2, e3⟩ := bindsOn_spec h2
            exact .inl ⟨h1, e3 ▸ hdeps e e1 e2⟩
          · refine .inr ⟨h1, ?_⟩
            cases hdj : d j with
            | false => rfl
            | true =>
              obtain ⟨e, e1, e2, e3⟩ := bindsOn_spec h2
              have := hcl j y hy hdj e e1 e2
              rw [e3, hmay.1] at this; cases this)
        rw [this, show min ops.size i = i by omega]
      have hex : execOp (fr ops V d a ops.size).eval o = execOp (fr ops V tt a i).eval o := by
        refine execOp_congr o (fun cs b => nosel i o cs b ho) (fun x hx => ?_)
        cases x with
        | tmp t => exact eval_get (hsame t (mem_looks hx))
        | _ => rfl
      have hwa := wanted_get hsame
      have hput : ∀ v, v = V i → (fr ops V d a ops.size).put o.dst v = fr ops V (don d i) a ops.size := by
        rintro v rfl
        rw [fr_put V a d i hmay.1 ops.size (fun j hj hne t ht => fun hjt => ?_), if_pos hi, ho]
        · rfl
        · obtain ⟨y, hy⟩ : ∃ y, ops[j]? = some y := ⟨ops[j], Array.getElem?_eq_getElem hj⟩
          rw [hy] at hjt
          rw [ho] at ht
          exact hne ((pair i j o y t ho hy hjt).1 ht).symm
      have hclo : ∀ j o', ops[j]? = some o' → don d i j = true → ∀ e, e ∈ o'.after → Region.binds .any e = true → don d i e.on = true := by
        intro j o' hj hdj e e1 e2
        have : d e.on = true := by
          by_cases hji : j = i
          · subst hji
            rw [ho] at hj
            cases hj
            exact hdeps e e1 e2
          · rw [don_other _ _ _ hji] at hdj
            exact hcl j o' hj hdj e e1 e2
        unfold don; split
        · rfl
        · exact this
      have hnext : ∀ x w', x = fr ops V (don d i) a ops.size → S w' → J1 (don d i) x w' ∨ J2 (don d i) x w' := by
        intro x w' hx hS'
        have hf' : ∀ j, k ≤ j → don d i j = false := fun j hj => by rw [don_other _ _ _ (by omega)]; exact hfz j hj
        by_cases hall : ∀ j, j < k → don d i j = true
        · exact .inr (enter _ _ _ hx hS' hf' hall)
        · refine .inl ⟨hx, hS', hclo, hf', ?_⟩
          rw [Classical.not_forall] at hall
          obtain ⟨j, hj⟩ := hall
          rw [Classical.not_imp] at hj
          exact ⟨j, hj.1, by simpa using hj.2⟩
      unfold wpOp
      rw [ho]
      simp only
      rcases hst i o (by rw [List.getElem?_take, if_pos hik]; simpa using ho) with ⟨h1, h2⟩ | ⟨h1, h2, h3⟩
      · rw [hwa, h1, if_pos rfl]
        refine .inl ?_
        unfold Oper.wp
        rw [hex]
        exact upv_upon (h2 _ d wx hI hmay (fun w' hI' => hnext _ _ (hput _ rfl) hI'))
      · rw [hwa, h1]
        simp only [Bool.false_eq_true, if_false]
        exact hnext _ _ (hput _ h2.symm) (h3 d wx hI hmay)
    · have him : i = m := by
        have h1 : ¬ i < m := by intro h; have := hmay.1; rw [hd, decide_eq_true h] at this; cases this
        have h2 : ¬ m < i := by
          intro h
          have := tailb d i (by omega) hi hmay m h
          rw [hd, decide_eq_false (by omega)] at this; cases this
        omega
      subst him
      have hdr : ops.toList.drop i = ops[i] :: ops.toList.drop (i + 1) := by
        rw [List.drop_eq_getElem_cons (by simpa using hi)]; simp
      rw [hdr] at hw
      have key : ∀ x' w', wpList P ops Q (ops.toList.drop (i + 1)) x' w' → J1 (don d i) x' w' ∨ J2 (don d i) x' w' := fun x' w' h => .inr ⟨i + 1, by omega, fun j => by
        by_cases hj : j = i
        · subst hj; rw [don_same, decide_eq_true (by omega)]
        · rw [don_other _ _ _ hj, hd, decide_eq_decide]; omega, h⟩
      refine wpOp_mono key ?_
      unfold wpOp
      rw [Array.getElem?_eq_getElem hi]
      exact hw
  · rintro d x wx (⟨_, _, _, _, j, hj, hdj⟩ | ⟨m, hkm, hd, hw⟩) hall
    · have := hall j (by omega)
      rw [hdj] at this; cases this
    · have : ops.size ≤ m := by
        rcases Nat.lt_or_ge m ops.size with h | h
        · have := hall m h
          rw [hd, decide_eq_false (by omega)] at this; cases this
        · exact h
      rw [List.drop_eq_nil_of_le (by simpa using this)] at hw
      exact hw
/-- A region that draws nothing, its first k operations walked by their values. -/
theorem wp_region_flat {id : Nat} {a : Act} {w : World} (S : World → Prop) (k : Nat) (he : RI.early ops = true) (h0 : S w)
    (hs : Seq P ops (fun _ => S) (fun a' => ∀ w', S w' → wpList P ops Q (ops.toList.drop k) a' w') 0 (ops.toList.take k) a) : (Code.region id ops false).wp P Q a w := by
  refine wp_region_list ?_
  have key : ∀ (l : List Oper) (i : Nat) (a : Act) (w : World), (∀ j o, l[j]? = some o → ops[i + j]? = some o) → S w → Seq P ops (fun _ => S) (fun a' => ∀ w', S w' → wpList P ops Q (ops.toList.drop k) a' w') i l a → wpList P ops Q (l ++ ops.toList.drop k) a w := by
    intro l
    induction l with
    | nil => intro i a w _ hS h; exact h w hS
    | cons o r ih =>
      intro i a w hl hS h
      obtain ⟨v, h1, h2⟩ := h
      have hi : ops[i]? = some o := by simpa using hl 0 o rfl
      have hsz : i < ops.size := (Array.getElem?_eq_some_iff.1 hi).1
      have hmay : may ops (fun j => decide (j < i)) i := by
        refine ⟨by simp, fun o' ho' => ?_⟩
        have h3 := List.all_eq_true.1 he i (List.mem_range.2 hsz)
        rw [ho'] at h3
        simp only [Option.map_some, Option.getD_some] at h3
        exact h3
      have hr : ∀ a' w', S w' → a' = a.put o.dst v → wpList P ops Q (r ++ ops.toList.drop k) a' w' := fun a' w' hS' e => by
        subst e
        exact ih (i + 1) _ w' (fun j o' hj => by have := hl (j + 1) o' (by simpa using hj); rwa [show i + (j + 1) = i + 1 + j by omega] at this) hS' h2
      rw [List.cons_append]
      unfold wpList
      rcases h1 with ⟨h3, h4⟩ | ⟨h3, h4, h5⟩
      · rw [if_pos h3]
        refine .inl ?_
        unfold Oper.wp
        exact upv_upon (h4 _ _ w hS hmay (fun w' hS' => hr _ w' hS' rfl))
      · rw [if_neg (by rw [h3]; decide), ← h4]
        exact hr _ w hS rfl
  have := key (ops.toList.take k) 0 a w (fun j o hj => by
    rw [List.getElem?_take] at hj
    split at hj
    · simpa using hj
    · cases hj) h0 hs
  rwa [List.take_append_drop] at this
end RS
end Go.Proofs.Ytdcbgldelfhohaa
/- lampbearerref.NCommon; the law NibCommon. -/
namespace Go.Proofs.Ytdcbgldelfhohaa
namespace Nb
open Go.RowKit
theorem vw_tail {x : UInt8} {p : List UInt8} {g off : Nat} {a1 : Option Addr} {w w' : World} (hg : g < w.heap.size) (hc : ∀ j, j < (x :: p).length → w.cell? ⟨g, off + j, none⟩ = some (.int .u8 (Sp.bz (x :: p) j))) (ha : 0 < p.length → a1 = some ⟨g, off + 1, none⟩) (hb : Below w.heap.size w w') : Sp.Vw p a1 w' := fun h0 => by
  refine ⟨g, off + 1, ha h0, Nat.lt_of_lt_of_le hg hb.size, fun j hj => ?_⟩
  have k := hc (j + 1) (by rw [List.length_cons]; omega)
  rw [hb.cell (p := ⟨g, off + 1 + j, none⟩) hg, show off + 1 + j = off + (j + 1) by omega, k]
  rfl
set_option maxHeartbeats 1000000 in
set_option maxRecDepth 100000 in
theorem ncommon_any : ∀ (p q : List UInt8) (ap aq : Option Addr) (cp cq : Nat) (w : World), p.length ≤ cp → q.length ≤ cq → (cp : Int) ≤ 9223372036854775807 → (cq : Int) ≤ 9223372036854775807 → Hid ((p.length : Int) ≤ 140737488355328) → Sp.Vw p ap w → Sp.Vw q aq w →
    Calls Try.prog 43 #[.slice ap p.length cp, .slice aq q.length cq] w fun e w' => e = .returned (.int .i64 (cmn p q : Int)) ∧ Below w.heap.size w w' := by
  intro p
  induction p with
  | nil =>
    intro q ap aq cp cq w _ _ _ _ _ _ _
    have e : cmn [] q = 0 := by cases q <;> rfl
    rw [e, List.length_nil]
    generalize q.length = m
    go_enter Try.func43, Try.ntmps43
    go_wp2_with fail
    go_quiet (fail)
    go_wp2_with fail
    go_ret
    exact ⟨rfl, below_drewN (Below.refl _ _) _⟩
  | cons x p IH =>
    intro q ap aq cp cq w hcp hcq hc6 hd6 hl hp hq
    cases q with
    | nil =>
      have e : cmn (x :: p) [] = 0 := rfl
      rw [e, List.length_nil]
      have n6 : (((x :: p).length : Int) == 0) = false := beq_false_of_ne (by rw [List.length_cons]; omega)
      clear hp hq hl IH hcp hcq
      generalize (x :: p).length = n at *
      go_enter Try.func43, Try.ntmps43
      go_wp2_with fail
      go_quiet (fail)
      go_wp2_with fail
      go_ret
      exact ⟨rfl, below_drewN (Below.refl _ _) _⟩
    | cons y q =>
      obtain ⟨g, off, rfl, hg, hc⟩ := hp (by rw [List.length_cons]; omega)
      obtain ⟨h, ofh, rfl, hh, hd⟩ := hq (by rw [List.length_cons]; omega)
      have c0 := hc 0 (by rw [List.length_cons]; omega)
      have c1 := hd 0 (by rw [List.length_cons]; omega)
      rw [Nat.add_zero] at c0 c1
      have n6 : (((x :: p).length : Int) == 0) = false := beq_false_of_ne (by rw [List.length_cons]; omega)
      have n7 : (((y :: q).length : Int) == 0) = false := beq_false_of_ne (by rw [List.length_cons]; omega)
      have n8 : (0 : Int) < ((x :: p).length : Int) := by rw [List.length_cons]; omega
      have n9 : (0 : Int) < ((y :: q).length : Int) := by rw [List.length_cons]; omega
      have m8 : (1 : Int) ≤ ((x :: p).length : Int) := by rw [List.length_cons]; omega
      have m9 : (1 : Int) ≤ ((y :: q).length : Int) := by rw [List.length_cons]; omega
      have KK : Hid (∀ (a1 a2 : Option Addr) (wx : World), (0 < p.length → a1 = some ⟨g, off + 1, none⟩) → (0 < q.length → a2 = some ⟨h, ofh + 1, none⟩) → Below w.heap.size w wx → Calls Try.prog 43 #[.slice a1 ((x :: p).length - 1) (cp - 1), .slice a2 ((y :: q).length - 1) (cq - 1)] wx fun e w' => e = .returned (.int .i64 (cmn p q : Int)) ∧ Below wx.heap.size wx w') := fun a1 a2 wx h1 h2 hb => by
        rw [List.length_cons] at hcp hcq
        have k := IH q a1 a2 (cp - 1) (cq - 1) wx (by omega) (by omega) (by omega) (by omega) (by have := hl.out; rw [List.length_cons] at this; show _ ≤ _; omega) (vw_tail hg hc h1 hb) (vw_tail hh hd h2 hb)
        exact k
      have HN : Hid ((x :: p).length = p.length + 1) := List.length_cons
      have HM : Hid ((y :: q).length = q.length + 1) := List.length_cons
      have HA : Hid ((x :: p).length ≤ cp) := hcp
      have HB : Hid ((y :: q).length ≤ cq) := hcq
      have HW : Hid (IntKind.i64.wrap (1 + (cmn p q : Int)) = ((cmn p q + 1 : Nat) : Int)) := by
        have := hl.out
        have := cmn_le p q
        rw [List.length_cons] at *
        show _ = _
        rw [IntKind.wrap_i64]; omega
      by_cases e : x = y
      · have E : Hid (cmn (x :: p) (y :: q) = cmn p q + 1) := by show _ = _; rw [cmn, if_pos e]
        have t1 : (Sp.bz (x :: p) 0 != Sp.bz (y :: q) 0) = false := by subst e; simp [Sp.bz]
        rw [E.out]
        clear hp hq hl IH hcp hcq hc hd e E
        generalize Sp.bz (x :: p) 0 = X at *
        generalize Sp.bz (y :: q) 0 = Y at *
        generalize (x :: p).length = n at *
        generalize (y :: q).length = m at *
        generalize cmn p q = c at *
        by_cases hp1 : cp = 1
        · subst hp1
          by_cases hq1 : cq = 1
          · subst hq1
            go_enter Try.func43, Try.ntmps43
            go_wp2_with fail
            go_quiet (fail)
            go_upto_region 3 with fail
            refine RS.wp_region_one (fun wx => Below w.heap.size w wx) (by kernel_rfl) (by kernel_rfl) ((below_drewN (Below.refl _ _) _).drew) ?_
            dsimp only [List.toList_toArray]
            refine RS.go1 (v := ?_) (a' := ?_) rfl ?_ ?_ ?_
            rotate_left 2
            · intro K wx hS hK
              go_simp
              exact hK _ hS
            · simp only [Act.put, List.setIfInBounds_toArray, List.set_cons_succ, List.set_cons_zero]
              rfl
            refine RS.go1 (v := ?_) (a' := ?_) rfl ?_ ?_ ?_
            rotate_left 2
            · intro K wx hS hK
              go_simp
              exact hK _ hS
            · simp only [Act.put, List.setIfInBounds_toArray, List.set_cons_succ, List.set_cons_zero]
              rfl
            refine RS.go1 (v := ?_) (a' := ?_) rfl ?_ ?_ ?_
            rotate_left 2
            · intro K wx hS hK
              go_simp
              exact hK _ hS
            · simp only [Act.put, List.setIfInBounds_toArray, List.set_cons_succ, List.set_cons_zero]
              rfl
            refine RS.go1 (v := ?_) (a' := ?_) rfl ?_ ?_ ?_
            rotate_left 2
            · intro K wx hS hK
              go_simp
              exact hK _ hS
            · simp only [Act.put, List.setIfInBounds_toArray, List.set_cons_succ, List.set_cons_zero]
              rfl
            refine RS.go1 (v := ?_) (a' := ?_) rfl ?_ ?_ ?_
            rotate_left 2
            · intro K wx hS hK
              go_simp
              refine (KK.out _ _ _ (fun h => by first | rfl | (exfalso; have := HN.out; have := HM.out; have := HA.out; have := HB.out; omega)) (fun h => by first | rfl | (exfalso; have := HN.out; have := HM.out; have := HA.out; have := HB.out; omega)) hS).mono (fun e w2 he => ?_)
              refine ⟨_, he.1, ?_⟩
              exact hK _ (hS.trans (he.2.mono hS.size))
            · simp only [Act.put, List.setIfInBounds_toArray, List.set_cons_succ, List.set_cons_zero]
              rfl
            refine RS.go1 (v := ?_) (a' := ?_) rfl ?_ ?_ ?_
            rotate_left 2
            · intro K wx hS hK
              go_simp
              exact hK _ hS
            · simp only [Act.put, List.setIfInBounds_toArray, List.set_cons_succ, List.set_cons_zero]
              rfl
            refine RS.go1 (v := ?_) (a' := ?_) rfl ?_ ?_ ?_
            rotate_left 2
            · intro K wx hS hK
              go_simp
              exact hK _ hS
            · simp only [Act.put, List.setIfInBounds_toArray, List.set_cons_succ, List.set_cons_zero]
              rfl
            refine RS.go_end ?_
            intro w9 hb
            go_wp2_with fail
            go_ret
            exact ⟨by rw [← HW.out]; rfl, hb⟩
          · have n5 : (1 : Int) < (cq : Int) := by have := HM.out; have := HB.out; omega
            go_enter Try.func43, Try.ntmps43
            go_wp2_with fail
            go_quiet (fail)
            go_upto_region 3 with fail
            refine RS.wp_region_one (fun wx => Below w.heap.size w wx) (by kernel_rfl) (by kernel_rfl) ((below_drewN (Below.refl _ _) _).drew) ?_
            dsimp only [List.toList_toArray]
            refine RS.go1 (v := ?_) (a' := ?_) rfl ?_ ?_ ?_
            rotate_left 2
            · intro K wx hS hK
              go_simp
              exact hK _ hS
            · simp only [Act.put, List.setIfInBounds_toArray, List.set_cons_succ, List.set_cons_zero]
              rfl
            refine RS.go1 (v := ?_) (a' := ?_) rfl ?_ ?_ ?_
            rotate_left 2
            · intro K wx hS hK
              go_simp
              exact hK _ hS
            · simp only [Act.put, List.setIfInBounds_toArray, List.set_cons_succ, List.set_cons_zero]
              rfl
            refine RS.go1 (v := ?_) (a' := ?_) rfl ?_ ?_ ?_
            rotate_left 2
            · intro K wx hS hK
              go_simp
              exact hK _ hS
            · simp only [Act.put, List.setIfInBounds_toArray, List.set_cons_succ, List.set_cons_zero]
              rfl
            refine RS.go1 (v := ?_) (a' := ?_) rfl ?_ ?_ ?_
            rotate_left 2
            · intro K wx hS hK
              go_simp
              exact hK _ hS
            · simp only [Act.put, List.setIfInBounds_toArray, List.set_cons_succ, List.set_cons_zero]
              rfl
            refine RS.go1 (v := ?_) (a' := ?_) rfl ?_ ?_ ?_
            rotate_left 2
            · intro K wx hS hK
              go_simp
              refine (KK.out _ _ _ (fun h => by first | rfl | (exfalso; have := HN.out; have := HM.out; have := HA.out; have := HB.out; omega)) (fun h => by first | rfl | (exfalso; have := HN.out; have := HM.out; have := HA.out; have := HB.out; omega)) hS).mono (fun e w2 he => ?_)
              refine ⟨_, he.1, ?_⟩
              exact hK _ (hS.trans (he.2.mono hS.size))
            · simp only [Act.put, List.setIfInBounds_toArray, List.set_cons_succ, List.set_cons_zero]
              rfl
            refine RS.go1 (v := ?_) (a' := ?_) rfl ?_ ?_ ?_
            rotate_left 2
            · intro K wx hS hK
              go_simp
              exact hK _ hS
            · simp only [Act.put, List.setIfInBounds_toArray, List.set_cons_succ, List.set_cons_zero]
              rfl
            refine RS.go1 (v := ?_) (a' := ?_) rfl ?_ ?_ ?_
            rotate_left 2
            · intro K wx hS hK
              go_simp
              exact hK _ hS
            · simp only [Act.put, List.setIfInBounds_toArray, List.set_cons_succ, List.set_cons_zero]
              rfl
            refine RS.go_end ?_
            intro w9 hb
            go_wp2_with fail
            go_ret
            exact ⟨by rw [← HW.out]; rfl, hb⟩
        · have n4 : (1 : Int) < (cp : Int) := by have := HN.out; have := HA.out; omega
          by_cases hq1 : cq = 1
          · subst hq1
            go_enter Try.func43, Try.ntmps43
            go_wp2_with fail
            go_quiet (fail)
            go_upto_region 3 with fail
            refine RS.wp_region_one (fun wx => Below w.heap.size w wx) (by kernel_rfl) (by kernel_rfl) ((below_drewN (Below.refl _ _) _).drew) ?_
            dsimp only [List.toList_toArray]
            refine RS.go1 (v := ?_) (a' := ?_) rfl ?_ ?_ ?_
            rotate_left 2
            · intro K wx hS hK
              go_simp
              exact hK _ hS
            · simp only [Act.put, List.setIfInBounds_toArray, List.set_cons_succ, List.set_cons_zero]
              rfl
            refine RS.go1 (v := ?_) (a' := ?_) rfl ?_ ?_ ?_
            rotate_left 2
            · intro K wx hS hK
              go_simp
              exact hK _ hS
            · simp only [Act.put, List.setIfInBounds_toArray, List.set_cons_succ, List.set_cons_zero]
              rfl
            refine RS.go1 (v := ?_) (a' := ?_) rfl ?_ ?_ ?_
            rotate_left 2
            · intro K wx hS hK
              go_simp
              exact hK _ hS
            · simp only [Act.put, List.setIfInBounds_toArray, List.set_cons_succ, List.set_cons_zero]
              rfl
            refine RS.go1 (v := ?_) (a' := ?_) rfl ?_ ?_ ?_
            rotate_left 2
            · intro K wx hS hK
              go_simp
              exact hK _ hS
            · simp only [Act.put, List.setIfInBounds_toArray, List.set_cons_succ, List.set_cons_zero]
              rfl
            refine RS.go1 (v := ?_) (a' := ?_) rfl ?_ ?_ ?_
            rotate_left 2
            · intro K wx hS hK
              go_simp
              refine (KK.out _ _ _ (fun h => by first | rfl | (exfalso; have := HN.out; have := HM.out; have := HA.out; have := HB.out; omega)) (fun h => by first | rfl | (exfalso; have := HN.out; have := HM.out; have := HA.out; have := HB.out; omega)) hS).mono (fun e w2 he => ?_)
              refine ⟨_, he.1, ?_⟩
              exact hK _ (hS.trans (he.2.mono hS.size))
            · simp only [Act.put, List.setIfInBounds_toArray, List.set_cons_succ, List.set_cons_zero]
              rfl
            refine RS.go1 (v := ?_) (a' := ?_) rfl ?_ ?_ ?_
            rotate_left 2
            · intro K wx hS hK
              go_simp
              exact hK _ hS
            · simp only [Act.put, List.setIfInBounds_toArray, List.set_cons_succ, List.set_cons_zero]
              rfl
            refine RS.go1 (v := ?_) (a' := ?_) rfl ?_ ?_ ?_
            rotate_left 2
            · intro K wx hS hK
              go_simp
              exact hK _ hS
            · simp only [Act.put, List.setIfInBounds_toArray, List.set_cons_succ, List.set_cons_zero]
              rfl
            refine RS.go_end ?_
            intro w9 hb
            go_wp2_with fail
            go_ret
            exact ⟨by rw [← HW.out]; rfl, hb⟩
          · have n5 : (1 : Int) < (cq : Int) := by have := HM.out; have := HB.out; omega
            go_enter Try.func43, Try.ntmps43
            go_wp2_with fail
            go_quiet (fail)
            go_upto_region 3 with fail
            refine RS.wp_region_one (fun wx => Below w.heap.size w wx) (by kernel_rfl) (by kernel_rfl) ((below_drewN (Below.refl _ _) _).drew) ?_
            dsimp only [List.toList_toArray]
            refine RS.go1 (v := ?_) (a' := ?_) rfl ?_ ?_ ?_
            rotate_left 2
            · intro K wx hS hK
              go_simp
              exact hK _ hS
            · simp only [Act.put, List.setIfInBounds_toArray, List.set_cons_succ, List.set_cons_zero]
              rfl
            refine RS.go1 (v := ?_) (a' := ?_) rfl ?_ ?_ ?_
            rotate_left 2
            · intro K wx hS hK
              go_simp
              exact hK _ hS
            · simp only [Act.put, List.setIfInBounds_toArray, List.set_cons_succ, List.set_cons_zero]
              rfl
            refine RS.go1 (v := ?_) (a' := ?_) rfl ?_ ?_ ?_
            rotate_left 2
            · intro K wx hS hK
              go_simp
              exact hK _ hS
            · simp only [Act.put, List.setIfInBounds_toArray, List.set_cons_succ, List.set_cons_zero]
              rfl
            refine RS.go1 (v := ?_) (a' := ?_) rfl ?_ ?_ ?_
            rotate_left 2
            · intro K wx hS hK
              go_simp
              exact hK _ hS
            · simp only [Act.put, List.setIfInBounds_toArray, List.set_cons_succ, List.set_cons_zero]
              rfl
            refine RS.go1 (v := ?_) (a' := ?_) rfl ?_ ?_ ?_
            rotate_left 2
            · intro K wx hS hK
              go_simp
              refine (KK.out _ _ _ (fun h => by first | rfl | (exfalso; have := HN.out; have := HM.out; have := HA.out; have := HB.out; omega)) (fun h => by first | rfl | (exfalso; have := HN.out; have := HM.out; have := HA.out; have := HB.out; omega)) hS).mono (fun e w2 he => ?_)
              refine ⟨_, he.1, ?_⟩
              exact hK _ (hS.trans (he.2.mono hS.size))
            · simp only [Act.put, List.setIfInBounds_toArray, List.set_cons_succ, List.set_cons_zero]
              rfl
            refine RS.go1 (v := ?_) (a' := ?_) rfl ?_ ?_ ?_
            rotate_left 2
            · intro K wx hS hK
              go_simp
              exact hK _ hS
            · simp only [Act.put, List.setIfInBounds_toArray, List.set_cons_succ, List.set_cons_zero]
              rfl
            refine RS.go1 (v := ?_) (a' := ?_) rfl ?_ ?_ ?_
            rotate_left 2
            · intro K wx hS hK
              go_simp
              exact hK _ hS
            · simp only [Act.put, List.setIfInBounds_toArray, List.set_cons_succ, List.set_cons_zero]
              rfl
            refine RS.go_end ?_
            intro w9 hb
            go_wp2_with fail
            go_ret
            exact ⟨by rw [← HW.out]; rfl, hb⟩
      · have E : Hid (cmn (x :: p) (y :: q) = 0) := by show _ = _; rw [cmn, if_neg e]
        have t1 : (Sp.bz (x :: p) 0 != Sp.bz (y :: q) 0) = true := by
          simp only [Sp.bz, List.getD_cons_zero, bne_iff_ne, ne_eq]
          intro h
          exact e (UInt8.toNat_inj.1 (by omega))
        rw [E.out]
        clear hp hq hl IH hcp hcq hc hd e E KK HW
        generalize Sp.bz (x :: p) 0 = X at *
        generalize Sp.bz (y :: q) 0 = Y at *
        generalize (x :: p).length = n at *
        generalize (y :: q).length = m at *
        go_enter Try.func43, Try.ntmps43
        go_wp2_with fail
        go_quiet (fail)
        go_wp2_with fail
        go_ret
        exact ⟨rfl, below_drewN (Below.refl _ _) _⟩
end Nb
end Go.Proofs.Ytdcbgldelfhohaa
/- lampbearerref.grown at every list in order; lampbearerref.GRight. -/
namespace Go.Proofs.Ytdcbgldelfhohaa
namespace Tr
open Nb Go.RowKit
set_option maxHeartbeats 1000000 in
set_option maxRecDepth 100000 in
theorem grown_nil (ao : Option Addr) (cap : Nat) (w : World) :
    Calls Try.prog 24 #[.slice ao 0 cap] w fun e w' => ∃ u : V4, e = .returned (v4 u) ∧ Nv (w.heap.size ≤ ·) w' Nd.no u ∧ Below w.heap.size w w' := by
  have HB : Below w.heap.size w (w.alloc (.cells #[.int .i64 0, .slice none 0 0, .slice none 0 0, .slice none 0 0] 25)) := (Below.refl _ _).alloc (Nat.le_refl _) _
  have BV := B4_new w
  go_enter Try.func24, Try.ntmps24
  go_wp2_with (refine wpList_st4 rfl rfl rfl rfl BV ?_; intro w9 gb9 s0 s1 s2 s3)
  have B9 : Below w.heap.size w w9 := HB.grown gb9 HB.size (fun k e => by injection e with e; omega)
  exact bodyPost_ret (v := .agg #[.int .i64 0, .slice none 0 0, .slice none 0 0, .slice none 0 0]) (resN _ _ _ w.heap.size 2 _ _ _ _ rfl rfl s0 s1 s2 s3) rfl ⟨(.int .i64 0, .slice none 0 0, .slice none 0 0, .slice none 0 0), rfl, Nv_no _ _, B9⟩
theorem ncm (p q : By) (hp : p.length ≤ 4194304) (a b : Value) (wx : World) (ha : SlC p a wx) (hb : SlC q b wx) : Calls Try.prog 43 #[a, b] wx fun e w' => e = .returned (.int .i64 (cmn p q : Int)) ∧ Below wx.heap.size wx w' := by
  obtain ⟨a1, c1, rfl, h1, h2, h3⟩ := ha
  obtain ⟨a2, c2, rfl, k1, k2, k3⟩ := hb
  exact ncommon_any p q a1 a2 c1 c2 wx h1 k1 h2 k2 (by show _ ≤ _; omega) h3 k3
theorem srt_cut {c : Nat} {p : By} {l : Rt} (hc : p.length = c) (h : ∀ r ∈ l, p <+: r.1) (hs : Srt l) : Srt (cut c l) := by
  have := pre_cut h
  rw [hc] at this
  rw [← this, srt_pre] at hs
  exact hs
theorem srt_sub {l : Rt} (f : By × By → Bool) (hs : Srt l) : Srt (l.filter f) := List.Pairwise.filter f hs
theorem getLast_getD (a b : By × By) (l : Rt) : (b :: l).getLast (by simp) = (a :: b :: l).getD (l.length + 1) n2 := by
  rw [List.getD_cons_succ, List.getLast_eq_getElem, List.getD_eq_getElem?_getD, List.getElem?_eq_getElem (by simp)]
  simp
/-- grown, by the longest path. -/
theorem grown_all : ∀ (N : Nat) (l : Rt) (v : Value) (w : World), Rv l v w → l.length ≤ 1048576 → (∀ r ∈ l, r.1.length < N) → N ≤ 65 → Srt l → Pts l →
    Calls Try.prog 24 #[v] w fun e w' => ∃ u : V4, e = .returned (v4 u) ∧ Nv (w.heap.size ≤ ·) w' (grow N l) u ∧ Below w.heap.size w w'
  | 0, [], v, w, hv, _, _, _, _, _ => by
    obtain ⟨ao, cap, rfl, _, _⟩ := hv
    exact grown_nil ao cap w
  | 0, a :: l, _, _, _, _, h, _, _, _ => absurd (h a (List.mem_cons_self ..)) (by omega)
  | N + 1, [], v, w, hv, _, _, _, _, _ => by
    obtain ⟨ao, cap, rfl, _, _⟩ := hv
    exact grown_nil ao cap w
  | N + 1, [a], v, w, hv, _, _, _, _, _ => by
    obtain ⟨ao, cap, rfl, _, hq⟩ := hv
    obtain ⟨g, off, rfl, hg, hc⟩ := hq (by simp)
    obtain ⟨c0, c1⟩ := hc 0 (by simp)
    exact grown_leaf a.1 a.2 g off cap w hg c0 c1
  | N + 1, a :: b :: l, v, w, hv, hn, hN, h65, hs, hp => by
    obtain ⟨ao, cap, rfl, hcap, hq⟩ := hv
    obtain ⟨g, off, rfl, hg, hc⟩ := hq (by simp)
    have hz : (b :: l).getLast (by simp) = (a :: b :: l).getD (l.length + 1) n2 := getLast_getD a b l
    have hz2 : (a :: b :: l).getLast (by simp) = (b :: l).getLast (by simp) := List.getLast_cons (by simp)
    obtain ⟨z, ez⟩ : ∃ z, z = (b :: l).getLast (by simp) := ⟨_, rfl⟩
    have hzm : z ∈ a :: b :: l := by rw [ez]; exact List.mem_cons_of_mem _ (List.getLast_mem _)
    have hal : a.1.length ≤ 64 := by have := hN a (List.mem_cons_self ..); omega
    have hzl : z.1.length ≤ 64 := by have := hN z hzm; omega
    have hpre : ∀ r ∈ a :: b :: l, a.1.take (cmn a.1 z.1) <+: r.1 := fun r hr => by
      refine cmn_mid a.1 r.1 z.1 (srt_head hs r hr) ?_
      have := srt_last hs (by simp) r hr
      rw [hz2, ← ez] at this
      exact this
    have hcle := Nb.cmn_le a.1 z.1
    have hlen : (a.1.take (cmn a.1 z.1)).length = cmn a.1 z.1 := by rw [List.length_take]; omega
    have hlc : (a :: b :: l).length = l.length + 2 := by simp
    unfold grow
    rw [← ez]
    by_cases hcm : 0 < cmn a.1 z.1
    · rw [if_pos hcm]
      have hcut : ∀ r ∈ a :: b :: l, cmn a.1 z.1 ≤ r.1.length := fun r hr => by
        have := (hpre r hr).length_le
        rw [hlen] at this
        exact this
      refine grown_road a.1 z.1 g off cap (a :: b :: l).length (l.length + 1) (cmn a.1 z.1) w (by omega) (by omega) hn hg (hc 0 (by simp)).1 ?_ hcm hcle _ rfl (cut (cmn a.1 z.1) (a :: b :: l)) _ ?_ ?_ (by omega) (by omega) (fun x y wx hx hy => ncm a.1 z.1 (by omega) x y wx hx hy)
      · have := (hc (l.length + 1) (by simp)).1
        rw [← hz, ← ez, Nat.mul_comm] at this
        exact this
      · intro wx hb
        refine (shorter_any (a :: b :: l) (cmn a.1 z.1) (some ⟨g, off, none⟩) cap _ wx rfl (show _ ≤ _ by omega) (Rv_below ⟨_, _, rfl, hcap, fun _ => ⟨g, off, rfl, hg, hc⟩⟩ hb) hcut).mono fun e w' he => ?_
        obtain ⟨y, h1, h2, h3⟩ := he
        exact ⟨y, h1, own_rv h2, h3⟩
      · intro x wx hx
        refine grown_all N _ x wx hx (by rw [cut_len]; exact hn) (fun r hr => ?_) (by omega) (srt_cut hlen hpre hs) ?_
        · obtain ⟨s, hs1, rfl⟩ := List.mem_map.1 hr
          have := hN s hs1
          have := hcut s hs1
          simp only [List.length_drop]
          omega
        · intro r hr c hcc
          obtain ⟨s, hs1, rfl⟩ := List.mem_map.1 hr
          exact hp s hs1 c (List.mem_of_mem_drop hcc)
    · rw [if_neg hcm]
      have hc0 : cmn a.1 z.1 = 0 := by omega
      have hKN : ∀ (x y : Value) (wx : World), SlC a.1 x wx → SlC z.1 y wx → Calls Try.prog 43 #[x, y] wx fun e w' => e = .returned (.int .i64 0) ∧ Below wx.heap.size wx w' := fun x y wx hx hy => by
        have := ncm a.1 z.1 (by omega) x y wx hx hy
        rw [hc0] at this
        exact this
      have hrest : ∀ r ∈ b :: l, r.1 ≠ [] := fun r hr e => by
        have := (List.pairwise_cons.1 hs).1 r hr
        rw [e] at this
        exact less_nil _ this
      have KGx : ∀ M : Rt, M.length ≤ 1048576 → (∀ r ∈ M, r ∈ a :: b :: l) → Srt M → (∀ r ∈ M, r.1 ≠ []) → ∀ (i : Nat) (x : Value) (wx : World), i < 16 → Rv (cut 1 (prt i M)) x wx → Calls Try.prog 24 #[x] wx fun e w' => ∃ y : V4, e = .returned (v4 y) ∧ Nv (wx.heap.size ≤ ·) w' (grow N (cut 1 (prt i M))) y ∧ Below wx.heap.size wx w' := fun M hM1 hM2 hM3 hM4 i x wx hi hx => by
        refine grown_all N _ x wx hx (by rw [cut_len]; exact Nat.le_trans (List.length_filter_le _ _) hM1) (fun r hr => ?_) (by omega) (srt_cut (p := [UInt8.ofNat i]) rfl (fun r hr => ?_) (srt_sub _ hM3)) ?_
        · obtain ⟨s, hs1, rfl⟩ := List.mem_map.1 hr
          have h1 := (List.mem_filter.1 hs1).1
          have := hN s (hM2 s h1)
          have := List.length_pos_iff.2 (hM4 s h1)
          simp only [List.length_drop]
          omega
        · obtain ⟨_, q, e⟩ := prt_mem hM4 hr
          rw [e]
          exact ⟨q, rfl⟩
        · intro r hr c hcc
          obtain ⟨s, hs1, rfl⟩ := List.mem_map.1 hr
          exact hp s (hM2 s (List.mem_filter.1 hs1).1) c (List.mem_of_mem_drop hcc)
      have hm1 : ((a :: b :: l).getD (l.length + 1) n2).1 = z.1 := by rw [← hz, ← ez]
      by_cases ha : a.1 = []
      · rw [if_pos ha, if_pos ha]
        exact grown_fork_v (a :: b :: l) (b :: l) a.1 z.1 a.2 g off cap (a :: b :: l).length (l.length + 1) w (by omega) (by omega) hn rfl hcap hg rfl hm1 ha rfl rfl hrest (fun j hj => hc j hj) _
          (KGx (b :: l) (by rw [List.length_cons] at *; omega) (fun r hr => List.mem_cons_of_mem _ hr) (List.pairwise_cons.1 hs).2 hrest) (by omega) (by omega) hKN
      · rw [if_neg ha, if_neg ha]
        have hall : ∀ r ∈ a :: b :: l, r.1 ≠ [] := fun r hr => by
          rcases List.mem_cons.1 hr with rfl | hr
          · exact ha
          · exact hrest r hr
        exact grown_fork_n (a :: b :: l) (a :: b :: l) a.1 z.1 [] g off cap (a :: b :: l).length (l.length + 1) w (by omega) (by omega) hn rfl hcap hg rfl hm1 ha rfl rfl hall (fun j hj => hc j hj) _
          (KGx (a :: b :: l) hn (fun r hr => hr) hs hall) (by omega) (by omega) hKN
theorem grown_ok : GrownOk := fun l v w hv hn hN hs hp => grown_all 65 l v w hv hn hN (Nat.le_refl _) hs hp
end Tr
end Go.Proofs.Ytdcbgldelfhohaa
/- tree.Right; the law TreeRights. -/
namespace Go.Proofs.Ytdcbgldelfhohaa
namespace Tr
open Nb Go.RowKit
/-- A node in its box. -/
structure NB (h : Nat) (u : V4) (t : Nd) (lo : Nat) (W wx : World) : Prop where
  bx : Bx h u wx
  n : Nv (· < lo) wx t u
  l : lo ≤ wx.heap.size
  b : Below W.heap.size W wx
theorem NB_below {h : Nat} {u : V4} {t : Nd} {lo : Nat} {W wx w2 : World} (k : NB h u t lo W wx) (b : Below wx.heap.size wx w2) : NB h u t lo W w2 := ⟨Bx_below k.bx b, Nv_below k.n b, Nat.le_trans k.l b.size, k.b.trans (b.mono k.b.size)⟩
theorem NB_new {u : V4} {t : Nd} {lo : Nat} {w : World} (hn : Nv (· < lo) w t u) (hl : lo ≤ w.heap.size) : NB w.heap.size u t lo w (w.alloc (.cells #[u.1, u.2.1, u.2.2.1, u.2.2.2] 25)) := by
  have b : Below w.heap.size w (w.alloc (.cells #[u.1, u.2.1, u.2.2.1, u.2.2.2] 25)) := (Below.refl _ _).alloc (Nat.le_refl _) _
  exact ⟨Bx_new w u, Nv_below hn b, Nat.le_trans hl b.size, b⟩
set_option maxHeartbeats 1000000 in
set_option maxRecDepth 100000 in
theorem right_any (t : Nd) (lo : Nat) (x : V4) (w : World) (hx : Nv (· < lo) w t x) (hlo : lo ≤ w.heap.size) (hw : wn t ≤ 4194304) :
    Calls Try.prog 9 #[v4 x] w fun e w' => e = .returned (.bool (rd 0 t)) ∧ Below w.heap.size w w' := by
  obtain ⟨k, a1, n1, c1, a2, m2, c2, a3, n3, c3, rfl⟩ := Nv_form hx
  have N0 := NB_new hx hlo
  obtain ⟨_, q0, q1, q2, q3⟩ := N0.bx
  dsimp only at q0 q1 q2 q3
  have KR : Hid (∀ wx : World, NB w.heap.size (.int .i64 k, .slice a1 n1 c1, .slice a2 m2 c2, .slice a3 n3 c3) t lo w wx → Calls Try.prog 22 #[.agg #[.int .i64 k, .slice a1 n1 c1, .slice a2 m2 c2, .slice a3 n3 c3], .int .i64 0] wx fun e w' => ∃ y, e = .returned (.tuple #[y, .bool (rd 0 t)]) ∧ Below wx.heap.size wx w') := fun wx hn => by
    refine ((read_all lo (wf_any t)).1 0 (.int .i64 k, .slice a1 n1 c1, .slice a2 m2 c2, .slice a3 n3 c3) wx (by omega) hn.n hn.l hw).mono fun e w' he => ?_
    obtain ⟨y, h1, _, h3⟩ := he
    exact ⟨y, h1, h3⟩
  have HN : Hid (NB w.heap.size (.int .i64 k, .slice a1 n1 c1, .slice a2 m2 c2, .slice a3 n3 c3) t lo w (w.alloc (.cells #[.int .i64 k, .slice a1 n1 c1, .slice a2 m2 c2, .slice a3 n3 c3] 25))) := N0
  clear N0 hx hlo hw
  show Calls Try.prog _ #[.agg #[.int .i64 k, .slice a1 n1 c1, .slice a2 m2 c2, .slice a3 n3 c3]] w _
  generalize rd 0 t = r at *
  go_enter Try.func9, Try.ntmps9
  go_wp2_with fail
  refine (KR.out _ HN.out).mono ?_
  rintro e w1 ⟨y, rfl, hb1⟩
  have HZ : Hid (Below w.heap.size w w1) := HN.out.b.trans (hb1.mono HN.out.b.size)
  clear hb1
  go_wp2_with fail
  go_ret
  exact ⟨rfl, HZ.out⟩
theorem rd_gr (t : Nd) : rd 0 t = gr t := by rw [Bool.eq_iff_iff, rd_right, gr_right]
set_option maxHeartbeats 2000000 in
set_option maxRecDepth 100000 in
theorem law_rights (t : Nd) (hs : Sm t) (x : V4) (w : World) (hx : Nv (· < w.heap.size) w t x) (hw : wn t ≤ 1048576) :
    Calls Try.prog 3 #[v4 x] w fun e w' => e = .returned (.bool true) ∧ Below w.heap.size w w' := by
  obtain ⟨k, a1, n1, c1, a2, m2, c2, a3, n3, c3, rfl⟩ := Nv_form hx
  have N0 := NB_new hx (Nat.le_refl _)
  have KR : Hid (∀ wx : World, NB w.heap.size (.int .i64 k, .slice a1 n1 c1, .slice a2 m2 c2, .slice a3 n3 c3) t w.heap.size w wx → Calls Try.prog 9 #[.agg #[.int .i64 k, .slice a1 n1 c1, .slice a2 m2 c2, .slice a3 n3 c3]] wx fun e w' => e = .returned (.bool (gr t)) ∧ Below wx.heap.size wx w') := fun wx hn => by
    rw [← rd_gr]
    exact right_any t w.heap.size (.int .i64 k, .slice a1 n1 c1, .slice a2 m2 c2, .slice a3 n3 c3) wx hn.n hn.l (by omega)
  have KG : Hid (∀ wx : World, NB w.heap.size (.int .i64 k, .slice a1 n1 c1, .slice a2 m2 c2, .slice a3 n3 c3) t w.heap.size w wx → Calls Try.prog 10 #[.agg #[.int .i64 k, .slice a1 n1 c1, .slice a2 m2 c2, .slice a3 n3 c3]] wx fun e w' => e = .returned (.bool (gr t)) ∧ Below wx.heap.size wx w') := fun wx hn => gright_any grown_ok t hs _ (.int .i64 k, .slice a1 n1 c1, .slice a2 m2 c2, .slice a3 n3 c3) wx hn.n hw
  have R0 : NB w.heap.size (.int .i64 k, .slice a1 n1 c1, .slice a2 m2 c2, .slice a3 n3 c3) t w.heap.size w (w.alloc (.cells #[.int .i64 k, .slice a1 n1 c1, .slice a2 m2 c2, .slice a3 n3 c3] 25)).drew := NB_below N0 (Below.refl _ _).drew
  clear N0 hx hw hs
  show Calls Try.prog _ #[.agg #[.int .i64 k, .slice a1 n1 c1, .slice a2 m2 c2, .slice a3 n3 c3]] w _
  generalize gr t = r at *
  go_enter Try.func3, Try.ntmps3
  go_upto_region 1 with fail
  generalize (w.alloc (.cells #[.int .i64 k, .slice a1 n1 c1, .slice a2 m2 c2, .slice a3 n3 c3] 25)) = W0 at *
  generalize hg0 : w.heap.size = g0 at *
  refine RS.wp_region_one (NB g0 (.int .i64 k, .slice a1 n1 c1, .slice a2 m2 c2, .slice a3 n3 c3) t g0 w) (by kernel_rfl) (by kernel_rfl) (R0) ?_
  dsimp only [List.toList_toArray]
  refine RS.go1 (v := ?_) (a' := ?_) rfl ?_ ?_ ?_
  rotate_left 2
  · intro K wx hS hK
    have m0 := hS.bx.2.1
    have m1 := hS.bx.2.2.1
    have m2' := hS.bx.2.2.2.1
    have m3 := hS.bx.2.2.2.2
    go_simp
    exact hK _ hS
  · simp only [Act.put, List.setIfInBounds_toArray, List.set_cons_succ, List.set_cons_zero]
    rfl
  refine RS.go1 (v := ?_) (a' := ?_) rfl ?_ ?_ ?_
  rotate_left 2
  · intro K wx hS hK
    go_simp
    refine (KR.out _ hS).mono (fun e w2 he => ?_)
    refine ⟨_, he.1, ?_⟩
    exact hK _ (NB_below hS he.2)
  · simp only [Act.put, List.setIfInBounds_toArray, List.set_cons_succ, List.set_cons_zero]
    rfl
  refine RS.go1 (v := ?_) (a' := ?_) rfl ?_ ?_ ?_
  rotate_left 2
  · intro K wx hS hK
    have m0 := hS.bx.2.1
    have m1 := hS.bx.2.2.1
    have m2' := hS.bx.2.2.2.1
    have m3 := hS.bx.2.2.2.2
    go_simp
    exact hK _ hS
  · simp only [Act.put, List.setIfInBounds_toArray, List.set_cons_succ, List.set_cons_zero]
    rfl
  refine RS.go1 (v := ?_) (a' := ?_) rfl ?_ ?_ ?_
  rotate_left 2
  · intro K wx hS hK
    go_simp
    refine (KG.out _ hS).mono (fun e w2 he => ?_)
    refine ⟨_, he.1, ?_⟩
    exact hK _ (NB_below hS he.2)
  · simp only [Act.put, List.setIfInBounds_toArray, List.set_cons_succ, List.set_cons_zero]
    rfl
  refine RS.go1 (v := ?_) (a' := ?_) rfl ?_ ?_ ?_
  rotate_left 2
  · intro K wx hS hK
    have e := beq_self_eq_true r
    go_simp
    exact hK _ hS
  · simp only [Act.put, List.setIfInBounds_toArray, List.set_cons_succ, List.set_cons_zero]
    rfl
  refine RS.go1 (v := ?_) (a' := ?_) rfl ?_ ?_ ?_
  rotate_left 2
  · intro K wx hS hK
    go_simp
    exact hK _ hS
  · simp only [Act.put, List.setIfInBounds_toArray, List.set_cons_succ, List.set_cons_zero]
    rfl
  refine RS.go_end ?_
  intro w9 m9
  have HZ : Hid (Below w.heap.size w w9) := m9.b
  clear m9 R0
  go_wp2_with fail
  go_ret
  exact ⟨rfl, HZ.out⟩
end Tr
end Go.Proofs.Ytdcbgldelfhohaa
/- Bytes that came in. -/
namespace Go.Proofs.Ytdcbgldelfhohaa
namespace Sp
open Go.ChangeShapes Go.WideShapes Go.ChangeAt Go.RowKit Go.Joins
theorem ownK : ownKnob Try.prog.godebug = none := by kernel_rfl
theorem laidOutK : laidOutB Try.prog = true := by kernel_rfl
theorem cellsU8 : Try.prog.cellsOf 5 = 1 := by kernel_rfl
theorem bytesU8 : Try.prog.bytesOf 5 = 1 := by kernel_rfl
/-- Numbers as bytes. -/
def ub (zs : List Int) : List UInt8 := zs.map fun z => UInt8.ofNat z.toNat
theorem ub_length (zs : List Int) : (ub zs).length = zs.length := by simp [ub]
theorem ub_bz (zs : List Int) (hz : ∀ z ∈ zs, 0 ≤ z ∧ z < 256) (j : Nat) (h : j < zs.length) : bz (ub zs) j = zs.getD j 0 := by
  have hm := hz zs[j] (List.getElem_mem h)
  have h2 : j < (ub zs).length := by rw [ub_length]; exact h
  unfold bz
  rw [List.getD_eq_getElem?_getD, List.getD_eq_getElem?_getD, List.getElem?_eq_getElem h2, List.getElem?_eq_getElem h]
  simp only [Option.getD_some, ub, List.getElem_map, UInt8.toNat_ofNat']
  omega
set_option maxRecDepth 100000 in
theorem open_bytes {H : Type} {enc : TypeId × Value → H} {W : World} {r : Reach} {b0 : Nat} {v : Value} {d : DataW H} {p : List MemPlace}
    (hv : Value.okWide Try.prog W r b0 22 v) (h : DataW.Trod enc Try.prog W 0 (fun _ => true) true 22 v d p) :
    ∃ (l : List UInt8) (ao : Option Addr) (cap : Nat), v = .slice ao l.length cap ∧ l.length ≤ cap ∧ Vw l ao W ∧ (l = [] ∨ ∃ elems spare, d = .slice elems spare ∧ elems.length = l.length) := by
  obtain ⟨a0, len, cap, rfl⟩ := okWide_slice Try.underlying22 hv
  obtain ⟨fuel, hf⟩ := h
  rcases open_ints Try.underlying22 Try.underlying5 cellsU8 hf with ⟨hcs, hx⟩ | ⟨a, len', cap', zs, hcs, _, hl, hm, hz, hx, hcell, hwz⟩
  · simp [Value.cells] at hcs
    obtain ⟨rfl, rfl, rfl⟩ := hcs
    exact ⟨[], none, 0, rfl, Nat.le_refl _, Vw_nil _ _, .inl rfl⟩
  · simp [Value.cells] at hcs
    obtain ⟨rfl, rfl, rfl⟩ := hcs
    simp only [if_true] at hz
    have hb : ∀ z ∈ zs, 0 ≤ z ∧ z < 256 := fun z hz' => by have := bounds_u8 (hwz z hz'); omega
    have hb' : ∀ z ∈ zs.take len, 0 ≤ z ∧ z < 256 := fun z hz' => hb z (List.mem_of_mem_take hz')
    have hlt : (ub (zs.take len)).length = len := by rw [ub_length, List.length_take]; omega
    simp only [Prod.mk.injEq] at hx
    refine ⟨ub (zs.take len), some a, cap, by rw [hlt], by rw [hlt]; exact hl, ?_, .inr ⟨_, _, hx.1, by simp [lits, hlt]; omega⟩⟩
    intro h0
    rw [hlt] at h0
    obtain ⟨b, off, rfl, hc⟩ := ints_at hcell (by omega)
    refine ⟨b, off, rfl, ?_, fun j hj => ?_⟩
    · exact World.block_lt_of_cell? W ⟨b, off + 0, none⟩ (hc 0 (by omega))
    · rw [hlt] at hj
      rw [hc j (by omega), ub_bz _ hb' j (by rw [List.length_take]; omega)]
      simp [List.getD_eq_getElem?_getD, hj]
end Sp
end Go.Proofs.Ytdcbgldelfhohaa
/- A slice of bytes that came in: its room too. -/
namespace Go.Proofs.Ytdcbgldelfhohaa
namespace Sp
open Go.ChangeShapes Go.WideShapes Go.ChangeAt Go.RowKit
set_option maxRecDepth 100000 in
theorem open_bytes2 {H : Type} {enc : TypeId × Value → H} {W : World} {r : Reach} {b0 : Nat} {v : Value} {d : DataW H} {p : List MemPlace}
    (hv : Value.okWide Try.prog W r b0 22 v) (h : DataW.Trod enc Try.prog W 0 (fun _ => true) true 22 v d p) :
    ∃ (l : List UInt8) (ao : Option Addr) (cap : Nat), v = .slice ao l.length cap ∧ l.length ≤ cap ∧ (cap : Int) ≤ 9223372036854775807 ∧ Vw l ao W ∧ (l = [] ∨ ∃ elems spare, d = .slice elems spare ∧ elems.length = l.length) := by
  obtain ⟨l, ao, cap, rfl, h1, h2, h3⟩ := open_bytes hv h
  refine ⟨l, ao, cap, rfl, h1, ?_, h2, h3⟩
  obtain ⟨fuel, hf⟩ := h
  rcases open_ints Try.underlying22 Try.underlying5 cellsU8 hf with ⟨hcs, _⟩ | ⟨a, len', cap', zs, hcs, _, _, hm, _⟩
  · simp [Value.cells] at hcs
    omega
  · simp [Value.cells] at hcs
    obtain ⟨_, _, rfl⟩ := hcs
    unfold maxLen at hm
    omega
end Sp
end Go.Proofs.Ytdcbgldelfhohaa
/- A node that came in. -/
namespace Go.Proofs.Ytdcbgldelfhohaa
namespace Tr
open Nb Go.ChangeShapes Go.WideShapes Go.ChangeAt Go.RowKit
theorem wnk_many : ∀ ks : List Nd, ks.length ≤ wnk ks
  | [] => Nat.zero_le _
  | .mk k p v js :: r => by
    have := wnk_many r
    unfold wnk wn
    rw [List.length_cons]; omega
theorem sm_wn {t : Nd} (h : Wf t) : wn t ≤ 4194304 → Sm t := by
  induction h with
  | mk k p v ks _ ih =>
    intro hw
    unfold wn at hw
    have h1 := wnk_many ks
    exact .mk k p v ks (by omega) (fun j hj => ih j hj (by have := wnk_one ks j hj; omega))
theorem blk1 {H : Type} (d : DataW H) : 1 ≤ Rows.uptoBulk d := by
  unfold Rows.uptoBulk
  split <;> omega
theorem blkN {H : Type} : ∀ l : List (DataW H), l.length ≤ Rows.uptoBulkAll l
  | [] => Nat.zero_le _
  | d :: r => by
    have h1 := blk1 d
    have h2 := blkN r
    rw [Rows.uptoBulkAll, List.length_cons]
    omega
theorem wnk_blk {H : Type} (G : Nat → Nd) (D : Nat → DataW H) : ∀ l : List Nat, (∀ i, i ∈ l → wn (G i) ≤ Rows.uptoBulk (D i)) → wnk (l.map G) ≤ Rows.uptoBulkAll (l.map D)
  | [], _ => Nat.zero_le _
  | i :: r, h => by
    have h1 := h i (List.mem_cons_self ..)
    have h2 := wnk_blk G D r (fun j hj => h j (List.mem_cons_of_mem _ hj))
    rw [List.map_cons, List.map_cons, Rows.uptoBulkAll]
    unfold wnk
    omega
theorem cellsNd : Try.prog.cellsOf 25 = 4 := by kernel_rfl
set_option maxRecDepth 100000 in
/-- A text, by its cells. -/
theorem text_of {H : Type} {enc : TypeId × Value → H} {W : World} {fuel : Nat} {cs : List Value} {x : DataW H × List MemPlace} (hf : DataW.trod enc Try.prog W 0 (fun _ => true) true fuel 22 cs = some x) :
    ∃ (b : By) (v : Value), cs = [v] ∧ Bs (· < W.heap.size) b v W ∧ b.length + 1 ≤ Rows.uptoBulk x.1 := by
  rcases open_ints Try.underlying22 Try.underlying5 Sp.cellsU8 hf with ⟨hcs, hx⟩ | ⟨a, len, cap, zs, hcs, _, hl, hm, hz, hx, hcell, hwz⟩
  · subst hcs
    exact ⟨[], _, rfl, Bs_nil _ _, blk1 _⟩
  · subst hcs
    simp only [if_true] at hz
    have hb : ∀ z ∈ zs, 0 ≤ z ∧ z < 256 := fun z hz' => by have := bounds_u8 (hwz z hz'); omega
    have hb' : ∀ z ∈ zs.take len, 0 ≤ z ∧ z < 256 := fun z hz' => hb z (List.mem_of_mem_take hz')
    have hlt : (Sp.ub (zs.take len)).length = len := by rw [Sp.ub_length, List.length_take]; omega
    refine ⟨Sp.ub (zs.take len), _, rfl, ⟨some a, cap, by rw [hlt], by rw [hlt]; exact hl, fun h0 => ?_⟩, ?_⟩
    · rw [hlt] at h0
      obtain ⟨b, off, rfl, hc⟩ := ints_at hcell (by omega)
      have hbw : b < W.heap.size := World.block_lt_of_cell? W ⟨b, off + 0, none⟩ (hc 0 (by omega))
      refine ⟨b, off, rfl, hbw, hbw, fun j hj => ?_⟩
      rw [hlt] at hj
      rw [hc j (by omega), Sp.ub_bz _ hb' j (by rw [List.length_take]; omega)]
      simp [List.getD_eq_getElem?_getD, hj]
    · subst hx
      have h := blkN (lits (H := H) .u8 (zs.take len))
      have e : (lits (H := H) .u8 (zs.take len)).length = len := by simp [lits]; omega
      rw [e] at h
      rw [hlt]
      show _ ≤ Rows.uptoBulk (.slice (lits .u8 (zs.take len)) (lits .u8 (zs.drop len)))
      rw [Rows.uptoBulk]
      omega
set_option maxRecDepth 100000 in
/-- A node, by its cells. -/
theorem node_of {H : Type} {enc : TypeId × Value → H} {W : World} : ∀ (N fuel : Nat), fuel ≤ N → ∀ (cs : List Value) (x : DataW H × List MemPlace), DataW.trod enc Try.prog W 0 (fun _ => true) true fuel 25 cs = some x →
    ∃ (t : Nd) (u : V4), cs = [u.1, u.2.1, u.2.2.1, u.2.2.2] ∧ Nv (· < W.heap.size) W t u ∧ wn t ≤ Rows.uptoBulk x.1
  | 0, 0, _, cs, x, h => by simp [DataW.trod] at h
  | N + 1, fuel, hN, cs, x, h => by
    obtain ⟨xs, n, rfl, rfl, hl, hlen, hf⟩ := DataW.trod_struct Try.underlying25 h
    match xs, hlen with
    | [y0, y1, y2, y3], _ =>
      have f0 := hf 0 _ rfl
      have f1 := hf 1 _ rfl
      have f2 := hf 2 _ rfl
      have f3 := hf 3 _ rfl
      rw [cellsNd] at hl
      match cs, hl with
      | [c0, c1, c2, c3], _ =>
        simp only [List.getElem?_cons_zero, List.getElem?_cons_succ] at f0 f1 f2 f3
        obtain ⟨q, e0, hy0⟩ := DataW.trod_int Try.underlying3 f0
        obtain ⟨b1, v1, e1, ht1, hb1⟩ := text_of f1
        obtain ⟨b2, v2, e2, ht2, hb2⟩ := text_of f2
        injection e0 with e0 _
        injection e1 with e1 _
        injection e2 with e2 _
        subst e0 e1 e2
        have hB : Rows.uptoBulk (DataW.agg ([y0, y1, y2, y3].map (·.1))) = Rows.uptoBulk y0.1 + (Rows.uptoBulk y1.1 + (Rows.uptoBulk y2.1 + (Rows.uptoBulk y3.1 + 0))) + 1 := by
          rw [Rows.uptoBulk]
          rfl
        have h0 := blk1 y0.1
        rcases DataW.trod_slice Try.underlying23 f3 with ⟨hcs, hx⟩ | ⟨a, len, cap, elems, rest, m, rfl, hcs, hx, _, hle, _, hel, hat, _, _⟩
        · injection hcs with hcs _
          subst hcs
          have h3 := blk1 y3.1
          exact ⟨.mk q b1 b2 [], (.int .i64 q, c1, c2, .slice none 0 0), rfl, .mk q b1 b2 [] _ _ _ [] ht1 ht2 rfl (Ks_nil _ _) (fun j hj => absurd hj (by simp)), by
            rw [hB]; unfold wn wnk; omega⟩
        · injection hcs with hcs _
          subst hcs
          have HI : ∀ i, ∃ p : Nd × V4, i < len → (∃ cs', W.cells? 0 (a.add (i * 4)) 4 = some cs' ∧ cs' = [p.2.1, p.2.2.1, p.2.2.2.1, p.2.2.2.2]) ∧ Nv (· < W.heap.size) W p.1 p.2 ∧ wn p.1 ≤ Rows.uptoBulk (elems.getD i (.nil, [])).1 := fun i => by
            by_cases hi : i < len
            · have k := hat i hi
              rw [cellsNd] at k
              rw [List.getElem?_eq_getElem (by omega)] at k
              cases hc : W.cells? 0 (a.add (i * 4)) 4 with
              | none => rw [hc] at k; cases k
              | some cs' =>
                rw [hc] at k
                obtain ⟨t, u, e1, e2, e3⟩ := node_of N m (by omega) cs' _ k
                refine ⟨(t, u), fun _ => ⟨⟨cs', rfl, e1⟩, e2, ?_⟩⟩
                rw [List.getD_eq_getElem?_getD, List.getElem?_eq_getElem (by omega)]
                exact e3
            · exact ⟨(Nd.no, n4), fun h => absurd h hi⟩
          obtain ⟨F, hF⟩ := Classical.axiomOfChoice HI
          have hks : ((List.range len).map fun i => (F i).1).length = len := by simp
          have hvs : ((List.range len).map fun i => (F i).2).length = len := by simp
          refine ⟨.mk q b1 b2 ((List.range len).map fun i => (F i).1), (.int .i64 q, c1, c2, .slice (some a) len cap), rfl, .mk q b1 b2 _ _ _ _ ((List.range len).map fun i => (F i).2) ht1 ht2 (by rw [hvs, hks]) ⟨some a, cap, by rw [hvs], by rw [hvs]; exact hle, fun hp => ?_⟩ (fun j hj => ?_), ?_⟩
          · rw [hvs] at hp
            obtain ⟨bl, off, spot⟩ := a
            obtain ⟨cs', k1, k2⟩ := (hF 0 hp).1
            obtain ⟨_, _, k3⟩ := World.cells?_some k1
            have k4 := k3 0 (by decide)
            rw [k2] at k4
            have hspot : spot = none := by simpa [Addr.add] using World.cell?_spot k4
            subst hspot
            have hbw : bl < W.heap.size := World.block_lt_of_cell? W _ (by simpa [Go.WideShapes.add_plain] using k4)
            refine ⟨bl, off, rfl, hbw, hbw, fun j hj => ?_⟩
            rw [hvs] at hj
            rw [getD_range _ _ _ _ hj]
            obtain ⟨cs2, k5, k6⟩ := (hF j hj).1
            obtain ⟨_, _, k7⟩ := World.cells?_some k5
            rw [Go.WideShapes.add_plain] at k7
            have g0 := k7 0 (by decide)
            have g1 := k7 1 (by decide)
            have g2 := k7 2 (by decide)
            have g3 := k7 3 (by decide)
            rw [Go.WideShapes.add_plain, k6] at g0 g1 g2 g3
            rw [Nat.mul_comm 4 j]
            exact ⟨g0, g1, g2, g3⟩
          · rw [hks] at hj
            rw [getD_range _ _ _ _ hj, getD_range _ _ _ _ hj]
            exact (hF j hj).2.1
          · have hw := wnk_blk (fun i => (F i).1) (fun i => (elems.getD i (.nil, [])).1) (List.range len) (fun i hi => (hF i (List.mem_range.1 hi)).2.2)
            have e2 : (List.range len).map (fun i => (elems.getD i (.nil, [])).1) = elems.map (·.1) := by
              apply List.ext_getElem
              · simp [hel]
              · intro i h1 h2
                have : i < elems.length := by simpa using h2
                simp [this]
            rw [e2] at hw
            have hy3 : Rows.uptoBulk y3.1 = Rows.uptoBulkAll (elems.map (·.1)) + Rows.uptoBulkAll (rest.map (·.1)) + 1 := by
              rw [hx, Rows.uptoBulk]
            rw [hB, hy3]
            unfold wn
            omega
set_option maxRecDepth 100000 in
theorem open_node {H : Type} {enc : TypeId × Value → H} {W : World} {r : Reach} {b0 : Nat} {v : Value} {d : DataW H} {p : List MemPlace}
    (hv : Value.okWide Try.prog W r b0 25 v) (h : DataW.Trod enc Try.prog W 0 (fun _ => true) true 25 v d p) :
    ∃ (t : Nd) (u : V4), v = v4 u ∧ Nv (· < W.heap.size) W t u ∧ wn t ≤ Rows.uptoBulk d := by
  obtain ⟨cs, rfl, _⟩ := okWide_struct Try.underlying25 hv
  obtain ⟨fuel, hf⟩ := h
  obtain ⟨t, u, e1, e2, e3⟩ := node_of fuel fuel (Nat.le_refl _) _ _ hf
  refine ⟨t, u, ?_, e2, e3⟩
  have e4 : cs.toList = [u.1, u.2.1, u.2.2.1, u.2.2.2] := e1
  unfold v4
  rw [← e4]
end Tr
end Go.Proofs.Ytdcbgldelfhohaa
