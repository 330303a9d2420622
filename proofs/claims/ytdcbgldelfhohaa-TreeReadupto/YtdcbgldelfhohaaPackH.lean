/- lampbearerref.GGet. -/
import Derived.Test.YtdcbgldelfhohaaPackG
import Derived.Test.YtdcbgldelfhohaaPackA
import Derived.Test.YtdcbgldelfhohaaPackE
import Derived.Test.YtdcbgldelfhohaaPackF
import Derived.Lib.SlBytesConst
namespace Go.Proofs.Ytdcbgldelfhohaa
namespace Tr
open Nb Go.RowKit
theorem nhalves_bs {S : Nat → Prop} {b : By} {v : Value} {w : World} (hb : Bs S b v w) (hl : b.length ≤ 2097152) : Calls Try.prog 28 #[v] w fun e w' => ∃ a n c, e = .returned (.slice a n c) ∧ Pk.Sl (hv b) (.slice a n c) w' ∧ Below w.heap.size w w' := by
  obtain ⟨ao, cap, h1, _, vw⟩ := Bs_sl hb
  subst h1
  refine (nhalves_any b ao cap w hl vw).mono fun e w' he => ?_
  obtain ⟨v, h1, h2, h3⟩ := he
  have h4 := Bs_sl (own_bs h2)
  have h5 := h4
  obtain ⟨a, c, rfl, _⟩ := h5
  exact ⟨a, _, c, h1, h4, h3⟩
theorem slc_bs {b : By} {v : Value} {w : World} (h : SlC b v w) : Bs (fun _ => True) b v w := by
  obtain ⟨ao, cap, h1, h2, _, h3⟩ := h
  refine ⟨ao, cap, h1, h2, fun h0 => ?_⟩
  obtain ⟨k, off, e, hlt, hc⟩ := h3 h0
  exact ⟨k, off, e, trivial, hlt, hc⟩
theorem st_eq (a b : By) : ((st a).toList == (st b).toList) = decide (a = b) := by
  rw [st_list, st_list, Bool.eq_iff_iff, beq_iff_eq, decide_eq_true_iff]
set_option maxHeartbeats 2000000 in
set_option maxRecDepth 100000 in
theorem gg_form (k : Int) (a1 a2 a3 ak : Option Addr) (n1 c1 m2 c2 n3 c3 nk ck : Nat) (w : World) (KG0 : ∀ wx : World, Below w.heap.size w wx → Calls Try.prog 10 #[.agg #[.int .i64 k, .slice a1 n1 c1, .slice a2 m2 c2, .slice a3 n3 c3]] wx fun e w' => e = .returned (.bool false) ∧ Below wx.heap.size wx w') :
    Calls Try.prog 12 #[.agg #[.int .i64 k, .slice a1 n1 c1, .slice a2 m2 c2, .slice a3 n3 c3], .slice ak nk ck] w fun e w' => e = .returned (.tuple #[.slice none 0 0, .int .i64 1]) ∧ Below w.heap.size w w' := by
  have HB : Below w.heap.size w (w.alloc (.cells #[.int .i64 k, .slice a1 n1 c1, .slice a2 m2 c2, .slice a3 n3 c3] 25)) := (Below.refl _ _).alloc (Nat.le_refl _) _
  obtain ⟨_, q0, q1, q2, q3⟩ := Bx_new w (.int .i64 k, .slice a1 n1 c1, .slice a2 m2 c2, .slice a3 n3 c3)
  dsimp only at q0 q1 q2 q3
  have KG : Hid (Calls Try.prog 10 #[.agg #[.int .i64 k, .slice a1 n1 c1, .slice a2 m2 c2, .slice a3 n3 c3]] (w.alloc (.cells #[.int .i64 k, .slice a1 n1 c1, .slice a2 m2 c2, .slice a3 n3 c3] 25)) fun e w' => e = .returned (.bool false) ∧ Below (w.alloc (.cells #[.int .i64 k, .slice a1 n1 c1, .slice a2 m2 c2, .slice a3 n3 c3] 25)).heap.size (w.alloc (.cells #[.int .i64 k, .slice a1 n1 c1, .slice a2 m2 c2, .slice a3 n3 c3] 25)) w') := KG0 _ HB
  have HBB : Hid (Below w.heap.size w (w.alloc (.cells #[.int .i64 k, .slice a1 n1 c1, .slice a2 m2 c2, .slice a3 n3 c3] 25))) := HB
  clear KG0 HB
  go_enter Try.func12, Try.ntmps12
  go_wp2_with fail
  refine KG.out.mono ?_
  rintro e w1 ⟨rfl, hb1⟩
  have HZ : Hid (Below w.heap.size w w1) := HBB.out.trans (hb1.mono HBB.out.size)
  clear hb1
  go_wp2_with fail
  go_ret2
  exact ⟨rfl, HZ.out⟩
set_option maxHeartbeats 2000000 in
set_option maxRecDepth 100000 in
theorem gg_key (k : Int) (a1 a2 a3 ak : Option Addr) (n1 c1 m2 c2 n3 c3 nk ck : Nat) (w : World) (KG0 : ∀ wx : World, Below w.heap.size w wx → Calls Try.prog 10 #[.agg #[.int .i64 k, .slice a1 n1 c1, .slice a2 m2 c2, .slice a3 n3 c3]] wx fun e w' => e = .returned (.bool true) ∧ Below wx.heap.size wx w') (hk : ¬ nk ≤ 32) :
    Calls Try.prog 12 #[.agg #[.int .i64 k, .slice a1 n1 c1, .slice a2 m2 c2, .slice a3 n3 c3], .slice ak nk ck] w fun e w' => e = .returned (.tuple #[.slice none 0 0, .int .i64 3]) ∧ Below w.heap.size w w' := by
  have HB : Below w.heap.size w (w.alloc (.cells #[.int .i64 k, .slice a1 n1 c1, .slice a2 m2 c2, .slice a3 n3 c3] 25)) := (Below.refl _ _).alloc (Nat.le_refl _) _
  obtain ⟨_, q0, q1, q2, q3⟩ := Bx_new w (.int .i64 k, .slice a1 n1 c1, .slice a2 m2 c2, .slice a3 n3 c3)
  dsimp only at q0 q1 q2 q3
  have KG : Hid (Calls Try.prog 10 #[.agg #[.int .i64 k, .slice a1 n1 c1, .slice a2 m2 c2, .slice a3 n3 c3]] (w.alloc (.cells #[.int .i64 k, .slice a1 n1 c1, .slice a2 m2 c2, .slice a3 n3 c3] 25)) fun e w' => e = .returned (.bool true) ∧ Below (w.alloc (.cells #[.int .i64 k, .slice a1 n1 c1, .slice a2 m2 c2, .slice a3 n3 c3] 25)).heap.size (w.alloc (.cells #[.int .i64 k, .slice a1 n1 c1, .slice a2 m2 c2, .slice a3 n3 c3] 25)) w') := KG0 _ HB
  have HBB : Hid (Below w.heap.size w (w.alloc (.cells #[.int .i64 k, .slice a1 n1 c1, .slice a2 m2 c2, .slice a3 n3 c3] 25))) := HB
  have d9 : decide ((32 : Int) < (nk : Int)) = true := decide_eq_true (by omega)
  have d8 : decide (32 < nk) = true := decide_eq_true (by omega)
  clear KG0 HB hk
  go_enter Try.func12, Try.ntmps12
  go_wp2_with fail
  refine KG.out.mono ?_
  rintro e w1 ⟨rfl, hb1⟩
  have HZ : Hid (Below w.heap.size w w1) := HBB.out.trans (hb1.mono HBB.out.size)
  clear hb1
  go_wp2_with fail
  go_ret2
  exact ⟨rfl, HZ.out⟩
inductive GGR (W0 : World) (kh : By) (X Y : ByteArray) (k : Int) (a1 a2 a3 ak : Option Addr) (n1 c1 m2 c2 n3 c3 nk ck g0 g off n lc j g9 : Nat) (v33 v34 v35 v36 v4' v5' : Value) (B : Bool) (d : Nat → Bool) (x : Act) (wx : World) : Prop where
  | mk (u27 u28 u29 u30 u31 u32 : Value) (hx : x = { tmps := #[.agg #[.int .i64 k, .slice a1 n1 c1, .slice a2 m2 c2, .slice a3 n3 c3], .slice ak nk ck, .pointer (some ⟨g0, 0, none⟩), undef, v4', v5', .slice (some ⟨g, off, none⟩) n lc, .bool true, undef, .pointer (some ⟨g9, 0, none⟩), .agg #[.int .i64 k, .slice a1 n1 c1, .slice a2 m2 c2, .slice a3 n3 c3], .bool true, .bool false, .slice ak nk ck, .int .i64 (nk : Int), .bool false, .tuple #[.slice (some ⟨g, off, none⟩) n lc, .bool true], .agg #[.int .i64 k, .slice a1 n1 c1, .slice a2 m2 c2, .slice a3 n3 c3], .tuple #[.slice (some ⟨g, off, none⟩) n lc, .bool true], .slice (some ⟨g, off, none⟩) n lc, .bool true, .slice (some ⟨g, off, none⟩) n lc, .int .i64 (n : Int), .int .i64 (j : Int), .bool true, .pointer (some ⟨g, off + j * 2, none⟩), .agg #[.string X, .string Y], u27, u28, u29, u30, u31, u32, v33, v34, v35, v36], defers := [] }) (hw : Below W0.heap.size W0 wx) (p0 : d 0 = true → u27 = .pointer (some ⟨g9, 0, none⟩)) (p1 : d 1 = true → u28 = .string X) (p2 : d 2 = true → u29 = .slice ak nk ck) (p4 : d 4 = true → u31 = .string (st kh)) (p5 : d 5 = true → u32 = .bool B) (z3 : d 3 = true → ∃ a n c, u30 = .slice a n c ∧ Pk.Sl kh (.slice a n c) wx) : GGR W0 kh X Y k a1 a2 a3 ak n1 c1 m2 c2 n3 c3 nk ck g0 g off n lc j g9 v33 v34 v35 v36 v4' v5' B d x wx
set_option maxHeartbeats 2000000 in
set_option maxRecDepth 100000 in
theorem gg_value (k : Int) (a1 a2 a3 ak : Option Addr) (n1 c1 m2 c2 n3 c3 nk ck : Nat) (w : World) (KG0 : ∀ wx : World, Below w.heap.size w wx → Calls Try.prog 10 #[.agg #[.int .i64 k, .slice a1 n1 c1, .slice a2 m2 c2, .slice a3 n3 c3]] wx fun e w' => e = .returned (.bool true) ∧ Below wx.heap.size wx w') (hk : nk ≤ 32) (l : Rt) (kh b : By) (HL : Hid (l.length ≤ 1048576))
    (KR0 : ∀ wx : World, Below w.heap.size w wx → Calls Try.prog 23 #[.agg #[.int .i64 k, .slice a1 n1 c1, .slice a2 m2 c2, .slice a3 n3 c3], .string ⟨#[]⟩] wx fun e w' => ∃ la n lc, e = .returned (.tuple #[.slice la n lc, .bool true]) ∧ (n = l.length ∧ Rv l (.slice la n lc) w') ∧ Below wx.heap.size wx w')
    (KH0 : Hid (∀ wx : World, Below w.heap.size w wx → Calls Try.prog 28 #[.slice ak nk ck] wx fun e w' => ∃ a n c, e = .returned (.slice a n c) ∧ Pk.Sl kh (.slice a n c) w' ∧ Below wx.heap.size wx w'))
    (i0 : Nat) (HI : Hid (i0 ≤ l.length)) (HM : Hid (∀ j, j < i0 → (l.getD j n2).1 ≠ kh)) (HE : Hid (i0 < l.length → (l.getD i0 n2).1 = kh ∧ (l.getD i0 n2).2 = b)) (HF : Hid (i0 = l.length → b = [])) (HBL : Hid (b.length ≤ 4194304)) :
    Calls Try.prog 12 #[.agg #[.int .i64 k, .slice a1 n1 c1, .slice a2 m2 c2, .slice a3 n3 c3], .slice ak nk ck] w fun e w' => (∃ a c, e = .returned (.tuple #[.slice a b.length c, .int .i64 0]) ∧ Bs (fun _ => True) b (.slice a b.length c) w') ∧ Below w.heap.size w w' := by
  have HB : Below w.heap.size w (w.alloc (.cells #[.int .i64 k, .slice a1 n1 c1, .slice a2 m2 c2, .slice a3 n3 c3] 25)) := (Below.refl _ _).alloc (Nat.le_refl _) _
  obtain ⟨_, q0, q1, q2, q3⟩ := Bx_new w (.int .i64 k, .slice a1 n1 c1, .slice a2 m2 c2, .slice a3 n3 c3)
  dsimp only at q0 q1 q2 q3
  have KG : Hid (Calls Try.prog 10 #[.agg #[.int .i64 k, .slice a1 n1 c1, .slice a2 m2 c2, .slice a3 n3 c3]] (w.alloc (.cells #[.int .i64 k, .slice a1 n1 c1, .slice a2 m2 c2, .slice a3 n3 c3] 25)) fun e w' => e = .returned (.bool true) ∧ Below (w.alloc (.cells #[.int .i64 k, .slice a1 n1 c1, .slice a2 m2 c2, .slice a3 n3 c3] 25)).heap.size (w.alloc (.cells #[.int .i64 k, .slice a1 n1 c1, .slice a2 m2 c2, .slice a3 n3 c3] 25)) w') := KG0 _ HB
  have HBB : Hid (Below w.heap.size w (w.alloc (.cells #[.int .i64 k, .slice a1 n1 c1, .slice a2 m2 c2, .slice a3 n3 c3] 25))) := HB
  have KR1 : Hid (∀ wx : World, Below w.heap.size w wx → Calls Try.prog 23 #[.agg #[.int .i64 k, .slice a1 n1 c1, .slice a2 m2 c2, .slice a3 n3 c3], .string ⟨#[]⟩] wx fun e w' => ∃ la n lc, e = .returned (.tuple #[.slice la n lc, .bool true]) ∧ (n = l.length ∧ Rv l (.slice la n lc) w') ∧ Below wx.heap.size wx w') := KR0
  have d9 : decide ((32 : Int) < (nk : Int)) = false := decide_eq_false (by omega)
  have d8 : decide (32 < nk) = false := decide_eq_false (by omega)
  have hh' : w.heap.size < (w.alloc (.cells #[.int .i64 k, .slice a1 n1 c1, .slice a2 m2 c2, .slice a3 n3 c3] 25)).heap.size := by simp
  clear KG0 HB hk KR0
  go_enter Try.func12, Try.ntmps12
  go_wp2_with fail
  refine KG.out.mono ?_
  rintro e w1 ⟨rfl, hb1⟩
  have HZ : Hid (Below w.heap.size w w1) := HBB.out.trans (hb1.mono HBB.out.size)
  replace q0 := (hb1.cell (p := ⟨w.heap.size, 0, none⟩) hh').trans q0
  replace q1 := (hb1.cell (p := ⟨w.heap.size, 1, none⟩) hh').trans q1
  replace q2 := (hb1.cell (p := ⟨w.heap.size, 2, none⟩) hh').trans q2
  replace q3 := (hb1.cell (p := ⟨w.heap.size, 3, none⟩) hh').trans q3
  clear hb1 hh' KG HBB
  have KR2 : Hid (∀ W : World, W = w1 → Calls Try.prog 23 #[.agg #[.int .i64 k, .slice a1 n1 c1, .slice a2 m2 c2, .slice a3 n3 c3], .string ⟨#[]⟩] W fun e w' => ∃ la n lc, e = .returned (.tuple #[.slice la n lc, .bool true]) ∧ (n = l.length ∧ Rv l (.slice la n lc) w') ∧ Below w.heap.size w w') := fun W e => by
    subst e
    refine (KR1.out W HZ.out).mono fun e w' he => ?_
    obtain ⟨la, n, lc, h1, h2, h3⟩ := he
    exact ⟨la, n, lc, h1, h2, HZ.out.trans (h3.mono HZ.out.size)⟩
  clear KR1
  go_wp2_with fail
  refine (KR2.out _ rfl).mono ?_
  rintro e W0 ⟨la, n, lc, rfl, hx0, bR⟩
  have hx : Hid _ := hx0
  have BW0 : Hid (Below w.heap.size w W0) := bR
  clear hx0 KR2 bR q0 q1 q2 q3 HZ
  generalize hg0 : w.heap.size = g0 at *
  go_wp2_with fail
  go_loopw [23] (fun i wr => ∃ j : Nat, j ≤ i0 ∧ i = .int .i64 (j : Int) ∧ Below W0.heap.size W0 wr) (fun i _ => ((n : Int) - intOf i).toNat)
  case atStart => exact ⟨0, Nat.zero_le _, rfl, Below.refl _ _⟩
  case round =>
    obtain ⟨j, hj, rfl, hB⟩ := hrel
    have hin : i0 ≤ n := by have := hx.out.1; have := HI.out; omega
    by_cases hlt : j < n
    · have d0 : decide ((j : Int) < (n : Int)) = true := decide_eq_true (by omega)
      have d1 : (0 : Int) ≤ (j : Int) := by omega
      have d2 : (j : Int) < (n : Int) := by omega
      have hjl : j < l.length := by have := hx.out.1; omega
      obtain ⟨a', cap', e2, -, hq⟩ := hx.out.2
      obtain ⟨g, off, rfl, hg, hcell⟩ := hq (by omega)
      injection e2 with e2 e2' e2''
      subst e2
      clear e2' e2''
      obtain ⟨x0, x1⟩ := hcell j hjl
      have y0 := (hB.cell (p := ⟨g, off + 2 * j, none⟩) hg).trans x0
      have y1 := (hB.cell (p := ⟨g, off + 2 * j + 1, none⟩) hg).trans x1
      have hg2 : g < wr.heap.size := Nat.lt_of_lt_of_le hg hB.size
      rw [Nat.mul_comm 2 j] at y0 y1
      have e5 : Hid (wrap64 ((j : Int) + 1) = ((j + 1 : Nat) : Int)) := by have := hx.out.1; have := HL.out; show _ = _; unfold wrap64; omega
      have B2 : Hid (Below W0.heap.size W0 (wr.alloc (.cells #[.string (st (l.getD j n2).1), .string (st (l.getD j n2).2)] 51))) := hB.alloc hB.size _
      have HA := heap_alloc_new wr (.cells #[.string (st (l.getD j n2).1), .string (st (l.getD j n2).2)] 51)
      have r0 : (wr.alloc (.cells #[.string (st (l.getD j n2).1), .string (st (l.getD j n2).2)] 51)).cell? ⟨wr.heap.size, 0, none⟩ = some (.string (st (l.getD j n2).1)) := by simp only [World.cell?, HA]; rfl
      have r1 : (wr.alloc (.cells #[.string (st (l.getD j n2).1), .string (st (l.getD j n2).2)] 51)).cell? ⟨wr.heap.size, 1, none⟩ = some (.string (st (l.getD j n2).2)) := by simp only [World.cell?, HA]; rfl
      have h9 : wr.heap.size < (wr.alloc (.cells #[.string (st (l.getD j n2).1), .string (st (l.getD j n2).2)] 51)).heap.size := by simp
      have hne : Hid (j < i0 → (l.getD j n2).1 ≠ kh) := fun h => HM.out j h
      have hyes : Hid (j = i0 → (l.getD j n2).1 = kh ∧ (l.getD j n2).2 = b) := fun h => by subst h; exact HE.out hjl
      clear HA hq hcell x0 x1
      generalize l.getD j n2 = r at *
      obtain ⟨rp, rv⟩ := r
      dsimp only at *
      have hse := st_eq rp kh
      generalize hX : st rp = X at *
      generalize hY : st rv = Y at *
      go_upto_region 9 with fail
      generalize (wr.alloc (.cells #[.string X, .string Y] 51)) = W1 at *
      generalize wr.heap.size = g9 at *
      have hw0 : Below W1.heap.size W1 W1.drew := (Below.refl _ _).drew
      have KH : Hid (∀ wx : World, Below W1.heap.size W1 wx → Calls Try.prog 28 #[.slice ak nk ck] wx fun e w' => ∃ a n c, e = .returned (.slice a n c) ∧ Pk.Sl kh (.slice a n c) w' ∧ Below wx.heap.size wx w') := fun wx hb => KH0.out wx (by
        have h1 := BW0.out.trans (B2.out.mono (by have := BW0.out.size; omega))
        exact h1.trans (hb.mono (by have := h1.size; omega)))
      refine RI.wp_region_inv (GGR W1 kh X Y k a1 a2 a3 ak n1 c1 m2 c2 n3 c3 nk ck g0 g off n lc j g9 u33 u34 u35 u36 u4 u5 (decide (rp = kh))) (by kernel_rfl) (by kernel_rfl) ?_ ?_ ?_
      · exact ⟨_, _, _, _, _, _, rfl, hw0, nofun, nofun, nofun, nofun, nofun, nofun⟩
      · skip
        intro d x wx i hI hi hm
        obtain ⟨u27, u28, u29, u30, u31, u32, rfl, hw, p0, p1, p2, p4, p5, z3⟩ := hI
        have hi' : i = 0 ∨ i = 1 ∨ i = 2 ∨ i = 3 ∨ i = 4 ∨ i = 5 := by simp at hi; omega
        have hd := hm.2
        clear hm hi
        rcases hi' with rfl | rfl | rfl | rfl | rfl | rfl
        · refine RI.wpOp_plain rfl rfl ?_
          go_simp
          exact ⟨_, u28, u29, u30, u31, u32, rfl, hw, fun _ => rfl, p1, p2, p4, p5, z3⟩
        · have hd := hd _ rfl
          simp [Region.binds] at hd
          obtain rfl := p0 (by simp [hd])
          refine RI.wpOp_plain rfl rfl ?_
          have x0 := (hw.cell (p := ⟨g9, 0, none⟩) h9).trans r0
          go_simp
          exact ⟨_, _, u29, u30, u31, u32, rfl, hw, p0, fun _ => rfl, p2, p4, p5, z3⟩
        · refine RI.wpOp_plain rfl rfl ?_
          go_simp
          exact ⟨u27, u28, _, u30, u31, u32, rfl, hw, p0, p1, fun _ => rfl, p4, p5, z3⟩
        · have hd := hd _ rfl
          simp [Region.binds] at hd
          obtain rfl := p2 (by simp [hd])
          refine RI.wpOp_plain rfl rfl ?_
          go_simp
          refine (KH.out _ hw).mono ?_
          rintro e w1 ⟨ha, hn, hc, rfl, hkh, hb1⟩
          exact ⟨u27, u28, _, _, u31, u32, rfl, hw.trans (hb1.mono hw.size), p0, p1, p2, p4, p5, fun _ => ⟨_, _, _, rfl, hkh⟩⟩
        · have hd := hd _ rfl
          simp [Region.binds] at hd
          refine RI.wpOp_plain rfl rfl ?_
          obtain ⟨ha, hn, hc, rfl, hkh⟩ := z3 (by simp [hd])
          have x0 := Sl_st hkh
          go_simp
          exact ⟨u27, u28, u29, _, _, u32, rfl, hw, p0, p1, p2, fun _ => rfl, p5, z3⟩
        · have hd := hd _ rfl
          simp [Region.binds] at hd
          obtain rfl := p1 (by simp [hd])
          obtain rfl := p4 (by simp [hd])
          refine RI.wpOp_plain rfl rfl ?_
          go_simp
          exact ⟨u27, _, u29, u30, _, _, rfl, hw, p0, p1, p2, p4, fun _ => rfl, z3⟩
      · skip
        intro d x wx hI hd
        obtain ⟨u27, u28, u29, u30, u31, u32, rfl, hw, p0, p1, p2, p4, p5, z3⟩ := hI
        obtain rfl := p5 (hd 5 (by decide))
        have r1' := (hw.cell (p := ⟨g9, 1, none⟩) h9).trans r1
        have hg9 : g9 < wx.heap.size := Nat.lt_of_lt_of_le h9 hw.size
        have BX : Hid (Below W0.heap.size W0 wx) := B2.out.trans (hw.mono B2.out.size)
        clear hw KH p0 p1 p2 p4 z3
        by_cases hrk : rp = kh
        · have hji : j = i0 := by
            apply Classical.byContradiction
            intro hne2
            exact hne.out (by omega) hrk
          have hb := (hyes.out hji).2
          rw [decide_eq_true hrk]
          subst hb
          obtain ⟨cv, W9, v1, v2, v3, v4⟩ := st_slc rv (HBL.out) wx
          rw [hY] at v1
          have HR : Hid (Bs (fun _ => True) rv (.slice (some ⟨wx.heap.size, 0, none⟩) rv.length cv) W9) := slc_bs v2
          have HZ9 : Hid (Below g0 w W9) := by
            have h1 := BW0.out.trans (BX.out.mono (by have := BW0.out.size; omega))
            exact h1.trans (v4.mono (by have := h1.size; omega))
          clear v2 v3 v4 hne hyes hB hx hse BX B2
          go_wp2_with fail
          go_ret2
          exact ⟨⟨_, cv, rfl, HR.out⟩, HZ9.out⟩
        · rw [decide_eq_false hrk]
          have hji : j < i0 := by
            apply Classical.byContradiction
            intro h2
            exact hrk (hyes.out (by omega)).1
          clear hne hyes hse
          go_wp2_with fail
          first | rw [e5.out] | rw [show (j : Int) + 1 = ((j + 1 : Nat) : Int) from by omega]
          exact ⟨⟨j + 1, by omega, rfl, BX.out⟩, msr_up j n hlt⟩
    · have d0 : decide ((j : Int) < (n : Int)) = false := decide_eq_false (by omega)
      have hb : b = [] := HF.out (by have := hx.out.1; omega)
      subst hb
      have HZ9 : Hid (Below g0 w wr) := BW0.out.trans (hB.mono (by have := BW0.out.size; omega))
      clear hx hB
      go_wp2_with fail
      go_ret2
      exact ⟨⟨none, 0, rfl, Bs_nil _ _⟩, HZ9.out⟩
end Tr
end Go.Proofs.Ytdcbgldelfhohaa
/- The closure of routePut's that finds a path; slices.IndexFunc of it. -/
namespace Go.Proofs.Ytdcbgldelfhohaa
namespace Tr
open Nb Go.RowKit
set_option maxHeartbeats 2000000 in
set_option maxRecDepth 100000 in
theorem del_any (a b p : By) (g : Nat) (w : World) (hc : w.cell? ⟨g, 0, none⟩ = some (.string (st p))) (hg : g < w.heap.size) :
    Calls Try.prog 54 #[.agg #[.string (st a), .string (st b)], .pointer (some ⟨g, 0, none⟩)] w fun e w' => e = .returned (.bool (decide (a = p))) ∧ Below w.heap.size w w' := by
  have hse := st_eq a p
  have HB : Hid (Below w.heap.size w (w.alloc (.cells #[.string (st a), .string (st b)] 51))) := (Below.refl _ _).alloc (Nat.le_refl _) _
  have HA := heap_alloc_new w (.cells #[.string (st a), .string (st b)] 51)
  have q0 : (w.alloc (.cells #[.string (st a), .string (st b)] 51)).cell? ⟨w.heap.size, 0, none⟩ = some (.string (st a)) := by simp only [World.cell?, HA]; rfl
  have q1 : (w.alloc (.cells #[.string (st a), .string (st b)] 51)).cell? ⟨g, 0, none⟩ = some (.string (st p)) := (HB.out.cell (p := ⟨g, 0, none⟩) hg).trans hc
  clear HA hc
  generalize decide (a = p) = R at *
  generalize st a = X at *
  generalize st b = Y at *
  generalize st p = Z at *
  go_enter Try.func54, Try.ntmps54
  go_wp2_with fail
  go_ret
  exact ⟨rfl, HB.out⟩
set_option maxHeartbeats 2000000 in
set_option maxRecDepth 100000 in
theorem idx_any (l : Rt) (p : By) (g0 : Nat) (la : Option Addr) (n lc : Nat) (w : World) (hx : Hid (n = l.length ∧ Rv l (.slice la n lc) w)) (HL : Hid (l.length ≤ 4194304)) (hc : Hid (w.cell? ⟨g0, 0, none⟩ = some (.string (st p)))) (hg0 : Hid (g0 < w.heap.size)) (i0 : Nat) (HI : Hid (i0 ≤ l.length)) (HM : Hid (∀ j, j < i0 → (l.getD j n2).1 ≠ p)) (HE : Hid (i0 < l.length → (l.getD i0 n2).1 = p)) (R : Int) (HR1 : Hid (i0 < l.length → R = (i0 : Int))) (HR2 : Hid (i0 = l.length → R = -1)) :
    Calls Try.prog 66 #[.slice la n lc, .func (.func 54) #[] #[.pointer (some ⟨g0, 0, none⟩)]] w fun e w' => e = .returned (.int .i64 R) ∧ Below w.heap.size w w' := by
  have KD : Hid (∀ (a b : By) (wx : World), Below w.heap.size w wx → Calls Try.prog 54 #[.agg #[.string (st a), .string (st b)], .pointer (some ⟨g0, 0, none⟩)] wx fun e w' => e = .returned (.bool (decide (a = p))) ∧ Below wx.heap.size wx w') := fun a b wx hb => del_any a b p g0 wx ((hb.cell (p := ⟨g0, 0, none⟩) hg0.out).trans hc.out) (Nat.lt_of_lt_of_le hg0.out hb.size)
  clear hc hg0
  go_enter Try.func66, Try.ntmps66
  go_wp2_with fail
  go_loopw [8] (fun i wr => ∃ j : Nat, j ≤ i0 ∧ i = .int .i64 (j : Int) ∧ Below w.heap.size w wr) (fun i _ => ((n : Int) - intOf i).toNat)
  case atStart => exact ⟨0, Nat.zero_le _, rfl, Below.refl _ _⟩
  case round =>
    obtain ⟨j, hj, rfl, hB⟩ := hrel
    have hin : i0 ≤ n := by have := hx.out.1; have := HI.out; omega
    by_cases hlt : j < n
    · have d0 : decide ((j : Int) < (n : Int)) = true := decide_eq_true (by omega)
      have d1 : (0 : Int) ≤ (j : Int) := by omega
      have d2 : (j : Int) < (n : Int) := by omega
      have hjl : j < l.length := by have := hx.out.1; omega
      obtain ⟨a', cap', e2, -, hq⟩ := hx.out.2
      obtain ⟨g, off, rfl, hg, hcell⟩ := hq (by omega)
      injection e2 with e2 e2' e2''
      subst e2
      clear e2' e2''
      obtain ⟨x0, x1⟩ := hcell j hjl
      have y0 := (hB.cell (p := ⟨g, off + 2 * j, none⟩) hg).trans x0
      have y1 := (hB.cell (p := ⟨g, off + 2 * j + 1, none⟩) hg).trans x1
      rw [Nat.mul_comm 2 j] at y0 y1
      have e5 : Hid (wrap64 ((j : Int) + 1) = ((j + 1 : Nat) : Int)) := by have := hx.out.1; have := HL.out; show _ = _; unfold wrap64; omega
      have hne : Hid (j < i0 → (l.getD j n2).1 ≠ p) := fun h => HM.out j h
      have hyes : Hid (j = i0 → (l.getD j n2).1 = p) := fun h => by subst h; exact HE.out hjl
      have HBB : Hid (Below w.heap.size w wr) := hB
      clear hq hcell x0 x1
      generalize l.getD j n2 = r at *
      obtain ⟨rp, rv⟩ := r
      dsimp only at *
      have kd := KD.out rp rv wr hB
      generalize st rp = X at *
      generalize st rv = Y at *
      clear hB
      go_wp2_with fail
      refine kd.mono ?_
      rintro e w1 ⟨rfl, hb1⟩
      have BX : Hid (Below w.heap.size w w1) := HBB.out.trans (hb1.mono HBB.out.size)
      clear hb1 kd y0 y1 HBB
      by_cases hrk : rp = p
      · have hji : j = i0 := by
          apply Classical.byContradiction
          intro hne2
          exact hne.out (by omega) hrk
        rw [decide_eq_true hrk]
        have hR := HR1.out (by omega)
        subst hR
        subst hji
        clear hne hyes hrk
        go_wp2_with fail
        go_ret
        exact ⟨rfl, BX.out⟩
      · rw [decide_eq_false hrk]
        have hji : j < i0 := by
          apply Classical.byContradiction
          intro h2
          exact hrk (hyes.out (by omega))
        clear hne hyes hrk
        go_wp2_with fail
        first | rw [e5.out] | rw [show (j : Int) + 1 = ((j + 1 : Nat) : Int) from by omega]
        exact ⟨⟨j + 1, by omega, rfl, BX.out⟩, msr_up j n hlt⟩
    · have d0 : decide ((j : Int) < (n : Int)) = false := decide_eq_false (by omega)
      have hR := HR2.out (by have := hx.out.1; omega)
      subst hR
      have HZ9 : Hid (Below w.heap.size w wr) := hB
      clear hx hB
      go_wp2_with fail
      go_ret
      exact ⟨rfl, HZ9.out⟩
end Tr
end Go.Proofs.Ytdcbgldelfhohaa
/- slices.Clone of routes. -/
namespace Go.Proofs.Ytdcbgldelfhohaa
namespace Tr
open Nb Go.RowKit
set_option maxHeartbeats 2000000 in
set_option maxRecDepth 100000 in
theorem clone_rt (l : Rt) (v : Value) (w : World) (hv : Rv l v w) (hl : l.length ≤ 4194304) :
    Calls Try.prog 53 #[v] w fun e w' => ∃ z, e = .returned z ∧ Ow w.heap.size l z w' ∧ Below w.heap.size w w' := by
  have hv0 := hv
  obtain ⟨ao, cap, rfl, hc, hq⟩ := hv
  cases ao with
  | none =>
    have h0 : l.length = 0 := by
      apply Classical.byContradiction
      intro h
      obtain ⟨g, off, e, _⟩ := hq (by omega)
      cases e
    have h1 : l = [] := List.length_eq_zero_iff.1 h0
    subst h1
    have x1 := Lib.run_eql_slice_nil w 47 51 none 0 cap 0 0 Try.underlying47
    clear hv0 hq h0 hc hl
    show Calls Try.prog _ #[.slice none 0 cap] w _
    go_enter Try.func53, Try.ntmps53
    go_wp2_with fail
    go_ret
    exact ⟨_, rfl, World.ownsRow_nil _ _ _ _, Below.refl _ _⟩
  | some ad =>
    have x1 := Lib.run_eql_slice_nil w 47 51 (some ad) l.length cap 0 0 Try.underlying47
    have ba : Below w.heap.size w (w.alloc (.cells #[] 51)) := (Below.refl _ _).alloc (Nat.le_refl _) _
    have ow : Ow w.heap.size [] (.slice (some ⟨w.heap.size, 0, none⟩) 0 0) (w.alloc (.cells #[] 51)) := World.ownsRow_lit w #[] 0 (Nat.le_refl _) (Nat.zero_le _) rfl
    obtain ⟨z, w2, hap, ho, hb, _⟩ := app_rv 47 ow (Rv_below hv0 ba) ba.size (by simpa using hl)
    have HO : Hid (Ow w.heap.size l z w2) := by show Ow _ _ _ _; simpa using ho
    have HB : Hid (Below w.heap.size w w2) := ba.trans hb
    clear hv0 hq hc hl ow ho hb ba
    go_enter Try.func53, Try.ntmps53
    go_wp2_with (at_builtin; refine wpList_apw rfl rfl rfl rfl hap ?_)
    go_ret
    exact ⟨_, rfl, HO.out, HB.out⟩
end Tr
end Go.Proofs.Ytdcbgldelfhohaa
/- Rows of routes that are written place by place; a list with one taken out. -/
namespace Go.Proofs.Ytdcbgldelfhohaa
namespace Tr
open Nb Go.RowKit
theorem c2_set : ∀ (L : Rt) (i : Nat) (a b : By), i < L.length → c2 (L.set i (a, b)) = ((c2 L).set (i * 2) (.string (st a))).set (i * 2 + 1) (.string (st b))
  | [], i, _, _, h => absurd h (by simp)
  | r :: L, 0, a, b, _ => rfl
  | r :: L, i + 1, a, b, h => by
    have ih := c2_set L i a b (by simpa using h)
    show [_, _] ++ c2 (L.set i (a, b)) = _
    rw [ih]
    have e1 : (i + 1) * 2 = i * 2 + 1 + 1 := by omega
    rw [e1]
    rfl
theorem Ow_set {lo : Nat} {L : Rt} {g cap : Nat} {w : World} (h : Ow lo L (.slice (some ⟨g, 0, none⟩) L.length cap) w) (i : Nat) (hi : i < L.length) (a b : By) :
    Ow lo (L.set i (a, b)) (.slice (some ⟨g, 0, none⟩) L.length cap) (w.setCells g (i * 2) [.string (st a), .string (st b)]) := by
  have h2 := (((World.ownsRow.stored h (i * 2) (.string (st a))).1).stored (i * 2 + 1) (.string (st b))).1
  show World.ownsRow _ _ _ _ _ _ _
  rw [c2_set L i a b hi, List.length_set]
  exact h2
theorem Ow_there {lo : Nat} {L : Rt} {g cap : Nat} {w : World} (h : Ow lo L (.slice (some ⟨g, 0, none⟩) L.length cap) w) (i : Nat) (hi : i < L.length) : w.there g (i * 2) 2 := fun j hj => by
  refine ⟨?_, World.ownsRow.frozenAt h _⟩
  have hlt : i * 2 + j < L.length * 2 := by omega
  rw [World.ownsRow.cellAt h _ hlt, List.getElem?_eq_getElem (by rw [c2_len]; exact hlt)]
  rfl
theorem c2_take : ∀ (L : Rt) (m : Nat), (c2 L).take (m * 2) = c2 (L.take m)
  | [], m => by simp [c2]
  | r :: L, 0 => by simp [c2]
  | r :: L, m + 1 => by
    have ih := c2_take L m
    have e1 : (m + 1) * 2 = m * 2 + 1 + 1 := by omega
    rw [e1]
    show (_ :: _ :: (c2 L)).take (m * 2 + 1 + 1) = _ :: _ :: c2 (L.take m)
    rw [List.take_succ_cons, List.take_succ_cons, ih]
theorem Ow_cut {lo : Nat} {L : Rt} {g n cap : Nat} {w : World} (hn : n = L.length) (h : Ow lo L (.slice (some ⟨g, 0, none⟩) n cap) w) (m : Nat) (hm : m ≤ n) :
    Ow lo (L.take m) (.slice (some ⟨g, 0, none⟩) m cap) w := by
  subst hn
  have e : (L.take m).length = m := by rw [List.length_take]; omega
  rcases h.2 with ⟨h', _⟩ | ⟨g', cap', cur, h', hb, hg, hnc, hcm, hcs, htake⟩
  · cases h'
  · injection h' with h1 _ h3
    injection h1 with h1
    injection h1 with h1
    subst h1 h3
    refine ⟨by rw [c2_len], .inr ⟨g, cap, cur, by rw [e], hb, hg, by rw [e]; omega, hcm, hcs, ?_⟩⟩
    rw [e, ← c2_take, ← htake, List.take_take, Nat.min_eq_left (by omega)]
/-- The list while one is taken out: up to i moved. -/
def Lst (l : Rt) (i0 i : Nat) : Rt := (l.eraseIdx i0).take i ++ l.drop i
theorem Lst_len {l : Rt} {i0 i : Nat} (h0 : i0 < l.length) (hi : i < l.length) : (Lst l i0 i).length = l.length := by
  unfold Lst
  rw [List.length_append, List.length_take, List.length_drop, List.length_eraseIdx, if_pos h0]
  omega
theorem Lst_start {l : Rt} {i0 : Nat} (h0 : i0 < l.length) : Lst l i0 i0 = l := by
  unfold Lst
  rw [List.eraseIdx_eq_take_drop_succ, List.take_append_of_le_length (by rw [List.length_take]; omega), List.take_take, Nat.min_self, List.take_append_drop]
theorem Lst_get {l : Rt} {i0 i j : Nat} (h0 : i0 < l.length) (hi : i < l.length) (hj : i ≤ j) : (Lst l i0 i).getD j n2 = l.getD j n2 := by
  have hlen : ((l.eraseIdx i0).take i).length = i := by rw [List.length_take, List.length_eraseIdx, if_pos h0]; omega
  unfold Lst
  rw [List.getD_eq_getElem?_getD, List.getD_eq_getElem?_getD, List.getElem?_append_right (by omega), hlen, List.getElem?_drop]
  congr 2
  omega
theorem Lst_step {l : Rt} {i0 i : Nat} (h0 : i0 ≤ i) (hi : i + 1 < l.length) : (Lst l i0 i).set i (l.getD (i + 1) n2) = Lst l i0 (i + 1) := by
  have hlen : ((l.eraseIdx i0).take i).length = i := by rw [List.length_take, List.length_eraseIdx, if_pos (by omega)]; omega
  apply List.ext_getElem?
  intro k
  unfold Lst
  rw [List.getElem?_set]
  have hlen2 : ((l.eraseIdx i0).take (i + 1)).length = i + 1 := by rw [List.length_take, List.length_eraseIdx, if_pos (by omega)]; omega
  by_cases hk : i = k
  · subst hk
    have hlt : i < ((l.eraseIdx i0).take i ++ l.drop i).length := by rw [List.length_append, hlen, List.length_drop]; omega
    rw [if_pos rfl, if_pos hlt, List.getElem?_append_left (by omega), List.getElem?_take, if_pos (by omega), List.getElem?_eraseIdx, if_neg (by omega), List.getD_eq_getElem?_getD, List.getElem?_eq_getElem hi]
    rfl
  · rw [if_neg hk]
    rcases Nat.lt_or_ge k i with h | h
    · rw [List.getElem?_append_left (by omega), List.getElem?_append_left (by omega), List.getElem?_take, List.getElem?_take, if_pos h, if_pos (by omega)]
    · rw [List.getElem?_append_right (by omega), List.getElem?_append_right (by omega), hlen, hlen2, List.getElem?_drop, List.getElem?_drop]
      congr 1
      omega
theorem Lst_end {l : Rt} {i0 : Nat} (x : By × By) (h0 : i0 < l.length) : ((Lst l i0 (l.length - 1)).set (l.length - 1) x).take (l.length - 1) = l.eraseIdx i0 := by
  have hlen : (l.eraseIdx i0).length = l.length - 1 := by rw [List.length_eraseIdx, if_pos h0]
  have hlen2 : ((l.eraseIdx i0).take (l.length - 1)).length = l.length - 1 := by rw [List.length_take, hlen, Nat.min_self]
  unfold Lst
  rw [List.set_append_right _ _ (by omega), List.take_append_of_le_length (by omega), List.take_take, Nat.min_self, List.take_of_length_le (by omega)]
theorem filter_erase : ∀ (l : Rt) (p : By) (i0 : Nat), Srt l → i0 < l.length → (l.getD i0 n2).1 = p → l.filter (fun r => decide (r.1 ≠ p)) = l.eraseIdx i0
  | [], _, _, _, h, _ => absurd h (by simp)
  | r :: l, p, 0, hs, _, h => by
    have hs' : (∀ x ∈ l, less r.1 x.1) ∧ Srt l := List.pairwise_cons.1 hs
    have h : r.1 = p := h
    rw [List.filter_cons, if_neg (by simp [h]), List.eraseIdx_cons_zero, List.filter_eq_self]
    intro x hx
    exact decide_eq_true (fun e => less_irrefl p (by have := hs'.1 x hx; rwa [h, e] at this))
  | r :: l, p, i + 1, hs, hi, h => by
    have hs' : (∀ x ∈ l, less r.1 x.1) ∧ Srt l := List.pairwise_cons.1 hs
    have hi' : i < l.length := by simpa using hi
    have h' : (l.getD i n2).1 = p := h
    have hm : l.getD i n2 ∈ l := by rw [List.getD_eq_getElem?_getD, List.getElem?_eq_getElem hi']; exact List.getElem_mem hi'
    have hne : r.1 ≠ p := fun e => less_irrefl p (by have := hs'.1 _ hm; rwa [e, h'] at this)
    rw [List.filter_cons, if_pos (by simp [hne]), List.eraseIdx_cons_succ, filter_erase l p i hs'.2 hi' h']
theorem filter_none {l : Rt} {p : By} (h : ∀ j, j < l.length → (l.getD j n2).1 ≠ p) : l.filter (fun r => decide (r.1 ≠ p)) = l := by
  rw [List.filter_eq_self]
  intro x hx
  obtain ⟨i, hi, rfl⟩ := List.mem_iff_getElem.1 hx
  have := h i hi
  rw [List.getD_eq_getElem?_getD, List.getElem?_eq_getElem hi] at this
  exact decide_eq_true this
end Tr
end Go.Proofs.Ytdcbgldelfhohaa
/- slices.DeleteFunc of routes, by their path. -/
namespace Go.Proofs.Ytdcbgldelfhohaa
namespace Tr
open Nb Go.RowKit
theorem infoRt2 : (Try.prog.info? 51).map (·.size) = some 2 := by kernel_rfl
theorem wpList_st2 {ops : Array Oper} {rest : List Oper} {op : Oper} {a : Act} {w : World} {Q : Exit → Act → World → Prop} {x y : Operand} {G o : Nat} {X Y : ByteArray} (hgd : op.guard = none) (ho : op.op = .store 51 x y)
    (hx : a.eval x = .pointer (some ⟨G, o, none⟩)) (hy : a.eval y = .agg #[.string X, .string Y]) (ht : w.there G o 2)
    (h : wpList Try.prog ops Q rest (a.put op.dst undef) (w.setCells G o [.string X, .string Y])) : wpList Try.prog ops Q (op :: rest) a w :=
  wpList_plain hgd fun _ hK => wp_store_mid 51 x y ho G o #[.string X, .string Y] hx hy ht infoRt2 (all_oneCell_toArray (cs := [.string X, .string Y]) (fun v hv => by simp only [List.mem_cons, List.not_mem_nil, or_false] at hv; rcases hv with rfl | rfl <;> rfl)) (hK _ _ h)
theorem ow_below {lo : Nat} {L : Rt} {v : Value} {w w' : World} (h : Ow lo L v w) (hb : Below w.heap.size w w') : Ow lo L v w' := by
  refine ⟨h.1, ?_⟩
  rcases h.2 with h2 | ⟨g, cap, cur, h2, h3, h4, h5⟩
  · exact .inl h2
  · exact .inr ⟨g, cap, cur, h2, h3, (hb.block g (Array.getElem?_eq_some_iff.1 h4).1).trans h4, h5⟩
theorem ow_low {lo : Nat} {L : Rt} {g n cap : Nat} {w : World} (h : Ow lo L (.slice (some ⟨g, 0, none⟩) n cap) w) : lo ≤ g ∧ g < w.heap.size := by
  rcases h.2 with ⟨h', _⟩ | ⟨g', cap', cur, h', hb, hg, _⟩
  · cases h'
  · injection h' with h1
    injection h1 with h1
    injection h1 with h1
    subst h1
    exact ⟨hb, (Array.getElem?_eq_some_iff.1 hg).1⟩
theorem ow_cap {lo : Nat} {L : Rt} {g cap : Nat} {w : World} (h : Ow lo L (.slice (some ⟨g, 0, none⟩) L.length cap) w) : L.length ≤ cap := by
  rcases h.2 with ⟨h', _⟩ | ⟨g', cap', cur, h', hb, hg, hc, _⟩
  · cases h'
  · injection h' with _ _ h3
    subst h3
    exact hc
theorem zeroRt (w : World) : (zeroValue 51).run Try.prog w = .ok (.agg #[.string ⟨#[]⟩, .string ⟨#[]⟩]) w := by kernel_rfl
theorem run_clear1 (w : World) (g o c : Nat) (ty : TypeId) (ht : w.there g o 2) : (Builtin.clear_ #[47] ty #[.slice (some ⟨g, o, none⟩) 1 c]).run Try.prog w = .ok (.tuple #[]) (w.setCells g o [.string ⟨#[]⟩, .string ⟨#[]⟩]) := by
  have hst := run_storeCells_cells (P := Try.prog) g o [.string ⟨#[]⟩, .string ⟨#[]⟩] 0 w (fun j hj => (ht j hj).1) (fun j hj => (ht j hj).2) (fun v hv => by simp only [List.mem_cons, List.not_mem_nil, or_false] at hv; rcases hv with rfl | rfl <;> rfl)
  simp only [Nat.add_zero] at hst
  have hzc : (Builtin.zeroCells (Value.agg #[.string ⟨#[]⟩, .string ⟨#[]⟩]).cells 1).toList = [.string ⟨#[]⟩, .string ⟨#[]⟩] := by kernel_rfl
  simp [Builtin.clear_, run_underlying Try.underlying47, hzc, hst]
set_option maxHeartbeats 2000000 in
set_option maxRecDepth 100000 in
theorem delf_in (l : Rt) (p : By) (g0 lo g n cap : Nat) (w : World) (hn : Hid (n = l.length)) (how : Hid (Ow lo l (.slice (some ⟨g, 0, none⟩) n cap) w)) (hlo : Hid (lo ≤ w.heap.size)) (hg0 : Hid (g0 < lo)) (hc : Hid (w.cell? ⟨g0, 0, none⟩ = some (.string (st p)))) (HL : Hid (l.length ≤ 4194304)) (i0 : Nat) (h0 : Hid (i0 < n)) (hk : Hid ((l.getD i0 n2).1 = p)) (hne : Hid (∀ j, j < n → j ≠ i0 → (l.getD j n2).1 ≠ p)) :
    Calls Try.prog 52 #[.slice (some ⟨g, 0, none⟩) n cap, .func (.func 54) #[] #[.pointer (some ⟨g0, 0, none⟩)]] w fun e w' => e = .returned (.slice (some ⟨g, 0, none⟩) (n - 1) cap) ∧ Ow lo (l.eraseIdx i0) (.slice (some ⟨g, 0, none⟩) (n - 1) cap) w' ∧ Below lo w w' := by
  have KI : Hid (Calls Try.prog 66 #[.slice (some ⟨g, 0, none⟩) n cap, .func (.func 54) #[] #[.pointer (some ⟨g0, 0, none⟩)]] w fun e w' => e = .returned (.int .i64 (i0 : Int)) ∧ Below w.heap.size w w') :=
    idx_any l p g0 _ n cap w ⟨hn.out, own_rv how.out⟩ HL hc (Nat.lt_of_lt_of_le hg0.out hlo.out) i0 (by have := hn.out; have := h0.out; show _ ≤ _; omega) (fun j hj => hne.out j (by have := h0.out; omega) (by omega)) (fun _ => hk.out) (i0 : Int) (fun _ => rfl) (fun h => by have := hn.out; have := h0.out; omega)
  have KD : Hid (∀ (a b : By) (wx : World), Below lo w wx → Calls Try.prog 54 #[.agg #[.string (st a), .string (st b)], .pointer (some ⟨g0, 0, none⟩)] wx fun e w' => e = .returned (.bool (decide (a = p))) ∧ Below wx.heap.size wx w') := fun a b wx hb => del_any a b p g0 wx ((hb.cell (p := ⟨g0, 0, none⟩) hg0.out).trans hc.out) (Nat.lt_of_lt_of_le (Nat.lt_of_lt_of_le hg0.out hlo.out) hb.size)
  have e1 : ((i0 : Int) == -1) = false := beq_eq_false_iff_ne.2 (by omega)
  have e6 : Hid (wrap64 ((i0 : Int) + 1) = ((i0 + 1 : Nat) : Int)) := by have := hn.out; have := HL.out; have := h0.out; show _ = _; unfold wrap64; omega
  clear hc hg0
  go_enter Try.func52, Try.ntmps52
  go_wp2_with fail
  refine KI.out.mono ?_
  rintro e w1 ⟨rfl, hb1⟩
  have HS : Hid (Ow lo (Lst l i0 i0) (.slice (some ⟨g, 0, none⟩) n cap) w1 ∧ Below lo w w1) := by
    refine ⟨?_, hb1.mono hlo.out⟩
    rw [Lst_start (by have := hn.out; have := h0.out; omega)]
    exact ow_below how.out hb1
  clear hb1 KI how
  go_wp2_with fail
  go_loopw [5, 6] (fun iv jv wr => ∃ i : Nat, i0 ≤ i ∧ i < n ∧ iv = .int .i64 (i : Int) ∧ jv = .int .i64 ((i + 1 : Nat) : Int) ∧ Ow lo (Lst l i0 i) (.slice (some ⟨g, 0, none⟩) n cap) wr ∧ Below lo w wr) (fun _ jv _ => ((n : Int) - intOf jv).toNat)
  case atStart => exact ⟨i0, Nat.le_refl _, h0.out, rfl, by first | rfl | (rw [e6.out]) | (congr 1), HS.out.1, HS.out.2⟩
  case round =>
    obtain ⟨i, hi0, hin, rfl, rfl, hO, hB⟩ := hrel
    clear HS
    have hil : i < l.length := by have := hn.out; omega
    have h0l : i0 < l.length := by omega
    have hLn : Hid ((Lst l i0 i).length = l.length) := Lst_len h0l hil
    have HO : Hid (Ow lo (Lst l i0 i) (.slice (some ⟨g, 0, none⟩) (Lst l i0 i).length cap) wr) := by
      show Ow _ _ _ _
      rw [hLn.out, ← hn.out]
      exact hO
    have HB : Hid (Below lo w wr) := hB
    by_cases hlt : i + 1 < n
    · have d0 : decide (((i + 1 : Nat) : Int) < (n : Int)) = true := decide_eq_true (by omega)
      have d0' : decide (i + 1 < n) = true := decide_eq_true (by omega)
      have d1 : (0 : Int) ≤ ((i + 1 : Nat) : Int) := by omega
      have d2 : ((i + 1 : Nat) : Int) < (n : Int) := by omega
      have d3 : (0 : Int) ≤ (i : Int) := by omega
      have d4 : (i : Int) < (n : Int) := by omega
      obtain ⟨a', cap', e2, -, hq⟩ := own_rv HO.out
      obtain ⟨g', off, e3, hg, hcell⟩ := hq (by have := hLn.out; omega)
      injection e2 with e2 e2' e2''
      rw [← e2] at e3
      injection e3 with e3
      injection e3 with e3 e4
      subst e3 e4
      obtain ⟨x0, x1⟩ := hcell (i + 1) (by have := hLn.out; have := hn.out; omega)
      rw [Lst_get h0l hil (by omega)] at x0 x1
      clear e2 e2' e2'' hq hcell
      have y0 : wr.cell? ⟨g, (i + 1) * 2, none⟩ = some (.string (st (l.getD (i + 1) n2).1)) := by rw [← x0]; congr 2; omega
      have y1 : wr.cell? ⟨g, (i + 1) * 2 + 1, none⟩ = some (.string (st (l.getD (i + 1) n2).2)) := by rw [← x1]; congr 2; omega
      have hpn := hne.out (i + 1) hlt (by omega)
      have hst : Hid ((Lst l i0 i).set i (l.getD (i + 1) n2) = Lst l i0 (i + 1)) := Lst_step hi0 (show i + 1 < l.length by have := hn.out; omega)
      have e5 : Hid (wrap64 ((i : Int) + 1) = ((i + 1 : Nat) : Int)) := by have := HL.out; have := hn.out; show _ = _; unfold wrap64; omega
      have e7 : Hid (wrap64 ((i : Int) + 1 + 1) = ((i + 1 + 1 : Nat) : Int)) := by have := HL.out; have := hn.out; show _ = _; unfold wrap64; omega
      clear x0 x1 hO hB
      generalize l.getD (i + 1) n2 = r at *
      obtain ⟨rp, rv⟩ := r
      dsimp only at *
      have bA : Below wr.heap.size wr (wr.alloc (.cells #[.string (st rp), .string (st rv)] 51)) := (Below.refl _ _).alloc (Nat.le_refl _) _
      have HA := heap_alloc_new wr (.cells #[.string (st rp), .string (st rv)] 51)
      have r0 : (wr.alloc (.cells #[.string (st rp), .string (st rv)] 51)).cell? ⟨wr.heap.size, 0, none⟩ = some (.string (st rp)) := by simp only [World.cell?, HA]; rfl
      have r1 : (wr.alloc (.cells #[.string (st rp), .string (st rv)] 51)).cell? ⟨wr.heap.size, 1, none⟩ = some (.string (st rv)) := by simp only [World.cell?, HA]; rfl
      have h9 : wr.heap.size < (wr.alloc (.cells #[.string (st rp), .string (st rv)] 51)).heap.size := by simp
      have HO2 : Hid (Ow lo (Lst l i0 i) (.slice (some ⟨g, 0, none⟩) (Lst l i0 i).length cap) (wr.alloc (.cells #[.string (st rp), .string (st rv)] 51))) := ow_below HO.out bA
      have hlw : lo ≤ wr.heap.size := Nat.le_trans hlo.out HB.out.size
      have HB2 : Hid (Below lo w (wr.alloc (.cells #[.string (st rp), .string (st rv)] 51))) := HB.out.trans (bA.mono hlw)
      have kd := KD.out rp rv _ HB2.out
      rw [decide_eq_false hpn] at kd
      have HKD : Hid (Calls Try.prog 54 #[.agg #[.string (st rp), .string (st rv)], .pointer (some ⟨g0, 0, none⟩)] (wr.alloc (.cells #[.string (st rp), .string (st rv)] 51)) fun e w' => e = .returned (.bool false) ∧ Below (wr.alloc (.cells #[.string (st rp), .string (st rv)] 51)).heap.size (wr.alloc (.cells #[.string (st rp), .string (st rv)] 51)) w') := kd
      clear HA bA kd HO HB
      go_wp2_with fail
      refine HKD.out.mono ?_
      rintro e w2 ⟨rfl, hb2⟩
      have s0 := (hb2.cell (p := ⟨wr.heap.size, 0, none⟩) h9).trans r0
      have s1 := (hb2.cell (p := ⟨wr.heap.size, 1, none⟩) h9).trans r1
      have HO3 : Hid (Ow lo (Lst l i0 i) (.slice (some ⟨g, 0, none⟩) (Lst l i0 i).length cap) w2) := ow_below HO2.out hb2
      have HB3 : Hid (Below lo w w2) := HB2.out.trans (hb2.mono (Nat.le_trans hlo.out HB2.out.size))
      have ht := Ow_there HO3.out i (by have := hLn.out; omega)
      clear hb2 HO2 HB2 HKD r0 r1 h9 y0 y1
      go_wp2_with (refine wpList_st2 rfl rfl rfl rfl ht ?_)
      have HO4 := Ow_set HO3.out i (by have := hLn.out; omega) rp rv
      rw [hst.out, hLn.out, ← hn.out] at HO4
      have HB4 : Below lo w (w2.setCells g (i * 2) [.string (st rp), .string (st rv)]) := HB3.out.grown (gb_sets g _ _ _) (Nat.le_trans hlo.out HB3.out.size) (fun k e => by injection e with e; have := (ow_low HO3.out).1; omega)
      refine ⟨⟨i + 1, by omega, hlt, ?_, ?_, HO4, HB4⟩, ?_⟩
      · first | rfl | rw [e5.out]
      · first | rfl | rw [e7.out]
      · first | exact msr_up (i + 1) n hlt | (rw [e7.out]; exact msr_up (i + 1) n hlt)
    · have d0 : decide (((i + 1 : Nat) : Int) < (n : Int)) = false := decide_eq_false (by omega)
      have d0' : decide (i + 1 < n) = false := decide_eq_false (by omega)
      have d3 : (0 : Int) ≤ (i : Int) := by omega
      have d4 : (i : Int) ≤ (n : Int) := by omega
      have hi1 : Hid (i = n - 1) := by show _ = _; omega
      have hcp := (ow_cap HO.out)
      have d5 : i < cap := by have := hLn.out; omega
      have hn1 : n - i = 1 := by omega
      have xcl : (Builtin.clear_ #[47] 0 #[.slice (some ⟨g, i * 2, none⟩) (n - i) (cap - i)]).run Try.prog wr = .ok (.tuple #[]) (wr.setCells g (i * 2) [.string ⟨#[]⟩, .string ⟨#[]⟩]) := by
        rw [hn1]
        exact run_clear1 wr g (i * 2) _ 0 (Ow_there HO.out i (by have := hLn.out; omega))
      have HF : Hid (Ow lo (l.eraseIdx i0) (.slice (some ⟨g, 0, none⟩) i cap) (wr.setCells g (i * 2) [.string ⟨#[]⟩, .string ⟨#[]⟩])) := by
        have h1 := Ow_set HO.out i (by have := hLn.out; omega) [] []
        have h2 := Ow_cut (by rw [List.length_set]) h1 i (by have := hLn.out; omega)
        have h3 := Lst_end ([], []) h0l
        rw [← hn.out, ← hi1.out] at h3
        rwa [h3] at h2
      have HZ : Hid (Below lo w (wr.setCells g (i * 2) [.string ⟨#[]⟩, .string ⟨#[]⟩])) := HB.out.grown (gb_sets g _ _ _) (Nat.le_trans hlo.out HB.out.size) (fun k e => by injection e with e; have := (ow_low HO.out).1; omega)
      clear hO hB hcp hn1
      generalize (wr.setCells g (i * 2) [.string ⟨#[]⟩, .string ⟨#[]⟩]) = W9 at *
      go_wp2_with fail
      go_ret
      rw [← hi1.out]
      exact ⟨rfl, HF.out, HZ.out⟩
set_option maxHeartbeats 2000000 in
set_option maxRecDepth 100000 in
theorem delf_out (g0 : Nat) (la : Option Addr) (n lc : Nat) (w : World) (KI : Hid (Calls Try.prog 66 #[.slice la n lc, .func (.func 54) #[] #[.pointer (some ⟨g0, 0, none⟩)]] w fun e w' => e = .returned (.int .i64 (-1)) ∧ Below w.heap.size w w')) :
    Calls Try.prog 52 #[.slice la n lc, .func (.func 54) #[] #[.pointer (some ⟨g0, 0, none⟩)]] w fun e w' => e = .returned (.slice la n lc) ∧ Below w.heap.size w w' := by
  go_enter Try.func52, Try.ntmps52
  go_wp2_with fail
  refine KI.out.mono ?_
  rintro e w1 ⟨rfl, hb1⟩
  have HZ : Hid (Below w.heap.size w w1) := hb1
  clear hb1
  go_wp2_with fail
  go_ret
  exact ⟨rfl, HZ.out⟩
theorem srt_ne {l : Rt} (hs : Srt l) {i j : Nat} (hi : i < l.length) (hj : j < l.length) (hne : j ≠ i) : (l.getD j n2).1 ≠ (l.getD i n2).1 := by
  have h := List.pairwise_iff_getElem.1 hs
  rw [List.getD_eq_getElem?_getD, List.getD_eq_getElem?_getD, List.getElem?_eq_getElem hi, List.getElem?_eq_getElem hj]
  rcases Nat.lt_or_ge j i with k | k
  · intro e
    have e : l[j].1 = l[i].1 := e
    have := h j i hj hi k
    rw [e] at this
    exact less_irrefl _ this
  · intro e
    have e : l[j].1 = l[i].1 := e
    have := h i j hi hj (by omega)
    rw [e] at this
    exact less_irrefl _ this
theorem first_at (p : By) : ∀ l : Rt, ∃ i, i ≤ l.length ∧ (∀ j, j < i → (l.getD j n2).1 ≠ p) ∧ (i < l.length → (l.getD i n2).1 = p)
  | [] => ⟨0, Nat.le_refl _, fun j hj => absurd hj (by omega), fun h => absurd h (by simp)⟩
  | (q, v) :: r => by
    by_cases e : q = p
    · exact ⟨0, Nat.zero_le _, fun j hj => absurd hj (by omega), fun _ => e⟩
    · obtain ⟨i, h1, h2, h3⟩ := first_at p r
      refine ⟨i + 1, by simpa using h1, fun j hj => ?_, fun h => h3 (by simpa using h)⟩
      cases j with
      | zero => exact e
      | succ j => exact h2 j (by omega)
theorem delf_any (l : Rt) (p : By) (g0 lo : Nat) (v : Value) (w : World) (how : Ow lo l v w) (hlo : lo ≤ w.heap.size) (hg0 : g0 < lo) (hc : w.cell? ⟨g0, 0, none⟩ = some (.string (st p))) (HL : l.length ≤ 4194304) (hs : Srt l) :
    Calls Try.prog 52 #[v, .func (.func 54) #[] #[.pointer (some ⟨g0, 0, none⟩)]] w fun e w' => ∃ z, e = .returned z ∧ Ow lo (l.filter fun r => decide (r.1 ≠ p)) z w' ∧ Below lo w w' := by
  obtain ⟨i, h1, h2, h3⟩ := first_at p l
  rcases Nat.lt_or_ge i l.length with hi | hi
  · rcases how.2 with ⟨_, h'⟩ | ⟨g, cap, cur, rfl, _⟩
    · omega
    · have hk := h3 hi
      refine (delf_in l p g0 lo g l.length cap w rfl how hlo hg0 hc HL i hi hk (fun j hj hne => by rw [← hk]; exact srt_ne hs hi hj hne)).mono fun e w' he => ?_
      obtain ⟨e1, e2, e3⟩ := he
      refine ⟨_, e1, ?_, e3⟩
      rw [filter_erase l p i hs hi hk]
      exact e2
  · have hv := own_rv how
    have hv0 := hv
    obtain ⟨ao, cap, rfl, _, _⟩ := hv0
    refine (delf_out g0 ao l.length cap w (idx_any l p g0 ao l.length cap w ⟨rfl, hv⟩ HL hc (Nat.lt_of_lt_of_le hg0 hlo) i h1 h2 h3 (-1) (fun h => absurd h (by omega)) (fun _ => rfl))).mono fun e w' he => ?_
    refine ⟨_, he.1, ?_, he.2.mono hlo⟩
    rw [filter_none (fun j hj => h2 j (by omega))]
    exact ow_below how he.2
end Tr
end Go.Proofs.Ytdcbgldelfhohaa
/- lampbearerref.routePut, over what slices.SortFunc does. -/
namespace Go.Proofs.Ytdcbgldelfhohaa
namespace Tr
open Nb Go.RowKit
/-- What slices.SortFunc does to a row of routes. -/
def SortOk : Prop := ∀ (lo : Nat) (L : Rt) (v : Value) (w : World), Ow lo L v w → lo ≤ w.heap.size → L.length ≤ 4194304 → Calls Try.prog 55 #[v, .func (.func 56) #[] #[]] w fun e w' => e = .returned (.tuple #[]) ∧ ∃ L2 : Rt, L2.Perm L ∧ (L2.Pairwise fun a b => ¬ less b.1 a.1) ∧ Ow lo L2 v w' ∧ Below lo w w'
set_option maxHeartbeats 2000000 in
set_option maxRecDepth 100000 in
theorem rput_any (l : Rt) (kh y : By) (la ak av : Option Addr) (n lc nk ck nv cv : Nat) (w : World) (hl : Hid (Rv l (.slice la n lc) w)) (HL : Hid (l.length ≤ 1048576)) (hs : Hid (Srt l)) (hp : Hid (Pts l)) (hvo : Hid (VO l)) (hpt : Hid (Pt kh)) (hn0 : Hid (nv = y.length))
    (hy : Hid (Pk.Sl y (.slice av nv cv) w)) (hso : SortOk)
    (KH0 : Hid (∀ wx : World, Below w.heap.size w wx → Calls Try.prog 28 #[.slice ak nk ck] wx fun e w' => ∃ a n c, e = .returned (.slice a n c) ∧ Pk.Sl kh (.slice a n c) w' ∧ Below wx.heap.size wx w')) :
    Calls Try.prog 32 #[.slice la n lc, .slice ak nk ck, .slice av nv cv] w fun e w' => ∃ z L2, e = .returned z ∧ Rv L2 z w' ∧ RPs l kh y L2 ∧ L2.length ≤ l.length + 1 ∧ Below w.heap.size w w' := by
  have KH : Hid (Calls Try.prog 28 #[.slice ak nk ck] w fun e w' => ∃ a n c, e = .returned (.slice a n c) ∧ Pk.Sl kh (.slice a n c) w' ∧ Below w.heap.size w w') := KH0.out w (Below.refl _ _)
  clear KH0
  go_enter Try.func32, Try.ntmps32
  go_wp2_with fail
  refine KH.out.mono ?_
  rintro e w1 ⟨ha, hn, hc, rfl, hkh, hb1⟩
  have x0 := Sl_st hkh
  have bA : Below w1.heap.size w1 (w1.alloc (.cells #[.string (st kh)] 9)) := (Below.refl _ _).alloc (Nat.le_refl _) _
  have HA := heap_alloc_new w1 (.cells #[.string (st kh)] 9)
  have r0 : Hid ((w1.alloc (.cells #[.string (st kh)] 9)).cell? ⟨w1.heap.size, 0, none⟩ = some (.string (st kh))) := by show _ = _; simp only [World.cell?, HA]; rfl
  have h9 : Hid (w1.heap.size < (w1.alloc (.cells #[.string (st kh)] 9)).heap.size) := by show _ < _; simp
  have BA : Hid (Below w.heap.size w (w1.alloc (.cells #[.string (st kh)] 9))) := hb1.trans (bA.mono hb1.size)
  clear hkh hb1 bA HA KH
  go_wp2_with fail
  clear x0
  generalize (w1.alloc (.cells #[.string (st kh)] 9)) = W2 at *
  generalize hg0 : w1.heap.size = g0 at *
  have KC := clone_rt l (.slice la n lc) W2 (Rv_below hl.out BA.out) (by have := HL.out; omega)
  refine KC.mono ?_
  rintro e w3 ⟨z3, rfl, ho3, hb3⟩
  have ho30 := ho3
  obtain ⟨za, zn, zc, rfl⟩ := own_slice ho30
  have KD : Hid (Calls Try.prog 52 #[.slice za zn zc, .func (.func 54) #[] #[.pointer (some ⟨g0, 0, none⟩)]] w3 fun e w' => ∃ z, e = .returned z ∧ Ow W2.heap.size (l.filter fun r => decide (r.1 ≠ kh)) z w' ∧ Below W2.heap.size w3 w') := delf_any l kh g0 W2.heap.size _ w3 ho3 hb3.size h9.out ((hb3.cell (p := ⟨g0, 0, none⟩) h9.out).trans r0.out) (by have := HL.out; omega) hs.out
  have B3 : Hid (Below W2.heap.size W2 w3) := hb3
  clear KC ho3 ho30 hb3
  go_wp2_with fail
  refine KD.out.mono ?_
  rintro e w4 ⟨z4, rfl, ho4, hb4⟩
  have ho40 := ho4
  obtain ⟨ya, yn, yc, rfl⟩ := own_slice ho40
  have B4' : Hid (Below W2.heap.size W2 w4) := B3.out.trans (hb4.mono (Nat.le_refl _))
  have HO4 : Hid (Ow W2.heap.size (l.filter fun r => decide (r.1 ≠ kh)) (.slice ya yn yc) w4) := ho4
  have hcg := (B4'.out.cell (p := ⟨g0, 0, none⟩) h9.out).trans r0.out
  have hlf : Hid ((l.filter fun r => decide (r.1 ≠ kh)).length ≤ 1048576) := Nat.le_trans (List.length_filter_le _ _) HL.out
  clear KD ho4 ho40 hb4 B3
  have FIN : Hid (∀ (M : Rt) (v : Value) (W : World), M = rpm l kh y → Ow W2.heap.size M v W → M.length ≤ 4194304 → Below W2.heap.size W2 W → Calls Try.prog 55 #[v, .func (.func 56) #[] #[]] W fun e w' => e = .returned (.tuple #[]) ∧ ∃ L2 : Rt, RPs l kh y L2 ∧ L2.length = M.length ∧ Rv L2 v w' ∧ Below w.heap.size w w') := fun M v W hM hO hL hB => by
    refine (hso W2.heap.size M v W hO hB.size hL).mono fun e w' he => ?_
    obtain ⟨e1, L2, e2, e3, e4, e5⟩ := he
    subst hM
    refine ⟨e1, L2, rp_spec hs.out hp.out hvo.out hpt.out e2 e3, e2.length_eq, own_rv e4, ?_⟩
    have h1 := hB.trans (e5.mono (Nat.le_refl _))
    exact BA.out.trans (h1.mono BA.out.size)
  by_cases hy0 : y = []
  · have hn1 : nv = 0 := by rw [hn0.out, hy0]; rfl
    have hrp : Hid (rpm l kh y = l.filter fun r => decide (r.1 ≠ kh)) := by show _ = _; unfold rpm; rw [if_pos hy0, List.append_nil]
    subst hn1
    have KS : Hid (Calls Try.prog 55 #[.slice ya yn yc, .func (.func 56) #[] #[]] w4 fun e w' => e = .returned (.tuple #[]) ∧ ∃ L2 : Rt, RPs l kh y L2 ∧ L2.length ≤ l.length + 1 ∧ Rv L2 (.slice ya yn yc) w' ∧ Below w.heap.size w w') := (FIN.out _ _ w4 hrp.out.symm HO4.out (by have := hlf.out; omega) B4'.out).mono fun e w' he => by
      obtain ⟨e1, L2, e2, e3, e4, e5⟩ := he
      exact ⟨e1, L2, e2, by have := List.length_filter_le (fun r : By × By => decide (r.1 ≠ kh)) l; omega, e4, e5⟩
    clear hy0 FIN hy hn0 hcg
    go_wp2_with fail
    refine KS.out.mono ?_
    rintro e w5 ⟨rfl, L2, f1, f2, f3, f4⟩
    have HF : Hid (RPs l kh y L2 ∧ L2.length ≤ l.length + 1 ∧ Rv L2 (.slice ya yn yc) w5 ∧ Below w.heap.size w w5) := ⟨f1, f2, f3, f4⟩
    clear f1 f2 f3 f4
    go_wp2_with fail
    go_ret
    exact ⟨_, L2, rfl, HF.out.2.2.1, HF.out.1, HF.out.2.1, HF.out.2.2.2⟩
  · have hnp : 0 < nv := by rw [hn0.out]; exact List.length_pos_iff.2 hy0
    have d0 : decide ((0 : Int) < (nv : Int)) = true := decide_eq_true (by omega)
    have hrp : Hid (rpm l kh y = (l.filter fun r => decide (r.1 ≠ kh)) ++ [(kh, y)]) := by show _ = _; unfold rpm; rw [if_neg hy0]
    have BW4 : Below w.heap.size w w4 := BA.out.trans (B4'.out.mono BA.out.size)
    have x1 := Sl_st (Pk.Sl_below hy.out BW4)
    have bB : Below w4.heap.size w4 (w4.alloc (.cells #[.string (st kh), .string (st y)] 51)) := (Below.refl _ _).alloc (Nat.le_refl _) _
    obtain ⟨v5, w5, hap, ho5, hb5, -⟩ := app_rv 47 (ow_below HO4.out bB) (lit_rv (kh, y) w4) (Nat.le_trans B4'.out.size bB.size) (by have := hlf.out; simp only [List.length_singleton]; omega)
    obtain ⟨va, vn, vc, rfl⟩ := own_slice ho5
    have B5 : Below W2.heap.size W2 w5 := B4'.out.trans ((bB.mono B4'.out.size).trans hb5)
    have KS : Hid (Calls Try.prog 55 #[.slice va vn vc, .func (.func 56) #[] #[]] w5 fun e w' => e = .returned (.tuple #[]) ∧ ∃ L2 : Rt, RPs l kh y L2 ∧ L2.length ≤ l.length + 1 ∧ Rv L2 (.slice va vn vc) w' ∧ Below w.heap.size w w') := (FIN.out _ _ w5 hrp.out.symm ho5 (by have := hlf.out; simp only [List.length_append, List.length_singleton]; omega) B5).mono fun e w' he => by
      obtain ⟨e1, L2, e2, e3, e4, e5⟩ := he
      exact ⟨e1, L2, e2, by have := List.length_filter_le (fun r : By × By => decide (r.1 ≠ kh)) l; simp only [List.length_append, List.length_singleton] at e3; omega, e4, e5⟩
    clear hy0 FIN hy hn0 ho5 hb5 B5 bB BW4
    go_wp2_with (at_builtin; refine wpList_apw rfl rfl rfl rfl hap ?_)
    refine KS.out.mono ?_
    rintro e w6 ⟨rfl, L2, f1, f2, f3, f4⟩
    have HF : Hid (RPs l kh y L2 ∧ L2.length ≤ l.length + 1 ∧ Rv L2 (.slice va vn vc) w6 ∧ Below w.heap.size w w6) := ⟨f1, f2, f3, f4⟩
    clear f1 f2 f3 f4
    go_wp2_with fail
    go_ret
    exact ⟨_, L2, rfl, HF.out.2.2.1, HF.out.1, HF.out.2.1, HF.out.2.2.2⟩
end Tr
end Go.Proofs.Ytdcbgldelfhohaa
/- tree.Right; the law TreeRights. -/
namespace Go.Proofs.Ytdcbgldelfhohaa
namespace Tr
open Nb Go.RowKit
/-- A node in its box. -/
structure NB (h : Nat) (u : V4) (t : Nd) (lo : Nat) (W wx : World) : Prop where
  bx : Bx h u wx
  n : Nv (· < lo) wx t u
  l : lo ≤ wx.heap.size
  b : Below W.heap.size W wx
theorem NB_below {h : Nat} {u : V4} {t : Nd} {lo : Nat} {W wx w2 : World} (k : NB h u t lo W wx) (b : Below wx.heap.size wx w2) : NB h u t lo W w2 := ⟨Bx_below k.bx b, Nv_below k.n b, Nat.le_trans k.l b.size, k.b.trans (b.mono k.b.size)⟩
theorem NB_new {u : V4} {t : Nd} {lo : Nat} {w : World} (hn : Nv (· < lo) w t u) (hl : lo ≤ w.heap.size) : NB w.heap.size u t lo w (w.alloc (.cells #[u.1, u.2.1, u.2.2.1, u.2.2.2] 25)) := by
  have b : Below w.heap.size w (w.alloc (.cells #[u.1, u.2.1, u.2.2.1, u.2.2.2] 25)) := (Below.refl _ _).alloc (Nat.le_refl _) _
  exact ⟨Bx_new w u, Nv_below hn b, Nat.le_trans hl b.size, b⟩
set_option maxHeartbeats 1000000 in
set_option maxRecDepth 100000 in
theorem right_any (t : Nd) (lo : Nat) (x : V4) (w : World) (hx : Nv (· < lo) w t x) (hlo : lo ≤ w.heap.size) (hw : wn t ≤ 4194304) :
    Calls Try.prog 9 #[v4 x] w fun e w' => e = .returned (.bool (rd 0 t)) ∧ Below w.heap.size w w' := by
  obtain ⟨k, a1, n1, c1, a2, m2, c2, a3, n3, c3, rfl⟩ := Nv_form hx
  have N0 := NB_new hx hlo
  obtain ⟨_, q0, q1, q2, q3⟩ := N0.bx
  dsimp only at q0 q1 q2 q3
  have KR : Hid (∀ wx : World, NB w.heap.size (.int .i64 k, .slice a1 n1 c1, .slice a2 m2 c2, .slice a3 n3 c3) t lo w wx → Calls Try.prog 22 #[.agg #[.int .i64 k, .slice a1 n1 c1, .slice a2 m2 c2, .slice a3 n3 c3], .int .i64 0] wx fun e w' => ∃ y, e = .returned (.tuple #[y, .bool (rd 0 t)]) ∧ Below wx.heap.size wx w') := fun wx hn => by
    refine ((read_all lo (wf_any t)).1 0 (.int .i64 k, .slice a1 n1 c1, .slice a2 m2 c2, .slice a3 n3 c3) wx (by omega) hn.n hn.l hw).mono fun e w' he => ?_
    obtain ⟨y, h1, _, h3⟩ := he
    exact ⟨y, h1, h3⟩
  have HN : Hid (NB w.heap.size (.int .i64 k, .slice a1 n1 c1, .slice a2 m2 c2, .slice a3 n3 c3) t lo w (w.alloc (.cells #[.int .i64 k, .slice a1 n1 c1, .slice a2 m2 c2, .slice a3 n3 c3] 25))) := N0
  clear N0 hx hlo hw
  show Calls Try.prog _ #[.agg #[.int .i64 k, .slice a1 n1 c1, .slice a2 m2 c2, .slice a3 n3 c3]] w _
  generalize rd 0 t = r at *
  go_enter Try.func9, Try.ntmps9
  go_wp2_with fail
  refine (KR.out _ HN.out).mono ?_
  rintro e w1 ⟨y, rfl, hb1⟩
  have HZ : Hid (Below w.heap.size w w1) := HN.out.b.trans (hb1.mono HN.out.b.size)
  clear hb1
  go_wp2_with fail
  go_ret
  exact ⟨rfl, HZ.out⟩
theorem rd_gr (t : Nd) : rd 0 t = gr t := by rw [Bool.eq_iff_iff, rd_right, gr_right]
set_option maxHeartbeats 2000000 in
set_option maxRecDepth 100000 in
theorem law_rights (t : Nd) (hs : Sm t) (x : V4) (w : World) (hx : Nv (· < w.heap.size) w t x) (hw : wn t ≤ 1048576) :
    Calls Try.prog 3 #[v4 x] w fun e w' => e = .returned (.bool true) ∧ Below w.heap.size w w' := by
  obtain ⟨k, a1, n1, c1, a2, m2, c2, a3, n3, c3, rfl⟩ := Nv_form hx
  have N0 := NB_new hx (Nat.le_refl _)
  have KR : Hid (∀ wx : World, NB w.heap.size (.int .i64 k, .slice a1 n1 c1, .slice a2 m2 c2, .slice a3 n3 c3) t w.heap.size w wx → Calls Try.prog 9 #[.agg #[.int .i64 k, .slice a1 n1 c1, .slice a2 m2 c2, .slice a3 n3 c3]] wx fun e w' => e = .returned (.bool (gr t)) ∧ Below wx.heap.size wx w') := fun wx hn => by
    rw [← rd_gr]
    exact right_any t w.heap.size (.int .i64 k, .slice a1 n1 c1, .slice a2 m2 c2, .slice a3 n3 c3) wx hn.n hn.l (by omega)
  have KG : Hid (∀ wx : World, NB w.heap.size (.int .i64 k, .slice a1 n1 c1, .slice a2 m2 c2, .slice a3 n3 c3) t w.heap.size w wx → Calls Try.prog 10 #[.agg #[.int .i64 k, .slice a1 n1 c1, .slice a2 m2 c2, .slice a3 n3 c3]] wx fun e w' => e = .returned (.bool (gr t)) ∧ Below wx.heap.size wx w') := fun wx hn => gright_any grown_ok t hs _ (.int .i64 k, .slice a1 n1 c1, .slice a2 m2 c2, .slice a3 n3 c3) wx hn.n hw
  have R0 : NB w.heap.size (.int .i64 k, .slice a1 n1 c1, .slice a2 m2 c2, .slice a3 n3 c3) t w.heap.size w (w.alloc (.cells #[.int .i64 k, .slice a1 n1 c1, .slice a2 m2 c2, .slice a3 n3 c3] 25)).drew := NB_below N0 (Below.refl _ _).drew
  clear N0 hx hw hs
  show Calls Try.prog _ #[.agg #[.int .i64 k, .slice a1 n1 c1, .slice a2 m2 c2, .slice a3 n3 c3]] w _
  generalize gr t = r at *
  go_enter Try.func3, Try.ntmps3
  go_upto_region 1 with fail
  generalize (w.alloc (.cells #[.int .i64 k, .slice a1 n1 c1, .slice a2 m2 c2, .slice a3 n3 c3] 25)) = W0 at *
  generalize hg0 : w.heap.size = g0 at *
  refine RS.wp_region_one (NB g0 (.int .i64 k, .slice a1 n1 c1, .slice a2 m2 c2, .slice a3 n3 c3) t g0 w) (by kernel_rfl) (by kernel_rfl) (R0) ?_
  dsimp only [List.toList_toArray]
  refine RS.go1 (v := ?_) (a' := ?_) rfl ?_ ?_ ?_
  rotate_left 2
  · intro K wx hS hK
    have m0 := hS.bx.2.1
    have m1 := hS.bx.2.2.1
    have m2' := hS.bx.2.2.2.1
    have m3 := hS.bx.2.2.2.2
    go_simp
    exact hK _ hS
  · simp only [Act.put, List.setIfInBounds_toArray, List.set_cons_succ, List.set_cons_zero]
    rfl
  refine RS.go1 (v := ?_) (a' := ?_) rfl ?_ ?_ ?_
  rotate_left 2
  · intro K wx hS hK
    go_simp
    refine (KR.out _ hS).mono (fun e w2 he => ?_)
    refine ⟨_, he.1, ?_⟩
    exact hK _ (NB_below hS he.2)
  · simp only [Act.put, List.setIfInBounds_toArray, List.set_cons_succ, List.set_cons_zero]
    rfl
  refine RS.go1 (v := ?_) (a' := ?_) rfl ?_ ?_ ?_
  rotate_left 2
  · intro K wx hS hK
    have m0 := hS.bx.2.1
    have m1 := hS.bx.2.2.1
    have m2' := hS.bx.2.2.2.1
    have m3 := hS.bx.2.2.2.2
    go_simp
    exact hK _ hS
  · simp only [Act.put, List.setIfInBounds_toArray, List.set_cons_succ, List.set_cons_zero]
    rfl
  refine RS.go1 (v := ?_) (a' := ?_) rfl ?_ ?_ ?_
  rotate_left 2
  · intro K wx hS hK
    go_simp
    refine (KG.out _ hS).mono (fun e w2 he => ?_)
    refine ⟨_, he.1, ?_⟩
    exact hK _ (NB_below hS he.2)
  · simp only [Act.put, List.setIfInBounds_toArray, List.set_cons_succ, List.set_cons_zero]
    rfl
  refine RS.go1 (v := ?_) (a' := ?_) rfl ?_ ?_ ?_
  rotate_left 2
  · intro K wx hS hK
    have e := beq_self_eq_true r
    go_simp
    exact hK _ hS
  · simp only [Act.put, List.setIfInBounds_toArray, List.set_cons_succ, List.set_cons_zero]
    rfl
  refine RS.go1 (v := ?_) (a' := ?_) rfl ?_ ?_ ?_
  rotate_left 2
  · intro K wx hS hK
    go_simp
    exact hK _ hS
  · simp only [Act.put, List.setIfInBounds_toArray, List.set_cons_succ, List.set_cons_zero]
    rfl
  refine RS.go_end ?_
  intro w9 m9
  have HZ : Hid (Below w.heap.size w w9) := m9.b
  clear m9 R0
  go_wp2_with fail
  go_ret
  exact ⟨rfl, HZ.out⟩
end Tr
end Go.Proofs.Ytdcbgldelfhohaa
/- tree.Get and lampbearerref.GGet, whole. -/
namespace Go.Proofs.Ytdcbgldelfhohaa
namespace Tr
open Nb Go.RowKit
/-- What a value asked for by its key is answered with. -/
def gans (t : Nd) (b : By) : By × Int := if rd 0 t = true then (if b.length ≤ 32 then (gt t (hv b), 0) else ([], 3)) else ([], 1)
theorem gans_form {t : Nd} {b : By} (h : rd 0 t = false) : gans t b = ([], 1) := by
  unfold gans
  rw [h]; rfl
theorem gans_key {t : Nd} {b : By} (h : rd 0 t = true) (hk : ¬ b.length ≤ 32) : gans t b = ([], 3) := by
  unfold gans
  rw [if_pos h, if_neg hk]
theorem gans_val {t : Nd} {b : By} (h : rd 0 t = true) (hk : b.length ≤ 32) : gans t b = (gt t (hv b), 0) := by
  unfold gans
  rw [if_pos h, if_pos hk]
theorem gt_len {t : Nd} (h : Right t) (q : By) : (gt t q).length ≤ 1024 := by
  by_cases e : gt t q = []
  · rw [e]; exact Nat.zero_le _
  · exact (h.2 q e).2.2.2
theorem get_any (t : Nd) (lo : Nat) (x : V4) (w : World) (hx : Nv (· < lo) w t x) (hlo : lo ≤ w.heap.size) (hw : wn t ≤ 4194304) (b : By) (kv : Value) (hb : Bs (· < lo) b kv w) :
    Calls Try.prog 11 #[v4 x, kv] w fun e w' => (∃ a c, e = .returned (.tuple #[.slice a (gans t b).1.length c, .int .i64 (gans t b).2]) ∧ Bs (Sb lo w') (gans t b).1 (.slice a (gans t b).1.length c) w') ∧ Below w.heap.size w w' := by
  obtain ⟨k, a1, n1, c1, a2, m2, c2, a3, n3, c3, rfl⟩ := Nv_form hx
  obtain ⟨ak, ck, rfl, hck⟩ := Bs_form hb
  have KR : ∀ wx : World, Below w.heap.size w wx → Calls Try.prog 22 #[.agg #[.int .i64 k, .slice a1 n1 c1, .slice a2 m2 c2, .slice a3 n3 c3], .int .i64 0] wx (RP lo 0 t wx) := fun wx h => (read_all lo (wf_any t)).1 0 (.int .i64 k, .slice a1 n1 c1, .slice a2 m2 c2, .slice a3 n3 c3) wx (by omega) (Nv_below hx h) (Nat.le_trans hlo h.size) hw
  cases hr : rd 0 t with
  | false =>
    rw [gans_form hr]
    refine (get_form k a1 a2 a3 ak n1 c1 m2 c2 n3 c3 b.length ck w (fun wx h => (KR wx h).mono fun e w' he => ?_)).mono fun e w' he => ?_
    · obtain ⟨y, h1, _, h3⟩ := he
      rw [hr] at h1
      exact ⟨y, h1, h3⟩
    · exact ⟨⟨none, 0, he.1, Bs_nil _ _⟩, he.2⟩
  | true =>
    by_cases hk : b.length ≤ 32
    · rw [gans_val hr hk]
      have hR := (rd_right t).1 hr
      refine get_value k a1 a2 a3 ak n1 c1 m2 c2 n3 c3 b.length ck w lo (gt t (hv b)) (hv b) t (fun y => w.heap.size ≤ y) (fun wx h => (KR wx h).mono fun e w' he => ?_) hk (fun wx h => ?_) (fun ty yy kv wx hin hkv => ?_) (fun v wx hv => ?_)
      · obtain ⟨y, h1, h2, h3⟩ := he
        rw [hr] at h1
        exact ⟨y, h1, In_mono (h2 hr) (fun z hz => Nat.le_trans h.size hz), h3⟩
      · exact halves_bs (Bs_below hb h) (by omega)
      · exact get_all lo _ t _ _ _ _ wx (Nat.le_refl _) hin hR.1 hkv (pt_hv b)
      · refine (clone_bs hv (by have := gt_len hR (Nb.hv b); omega)).mono fun e w' he => ?_
        obtain ⟨v, h1, h2, h3⟩ := he
        obtain ⟨a, c, rfl, _⟩ := Bs_form h2
        exact ⟨a, c, h1, Bs_mono h2 (fun k hk _ => .inr hk.2), h3⟩
    · rw [gans_key hr hk]
      refine (get_key k a1 a2 a3 ak n1 c1 m2 c2 n3 c3 b.length ck w (fun wx h => (KR wx h).mono fun e w' he => ?_) hk).mono fun e w' he => ?_
      · obtain ⟨y, h1, _, h3⟩ := he
        rw [hr] at h1
        exact ⟨y, h1, h3⟩
      · exact ⟨⟨none, 0, he.1, Bs_nil _ _⟩, he.2⟩
theorem lk_find (q : By) : ∀ l : Rt, ∃ i, i ≤ l.length ∧ (∀ j, j < i → (l.getD j n2).1 ≠ q) ∧ (i < l.length → (l.getD i n2).1 = q ∧ (l.getD i n2).2 = lk l q) ∧ (i = l.length → lk l q = [])
  | [] => ⟨0, Nat.le_refl _, fun j hj => absurd hj (by omega), fun h => absurd h (by simp), fun _ => rfl⟩
  | (p, v) :: r => by
    by_cases e : q = p
    · refine ⟨0, Nat.zero_le _, fun j hj => absurd hj (by omega), fun _ => ?_, fun h => by simp at h⟩
      rw [lk, if_pos e]
      exact ⟨e.symm, rfl⟩
    · obtain ⟨i, h1, h2, h3, h4⟩ := lk_find q r
      rw [lk, if_neg e]
      refine ⟨i + 1, by simpa using h1, fun j hj => ?_, fun h => h3 (by simpa using h), fun h => h4 (by simpa using h)⟩
      cases j with
      | zero => exact fun h => e h.symm
      | succ j => exact h2 j (by omega)
theorem gget_any (t : Nd) (hs : Sm t) (S T : Nat → Prop) (x : V4) (w : World) (hx : Nv S w t x) (hw : wn t ≤ 1048576) (b : By) (kv : Value) (hb : Bs T b kv w) :
    Calls Try.prog 12 #[v4 x, kv] w fun e w' => (∃ a c, e = .returned (.tuple #[.slice a (gans t b).1.length c, .int .i64 (gans t b).2]) ∧ Bs (fun _ => True) (gans t b).1 (.slice a (gans t b).1.length c) w') ∧ Below w.heap.size w w' := by
  obtain ⟨k, a1, n1, c1, a2, m2, c2, a3, n3, c3, rfl⟩ := Nv_form hx
  obtain ⟨ak, ck, rfl, hck⟩ := Bs_form hb
  have KG : ∀ wx : World, Below w.heap.size w wx → Calls Try.prog 10 #[.agg #[.int .i64 k, .slice a1 n1 c1, .slice a2 m2 c2, .slice a3 n3 c3]] wx fun e w' => e = .returned (.bool (rd 0 t)) ∧ Below wx.heap.size wx w' := fun wx h => by
    rw [rd_gr]
    exact gright_any grown_ok t hs S (.int .i64 k, .slice a1 n1 c1, .slice a2 m2 c2, .slice a3 n3 c3) wx (Nv_below hx h) hw
  cases hr : rd 0 t with
  | false =>
    rw [gans_form hr]
    rw [hr] at KG
    exact (gg_form k a1 a2 a3 ak n1 c1 m2 c2 n3 c3 b.length ck w KG).mono fun e w' he => ⟨⟨none, 0, he.1, Bs_nil _ _⟩, he.2⟩
  | true =>
    rw [hr] at KG
    by_cases hk : b.length ≤ 32
    · rw [gans_val hr hk]
      have hR := (rd_right t).1 hr
      obtain ⟨l, hl, _, _⟩ := (right_iff t).1 hR
      have hlk := (rt_spec hl).2.2 (hv b)
      have hp : pre [] l = l := by unfold pre; simp
      have hlen : l.length ≤ 1048576 := Nat.le_trans (rt_count (wf_any t) l hl) hw
      obtain ⟨i, h1, h2, h3, h4⟩ := lk_find (hv b) l
      rw [hlk] at h3 h4
      refine gg_value k a1 a2 a3 ak n1 c1 m2 c2 n3 c3 b.length ck w KG hk l (hv b) (gt t (hv b)) hlen (fun wx hbw => ?_) (fun wx h => nhalves_bs (Bs_below hb h) (by omega)) i h1 h2 h3 h4 (by have := gt_len hR (hv b); show _ ≤ _; omega)
      refine (routes_any (wf_any t) S (.int .i64 k, .slice a1 n1 c1, .slice a2 m2 c2, .slice a3 n3 c3) wx [] (Nv_below hx hbw) (by rw [List.length_nil]; omega)).mono fun e w' he => ?_
      obtain ⟨g1 | g1, g2⟩ := he
      · obtain ⟨l2, y, g3, g4, g5⟩ := g1
        rw [hl] at g3
        cases g3
        rw [hp] at g5
        have g6 := g5
        obtain ⟨la, lc, rfl, -, -⟩ := g5
        exact ⟨la, _, lc, g4, ⟨rfl, g6⟩, g2⟩
      · rw [hl] at g1; cases g1.1
    · rw [gans_key hr hk]
      exact (gg_key k a1 a2 a3 ak n1 c1 m2 c2 n3 c3 b.length ck w KG hk).mono fun e w' he => ⟨⟨none, 0, he.1, Bs_nil _ _⟩, he.2⟩
end Tr
end Go.Proofs.Ytdcbgldelfhohaa
/- lampbearerref.GPut at every argument, and the law TreePuts: over what slices.SortFunc does. -/
namespace Go.Proofs.Ytdcbgldelfhohaa
namespace Tr
open Nb Go.RowKit
mutual
theorem bn_bn : ∀ t : Nd, bn (bn t) = bn t
  | .mk k p v ks => by
    have ih := bns_bns ks
    by_cases h1 : k = 1
    · subst h1; simp [bn]
    by_cases h2 : k = 2
    · subst h2; simp [bn, ih]
    by_cases h3 : k = 3
    · subst h3; simp [bn, ih]
    simp [bn, h1, h2, h3]
theorem bns_bns : ∀ l : List Nd, bns (bns l) = bns l
  | [] => by simp [bns]
  | t :: r => by simp [bns, bn_bn t, bns_bns r]
end
/-- The reference's answer to a put. -/
def GR2 (t : Nd) (b y : By) (r : Nd) : Prop := if pe t b y = 0 then ∃ l l2, rt t = some l ∧ RPs l (hv b) y l2 ∧ r = grw l2 ∧ ∀ q ∈ l2, q.1.length < 65 else r = Nd.no
theorem put_eq {t : Nd} {b y : By} {r s : Nd} (h1 : PR t b y r) (h2 : GR2 t b y s) : sn r s = true := by
  rw [sn_bn]
  unfold PR at h1
  unfold GR2 at h2
  by_cases h : pe t b y = 0
  · rw [if_pos h] at h1 h2
    obtain ⟨t', rfl, hr, hu⟩ := h1
    obtain ⟨l, l2, hl, hp, rfl, hn⟩ := h2
    rw [bn_bn]
    exact put_same hl hp hr hu hn
  · rw [if_neg h] at h1 h2
    rw [h1, h2]
theorem rps_short {l l2 : Rt} {p y : By} (h : RPs l p y l2) (hl : ∀ r ∈ l, r.1.length ≤ 64) (hp : p.length ≤ 64) : ∀ r ∈ l2, r.1.length < 65 := fun r hr => by
  have h1 := lk_mem l2 r h.hs hr
  have h2 := h.hv r hr
  rw [h.hk] at h1
  by_cases e : r.1 = p
  · rw [e]; omega
  · rw [if_neg e] at h1
    obtain ⟨r', hr', e'⟩ := lk_in (l := l) (q := r.1) (by rw [h1]; exact h2)
    have := hl r' hr'
    rw [← e']
    omega
theorem gput_any (hso : SortOk) (t : Nd) (hsm : Sm t) (S T T' : Nat → Prop) (x : V4) (w : World) (hx : Nv S w t x) (hw : wn t ≤ 1048576) (b : By) (kv : Value) (hb : Bs T b kv w) (y : By) (yv : Value) (hy : Bs T' y yv w) (hl1 : ∀ l, rt t = some l → l.length + 1 ≤ 1048576) :
    Calls Try.prog 14 #[v4 x, kv, yv] w fun e w' => ∃ (r : Nd) (u : V4), e = .returned (.tuple #[v4 u, .int .i64 (pe t b y)]) ∧ Nv (w.heap.size ≤ ·) w' r u ∧ GR2 t b y r ∧ Below w.heap.size w w' := by
  obtain ⟨k, a1, n1, c1, a2, m2, c2, a3, n3, c3, rfl⟩ := Nv_form hx
  obtain ⟨ak, ck, rfl, _⟩ := Bs_form hb
  obtain ⟨av, cv, rfl, _⟩ := Bs_form hy
  have KG : ∀ wx : World, Below w.heap.size w wx → Calls Try.prog 10 #[.agg #[.int .i64 k, .slice a1 n1 c1, .slice a2 m2 c2, .slice a3 n3 c3]] wx fun e w' => e = .returned (.bool (rd 0 t)) ∧ Below wx.heap.size wx w' := fun wx h => by
    rw [rd_gr]
    exact gright_any grown_ok t hsm S (.int .i64 k, .slice a1 n1 c1, .slice a2 m2 c2, .slice a3 n3 c3) wx (Nv_below hx h) hw
  cases hr : rd 0 t with
  | false =>
    rw [hr] at KG
    have hp : pe t b y = 1 := by unfold pe; rw [hr]; rfl
    have hPR : GR2 t b y Nd.no := by unfold GR2; rw [hp, if_neg (by decide)]
    rw [hp]
    exact (gp_form k a1 a2 a3 ak av n1 c1 m2 c2 n3 c3 b.length ck y.length cv w KG).mono fun e w' he => ⟨Nd.no, (.int .i64 0, .slice none 0 0, .slice none 0 0, .slice none 0 0), he.1, Nv_no _ _, hPR, he.2⟩
  | true =>
    rw [hr] at KG
    have hp : pe t b y = mp b.length y.length := by unfold pe; rw [hr]; rfl
    by_cases hm : mp b.length y.length = 0
    · have hp0 : pe t b y = 0 := hp.trans hm
      have hR := (rd_right t).1 hr
      obtain ⟨l1, l2⟩ := mp_zero hm
      have hlv := hv_len b
      obtain ⟨l, hl, hok, _⟩ := (right_iff t).1 hR
      obtain ⟨r1, r2, r3⟩ := rt_spec hl
      have hvo : VO l := fun r hr => (hok r hr).2.2.1
      have hpre : pre [] l = l := by unfold pre; simp
      have hlen := hl1 l hl
      have hshort : ∀ r ∈ l, r.1.length ≤ 64 := fun r hr => (hok r hr).2.1
      have KM : ∀ wx : World, Calls Try.prog 31 #[.slice ak b.length ck, .slice av y.length cv] wx fun e w' => e = .returned (.int .i64 0) ∧ w' = wx := fun wx => by
        have := puterror_any ak av b.length ck y.length cv wx
        rwa [hm] at this
      have KT : ∀ wx : World, Below w.heap.size w wx → Calls Try.prog 23 #[.agg #[.int .i64 k, .slice a1 n1 c1, .slice a2 m2 c2, .slice a3 n3 c3], .string ⟨#[]⟩] wx fun e w' => ∃ la n lc, e = .returned (.tuple #[.slice la n lc, .bool true]) ∧ Rv l (.slice la n lc) w' ∧ Below wx.heap.size wx w' := fun wx hbw => by
        refine (routes_any (wf_any t) S (.int .i64 k, .slice a1 n1 c1, .slice a2 m2 c2, .slice a3 n3 c3) wx [] (Nv_below hx hbw) (by rw [List.length_nil]; omega)).mono fun e w' he => ?_
        obtain ⟨g1 | g1, g2⟩ := he
        · obtain ⟨l2, y, g3, g4, g5⟩ := g1
          rw [hl] at g3
          cases g3
          rw [hpre] at g5
          have g6 := g5
          obtain ⟨la, lc, rfl, -, -⟩ := g5
          exact ⟨la, _, lc, g4, g6, g2⟩
        · rw [hl] at g1; cases g1.1
      rw [hp0]
      refine (gp_value k a1 a2 a3 ak av n1 c1 m2 c2 n3 c3 b.length ck y.length cv w l (fun l2 => RPs l (hv b) y l2 ∧ l2.length ≤ l.length + 1) KG KM KT (fun v wx hrv hbw => ?_) (fun l2 v wx hpl hrv => ?_)).mono fun e w' he => ?_
      · have hrv0 := hrv
        obtain ⟨la, lc, rfl, _, _⟩ := hrv0
        refine (rput_any l (hv b) y la ak av l.length lc b.length ck y.length cv wx hrv (by show _ ≤ _; omega) r1 r2 hvo (pt_hv b) rfl (Bs_sl (Bs_below hy hbw)) hso (fun wy hby => nhalves_bs (Bs_below (Bs_below hb hbw) hby) (by omega))).mono fun e w' he => ?_
        obtain ⟨z, L2, g1, g2, g3, g4, g5⟩ := he
        have g6 := g2
        obtain ⟨za, zc, rfl, _, _⟩ := g6
        exact ⟨L2, za, _, zc, ⟨g3, g4⟩, g1, g2, g5⟩
      · exact grown_ok l2 v wx hrv (by have := hpl.2; omega) (rps_short hpl.1 hshort (by omega)) hpl.1.hs hpl.1.hp
      · obtain ⟨l2, u, g1, g2, g3, g4⟩ := he
        exact ⟨grw l2, u, g2, g3, by unfold GR2; rw [if_pos hp0]; exact ⟨l, l2, hl, g1.1, rfl, rps_short g1.1 hshort (by omega)⟩, g4⟩
    · have hPR : GR2 t b y Nd.no := by unfold GR2; rw [hp, if_neg hm]
      rw [hp]
      exact (gp_err k a1 a2 a3 ak av n1 c1 m2 c2 n3 c3 b.length ck y.length cv w KG _ (beq_eq_false_iff_ne.2 hm) (fun wx => puterror_any ak av b.length ck y.length cv wx)).mono fun e w' he => ⟨Nd.no, (.int .i64 0, .slice none 0 0, .slice none 0 0, .slice none 0 0), he.1, Nv_no _ _, hPR, he.2⟩
end Tr
end Go.Proofs.Ytdcbgldelfhohaa
/- lampbearerref.GPairs; both sides at every argument. -/
namespace Go.Proofs.Ytdcbgldelfhohaa
namespace Tr
open Nb Go.RowKit
theorem wpList_ap {ops : Array Oper} {rest : List Oper} {o : Oper} {a : Act} {Q : Exit → Act → World → Prop} {s x : Operand} {t u : TypeId} {v v2 v' : Value} {w w' : World} (hgd : o.guard = none) (ho : o.op = .call { callee := .builtin .append, args := #[s, x], argTypes := #[t, u] }) (hs : a.eval s = v) (hx : a.eval x = v2)
    (hr : (Builtin.append_ #[t, u] o.type #[v, v2]).run Try.prog w = .ok v' w') (h : wpList Try.prog ops Q rest (a.put o.dst v') w') : wpList Try.prog ops Q (o :: rest) a w :=
  wpList_plain hgd fun _ hK => wp_ap ho hs hx hr (hK _ _ h)
theorem njoin_bs {p : By} {pv : Value} {w : World} (hp : Pk.Sl p pv w) (hl : p.length ≤ 64) (hj : JF p) : Calls Try.prog 36 #[pv] w fun e w' => ∃ a n c, e = .returned (.tuple #[.slice a n c, .int .i64 0]) ∧ Bs (w.heap.size ≤ ·) (jn p) (.slice a n c) w' ∧ Below w.heap.size w w' := by
  obtain ⟨ao, cap, h1, hc, vw⟩ := hp
  subst h1
  refine (njoin_any p ao cap w (by show _ ≤ _; omega) hc vw).mono fun e w' he => ?_
  obtain ⟨h1 | h1, h3⟩ := he
  · obtain ⟨_, v, h1, h2⟩ := h1
    obtain ⟨⟨a, c, rfl⟩, h4⟩ := own_bs2 h2
    exact ⟨a, _, c, h1, h4, h3⟩
  · exact absurd hj h1.1
set_option maxHeartbeats 4000000 in
set_option maxRecDepth 100000 in
theorem gpr_form (k : Int) (a1 a2 a3 : Option Addr) (n1 c1 m2 c2 n3 c3 : Nat) (w : World) (KG0 : ∀ wx : World, Below w.heap.size w wx → Calls Try.prog 10 #[.agg #[.int .i64 k, .slice a1 n1 c1, .slice a2 m2 c2, .slice a3 n3 c3]] wx fun e w' => e = .returned (.bool false) ∧ Below wx.heap.size wx w') :
    Calls Try.prog 17 #[.agg #[.int .i64 k, .slice a1 n1 c1, .slice a2 m2 c2, .slice a3 n3 c3]] w fun e w' => e = .returned (.tuple #[.slice none 0 0, .int .i64 1]) ∧ Below w.heap.size w w' := by
  have HB : Below w.heap.size w (w.alloc (.cells #[.int .i64 k, .slice a1 n1 c1, .slice a2 m2 c2, .slice a3 n3 c3] 25)) := (Below.refl _ _).alloc (Nat.le_refl _) _
  obtain ⟨_, q0, q1, q2, q3⟩ := Bx_new w (.int .i64 k, .slice a1 n1 c1, .slice a2 m2 c2, .slice a3 n3 c3)
  dsimp only at q0 q1 q2 q3
  have HBB : Hid (Below w.heap.size w (w.alloc (.cells #[.int .i64 k, .slice a1 n1 c1, .slice a2 m2 c2, .slice a3 n3 c3] 25))) := HB
  have hh' : w.heap.size < (w.alloc (.cells #[.int .i64 k, .slice a1 n1 c1, .slice a2 m2 c2, .slice a3 n3 c3] 25)).heap.size := by simp
  have KG : Hid (Calls Try.prog 10 #[.agg #[.int .i64 k, .slice a1 n1 c1, .slice a2 m2 c2, .slice a3 n3 c3]] (w.alloc (.cells #[.int .i64 k, .slice a1 n1 c1, .slice a2 m2 c2, .slice a3 n3 c3] 25)) fun e w' => e = .returned (.bool false) ∧ Below (w.alloc (.cells #[.int .i64 k, .slice a1 n1 c1, .slice a2 m2 c2, .slice a3 n3 c3] 25)).heap.size (w.alloc (.cells #[.int .i64 k, .slice a1 n1 c1, .slice a2 m2 c2, .slice a3 n3 c3] 25)) w') := KG0 _ HB
  clear KG0 HB
  go_enter Try.func17, Try.ntmps17
  go_wp2_with fail
  refine KG.out.mono ?_
  rintro e w1 ⟨rfl, hb1⟩
  have HZ : Hid (Below w.heap.size w w1) := HBB.out.trans (hb1.mono HBB.out.size)
  clear hb1 q0 q1 q2 q3
  go_wp2_with fail
  go_ret2
  exact ⟨rfl, HZ.out⟩
/-- What stands behind k rounds of GPairs. -/
structure GQ (l : Rt) (W0 : World) (k : Nat) (ov : Value) (wr : World) : Prop where
  o : Po W0.heap.size ((l.take k).map jp) ov wr
  b : Below W0.heap.size W0 wr
set_option maxHeartbeats 4000000 in
set_option maxRecDepth 100000 in
theorem gpr_value (k : Int) (a1 a2 a3 : Option Addr) (n1 c1 m2 c2 n3 c3 : Nat) (w : World) (KG0 : ∀ wx : World, Below w.heap.size w wx → Calls Try.prog 10 #[.agg #[.int .i64 k, .slice a1 n1 c1, .slice a2 m2 c2, .slice a3 n3 c3]] wx fun e w' => e = .returned (.bool true) ∧ Below wx.heap.size wx w') (l : Rt) (HL : Hid (l.length ≤ 1048576)) (HOK : Hid (∀ r ∈ l, JF r.1 ∧ r.1.length ≤ 64 ∧ r.2.length ≤ 1024))
    (KR0 : ∀ wx : World, Below w.heap.size w wx → Calls Try.prog 23 #[.agg #[.int .i64 k, .slice a1 n1 c1, .slice a2 m2 c2, .slice a3 n3 c3], .string ⟨#[]⟩] wx fun e w' => ∃ la n lc, e = .returned (.tuple #[.slice la n lc, .bool true]) ∧ (n = l.length ∧ Rv l (.slice la n lc) w') ∧ Below wx.heap.size wx w') :
    Calls Try.prog 17 #[.agg #[.int .i64 k, .slice a1 n1 c1, .slice a2 m2 c2, .slice a3 n3 c3]] w fun e w' => ∃ v, e = .returned (.tuple #[v, .int .i64 0]) ∧ Pv (w.heap.size ≤ ·) (l.map jp) v w' ∧ Below w.heap.size w w' := by
  have HB : Below w.heap.size w (w.alloc (.cells #[.int .i64 k, .slice a1 n1 c1, .slice a2 m2 c2, .slice a3 n3 c3] 25)) := (Below.refl _ _).alloc (Nat.le_refl _) _
  obtain ⟨_, q0, q1, q2, q3⟩ := Bx_new w (.int .i64 k, .slice a1 n1 c1, .slice a2 m2 c2, .slice a3 n3 c3)
  dsimp only at q0 q1 q2 q3
  have HBB : Hid (Below w.heap.size w (w.alloc (.cells #[.int .i64 k, .slice a1 n1 c1, .slice a2 m2 c2, .slice a3 n3 c3] 25))) := HB
  have hh' : w.heap.size < (w.alloc (.cells #[.int .i64 k, .slice a1 n1 c1, .slice a2 m2 c2, .slice a3 n3 c3] 25)).heap.size := by simp
  have KG : Hid (Calls Try.prog 10 #[.agg #[.int .i64 k, .slice a1 n1 c1, .slice a2 m2 c2, .slice a3 n3 c3]] (w.alloc (.cells #[.int .i64 k, .slice a1 n1 c1, .slice a2 m2 c2, .slice a3 n3 c3] 25)) fun e w' => e = .returned (.bool true) ∧ Below (w.alloc (.cells #[.int .i64 k, .slice a1 n1 c1, .slice a2 m2 c2, .slice a3 n3 c3] 25)).heap.size (w.alloc (.cells #[.int .i64 k, .slice a1 n1 c1, .slice a2 m2 c2, .slice a3 n3 c3] 25)) w') := KG0 _ HB
  have KR1 : Hid (∀ wx : World, Below w.heap.size w wx → Calls Try.prog 23 #[.agg #[.int .i64 k, .slice a1 n1 c1, .slice a2 m2 c2, .slice a3 n3 c3], .string ⟨#[]⟩] wx fun e w' => ∃ la n lc, e = .returned (.tuple #[.slice la n lc, .bool true]) ∧ (n = l.length ∧ Rv l (.slice la n lc) w') ∧ Below wx.heap.size wx w') := KR0
  clear KG0 HB KR0
  go_enter Try.func17, Try.ntmps17
  go_wp2_with fail
  refine KG.out.mono ?_
  rintro e w1 ⟨rfl, hb1⟩
  have HZ : Hid (Below w.heap.size w w1) := HBB.out.trans (hb1.mono HBB.out.size)
  replace q0 := (hb1.cell (p := ⟨w.heap.size, 0, none⟩) hh').trans q0
  replace q1 := (hb1.cell (p := ⟨w.heap.size, 1, none⟩) hh').trans q1
  replace q2 := (hb1.cell (p := ⟨w.heap.size, 2, none⟩) hh').trans q2
  replace q3 := (hb1.cell (p := ⟨w.heap.size, 3, none⟩) hh').trans q3
  clear hb1 hh' KG HBB
  go_wp2_with fail
  refine (KR1.out _ HZ.out).mono ?_
  rintro e W0 ⟨la, n, lc, rfl, hx0, bR⟩
  have hx : Hid (n = l.length ∧ Rv l (.slice la n lc) W0) := hx0
  have BW0 : Hid (Below w.heap.size w W0) := HZ.out.trans (bR.mono HZ.out.size)
  have I0 : Hid (GQ l W0 0 (.slice none 0 0) W0) := ⟨Po_nil _ _, Below.refl _ _⟩
  clear hx0 KR1 bR q0 q1 q2 q3 HZ
  go_wp2_with fail
  go_loopw [6, 21] (fun ov i wr => ∃ j : Nat, j ≤ n ∧ i = .int .i64 (j : Int) ∧ GQ l W0 j ov wr) (fun _ i _ => ((n : Int) - intOf i).toNat)
  case atStart => exact ⟨0, Nat.zero_le _, rfl, I0.out⟩
  case round =>
    obtain ⟨j, hj, rfl, hI⟩ := hrel
    have HI : Hid (GQ l W0 j u6 wr) := hI
    obtain ⟨oa, on, oc, rfl⟩ := Po_form hI.o
    clear hI I0
    by_cases hlt : j < n
    · have d0 : decide ((j : Int) < (n : Int)) = true := decide_eq_true (by omega)
      have d1 : (0 : Int) ≤ (j : Int) := by omega
      have d2 : (j : Int) < (n : Int) := by omega
      have hjl : j < l.length := by have := hx.out.1; omega
      obtain ⟨a', cap', e2, -, hq⟩ := hx.out.2
      obtain ⟨g, off, rfl, hg, hcell⟩ := hq (by omega)
      injection e2 with e2 e2' e2''
      subst e2
      clear e2' e2''
      obtain ⟨x0, x1⟩ := hcell j hjl
      have y0 := (HI.out.b.cell (p := ⟨g, off + 2 * j, none⟩) hg).trans x0
      have y1 := (HI.out.b.cell (p := ⟨g, off + 2 * j + 1, none⟩) hg).trans x1
      rw [Nat.mul_comm 2 j] at y0 y1
      have e5 : Hid (wrap64 ((j : Int) + 1) = ((j + 1 : Nat) : Int)) := by have := hx.out.1; have := HL.out; show _ = _; unfold wrap64; omega
      have hms := msr_up j n hlt
      have HRJ : Hid (l.getD j n2 ∈ l) := by
        show _ ∈ _
        rw [List.getD_eq_getElem?_getD, List.getElem?_eq_getElem hjl]
        exact List.getElem_mem _
      have HTK : Hid ((l.take (j + 1)).map jp = (l.take j).map jp ++ [jp (l.getD j n2)]) := by show _ = _; rw [take_snoc l j hjl, List.map_append]; rfl
      have hok := HOK.out _ HRJ.out
      generalize hR : l.getD j n2 = r at *
      obtain ⟨rp, rv⟩ := r
      dsimp only at *
      have HJF : Hid (JF rp ∧ rp.length ≤ 64 ∧ rv.length ≤ 1024) := hok
      have HHL : Hid (j < 1048576) := by have := hx.out.1; have := HL.out; show _ < _; omega
      obtain ⟨X, hX⟩ : ∃ X, X = Tr.st rp := ⟨_, rfl⟩
      obtain ⟨Y, hY⟩ : ∃ Y, Y = Tr.st rv := ⟨_, rfl⟩
      rw [← hX] at y0
      rw [← hY] at y1
      have HX : Hid (X = Tr.st rp) := hX
      have HY : Hid (Y = Tr.st rv) := hY
      clear hX hY
      have HA := heap_alloc_new wr (.cells #[.string X, .string Y] 51)
      have r0 : (wr.alloc (.cells #[.string X, .string Y] 51)).cell? ⟨wr.heap.size, 0, none⟩ = some (.string X) := by simp only [World.cell?, HA]; rfl
      have r1 : (wr.alloc (.cells #[.string X, .string Y] 51)).cell? ⟨wr.heap.size, 1, none⟩ = some (.string Y) := by simp only [World.cell?, HA]; rfl
      have h9 : wr.heap.size < (wr.alloc (.cells #[.string X, .string Y] 51)).heap.size := by simp
      have bA : Below wr.heap.size wr (wr.alloc (.cells #[.string X, .string Y] 51)) := (Below.refl _ _).alloc (Nat.le_refl _) _
      have hbs := HI.out.b.size
      have HIA : Hid (GQ l W0 j (.slice oa on oc) (wr.alloc (.cells #[.string X, .string Y] 51))) := ⟨Po_keep HI.out.o (fun q _ hq => bA.block q hq) bA.size, HI.out.b.trans (bA.mono hbs)⟩
      have HS1 : Hid (W0.heap.size + 1 ≤ (wr.alloc (.cells #[.string X, .string Y] 51)).heap.size) := by show _ ≤ _; simp; omega
      clear HA bA hq hcell x0 x1 hok HI hbs
      generalize hW1 : (wr.alloc (.cells #[.string X, .string Y] 51)) = W1 at *
      generalize hg9 : wr.heap.size = g9 at *
      obtain ⟨cp1, W2, hcv, hsl, -, hb2⟩ := st_sl rp W1
      rw [← HX.out] at hcv
      have KJ : Hid (Calls Try.prog 36 #[.slice (some ⟨W1.heap.size, 0, none⟩) rp.length cp1] W2 fun e w' => ∃ a n c, e = .returned (.tuple #[.slice a n c, .int .i64 0]) ∧ Bs (W2.heap.size ≤ ·) (jn rp) (.slice a n c) w' ∧ Below W2.heap.size W2 w') := njoin_bs hsl HJF.out.2.1 HJF.out.1
      have HB2 : Hid (Below W1.heap.size W1 W2) := hb2
      clear hsl hb2
      generalize rp.length = np at *
      go_wp2_with fail
      refine KJ.out.mono ?_
      rintro e w3 ⟨ka, kn, kc, rfl, hkb, hb3⟩
      clear hW1
      have b13 : Below W1.heap.size W1 w3 := HB2.out.trans (hb3.mono HB2.out.size)
      have r1' := (b13.cell (p := ⟨g9, 1, none⟩) h9).trans r1
      obtain ⟨cp2, W4, hcv2, hsl2, -, hb4⟩ := st_sl rv w3
      rw [← HY.out] at hcv2
      have e12 := HB2.out.size
      have b14 : Below W1.heap.size W1 W4 := b13.trans (hb4.mono b13.size)
      have b15 : Below W1.heap.size W1 (W4.alloc (.cells #[.slice ka kn kc, .slice (some ⟨w3.heap.size, 0, none⟩) rv.length cp2] 65)) := b14.alloc b14.size _
      have b45 : Below W4.heap.size W4 (W4.alloc (.cells #[.slice ka kn kc, .slice (some ⟨w3.heap.size, 0, none⟩) rv.length cp2] 65)) := (Below.refl _ _).alloc (Nat.le_refl _) _
      have HA5 := heap_alloc_new W4 (.cells #[.slice ka kn kc, .slice (some ⟨w3.heap.size, 0, none⟩) rv.length cp2] 65)
      have OWN : ∀ q, (Value.slice oa on oc).ownBlock = some q → q < W1.heap.size := fun q hq => by
        obtain ⟨vs, _, h2, _⟩ := HIA.out.o
        exact (h2.lt q hq).2
      have s1 := HS1.out
      have b3s := hb3.size
      have hb4s := hb4.size
      obtain ⟨gg, gc, W9, hap, hpo9, hgr9, hgo⟩ := Po_app (key := jn rp) (val := rv) (gb := W4.heap.size) 35 (Po_keep HIA.out.o (fun q _ hq => b15.block q hq) b15.size)
        (Bs_mono (Bs_below (Bs_below hkb hb4) b45) (fun q hq _ => ⟨by have : W2.heap.size ≤ q := hq; omega, fun e => by have : W2.heap.size ≤ q := hq; have := OWN q e.symm; omega⟩))
        (Bs_mono (Bs_below (sl_bs (S := (w3.heap.size ≤ ·)) (Nat.le_refl _) hsl2) b45) (fun q hq _ => ⟨by have : w3.heap.size ≤ q := hq; omega, fun e => by have : w3.heap.size ≤ q := hq; have := OWN q e.symm; omega⟩))
        (by simp only [World.cell?, HA5]; rfl) (by simp only [World.cell?, HA5]; rfl) (by simp; omega) (by rw [List.length_map, List.length_take]; have := HHL.out; omega)
      have HN : Hid (GQ l W0 (j + 1) (.slice (some ⟨gg, 0, none⟩) (((l.take j).map jp).length + 1) gc) W9) := by
        refine ⟨?_, ?_⟩
        · rw [HTK.out]; exact hpo9
        · have k1 := HIA.out.b.trans (b15.mono HIA.out.b.size)
          exact k1.grown hgr9 k1.size (fun q e => by have := hgo q e; omega)
      generalize ((l.take j).map jp).length + 1 = nn at *
      clear hkb hb3 b13 hsl2 hb4 b14 b15 b45 HA5 OWN s1 b3s hb4s e12 hpo9 hgr9 hgo HIA HS1 HB2 KJ HTK HRJ HJF HHL r0 r1 h9 hcv hR
      generalize rv.length = nr at *
      go_wp2_with (at_builtin; refine wpList_ap rfl rfl rfl rfl hap ?_)
      rw [e5.out]
      exact ⟨⟨j + 1, hlt, rfl, HN.out⟩, hms⟩
    · have ek : j = n := by omega
      subst ek
      have d0 : decide ((j : Int) < (j : Int)) = false := decide_eq_false (by omega)
      have hf := HI.out.o
      rw [List.take_of_length_le (by have := hx.out.1; omega)] at hf
      have HP : Hid (Pv (w.heap.size ≤ ·) (l.map jp) (.slice oa on oc) wr) := Pv_mono (Po_pv hf) (fun q hq _ => by have : W0.heap.size < q := hq; have := BW0.out.size; show w.heap.size ≤ q; omega)
      have HZ : Hid (Below w.heap.size w wr) := BW0.out.trans (HI.out.b.mono (by have := BW0.out.size; omega))
      clear hf HI
      go_wp2_with fail
      go_ret2
      exact ⟨_, rfl, HP.out, HZ.out⟩
end Tr
end Go.Proofs.Ytdcbgldelfhohaa
/- lampbearerref.SamePairs. -/
namespace Go.Proofs.Ytdcbgldelfhohaa
namespace Tr
open Nb Go.RowKit
set_option maxHeartbeats 1000000 in
set_option maxRecDepth 100000 in
theorem sp1_any (S T : Nat → Prop) (r q : By × By) (k1 v1 k2 v2 : Option Addr) (a1 c1 b1 e1 a2 c2 b2 e2 : Nat) (w : World) (hk1 : Bs S r.1 (.slice k1 a1 c1) w) (hv1 : Bs S r.2 (.slice v1 b1 e1) w) (hk2 : Bs T q.1 (.slice k2 a2 c2) w) (hv2 : Bs T q.2 (.slice v2 b2 e2) w) :
    Calls Try.prog 38 #[.agg #[.slice k1 a1 c1, .slice v1 b1 e1], .agg #[.slice k2 a2 c2, .slice v2 b2 e2]] w fun e w' => e = .returned (.bool (decide (r = q))) ∧ Below w.heap.size w w' := by
  have bA : Below w.heap.size w ((w.alloc (.cells #[.slice k1 a1 c1, .slice v1 b1 e1] 65)).alloc (.cells #[.slice k2 a2 c2, .slice v2 b2 e2] 65)) := ((Below.refl _ _).alloc (Nat.le_refl _) _).alloc (by simp) _
  have x1 := Sl_st (Bs_sl (Bs_below hk1 bA))
  have x2 := Sl_st (Bs_sl (Bs_below hv1 bA))
  have x3 := Sl_st (Bs_sl (Bs_below hk2 bA))
  have x4 := Sl_st (Bs_sl (Bs_below hv2 bA))
  have HA := heap_alloc_new w (.cells #[.slice k1 a1 c1, .slice v1 b1 e1] 65)
  have HB := heap_alloc_new (w.alloc (.cells #[.slice k1 a1 c1, .slice v1 b1 e1] 65)) (.cells #[.slice k2 a2 c2, .slice v2 b2 e2] 65)
  have hs1 : (w.alloc (.cells #[.slice k1 a1 c1, .slice v1 b1 e1] 65)).heap.size = w.heap.size + 1 := by simp
  have bB : Below (w.heap.size + 1) (w.alloc (.cells #[.slice k1 a1 c1, .slice v1 b1 e1] 65)) ((w.alloc (.cells #[.slice k1 a1 c1, .slice v1 b1 e1] 65)).alloc (.cells #[.slice k2 a2 c2, .slice v2 b2 e2] 65)) := (Below.refl _ _).alloc (by omega) _
  have q0 : ((w.alloc (.cells #[.slice k1 a1 c1, .slice v1 b1 e1] 65)).alloc (.cells #[.slice k2 a2 c2, .slice v2 b2 e2] 65)).cell? ⟨w.heap.size, 0, none⟩ = some (.slice k1 a1 c1) := (bB.cell (p := ⟨w.heap.size, 0, none⟩) (by show w.heap.size < _; omega)).trans (by simp only [World.cell?, HA]; rfl)
  have q1 : ((w.alloc (.cells #[.slice k1 a1 c1, .slice v1 b1 e1] 65)).alloc (.cells #[.slice k2 a2 c2, .slice v2 b2 e2] 65)).cell? ⟨w.heap.size, 1, none⟩ = some (.slice v1 b1 e1) := (bB.cell (p := ⟨w.heap.size, 1, none⟩) (by show w.heap.size < _; omega)).trans (by simp only [World.cell?, HA]; rfl)
  have q2 : ((w.alloc (.cells #[.slice k1 a1 c1, .slice v1 b1 e1] 65)).alloc (.cells #[.slice k2 a2 c2, .slice v2 b2 e2] 65)).cell? ⟨w.heap.size + 1, 0, none⟩ = some (.slice k2 a2 c2) := by rw [hs1] at HB; simp only [World.cell?, HB]; rfl
  have q3 : ((w.alloc (.cells #[.slice k1 a1 c1, .slice v1 b1 e1] 65)).alloc (.cells #[.slice k2 a2 c2, .slice v2 b2 e2] 65)).cell? ⟨w.heap.size + 1, 1, none⟩ = some (.slice v2 b2 e2) := by rw [hs1] at HB; simp only [World.cell?, HB]; rfl
  have HBB : Hid (Below w.heap.size w ((w.alloc (.cells #[.slice k1 a1 c1, .slice v1 b1 e1] 65)).alloc (.cells #[.slice k2 a2 c2, .slice v2 b2 e2] 65))) := bA
  have s1 := st_eq r.1 q.1
  have s2 := st_eq r.2 q.2
  have HD : Hid (decide (r = q) = (decide (r.1 = q.1) && decide (r.2 = q.2))) := by
    obtain ⟨r1, r2⟩ := r
    obtain ⟨t1, t2⟩ := q
    show _ = _
    simp [Prod.mk.injEq]
  clear bA HA HB bB hs1 hk1 hv1 hk2 hv2
  generalize Tr.st r.1 = X1 at *
  generalize Tr.st r.2 = X2 at *
  generalize Tr.st q.1 = Y1 at *
  generalize Tr.st q.2 = Y2 at *
  cases h1 : decide (r.1 = q.1) with
  | true =>
    rw [h1] at HD s1
    generalize hz : decide (r.2 = q.2) = Z at *
    clear h1 hz
    go_enter Try.func38, Try.ntmps38
    go_wp2_with fail
    go_ret
    exact ⟨by rw [HD.out]; rfl, HBB.out⟩
  | false =>
    rw [h1] at HD s1
    clear h1 s2
    go_enter Try.func38, Try.ntmps38
    go_wp2_with fail
    go_ret
    exact ⟨by rw [HD.out]; rfl, HBB.out⟩
theorem rt_ext {a b : Rt} (hl : a.length = b.length) (h : ∀ j, j < a.length → a.getD j n2 = b.getD j n2) : a = b := by
  apply List.ext_getElem hl
  intro i h1 h2
  have := h i h1
  rwa [List.getD_eq_getElem?_getD, List.getD_eq_getElem?_getD, List.getElem?_eq_getElem h1, List.getElem?_eq_getElem h2] at this
set_option maxHeartbeats 1000000 in
set_option maxRecDepth 100000 in
theorem eqp_len (a1 a2 : Option Addr) (n1 c1 n2 c2 : Nat) (w : World) (h : n1 ≠ n2) :
    Calls Try.prog 37 #[.slice a1 n1 c1, .slice a2 n2 c2, .func (.func 38) #[] #[]] w fun e w' => e = .returned (.bool false) ∧ Below w.heap.size w w' := by
  have d0 : ((n1 : Int) != (n2 : Int)) = true := bne_iff_ne.2 (by omega)
  have d1 : (n1 != n2) = true := bne_iff_ne.2 h
  have B : Hid (Below w.heap.size w w) := Below.refl _ _
  go_enter Try.func37, Try.ntmps37
  go_wp2_with fail
  go_ret
  exact ⟨rfl, B.out⟩
set_option maxHeartbeats 2000000 in
set_option maxRecDepth 100000 in
theorem eqp_any (S T : Nat → Prop) (l m : Rt) (x1 x2 : Option Addr) (n y1 y2 : Nat) (w : World) (hn : Hid (n = l.length)) (hn2 : Hid (n = m.length)) (hp : Hid (Pv S l (.slice x1 n y1) w)) (hp2 : Hid (Pv T m (.slice x2 n y2) w)) (hz : Hid (n ≤ 4194304)) :
    Calls Try.prog 37 #[.slice x1 n y1, .slice x2 n y2, .func (.func 38) #[] #[]] w fun e w' => e = .returned (.bool (decide (l = m))) ∧ Below w.heap.size w w' := by
  have d0 : ((n : Int) != (n : Int)) = false := by simp
  go_enter Try.func37, Try.ntmps37
  go_wp2_with fail
  go_loopw [17] (fun i wr => ∃ k : Nat, k ≤ n ∧ i = .int .i64 (k : Int) ∧ (∀ j, j < k → l.getD j Tr.n2 = m.getD j Tr.n2) ∧ Below w.heap.size w wr) (fun i _ => ((n : Int) - intOf i).toNat)
  case atStart => exact ⟨0, Nat.zero_le _, rfl, fun j hj => absurd hj (by omega), Below.refl _ _⟩
  case round =>
    obtain ⟨k, hkn, rfl, hall, hB⟩ := hrel
    by_cases hlt : k < n
    · have d0 : decide ((k : Int) < (n : Int)) = true := decide_eq_true (by omega)
      have d1 : (0 : Int) ≤ (k : Int) := by omega
      have d2 : (k : Int) < (n : Int) := by omega
      have hks : k < l.length := by have := hn.out; omega
      have hjs : k < m.length := by have := hn2.out; omega
      obtain ⟨g, off, kv1, vv1, rfl, -, hg, z0, z1, i1, i2⟩ := Pv_at hp.out hks
      obtain ⟨g2, off2, kv2, vv2, rfl, -, hg2, t0, t1, j1, j2⟩ := Pv_at hp2.out hjs
      replace z0 := (hB.cell (p := ⟨g, off + 2 * k, none⟩) hg).trans z0
      replace z1 := (hB.cell (p := ⟨g, off + 2 * k + 1, none⟩) hg).trans z1
      replace t0 := (hB.cell (p := ⟨g2, off2 + 2 * k, none⟩) hg2).trans t0
      replace t1 := (hB.cell (p := ⟨g2, off2 + 2 * k + 1, none⟩) hg2).trans t1
      rw [Nat.mul_comm 2 k] at z0 z1 t0 t1
      have hgk2 : g < wr.heap.size := Nat.lt_of_lt_of_le hg hB.size
      have hgj2 : g2 < wr.heap.size := Nat.lt_of_lt_of_le hg2 hB.size
      obtain ⟨k1, c1, rfl, _⟩ := Bs_form i1
      obtain ⟨v1, e1, rfl, _⟩ := Bs_form i2
      obtain ⟨k2, c2, rfl, _⟩ := Bs_form j1
      obtain ⟨v2, e2, rfl, _⟩ := Bs_form j2
      have HF : Hid (decide (l.getD k Tr.n2 = m.getD k Tr.n2) = false → decide (l = m) = false) := fun h => decide_eq_false (fun e => by subst e; exact absurd rfl (of_decide_eq_false h))
      have HT : Hid (decide (l.getD k Tr.n2 = m.getD k Tr.n2) = true → ∀ j, j < k + 1 → l.getD j Tr.n2 = m.getD j Tr.n2) := fun h j hj => by
        rcases Nat.lt_or_ge j k with h1 | h1
        · exact hall j h1
        · have e : j = k := by omega
          rw [e]; exact of_decide_eq_true h
      have e5 : Hid (wrap64 ((k : Int) + 1) = ((k + 1 : Nat) : Int)) := by have := hz.out; show _ = _; unfold wrap64; omega
      have hms := msr_up k n hlt
      generalize hr : l.getD k Tr.n2 = r at *
      generalize hq : m.getD k Tr.n2 = q at *
      generalize r.1.length = a1 at *
      generalize r.2.length = b1 at *
      generalize q.1.length = a2 at *
      generalize q.2.length = b2 at *
      have bA : Below wr.heap.size wr ((wr.alloc (.cells #[.slice k1 a1 c1, .slice v1 b1 e1] 65)).alloc (.cells #[.slice k2 a2 c2, .slice v2 b2 e2] 65)) := ((Below.refl _ _).alloc (Nat.le_refl _) _).alloc (by simp) _
      have bw : Below w.heap.size w ((wr.alloc (.cells #[.slice k1 a1 c1, .slice v1 b1 e1] 65)).alloc (.cells #[.slice k2 a2 c2, .slice v2 b2 e2] 65)) := hB.trans (bA.mono hB.size)
      have KB : Hid (∀ W : World, W = ((wr.alloc (.cells #[.slice k1 a1 c1, .slice v1 b1 e1] 65)).alloc (.cells #[.slice k2 a2 c2, .slice v2 b2 e2] 65)) → Calls Try.prog 38 #[.agg #[.slice k1 a1 c1, .slice v1 b1 e1], .agg #[.slice k2 a2 c2, .slice v2 b2 e2]] W fun e w' => e = .returned (.bool (decide (r = q))) ∧ Below w.heap.size w w') := fun W ew => by
        subst ew
        refine (sp1_any S T r q k1 v1 k2 v2 a1 c1 b1 e1 a2 c2 b2 e2 _ (Bs_below i1 bw) (Bs_below i2 bw) (Bs_below j1 bw) (Bs_below j2 bw)).mono fun e w' he => ⟨he.1, bw.trans (he.2.mono bw.size)⟩
      clear i1 i2 j1 j2 bA bw hall hr hq hks hjs hg hg2 hB hp hp2
      go_wp2_with fail
      refine (KB.out _ rfl).mono (fun e w5 he => ?_)
      obtain ⟨rfl, b5⟩ := he
      have B5 : Hid (Below w.heap.size w w5) := b5
      clear KB z0 z1 t0 t1 b5
      cases hb : decide (r = q) with
      | true =>
        have HT2 : Hid (∀ j, j < k + 1 → l.getD j Tr.n2 = m.getD j Tr.n2) := HT.out hb
        clear hb HT HF
        go_wp2_with fail
        rw [e5.out]
        exact ⟨⟨k + 1, hlt, rfl, HT2.out, B5.out⟩, hms⟩
      | false =>
        have hf : Hid (decide (l = m) = false) := HF.out hb
        clear hb HT HF
        go_wp2_with fail
        go_ret
        exact ⟨by rw [hf.out]; rfl, B5.out⟩
    · have d0 : decide ((k : Int) < (n : Int)) = false := decide_eq_false (by omega)
      have hs : Hid (decide (l = m) = true) := decide_eq_true (rt_ext (by have := hn.out; have := hn2.out; omega) (fun j hj => hall j (by have := hn.out; omega)))
      have BF : Hid (Below w.heap.size w wr) := hB
      clear hall hB
      go_wp2_with fail
      go_ret
      exact ⟨by rw [hs.out]; rfl, BF.out⟩
set_option maxHeartbeats 1000000 in
set_option maxRecDepth 100000 in
theorem samep_any {S T : Nat → Prop} {l m : Rt} {u v : Value} {w : World} (hl : Pv S l u w) (hm : Pv T m v w) (hz : l.length ≤ 4194304) : Calls Try.prog 18 #[u, v] w fun e w' => e = .returned (.bool (decide (l = m))) ∧ Below w.heap.size w w' := by
  obtain ⟨x1, y1, rfl, _⟩ := Pv_form hl
  obtain ⟨x2, y2, rfl, _⟩ := Pv_form hm
  have KE : Hid (Calls Try.prog 37 #[.slice x1 l.length y1, .slice x2 m.length y2, .func (.func 38) #[] #[]] w fun e w' => e = .returned (.bool (decide (l = m))) ∧ Below w.heap.size w w') := by
    by_cases e : l.length = m.length
    · have hm2 : Pv T m (.slice x2 l.length y2) w := by rw [e]; exact hm
      have := eqp_any S T l m x1 x2 l.length y1 y2 w rfl e hl hm2 hz
      rwa [← e]
    · rw [decide_eq_false (fun h => e (by rw [h]))]
      exact eqp_len x1 x2 _ y1 _ y2 w e
  clear hl hm
  generalize l.length = n at *
  generalize m.length = n' at *
  generalize decide (l = m) = B at *
  go_enter Try.func18, Try.ntmps18
  go_wp2_with fail
  refine KE.out.mono ?_
  rintro e w5 ⟨rfl, hb⟩
  have HB : Hid (Below w.heap.size w w5) := hb
  clear hb
  go_wp2_with fail
  go_ret
  exact ⟨rfl, HB.out⟩
end Tr
end Go.Proofs.Ytdcbgldelfhohaa
/- The law TreePuts, over what slices.SortFunc does. -/
namespace Go.Proofs.Ytdcbgldelfhohaa
namespace Tr
open Nb Go.RowKit
theorem rt_less {t : Nd} {l : Rt} (h : rt t = some l) : l.length + 1 ≤ wn t := by
  cases t with
  | mk k p v ks =>
    unfold rt at h
    split at h
    · cases h
    split at h
    · cases h
      unfold wn
      rw [List.length_nil]; omega
    split at h
    · cases h
      unfold wn
      rw [List.length_singleton]; omega
    split at h
    · rename_i h2
      obtain ⟨t, rfl⟩ := List.length_eq_one_iff.1 h2.2
      rw [rt0] at h
      cases ha : rt t with
      | none => rw [ha] at h; cases h
      | some a =>
        rw [ha] at h
        cases h
        have := rt_count (wf_any t) a ha
        unfold wn wnk wnk
        rw [pre_len']; omega
    split at h
    · cases ha : rtk 0 ks with
      | none => rw [ha] at h; cases h
      | some a =>
        rw [ha] at h
        cases h
        have := rtk_count ks 0 a (fun j hj l hl => rt_count (wf_any _) l hl) ha
        unfold wn
        rw [List.length_append]
        split
        · rw [List.length_nil]; omega
        · rw [List.length_singleton]; omega
    · cases h
end Tr
end Go.Proofs.Ytdcbgldelfhohaa
/- The law TreePuts, over what slices.SortFunc does. -/
namespace Go.Proofs.Ytdcbgldelfhohaa
namespace Tr
open Nb Go.RowKit
theorem bns_len' : ∀ l : List Nd, (bns l).length = l.length
  | [] => rfl
  | t :: r => by rw [bns, List.length_cons, List.length_cons, bns_len' r]
theorem bns_at : ∀ (l : List Nd) (j : Nat), j < l.length → (bns l).getD j Nd.no = bn (l.getD j Nd.no)
  | [], j, h => absurd h (by simp)
  | t :: r, 0, _ => by rw [bns]; rfl
  | t :: r, j + 1, h => by
    rw [bns, List.getD_cons_succ, List.getD_cons_succ]
    exact bns_at r j (by simpa using h)
theorem sm_nil (k : Int) (p v : By) : Sm (.mk k p v []) := .mk k p v [] (by simp) (fun j hj => absurd hj (by simp))
theorem sm_bn {t : Nd} (h : Rs t) : Sm (bn t) := by
  induction h with
  | none p v ks => simp only [bn]; exact sm_nil _ _ _
  | leaf p v ks hp hv => simp only [bn]; exact sm_nil _ _ _
  | road p v t hp h0 hk h ih =>
    have e : bn (.mk 2 p v [t]) = .mk 2 p [] [bn t] := by simp [bn, bns]
    rw [e]
    refine .mk 2 p [] [bn t] (by simp) (fun j hj => ?_)
    have : j = 0 := by simpa using hj
    subst this
    exact ih
  | fork p v ks hl h h2 ih =>
    have e : bn (.mk 3 p v ks) = .mk 3 [] v (bns ks) := by simp [bn]
    rw [e]
    refine .mk 3 [] v (bns ks) (by rw [bns_len', hl]; omega) (fun j hj => ?_)
    rw [bns_len'] at hj
    rw [bns_at ks j hj]
    exact ih j (by omega)
theorem pr_sm {t : Nd} {b y : By} {r : Nd} (h : PR t b y r) : Sm r := by
  unfold PR at h
  split at h
  · obtain ⟨t', rfl, hr, _⟩ := h
    exact sm_bn hr
  · rw [h]; exact sm_nil _ _ _
set_option maxHeartbeats 2000000 in
set_option maxRecDepth 100000 in
theorem law_puts (hso : SortOk) (t : Nd) (hs : Sm t) (x : V4) (w : World) (hx : Nv (· < w.heap.size) w t x) (hw : wn t ≤ 1048576) (b : By) (kv : Value) (hb : Bs (· < w.heap.size) b kv w) (y : By) (yv : Value) (hy : Bs (· < w.heap.size) y yv w) :
    Calls Try.prog 5 #[v4 x, kv, yv] w fun e w' => e = .returned (.bool true) ∧ Below w.heap.size w w' := by
  obtain ⟨k, a1, n1, c1, a2, m2, c2, a3, n3, c3, rfl⟩ := Nv_form hx
  obtain ⟨ak, ck, rfl, _⟩ := Bs_form hb
  obtain ⟨av, cv, rfl, _⟩ := Bs_form hy
  have N0 := NB_new hx (Nat.le_refl _)
  have KX : Hid (∀ wx : World, NB w.heap.size (.int .i64 k, .slice a1 n1 c1, .slice a2 m2 c2, .slice a3 n3 c3) t w.heap.size w wx → Calls Try.prog 13 #[.agg #[.int .i64 k, .slice a1 n1 c1, .slice a2 m2 c2, .slice a3 n3 c3], .slice ak b.length ck, .slice av y.length cv] wx fun e w' => ∃ (r : Nd) (u : V4), e = .returned (.tuple #[v4 u, .int .i64 (pe t b y)]) ∧ (Nv (fun _ => True) w' r u ∧ PR t b y r) ∧ Below wx.heap.size wx w') := fun wx hn => by
    refine (tput_any t _ _ _ (.int .i64 k, .slice a1 n1 c1, .slice a2 m2 c2, .slice a3 n3 c3) wx hn.n (by omega) b _ (Bs_below hb hn.b) y _ (Bs_below hy hn.b)).mono fun e w' he => ?_
    obtain ⟨r, u, h1, h2, h3, h4⟩ := he
    exact ⟨r, u, h1, ⟨Nv_mono h2 (fun _ _ _ => trivial), h3⟩, h4⟩
  have KY : Hid (∀ wx : World, NB w.heap.size (.int .i64 k, .slice a1 n1 c1, .slice a2 m2 c2, .slice a3 n3 c3) t w.heap.size w wx → Calls Try.prog 14 #[.agg #[.int .i64 k, .slice a1 n1 c1, .slice a2 m2 c2, .slice a3 n3 c3], .slice ak b.length ck, .slice av y.length cv] wx fun e w' => ∃ (r : Nd) (u : V4), e = .returned (.tuple #[v4 u, .int .i64 (pe t b y)]) ∧ (Nv (fun _ => True) w' r u ∧ GR2 t b y r) ∧ Below wx.heap.size wx w') := fun wx hn => by
    refine (gput_any hso t hs _ _ _ (.int .i64 k, .slice a1 n1 c1, .slice a2 m2 c2, .slice a3 n3 c3) wx hn.n hw b _ (Bs_below hb hn.b) y _ (Bs_below hy hn.b) (fun l hl => Nat.le_trans (rt_less hl) hw)).mono fun e w' he => ?_
    obtain ⟨r, u, h1, h2, h3, h4⟩ := he
    exact ⟨r, u, h1, ⟨Nv_mono h2 (fun _ _ _ => trivial), h3⟩, h4⟩
  have R0 : Hid (NB w.heap.size (.int .i64 k, .slice a1 n1 c1, .slice a2 m2 c2, .slice a3 n3 c3) t w.heap.size w (w.alloc (.cells #[.int .i64 k, .slice a1 n1 c1, .slice a2 m2 c2, .slice a3 n3 c3] 25))) := N0
  clear N0 hx hw hs hb hy
  show Calls Try.prog _ #[.agg #[.int .i64 k, .slice a1 n1 c1, .slice a2 m2 c2, .slice a3 n3 c3], .slice ak b.length ck, .slice av y.length cv] w _
  have q0 := R0.out.bx.2.1
  have q1 := R0.out.bx.2.2.1
  have q2 := R0.out.bx.2.2.2.1
  have q3 := R0.out.bx.2.2.2.2
  dsimp only at q0 q1 q2 q3
  generalize hP : pe t b y = P at *
  generalize hW : (w.alloc (.cells #[.int .i64 k, .slice a1 n1 c1, .slice a2 m2 c2, .slice a3 n3 c3] 25)) = W1 at *
  go_enter Try.func5, Try.ntmps5
  go_wp2_with fail
  refine (KX.out _ R0.out).mono ?_
  rintro e w1 ⟨r1, u1, rfl, hr1, hb1⟩
  have R1 : Hid (NB w.heap.size (.int .i64 k, .slice a1 n1 c1, .slice a2 m2 c2, .slice a3 n3 c3) t w.heap.size w w1) := NB_below R0.out hb1
  have HR1 : Hid (Nv (fun _ => True) w1 r1 u1 ∧ PR t b y r1) := hr1
  obtain ⟨xk, xa1, xn1, xc1, xa2, xn2, xc2, xa3, xn3, xc3, rfl⟩ := Nv_form hr1.1
  have bA : Below w1.heap.size w1 (w1.alloc (.cells #[.int .i64 xk, .slice xa1 xn1 xc1, .slice xa2 xn2 xc2, .slice xa3 xn3 xc3] 25)) := (Below.refl _ _).alloc (Nat.le_refl _) _
  have BX1 := Bx_new w1 (.int .i64 xk, .slice xa1 xn1 xc1, .slice xa2 xn2 xc2, .slice xa3 xn3 xc3)
  dsimp only at BX1
  have R2 : Hid (NB w.heap.size (.int .i64 k, .slice a1 n1 c1, .slice a2 m2 c2, .slice a3 n3 c3) t w.heap.size w (w1.alloc (.cells #[.int .i64 xk, .slice xa1 xn1 xc1, .slice xa2 xn2 xc2, .slice xa3 xn3 xc3] 25))) := NB_below R1.out bA
  have HR2 : Hid (Nv (fun _ => True) (w1.alloc (.cells #[.int .i64 xk, .slice xa1 xn1 xc1, .slice xa2 xn2 xc2, .slice xa3 xn3 xc3] 25)) r1 (.int .i64 xk, .slice xa1 xn1 xc1, .slice xa2 xn2 xc2, .slice xa3 xn3 xc3) ∧ PR t b y r1) := ⟨Nv_below hr1.1 bA, hr1.2⟩
  have HBX : Hid (Bx w1.heap.size (.int .i64 xk, .slice xa1 xn1 xc1, .slice xa2 xn2 xc2, .slice xa3 xn3 xc3) (w1.alloc (.cells #[.int .i64 xk, .slice xa1 xn1 xc1, .slice xa2 xn2 xc2, .slice xa3 xn3 xc3] 25))) := BX1
  clear hb1 hr1 bA BX1 R0 R1 HR1 KX hW q0 q1 q2 q3
  simp only [v4]
  have q0 := R2.out.bx.2.1
  have q1 := R2.out.bx.2.2.1
  have q2 := R2.out.bx.2.2.2.1
  have q3 := R2.out.bx.2.2.2.2
  dsimp only at q0 q1 q2 q3
  go_wp2_with fail
  refine (KY.out _ R2.out).mono ?_
  rintro e w2 ⟨r2, u2, rfl, hr2, hb2⟩
  obtain ⟨zk, za1, zn1, zc1, za2, zn2, zc2, za3, zn3, zc3, rfl⟩ := Nv_form hr2.1
  have bB : Below w2.heap.size w2 (w2.alloc (.cells #[.int .i64 zk, .slice za1 zn1 zc1, .slice za2 zn2 zc2, .slice za3 zn3 zc3] 25)) := (Below.refl _ _).alloc (Nat.le_refl _) _
  have BX2 := Bx_new w2 (.int .i64 zk, .slice za1 zn1 zc1, .slice za2 zn2 zc2, .slice za3 zn3 zc3)
  dsimp only at BX2
  have BX1 := Bx_below (Bx_below HBX.out hb2) bB
  have hz := put_eq HR2.out.2 hr2.2
  have hN1 := Nv_below (Nv_below HR2.out.1 hb2) bB
  have hN2 := Nv_below hr2.1 bB
  have KS : Hid (∀ wx : World, wx = (w2.alloc (.cells #[.int .i64 zk, .slice za1 zn1 zc1, .slice za2 zn2 zc2, .slice za3 zn3 zc3] 25)) → Calls Try.prog 15 #[.agg #[.int .i64 xk, .slice xa1 xn1 xc1, .slice xa2 xn2 xc2, .slice xa3 xn3 xc3], .agg #[.int .i64 zk, .slice za1 zn1 zc1, .slice za2 zn2 zc2, .slice za3 zn3 zc3]] wx fun e w' => e = .returned (.bool true) ∧ Below w.heap.size w w') := fun wx ew => by
    subst ew
    have h := same_any (pr_sm HR2.out.2) r2 _ _ (.int .i64 xk, .slice xa1 xn1 xc1, .slice xa2 xn2 xc2, .slice xa3 xn3 xc3) (.int .i64 zk, .slice za1 zn1 zc1, .slice za2 zn2 zc2, .slice za3 zn3 zc3) _ hN1 hN2
    rw [hz] at h
    refine h.mono fun e w' he => ⟨he.1, ?_⟩
    have b3 := (NB_below (NB_below R2.out hb2) bB).b
    exact b3.trans (he.2.mono b3.size)
  have m0 := BX1.2.1
  have m1 := BX1.2.2.1
  have m2' := BX1.2.2.2.1
  have m3 := BX1.2.2.2.2
  have k0 := BX2.2.1
  have k1 := BX2.2.2.1
  have k2 := BX2.2.2.2.1
  have k3 := BX2.2.2.2.2
  dsimp only at m0 m1 m2' m3 k0 k1 k2 k3
  have cb : (P == P) = true := beq_self_eq_true P
  clear hb2 hr2 bB BX1 BX2 hz hN1 hN2 R2 HR2 HBX KY q0 q1 q2 q3
  simp only [v4]
  go_wp2_with fail
  refine (KS.out _ rfl).mono ?_
  rintro e w9 ⟨rfl, hb9⟩
  have HZ : Hid (Below w.heap.size w w9) := hb9
  clear hb9 KS m0 m1 m2' m3 k0 k1 k2 k3
  go_wp2_with fail
  go_ret
  exact ⟨rfl, HZ.out⟩
end Tr
end Go.Proofs.Ytdcbgldelfhohaa
/- tree.Pairs and lampbearerref.GPairs at every argument; the law TreePairs. -/
namespace Go.Proofs.Ytdcbgldelfhohaa
namespace Tr
open Nb Go.RowKit
/-- What Pairs tells, and its error. -/
def prs (t : Nd) : Rt := if rd 0 t = true then ((rt t).getD []).map jp else []
def pz (t : Nd) : Int := if rd 0 t = true then 0 else 1
theorem prs_len {t : Nd} (hw : wn t ≤ 1048576) : (prs t).length ≤ 1048576 := by
  unfold prs
  split
  · cases h : rt t with
    | none => simp
    | some l =>
      have := rt_less h
      simp
      omega
  · simp
theorem okr_okp {l : Rt} (h : ∀ r ∈ l, Okr r.1 r.2) : Okp [] l := fun r hr => by
  have := h r hr
  rw [List.nil_append]
  exact ⟨this.2.1, this.1, this.2.2.2⟩
theorem tpairs_any (t : Nd) (S : Nat → Prop) (x : V4) (w : World) (hx : Nv S w t x) (hw : wn t ≤ 1048576) :
    Calls Try.prog 16 #[v4 x] w fun e w' => ∃ v, e = .returned (.tuple #[v, .int .i64 (pz t)]) ∧ Pv (w.heap.size ≤ ·) (prs t) v w' ∧ Below w.heap.size w w' := by
  have hx := Nv_mono (S' := (· < w.heap.size)) hx (fun k _ h => h)
  obtain ⟨k, a1, n1, c1, a2, m2, c2, a3, n3, c3, rfl⟩ := Nv_form hx
  have KR : ∀ wx : World, Below w.heap.size w wx → Calls Try.prog 22 #[.agg #[.int .i64 k, .slice a1 n1 c1, .slice a2 m2 c2, .slice a3 n3 c3], .int .i64 0] wx (RP w.heap.size 0 t wx) := fun wx h => (read_all w.heap.size (wf_any t)).1 0 (.int .i64 k, .slice a1 n1 c1, .slice a2 m2 c2, .slice a3 n3 c3) wx (by omega) (Nv_below hx h) h.size (by omega)
  cases hr : rd 0 t with
  | false =>
    have h1 : pz t = 1 := by unfold pz; rw [hr]; rfl
    have h2 : prs t = [] := by unfold prs; rw [hr]; rfl
    rw [h1, h2]
    refine (pairs_form k a1 a2 a3 n1 c1 m2 c2 n3 c3 w (fun wx h => (KR wx h).mono fun e w' he => ?_)).mono fun e w' he => ?_
    · obtain ⟨z, h1, _, h3⟩ := he
      rw [hr] at h1
      exact ⟨z, h1, h3⟩
    · exact ⟨_, he.1, Pv_nil _ _, he.2⟩
  | true =>
    have hR := (rd_right t).1 hr
    obtain ⟨l, hl, hok, _⟩ := (right_iff t).1 hR
    have h1 : pz t = 0 := by unfold pz; rw [hr]; rfl
    have h2 : prs t = l.map jp := by unfold prs; rw [hr, hl]; rfl
    rw [h1, h2]
    refine (pairs_value k a1 a2 a3 n1 c1 m2 c2 n3 c3 w w.heap.size t l (fun wx h => (KR wx h).mono fun e w' he => ?_) hR.1 hl (okr_okp hok) (by have := rt_less hl; show _ ≤ _; omega)).mono fun e w' he => he
    obtain ⟨z, h1, h2, h3⟩ := he
    rw [hr] at h1
    exact ⟨z, h1, In_mono (h2 hr) (fun _ _ => trivial), h3⟩
theorem gpairs_any (t : Nd) (hsm : Sm t) (S : Nat → Prop) (x : V4) (w : World) (hx : Nv S w t x) (hw : wn t ≤ 1048576) :
    Calls Try.prog 17 #[v4 x] w fun e w' => ∃ v, e = .returned (.tuple #[v, .int .i64 (pz t)]) ∧ Pv (w.heap.size ≤ ·) (prs t) v w' ∧ Below w.heap.size w w' := by
  obtain ⟨k, a1, n1, c1, a2, m2, c2, a3, n3, c3, rfl⟩ := Nv_form hx
  have KG : ∀ wx : World, Below w.heap.size w wx → Calls Try.prog 10 #[.agg #[.int .i64 k, .slice a1 n1 c1, .slice a2 m2 c2, .slice a3 n3 c3]] wx fun e w' => e = .returned (.bool (rd 0 t)) ∧ Below wx.heap.size wx w' := fun wx h => by
    rw [rd_gr]
    exact gright_any grown_ok t hsm S (.int .i64 k, .slice a1 n1 c1, .slice a2 m2 c2, .slice a3 n3 c3) wx (Nv_below hx h) hw
  cases hr : rd 0 t with
  | false =>
    rw [hr] at KG
    have h1 : pz t = 1 := by unfold pz; rw [hr]; rfl
    have h2 : prs t = [] := by unfold prs; rw [hr]; rfl
    rw [h1, h2]
    exact (gpr_form k a1 a2 a3 n1 c1 m2 c2 n3 c3 w KG).mono fun e w' he => ⟨_, he.1, Pv_nil _ _, he.2⟩
  | true =>
    rw [hr] at KG
    have hR := (rd_right t).1 hr
    obtain ⟨l, hl, hok, _⟩ := (right_iff t).1 hR
    have h1 : pz t = 0 := by unfold pz; rw [hr]; rfl
    have h2 : prs t = l.map jp := by unfold prs; rw [hr, hl]; rfl
    have hpre : pre [] l = l := by unfold pre; simp
    have hpt := (rt_spec hl).2.1
    have hlen := rt_less hl
    rw [h1, h2]
    refine (gpr_value k a1 a2 a3 n1 c1 m2 c2 n3 c3 w KG l (by show _ ≤ _; omega) (fun r hr => ⟨⟨(hok r hr).1, hpt r hr⟩, (hok r hr).2.1, (hok r hr).2.2.2⟩) (fun wx hbw => ?_)).mono fun e w' he => he
    refine (routes_any (wf_any t) S (.int .i64 k, .slice a1 n1 c1, .slice a2 m2 c2, .slice a3 n3 c3) wx [] (Nv_below hx hbw) (by rw [List.length_nil]; omega)).mono fun e w' he => ?_
    obtain ⟨g1 | g1, g2⟩ := he
    · obtain ⟨l2, y, g3, g4, g5⟩ := g1
      rw [hl] at g3
      cases g3
      rw [hpre] at g5
      have g6 := g5
      obtain ⟨la, lc, rfl, -, -⟩ := g5
      exact ⟨la, _, lc, g4, ⟨rfl, g6⟩, g2⟩
    · rw [hl] at g1; cases g1.1
set_option maxHeartbeats 2000000 in
set_option maxRecDepth 100000 in
theorem law_pairs (t : Nd) (hs : Sm t) (x : V4) (w : World) (hx : Nv (· < w.heap.size) w t x) (hw : wn t ≤ 1048576) :
    Calls Try.prog 6 #[v4 x] w fun e w' => e = .returned (.bool true) ∧ Below w.heap.size w w' := by
  obtain ⟨k, a1, n1, c1, a2, m2, c2, a3, n3, c3, rfl⟩ := Nv_form hx
  have N0 := NB_new hx (Nat.le_refl _)
  have hlen := prs_len hw
  have KX : Hid (∀ wx : World, NB w.heap.size (.int .i64 k, .slice a1 n1 c1, .slice a2 m2 c2, .slice a3 n3 c3) t w.heap.size w wx → Calls Try.prog 16 #[.agg #[.int .i64 k, .slice a1 n1 c1, .slice a2 m2 c2, .slice a3 n3 c3]] wx fun e w' => ∃ a n c, e = .returned (.tuple #[.slice a n c, .int .i64 (pz t)]) ∧ Pv (fun _ => True) (prs t) (.slice a n c) w' ∧ Below wx.heap.size wx w') := fun wx hn => by
    refine (tpairs_any t _ (.int .i64 k, .slice a1 n1 c1, .slice a2 m2 c2, .slice a3 n3 c3) wx hn.n hw).mono fun e w' he => ?_
    obtain ⟨v, h1, h2, h3⟩ := he
    obtain ⟨ao, cap, rfl, _⟩ := Pv_form h2
    exact ⟨ao, _, cap, h1, Pv_mono h2 (fun _ _ _ => trivial), h3⟩
  have KY : Hid (∀ wx : World, NB w.heap.size (.int .i64 k, .slice a1 n1 c1, .slice a2 m2 c2, .slice a3 n3 c3) t w.heap.size w wx → Calls Try.prog 17 #[.agg #[.int .i64 k, .slice a1 n1 c1, .slice a2 m2 c2, .slice a3 n3 c3]] wx fun e w' => ∃ a n c, e = .returned (.tuple #[.slice a n c, .int .i64 (pz t)]) ∧ Pv (fun _ => True) (prs t) (.slice a n c) w' ∧ Below wx.heap.size wx w') := fun wx hn => by
    refine (gpairs_any t hs _ (.int .i64 k, .slice a1 n1 c1, .slice a2 m2 c2, .slice a3 n3 c3) wx hn.n hw).mono fun e w' he => ?_
    obtain ⟨v, h1, h2, h3⟩ := he
    obtain ⟨ao, cap, rfl, _⟩ := Pv_form h2
    exact ⟨ao, _, cap, h1, Pv_mono h2 (fun _ _ _ => trivial), h3⟩
  have R0 : Hid (NB w.heap.size (.int .i64 k, .slice a1 n1 c1, .slice a2 m2 c2, .slice a3 n3 c3) t w.heap.size w (w.alloc (.cells #[.int .i64 k, .slice a1 n1 c1, .slice a2 m2 c2, .slice a3 n3 c3] 25))) := N0
  clear N0 hx hw hs
  show Calls Try.prog _ #[.agg #[.int .i64 k, .slice a1 n1 c1, .slice a2 m2 c2, .slice a3 n3 c3]] w _
  have q0 := R0.out.bx.2.1
  have q1 := R0.out.bx.2.2.1
  have q2 := R0.out.bx.2.2.2.1
  have q3 := R0.out.bx.2.2.2.2
  dsimp only at q0 q1 q2 q3
  have HL : Hid ((prs t).length ≤ 1048576) := hlen
  clear hlen
  generalize pz t = P at *
  generalize prs t = L at *
  generalize hW : (w.alloc (.cells #[.int .i64 k, .slice a1 n1 c1, .slice a2 m2 c2, .slice a3 n3 c3] 25)) = W1 at *
  go_enter Try.func6, Try.ntmps6
  go_wp2_with fail
  refine (KX.out _ R0.out).mono ?_
  rintro e w1 ⟨xa, xn, xc, rfl, hx1, hb1⟩
  have R1 : Hid (NB w.heap.size (.int .i64 k, .slice a1 n1 c1, .slice a2 m2 c2, .slice a3 n3 c3) t w.heap.size w w1) := NB_below R0.out hb1
  have HX1 : Hid (Pv (fun _ => True) L (.slice xa xn xc) w1) := hx1
  clear hb1 hx1 R0 KX hW q0 q1 q2 q3
  have q0 := R1.out.bx.2.1
  have q1 := R1.out.bx.2.2.1
  have q2 := R1.out.bx.2.2.2.1
  have q3 := R1.out.bx.2.2.2.2
  dsimp only at q0 q1 q2 q3
  go_wp2_with fail
  refine (KY.out _ R1.out).mono ?_
  rintro e w2 ⟨ya, yn, yc, rfl, hy1, hb2⟩
  have R2 : Hid (Below w.heap.size w w2) := R1.out.b.trans (hb2.mono R1.out.b.size)
  have KS : Hid (∀ wx : World, wx = w2 → Calls Try.prog 18 #[.slice xa xn xc, .slice ya yn yc] wx fun e w' => e = .returned (.bool true) ∧ Below w.heap.size w w') := fun wx ew => by
    subst ew
    have h := samep_any (Pv_below HX1.out hb2) hy1 (by have := HL.out; omega)
    rw [decide_eq_true rfl] at h
    exact h.mono fun e w' he => ⟨he.1, R2.out.trans (he.2.mono R2.out.size)⟩
  have cb : (P == P) = true := beq_self_eq_true P
  clear hb2 hy1 HX1 R1 KY q0 q1 q2 q3
  go_wp2_with fail
  refine (KS.out _ rfl).mono ?_
  rintro e w9 ⟨rfl, hb9⟩
  have HZ : Hid (Below w.heap.size w w9) := hb9
  clear hb9 KS
  go_wp2_with fail
  go_ret
  exact ⟨rfl, HZ.out⟩
end Tr
end Go.Proofs.Ytdcbgldelfhohaa
/- lampbearerkeep.alive7. -/
namespace Go.Proofs.Ytdcbgldelfhohaa
namespace Tr
open Nb Go.RowKit
/-- Two pairs; what they come to. -/
def L7 : Rt := [([1, 2], [97]), ([1], [98])]
def R7 : Rt := [([0, 1], [98]), ([0, 1, 0, 2], [97])]
def T7 : Nd := bn (grow 65 R7)
theorem or7 {r : Nd} (h : OR L7 r) : r = T7 := by
  unfold OR at h
  rw [if_pos (by decide)] at h
  obtain ⟨t', rfl, hr, hu⟩ := h
  have hs : Srt R7 := by
    unfold Srt R7
    simp [less, Op.bytesLess]
  have hp : Pts R7 := fun r hr => by
    unfold R7 at hr
    simp only [List.mem_cons, List.not_mem_nil, or_false] at hr
    rcases hr with rfl | rfl <;> (unfold Pt; decide)
  have hvo : VO R7 := fun r hr => by
    unfold R7 at hr
    simp only [List.mem_cons, List.not_mem_nil, or_false] at hr
    rcases hr with rfl | rfl <;> simp
  obtain ⟨g1, g2⟩ := grow_spec 65 R7 (fun r hr => by
    unfold R7 at hr
    simp only [List.mem_cons, List.not_mem_nil, or_false] at hr
    rcases hr with rfl | rfl <;> decide) hs hp hvo
  refine uniq hr _ g1 (fun q => ?_)
  rw [hu q, g2 q]
  have e1 : hv [1, 2] = [0, 1, 0, 2] := by decide
  have e2 : hv [1] = [0, 1] := by decide
  unfold vl L7
  simp only [List.foldl_cons, List.foldl_nil, e1, e2]
  rfl
theorem k7 : ∃ p t, T7 = .mk 2 p [] [t] ∧ p = [0, 1] := by
  refine ⟨_, _, rfl, ?_⟩
  decide
theorem rd7 : rd 0 T7 = true := by decide +kernel
theorem gt7 : gt T7 (hv [1, 2]) = [97] := by decide +kernel
theorem wn7 : wn T7 ≤ 1048576 := by decide +kernel
theorem rt7 : (rt T7).map (·.length) = some 2 := by decide +kernel
theorem gans7 : gans T7 [1, 2] = ([97], 0) := by
  unfold gans
  rw [rd7, if_pos rfl, if_pos (by decide), gt7]
theorem prs7 : (prs T7).length = 2 := by
  unfold prs
  rw [rd7, if_pos rfl, List.length_map]
  have h := rt7
  cases hr : rt T7 with
  | none => rw [hr] at h; cases h
  | some l => rw [hr] at h; injection h
theorem pz7 : pz T7 = 0 := by unfold pz; rw [rd7]; rfl
theorem Bs_lit1 (W : World) (c : UInt8) (fz : Nat × Nat) : Bs (fun _ => True) [c] (.slice (some ⟨W.heap.size, 0, none⟩) 1 1) (W.alloc (.cells #[.int .u8 (c.toNat : Int)] 5 fz)) := by
  have HA := heap_alloc_new W (.cells #[.int .u8 (c.toNat : Int)] 5 fz)
  refine ⟨_, _, rfl, Nat.le_refl _, fun _ => ⟨W.heap.size, 0, rfl, trivial, by simp, fun j hj => ?_⟩⟩
  have : j = 0 := by simpa using hj
  subst this
  simp only [World.cell?, HA]
  rfl
theorem Bs_lit2 (W : World) (c d : UInt8) (fz : Nat × Nat) : Bs (fun _ => True) [c, d] (.slice (some ⟨W.heap.size, 0, none⟩) 2 2) (W.alloc (.cells #[.int .u8 (c.toNat : Int), .int .u8 (d.toNat : Int)] 5 fz)) := by
  have HA := heap_alloc_new W (.cells #[.int .u8 (c.toNat : Int), .int .u8 (d.toNat : Int)] 5 fz)
  refine ⟨_, _, rfl, Nat.le_refl _, fun _ => ⟨W.heap.size, 0, rfl, trivial, by simp, fun j hj => ?_⟩⟩
  have : j = 0 ∨ j = 1 := by simp at hj; omega
  rcases this with rfl | rfl
  · simp only [World.cell?, HA]
    rfl
  · simp only [World.cell?, HA]
    rfl
theorem alloc_b (W : World) (o : Obj) : Below W.heap.size W (W.alloc o) := (Below.refl _ _).alloc (Nat.le_refl _) _
theorem pv7 (w : World) : Pv (fun _ => True) L7 (.slice (some ⟨w.heap.size + 1 + 1 + 1 + 1, 0, none⟩) 2 2) (((((w.alloc (.cells #[.int .u8 1, .int .u8 2] 5)).alloc (.cells #[.int .u8 97] 5 (1, 2))).alloc (.cells #[.int .u8 1] 5)).alloc (.cells #[.int .u8 98] 5 (1, 2))).alloc (.cells #[.slice (some ⟨w.heap.size, 0, none⟩) 2 2, .slice (some ⟨w.heap.size + 1, 0, none⟩) 1 1, .slice (some ⟨w.heap.size + 1 + 1, 0, none⟩) 1 1, .slice (some ⟨w.heap.size + 1 + 1 + 1, 0, none⟩) 1 1] 65)) ∧ Below w.heap.size w (((((w.alloc (.cells #[.int .u8 1, .int .u8 2] 5)).alloc (.cells #[.int .u8 97] 5 (1, 2))).alloc (.cells #[.int .u8 1] 5)).alloc (.cells #[.int .u8 98] 5 (1, 2))).alloc (.cells #[.slice (some ⟨w.heap.size, 0, none⟩) 2 2, .slice (some ⟨w.heap.size + 1, 0, none⟩) 1 1, .slice (some ⟨w.heap.size + 1 + 1, 0, none⟩) 1 1, .slice (some ⟨w.heap.size + 1 + 1 + 1, 0, none⟩) 1 1] 65)) := by
  have k0 := Bs_lit2 w 1 2 (0, 0)
  have k1 := Bs_lit1 (w.alloc (.cells #[.int .u8 1, .int .u8 2] 5)) 97 (1, 2)
  have k2 := Bs_lit1 ((w.alloc (.cells #[.int .u8 1, .int .u8 2] 5)).alloc (.cells #[.int .u8 97] 5 (1, 2))) 1 (0, 0)
  have k3 := Bs_lit1 (((w.alloc (.cells #[.int .u8 1, .int .u8 2] 5)).alloc (.cells #[.int .u8 97] 5 (1, 2))).alloc (.cells #[.int .u8 1] 5)) 98 (1, 2)
  have s1 : (w.alloc (.cells #[.int .u8 1, .int .u8 2] 5)).heap.size = w.heap.size + 1 := by simp
  have s2 : ((w.alloc (.cells #[.int .u8 1, .int .u8 2] 5)).alloc (.cells #[.int .u8 97] 5 (1, 2))).heap.size = w.heap.size + 1 + 1 := by simp
  have s3 : (((w.alloc (.cells #[.int .u8 1, .int .u8 2] 5)).alloc (.cells #[.int .u8 97] 5 (1, 2))).alloc (.cells #[.int .u8 1] 5)).heap.size = w.heap.size + 1 + 1 + 1 := by simp
  have s4 : ((((w.alloc (.cells #[.int .u8 1, .int .u8 2] 5)).alloc (.cells #[.int .u8 97] 5 (1, 2))).alloc (.cells #[.int .u8 1] 5)).alloc (.cells #[.int .u8 98] 5 (1, 2))).heap.size = w.heap.size + 1 + 1 + 1 + 1 := by simp
  rw [s1] at k1
  rw [s2] at k2
  rw [s3] at k3
  have b1 := alloc_b w (.cells #[.int .u8 1, .int .u8 2] 5)
  have b2 := alloc_b (w.alloc (.cells #[.int .u8 1, .int .u8 2] 5)) (.cells #[.int .u8 97] 5 (1, 2))
  have b3 := alloc_b ((w.alloc (.cells #[.int .u8 1, .int .u8 2] 5)).alloc (.cells #[.int .u8 97] 5 (1, 2))) (.cells #[.int .u8 1] 5)
  have b4 := alloc_b (((w.alloc (.cells #[.int .u8 1, .int .u8 2] 5)).alloc (.cells #[.int .u8 97] 5 (1, 2))).alloc (.cells #[.int .u8 1] 5)) (.cells #[.int .u8 98] 5 (1, 2))
  have b5 := alloc_b ((((w.alloc (.cells #[.int .u8 1, .int .u8 2] 5)).alloc (.cells #[.int .u8 97] 5 (1, 2))).alloc (.cells #[.int .u8 1] 5)).alloc (.cells #[.int .u8 98] 5 (1, 2))) (.cells #[.slice (some ⟨w.heap.size, 0, none⟩) 2 2, .slice (some ⟨w.heap.size + 1, 0, none⟩) 1 1, .slice (some ⟨w.heap.size + 1 + 1, 0, none⟩) 1 1, .slice (some ⟨w.heap.size + 1 + 1 + 1, 0, none⟩) 1 1] 65)
  have HA := heap_alloc_new ((((w.alloc (.cells #[.int .u8 1, .int .u8 2] 5)).alloc (.cells #[.int .u8 97] 5 (1, 2))).alloc (.cells #[.int .u8 1] 5)).alloc (.cells #[.int .u8 98] 5 (1, 2))) (.cells #[.slice (some ⟨w.heap.size, 0, none⟩) 2 2, .slice (some ⟨w.heap.size + 1, 0, none⟩) 1 1, .slice (some ⟨w.heap.size + 1 + 1, 0, none⟩) 1 1, .slice (some ⟨w.heap.size + 1 + 1 + 1, 0, none⟩) 1 1] 65)
  rw [s4] at HA
  refine ⟨⟨[(.slice (some ⟨w.heap.size, 0, none⟩) 2 2, .slice (some ⟨w.heap.size + 1, 0, none⟩) 1 1), (.slice (some ⟨w.heap.size + 1 + 1, 0, none⟩) 1 1, .slice (some ⟨w.heap.size + 1 + 1 + 1, 0, none⟩) 1 1)], rfl, ⟨_, _, rfl, Nat.le_refl _, fun _ => ⟨w.heap.size + 1 + 1 + 1 + 1, 0, rfl, trivial, by simp, fun j hj => ?_⟩⟩, fun j hj => ?_⟩, ?_⟩
  · have : j = 0 ∨ j = 1 := by simp at hj; omega
    rcases this with rfl | rfl
    · simp only [World.cell?, HA]
      exact ⟨rfl, rfl⟩
    · simp only [World.cell?, HA]
      exact ⟨rfl, rfl⟩
  · have : j = 0 ∨ j = 1 := by simp [L7] at hj; omega
    rcases this with rfl | rfl
    · exact ⟨Bs_below (Bs_below (Bs_below (Bs_below k0 b2) b3) b4) b5, Bs_below (Bs_below (Bs_below k1 b3) b4) b5⟩
    · exact ⟨Bs_below (Bs_below k2 b4) b5, Bs_below k3 b5⟩
  · have e1 := b1.trans (b2.mono b1.size)
    have e2 := e1.trans (b3.mono e1.size)
    have e3 := e2.trans (b4.mono e2.size)
    exact e3.trans (b5.mono e3.size)
set_option maxHeartbeats 4000000 in
set_option maxRecDepth 100000 in
theorem alive7_any (w : World) : Calls Try.prog 21 #[] w fun e w' => e = .returned (.bool true) ∧ Below w.heap.size w w' := by
  have c1 : (convert 22 22 (.slice (some ⟨w.heap.size + 1, 0, none⟩) 1 1)).run Try.prog ((w.alloc (.cells #[.int .u8 1, .int .u8 2] 5)).alloc (.cells #[.int .u8 97] 5)) = .ok (.slice (some ⟨w.heap.size + 1, 0, none⟩) 1 1) ((w.alloc (.cells #[.int .u8 1, .int .u8 2] 5)).alloc (.cells #[.int .u8 97] 5 (1, 2))) := by
    have := Lib.run_convert_bytes_const (P := Try.prog) (w.alloc (.cells #[.int .u8 1, .int .u8 2] 5)) 22 5 #[.int .u8 97] 1 1 Try.underlying22 Try.underlying5
    rwa [show (w.alloc (.cells #[.int .u8 1, .int .u8 2] 5)).heap.size = w.heap.size + 1 by simp] at this
  have c2 : (convert 22 22 (.slice (some ⟨w.heap.size + 1 + 1 + 1, 0, none⟩) 1 1)).run Try.prog ((((w.alloc (.cells #[.int .u8 1, .int .u8 2] 5)).alloc (.cells #[.int .u8 97] 5 (1, 2))).alloc (.cells #[.int .u8 1] 5)).alloc (.cells #[.int .u8 98] 5)) = .ok (.slice (some ⟨w.heap.size + 1 + 1 + 1, 0, none⟩) 1 1) ((((w.alloc (.cells #[.int .u8 1, .int .u8 2] 5)).alloc (.cells #[.int .u8 97] 5 (1, 2))).alloc (.cells #[.int .u8 1] 5)).alloc (.cells #[.int .u8 98] 5 (1, 2))) := by
    have := Lib.run_convert_bytes_const (P := Try.prog) (((w.alloc (.cells #[.int .u8 1, .int .u8 2] 5)).alloc (.cells #[.int .u8 97] 5 (1, 2))).alloc (.cells #[.int .u8 1] 5)) 22 5 #[.int .u8 98] 1 1 Try.underlying22 Try.underlying5
    rwa [show (((w.alloc (.cells #[.int .u8 1, .int .u8 2] 5)).alloc (.cells #[.int .u8 97] 5 (1, 2))).alloc (.cells #[.int .u8 1] 5)).heap.size = w.heap.size + 1 + 1 + 1 by simp] at this
  obtain ⟨hpv, hb5⟩ := pv7 w
  have KO : Hid (Calls Try.prog 19 #[.slice (some ⟨w.heap.size + 1 + 1 + 1 + 1, 0, none⟩) 2 2] (((((w.alloc (.cells #[.int .u8 1, .int .u8 2] 5)).alloc (.cells #[.int .u8 97] 5 (1, 2))).alloc (.cells #[.int .u8 1] 5)).alloc (.cells #[.int .u8 98] 5 (1, 2))).alloc (.cells #[.slice (some ⟨w.heap.size, 0, none⟩) 2 2, .slice (some ⟨w.heap.size + 1, 0, none⟩) 1 1, .slice (some ⟨w.heap.size + 1 + 1, 0, none⟩) 1 1, .slice (some ⟨w.heap.size + 1 + 1 + 1, 0, none⟩) 1 1] 65)) fun e w' => ∃ u : V4, e = .returned (.tuple #[v4 u, .int .i64 0]) ∧ Nv (fun _ => True) w' T7 u ∧ Below w.heap.size w w') := by
    refine (of_any L7 _ 2 2 _ (Pv_mono hpv (fun _ _ h => h)) rfl (by show _ ≤ _; omega)).mono fun e w' he => ?_
    obtain ⟨r, u, h1, h2, h3, h4⟩ := he
    obtain rfl := or7 h3
    exact ⟨u, h1, Nv_mono h2 (fun _ _ _ => trivial), hb5.trans (h4.mono hb5.size)⟩
  clear hpv hb5
  go_enter Try.func21, Try.ntmps21
  go_wp2_with fail
  refine KO.out.mono ?_
  rintro e w1 ⟨u, rfl, hn1, hb1⟩
  obtain ⟨uk, ua1, un1, uc1, ua2, un2, uc2, ua3, un3, uc3, rfl⟩ := Nv_form hn1
  clear KO c1 c2
  have N1 := NB_new (Nv_mono (S' := (· < w1.heap.size)) hn1 (fun _ _ h => h)) (Nat.le_refl _)
  have R1 : Hid (NB w1.heap.size (.int .i64 uk, .slice ua1 un1 uc1, .slice ua2 un2 uc2, .slice ua3 un3 uc3) T7 w1.heap.size w1 (w1.alloc (.cells #[.int .i64 uk, .slice ua1 un1 uc1, .slice ua2 un2 uc2, .slice ua3 un3 uc3] 25))) := N1
  have HB1 : Hid (Below w.heap.size w w1) := hb1
  have hkk : uk = 2 := by
    obtain ⟨p, t, hT, _⟩ := k7
    rw [hT] at hn1
    cases hn1
    rfl
  subst hkk
  clear N1 hn1 hb1
  have q0 := R1.out.bx.2.1
  have q1 := R1.out.bx.2.2.1
  have q2 := R1.out.bx.2.2.2.1
  have q3 := R1.out.bx.2.2.2.2
  dsimp only at q0 q1 q2 q3
  simp only [v4]
  have sB : (w1.alloc (.cells #[.int .i64 2, .slice ua1 un1 uc1, .slice ua2 un2 uc2, .slice ua3 un3 uc3] 25)).heap.size = w1.heap.size + 1 := by simp
  have kb := Bs_lit2 (w1.alloc (.cells #[.int .i64 2, .slice ua1 un1 uc1, .slice ua2 un2 uc2, .slice ua3 un3 uc3] 25)) 1 2 (0, 0)
  rw [sB] at kb
  have bG := alloc_b (w1.alloc (.cells #[.int .i64 2, .slice ua1 un1 uc1, .slice ua2 un2 uc2, .slice ua3 un3 uc3] 25)) (.cells #[.int .u8 1, .int .u8 2] 5)
  have RG : NB w1.heap.size (.int .i64 2, .slice ua1 un1 uc1, .slice ua2 un2 uc2, .slice ua3 un3 uc3) T7 w1.heap.size w1 ((w1.alloc (.cells #[.int .i64 2, .slice ua1 un1 uc1, .slice ua2 un2 uc2, .slice ua3 un3 uc3] 25)).alloc (.cells #[.int .u8 1, .int .u8 2] 5)) := NB_below R1.out bG
  have KG : Hid (Calls Try.prog 11 #[.agg #[.int .i64 2, .slice ua1 un1 uc1, .slice ua2 un2 uc2, .slice ua3 un3 uc3], .slice (some ⟨w1.heap.size + 1, 0, none⟩) 2 2] ((w1.alloc (.cells #[.int .i64 2, .slice ua1 un1 uc1, .slice ua2 un2 uc2, .slice ua3 un3 uc3] 25)).alloc (.cells #[.int .u8 1, .int .u8 2] 5)) fun e w' => ∃ a c, e = .returned (.tuple #[.slice a 1 c, .int .i64 0]) ∧ Pk.Sl [97] (.slice a 1 c) w' ∧ NB w1.heap.size (.int .i64 2, .slice ua1 un1 uc1, .slice ua2 un2 uc2, .slice ua3 un3 uc3) T7 w1.heap.size w1 w') := by
    refine (get_any T7 ((w1.alloc (.cells #[.int .i64 2, .slice ua1 un1 uc1, .slice ua2 un2 uc2, .slice ua3 un3 uc3] 25)).alloc (.cells #[.int .u8 1, .int .u8 2] 5)).heap.size (.int .i64 2, .slice ua1 un1 uc1, .slice ua2 un2 uc2, .slice ua3 un3 uc3) ((w1.alloc (.cells #[.int .i64 2, .slice ua1 un1 uc1, .slice ua2 un2 uc2, .slice ua3 un3 uc3] 25)).alloc (.cells #[.int .u8 1, .int .u8 2] 5)) (Nv_mono RG.n (fun _ _ h => h)) (Nat.le_refl _) (by have := wn7; omega) [1, 2] _ (Bs_mono kb (fun _ _ h => h))).mono fun e w' he => ?_
    rw [gans7] at he
    obtain ⟨⟨a, c, h1, h2⟩, h3⟩ := he
    exact ⟨a, c, h1, Bs_sl h2, NB_below RG h3⟩
  clear sB kb bG RG
  go_wp2_with fail
  refine KG.out.mono ?_
  rintro e w2 ⟨ga, gc, rfl, hs2, hnb2⟩
  have R2 : Hid (NB w1.heap.size (.int .i64 2, .slice ua1 un1 uc1, .slice ua2 un2 uc2, .slice ua3 un3 uc3) T7 w1.heap.size w1 w2) := hnb2
  have S2 : Hid (Pk.Sl [97] (.slice ga 1 gc) w2) := hs2
  clear hs2 hnb2 R1 KG q0 q1 q2 q3
  have q0 := R2.out.bx.2.1
  have q1 := R2.out.bx.2.2.1
  have q2 := R2.out.bx.2.2.2.1
  have q3 := R2.out.bx.2.2.2.2
  dsimp only at q0 q1 q2 q3
  have KP : Hid (Calls Try.prog 16 #[.agg #[.int .i64 2, .slice ua1 un1 uc1, .slice ua2 un2 uc2, .slice ua3 un3 uc3]] w2 fun e w' => ∃ a c, e = .returned (.tuple #[.slice a 2 c, .int .i64 0]) ∧ Below w2.heap.size w2 w') := by
    refine (tpairs_any T7 _ (.int .i64 2, .slice ua1 un1 uc1, .slice ua2 un2 uc2, .slice ua3 un3 uc3) w2 R2.out.n wn7).mono fun e w' he => ?_
    rw [pz7] at he
    obtain ⟨v, h1, h2, h3⟩ := he
    obtain ⟨ao, cap, rfl, _⟩ := Pv_form h2
    rw [prs7] at h1
    exact ⟨ao, cap, h1, h3⟩
  go_wp2_with fail
  refine KP.out.mono ?_
  rintro e w3 ⟨pa, pc, rfl, hb3⟩
  have R3 : Hid (NB w1.heap.size (.int .i64 2, .slice ua1 un1 uc1, .slice ua2 un2 uc2, .slice ua3 un3 uc3) T7 w1.heap.size w1 w3) := NB_below R2.out hb3
  have S3 : (convert 22 9 (.slice ga 1 gc)).run Try.prog w3 = .ok (.string ⟨#[97]⟩) w3 := Sl_st (Pk.Sl_below S2.out hb3)
  clear hb3 R2 S2 KP q0 q1 q2 q3
  have q0 := R3.out.bx.2.1
  have q1 := R3.out.bx.2.2.1
  have q2 := R3.out.bx.2.2.2.1
  have q3 := R3.out.bx.2.2.2.2
  dsimp only at q0 q1 q2 q3
  have KT : Hid (Calls Try.prog 9 #[.agg #[.int .i64 2, .slice ua1 un1 uc1, .slice ua2 un2 uc2, .slice ua3 un3 uc3]] w3 fun e w' => e = .returned (.bool true) ∧ NB w1.heap.size (.int .i64 2, .slice ua1 un1 uc1, .slice ua2 un2 uc2, .slice ua3 un3 uc3) T7 w1.heap.size w1 w') := by
    refine (right_any T7 w1.heap.size (.int .i64 2, .slice ua1 un1 uc1, .slice ua2 un2 uc2, .slice ua3 un3 uc3) w3 R3.out.n R3.out.l (by have := wn7; omega)).mono fun e w' he => ?_
    rw [rd7] at he
    exact ⟨he.1, NB_below R3.out he.2⟩
  clear R3
  go_wp2_with fail
  refine KT.out.mono ?_
  rintro e w4 ⟨rfl, hnb4⟩
  have R4 : Hid (NB w1.heap.size (.int .i64 2, .slice ua1 un1 uc1, .slice ua2 un2 uc2, .slice ua3 un3 uc3) T7 w1.heap.size w1 w4) := hnb4
  clear hnb4 KT q0 q1 q2 q3 S3
  have q0 := R4.out.bx.2.1
  dsimp only at q0
  go_wp2_with fail
  go_ret
  exact ⟨rfl, HB1.out.trans (R4.out.b.mono HB1.out.size)⟩
end Tr
end Go.Proofs.Ytdcbgldelfhohaa
/- read, Right, Get and Put where no path is too long. -/
namespace Go.Proofs.Ytdcbgldelfhohaa
namespace Tr
open Nb Go.RowKit
/-- No path is too long. -/
inductive Lp : Nd → Prop where
  | mk (k : Int) (p v : By) (ks : List Nd) (hp : p.length ≤ 4194304) (h : ∀ j, j < ks.length → Lp (ks.getD j Nd.no)) : Lp (.mk k p v ks)
theorem lp_path {k : Int} {p v : By} {ks : List Nd} (h : Lp (.mk k p v ks)) : p.length ≤ 4194304 := by
  cases h with
  | mk _ _ _ _ hp _ => exact hp
theorem lp_kid {k : Int} {p v : By} {ks : List Nd} {j : Nat} (h : Lp (.mk k p v ks)) (hj : j < ks.length) : Lp (ks.getD j Nd.no) := by
  cases h with
  | mk _ _ _ _ _ hk => exact hk j hj
theorem lp_wn {t : Nd} (h : wn t ≤ 4194304) : Lp t := by
  have ht := wf_any t
  induction ht with
  | mk k p v ks _ ih => exact .mk k p v ks (by unfold wn at h; omega) (fun j hj => ih j hj (wn_kid h hj))
theorem lp_bn {t : Nd} (h : Rs t) : ∀ N, N ≤ 4194304 → Ln N t → Lp (bn t) := by
  induction h with
  | none p v ks => intro N _ _; simp only [bn]; exact .mk _ _ _ _ (by simp) (fun j hj => absurd hj (by simp))
  | leaf p v ks hp hv =>
    intro N hN hl
    have h1 := hl p (by rw [gt_leaf, if_pos rfl]; exact hv)
    simp only [bn]
    exact .mk _ _ _ _ (by omega) (fun j hj => absurd hj (by simp))
  | road p v t hp h0 hk h ih =>
    intro N hN hl
    have e : bn (.mk 2 p v [t]) = .mk 2 p [] [bn t] := by simp [bn, bns]
    have h1 : p.length ≤ N := pl_le (.road p v t hp h0 hk h) hl (by show (2 : Int) ≠ 3; decide) (by show (2 : Int) ≠ 0; decide)
    rw [e]
    refine .mk _ _ _ _ (by omega) (fun j hj => ?_)
    have : j = 0 := by simpa using hj
    subst this
    exact ih N hN (fun q hq => by
      have := hl (p ++ q) (by rw [gt_road_at]; exact hq)
      rw [List.length_append] at this
      omega)
  | fork p v ks hl16 h h2 ih =>
    intro N hN hl
    have e : bn (.mk 3 p v ks) = .mk 3 [] v (bns ks) := by simp [bn]
    rw [e]
    refine .mk _ _ _ _ (by simp) (fun j hj => ?_)
    rw [bns_len] at hj
    rw [bns_getD]
    exact ih j (by omega) N hN (ln_kid hl (by omega))
theorem read_lp (lo : Nat) {t : Nd} (ht : Wf t) :
    (∀ (h : Nat) (u : V4) (w : World), h ≤ 65 → Nv (· < lo) w t u → lo ≤ w.heap.size → Lp t → Calls Try.prog 22 #[v4 u, .int .i64 (h : Int)] w (RP lo h t w)) ∧
    (t.kind = 3 → ∀ (h : Nat) (u : V4) (w : World), Nv (· < lo) w t u → lo ≤ w.heap.size → Lp t → Calls Try.prog 42 #[v4 u, .int .i64 (h : Int)] w (FP lo h t w)) := by
  induction ht with
  | mk k p v ks _ ih =>
    have HF : k = 3 → ∀ (h : Nat) (u : V4) (w : World), Nv (· < lo) w (.mk k p v ks) u → lo ≤ w.heap.size → Lp (.mk k p v ks) → Calls Try.prog 42 #[v4 u, .int .i64 (h : Int)] w (FP lo h (.mk k p v ks) w) := by
      intro hk h u w hu hlo hw
      subst hk
      exact rfork_all lo h p v ks u w hu hlo (fun j hj h64 x wx hx hl => (ih j hj).1 (h + 1) x wx (by omega) hx hl (lp_kid hw hj))
    refine ⟨fun h u w h65 hu hlo hw => ?_, HF⟩
    have hu' := hu
    cases hu with
    | mk _ _ _ _ pv vv kv vs hp hv hl hk hi =>
      have hp' := hp
      have hv' := hv
      have sp := Bs_sl hp
      obtain ⟨a1, c1, rfl, -, -⟩ := hp
      obtain ⟨a2, c2, rfl, -, -⟩ := hv
      obtain ⟨a3, c3, rfl, -, hq⟩ := hk
      have hz : p.length ≤ 4194304 := lp_path hw
      obtain ⟨ax, cx, ex, -, vw⟩ := sp
      injection ex with e1 e2 e3
      subst e1
      by_cases k0 : k = 0
      · subst k0
        refine (read_none a1 a2 a3 _ c1 _ c2 _ c3 h w).mono fun e w' he => ⟨_, by rw [rd_zero]; exact he.1, fun _ => .none p v ks _, he.2⟩
      by_cases k1 : k = 1
      · subst k1
        cases hpt : ptb p with
        | true =>
          refine (read_leaf_ok a1 a2 a3 _ c1 _ c2 _ c3 h w p v rfl hz rfl (by omega) vw hpt).mono fun e w' he => ⟨_, by rw [rd_one, hpt, Bool.true_and]; exact he.1, fun _ => ?_, he.2⟩
          exact .leaf p v ks _ _ _ (Bs_lo (Bs_below hp' he.2)) (Bs_lo (Bs_below hv' he.2))
        | false => exact rp_bad (by rw [rd_one, hpt]; rfl) ((read_leaf_no a1 a2 a3 _ c1 _ c2 _ c3 h w p v rfl hz rfl (by omega) vw hpt).mono fun e w' he => ⟨⟨_, he.1⟩, he.2⟩)
      by_cases k2 : k = 2
      · subst k2
        show Calls Try.prog _ #[.agg #[.int .i64 2, _, _, _], _] w _
        refine read_road a1 a2 a3 _ c1 _ c2 _ c3 h w (rd h (.mk 2 p v ks)) (fun x w' => rd h (.mk 2 p v ks) = true → In lo w' (.mk 2 p v ks) x (fun y => w.heap.size ≤ y)) ?_
        intro wx hbx
        have vwx := Sp.Vw_below vw hbx
        have key : Calls Try.prog 41 #[.agg #[.int .i64 2, .slice a1 p.length c1, .slice a2 v.length c2, .slice a3 vs.length c3], .int .i64 (h : Int)] wx (RP lo h (.mk 2 p v ks) wx) := by
          by_cases p0 : p = []
          · subst p0
            exact rp_bad (by rw [rd_two]; simp) (rroad_empty a1 a2 a3 c1 _ c2 _ c3 h wx)
          have hp0 : 0 < p.length := List.length_pos_iff.2 p0
          cases hpt : ptb p with
          | false => exact rp_bad (by rw [rd_two, hpt]; simp) (rroad_path a1 a2 a3 _ c1 _ c2 _ c3 h wx p rfl hz hp0 vwx hpt)
          | true =>
            by_cases hk1 : ks.length = 1
            case neg => exact rp_bad (by rw [rd_two, decide_eq_false hk1]; simp) (rroad_kids a1 a2 a3 _ c1 _ c2 _ c3 h wx p rfl hz hp0 vwx hpt (by omega))
            obtain ⟨t, rfl⟩ := List.length_eq_one_iff.1 hk1
            have el : vs.length = 1 := hl
            obtain ⟨gk, off, rfl, hgl, hgk, hc⟩ := hq (by omega)
            obtain ⟨y0, y1, y2, y3⟩ := hc 0 (by omega)
            have hn := hi 0 (by simp)
            rw [List.getD_cons_zero] at hn
            obtain ⟨kk, b1, m1, d1, b2, m2, d2, b3, m3, d3, eF⟩ := Nv_form hn
            rw [eF] at y0 y1 y2 y3
            simp only [Nat.mul_zero, Nat.add_zero] at y0 y1 y2 y3
            have z0 := (hbx.cell (p := ⟨gk, off, none⟩) hgk).trans y0
            have z1 := (hbx.cell (p := ⟨gk, off + 1, none⟩) hgk).trans y1
            have z2 := (hbx.cell (p := ⟨gk, off + 2, none⟩) hgk).trans y2
            have z3 := (hbx.cell (p := ⟨gk, off + 3, none⟩) hgk).trans y3
            have hgx : gk < wx.heap.size := Nat.lt_of_lt_of_le hgk hbx.size
            have ekk : t.kind = kk := by
              rw [eF] at hn
              cases hn
              rfl
            rw [el]
            by_cases hkk : kk = 3
            case neg => exact rp_bad (by rw [rd_two, rd1, decide_eq_false (show ¬ t.kind = 3 by rw [ekk]; exact hkk)]; simp) (rroad_kind a1 a2 _ c1 _ c2 c3 h gk off wx p rfl hz hp0 vwx hpt kk hgx z0 hkk)
            subst hkk
            have er : rd h (.mk 2 p v [t]) = rd (h + p.length) t := by
              rw [rd_two, rd1, hpt, decide_eq_true (show p ≠ [] from p0), decide_eq_true ekk]
              simp
            have GBt : ∀ (x : Option Addr) (w1 w2 : World), (rd (h + p.length) t = true → ∃ g, x = some ⟨g, 0, none⟩ ∧ In lo w1 t (.iface 73 (.pointer (some ⟨g, 0, none⟩))) (fun y => wx.heap.size ≤ y)) → Below w1.heap.size w1 w2 → rd (h + p.length) t = true → ∃ g, x = some ⟨g, 0, none⟩ ∧ In lo w2 t (.iface 73 (.pointer (some ⟨g, 0, none⟩))) (fun y => wx.heap.size ≤ y) := fun x w1 w2 hx hb hr => by
              obtain ⟨g, h1, h2⟩ := hx hr
              exact ⟨g, h1, In_below h2 hb⟩
            have KF := (ih 0 (by simp)).2
            rw [List.getD_cons_zero] at KF
            refine (rroad_fork a1 a2 _ c1 _ c2 c3 h gk off wx p rfl hz hp0 vwx hpt (by omega) b1 b2 b3 m1 d1 m2 d2 m3 d3 hgx z0 z1 z2 z3 (rd (h + p.length) t) _ GBt ?_).mono fun e w' he => ?_
            · intro wy hby
              have hn2 : Nv (· < lo) wy t (.int .i64 3, .slice b1 m1 d1, .slice b2 m2 d2, .slice b3 m3 d3) := by
                rw [eF] at hn
                exact Nv_below (Nv_below hn hbx) hby
              refine (KF ekk (h + p.length) _ wy hn2 (Nat.le_trans hlo (Nat.le_trans hbx.size hby.size)) (by have := lp_kid (j := 0) hw (by simp); rwa [List.getD_cons_zero] at this)).mono fun e w' he => ?_
              obtain ⟨x, h1, h2, h3⟩ := he
              refine ⟨x, h1, fun hr => ?_, h3⟩
              obtain ⟨g, h4, h5⟩ := h2 hr
              exact ⟨g, h4, In_mono h5 (fun y hy => Nat.le_trans hby.size hy)⟩
            · obtain ⟨x, h1, h2, h3⟩ := he
              refine ⟨_, by rw [er]; exact h1, fun hr => ?_, h3⟩
              rw [er] at hr
              obtain ⟨g, rfl, h5⟩ := h2 hr
              exact .road p v t _ g _ (Bs_lo (Bs_below (Bs_below hp' hbx) h3)) h5
        refine key.mono fun e w' he => ?_
        obtain ⟨x, h1, h2, h3⟩ := he
        exact ⟨x, h1, fun hr => In_mono (h2 hr) (fun y hy => Nat.le_trans hbx.size hy), h3⟩
      by_cases k3 : k = 3
      · subst k3
        show Calls Try.prog _ #[.agg #[.int .i64 3, _, _, _], _] w _
        refine (read_fork a1 a2 a3 _ c1 _ c2 _ c3 h w (rd h (.mk 3 p v ks)) (fun x w' => rd h (.mk 3 p v ks) = true → ∃ g, x = some ⟨g, 0, none⟩ ∧ In lo w' (.mk 3 p v ks) (.iface 73 (.pointer (some ⟨g, 0, none⟩))) (fun y => w.heap.size ≤ y)) ?_).mono fun e w' he => ?_
        · intro wx hbx
          refine (HF rfl h _ wx (Nv_below hu' hbx) (Nat.le_trans hlo hbx.size) hw).mono fun e w' he => ?_
          obtain ⟨x, h1, h2, h3⟩ := he
          refine ⟨x, h1, fun hr => ?_, h3⟩
          obtain ⟨g, h4, h5⟩ := h2 hr
          exact ⟨g, h4, In_mono h5 (fun y hy => Nat.le_trans hbx.size hy)⟩
        · obtain ⟨x, h1, h2, h3⟩ := he
          refine ⟨_, h1, fun hr => ?_, h3⟩
          obtain ⟨g, rfl, h5⟩ := h2 hr
          exact h5
      · exact rp_bad (rd_else h k p v ks k0 k1 k2 k3) ((read_other k a1 a2 a3 _ c1 _ c2 _ c3 h w k0 k1 k2 k3).mono fun e w' he => ⟨⟨_, he.1⟩, he.2⟩)
set_option maxHeartbeats 1000000 in
set_option maxRecDepth 100000 in
theorem right_lp (t : Nd) (lo : Nat) (x : V4) (w : World) (hx : Nv (· < lo) w t x) (hlo : lo ≤ w.heap.size) (hw : Lp t) :
    Calls Try.prog 9 #[v4 x] w fun e w' => e = .returned (.bool (rd 0 t)) ∧ Below w.heap.size w w' := by
  obtain ⟨k, a1, n1, c1, a2, m2, c2, a3, n3, c3, rfl⟩ := Nv_form hx
  have N0 := NB_new hx hlo
  obtain ⟨_, q0, q1, q2, q3⟩ := N0.bx
  dsimp only at q0 q1 q2 q3
  have KR : Hid (∀ wx : World, NB w.heap.size (.int .i64 k, .slice a1 n1 c1, .slice a2 m2 c2, .slice a3 n3 c3) t lo w wx → Calls Try.prog 22 #[.agg #[.int .i64 k, .slice a1 n1 c1, .slice a2 m2 c2, .slice a3 n3 c3], .int .i64 0] wx fun e w' => ∃ y, e = .returned (.tuple #[y, .bool (rd 0 t)]) ∧ Below wx.heap.size wx w') := fun wx hn => by
    refine ((read_lp lo (wf_any t)).1 0 (.int .i64 k, .slice a1 n1 c1, .slice a2 m2 c2, .slice a3 n3 c3) wx (by omega) hn.n hn.l hw).mono fun e w' he => ?_
    obtain ⟨y, h1, _, h3⟩ := he
    exact ⟨y, h1, h3⟩
  have HN : Hid (NB w.heap.size (.int .i64 k, .slice a1 n1 c1, .slice a2 m2 c2, .slice a3 n3 c3) t lo w (w.alloc (.cells #[.int .i64 k, .slice a1 n1 c1, .slice a2 m2 c2, .slice a3 n3 c3] 25))) := N0
  clear N0 hx hlo hw
  show Calls Try.prog _ #[.agg #[.int .i64 k, .slice a1 n1 c1, .slice a2 m2 c2, .slice a3 n3 c3]] w _
  generalize rd 0 t = r at *
  go_enter Try.func9, Try.ntmps9
  go_wp2_with fail
  refine (KR.out _ HN.out).mono ?_
  rintro e w1 ⟨y, rfl, hb1⟩
  have HZ : Hid (Below w.heap.size w w1) := HN.out.b.trans (hb1.mono HN.out.b.size)
  clear hb1
  go_wp2_with fail
  go_ret
  exact ⟨rfl, HZ.out⟩
theorem get_lp (t : Nd) (lo : Nat) (x : V4) (w : World) (hx : Nv (· < lo) w t x) (hlo : lo ≤ w.heap.size) (hw : Lp t) (b : By) (kv : Value) (hb : Bs (· < lo) b kv w) :
    Calls Try.prog 11 #[v4 x, kv] w fun e w' => (∃ a c, e = .returned (.tuple #[.slice a (gans t b).1.length c, .int .i64 (gans t b).2]) ∧ Bs (Sb lo w') (gans t b).1 (.slice a (gans t b).1.length c) w') ∧ Below w.heap.size w w' := by
  obtain ⟨k, a1, n1, c1, a2, m2, c2, a3, n3, c3, rfl⟩ := Nv_form hx
  obtain ⟨ak, ck, rfl, hck⟩ := Bs_form hb
  have KR : ∀ wx : World, Below w.heap.size w wx → Calls Try.prog 22 #[.agg #[.int .i64 k, .slice a1 n1 c1, .slice a2 m2 c2, .slice a3 n3 c3], .int .i64 0] wx (RP lo 0 t wx) := fun wx h => (read_lp lo (wf_any t)).1 0 (.int .i64 k, .slice a1 n1 c1, .slice a2 m2 c2, .slice a3 n3 c3) wx (by omega) (Nv_below hx h) (Nat.le_trans hlo h.size) hw
  cases hr : rd 0 t with
  | false =>
    rw [gans_form hr]
    refine (get_form k a1 a2 a3 ak n1 c1 m2 c2 n3 c3 b.length ck w (fun wx h => (KR wx h).mono fun e w' he => ?_)).mono fun e w' he => ?_
    · obtain ⟨y, h1, _, h3⟩ := he
      rw [hr] at h1
      exact ⟨y, h1, h3⟩
    · exact ⟨⟨none, 0, he.1, Bs_nil _ _⟩, he.2⟩
  | true =>
    by_cases hk : b.length ≤ 32
    · rw [gans_val hr hk]
      have hR := (rd_right t).1 hr
      refine get_value k a1 a2 a3 ak n1 c1 m2 c2 n3 c3 b.length ck w lo (gt t (hv b)) (hv b) t (fun y => w.heap.size ≤ y) (fun wx h => (KR wx h).mono fun e w' he => ?_) hk (fun wx h => ?_) (fun ty yy kv wx hin hkv => ?_) (fun v wx hv => ?_)
      · obtain ⟨y, h1, h2, h3⟩ := he
        rw [hr] at h1
        exact ⟨y, h1, In_mono (h2 hr) (fun z hz => Nat.le_trans h.size hz), h3⟩
      · exact halves_bs (Bs_below hb h) (by omega)
      · exact get_all lo _ t _ _ _ _ wx (Nat.le_refl _) hin hR.1 hkv (pt_hv b)
      · refine (clone_bs hv (by have := gt_len hR (Nb.hv b); omega)).mono fun e w' he => ?_
        obtain ⟨v, h1, h2, h3⟩ := he
        obtain ⟨a, c, rfl, _⟩ := Bs_form h2
        exact ⟨a, c, h1, Bs_mono h2 (fun k hk _ => .inr hk.2), h3⟩
    · rw [gans_key hr hk]
      refine (get_key k a1 a2 a3 ak n1 c1 m2 c2 n3 c3 b.length ck w (fun wx h => (KR wx h).mono fun e w' he => ?_) hk).mono fun e w' he => ?_
      · obtain ⟨y, h1, _, h3⟩ := he
        rw [hr] at h1
        exact ⟨y, h1, h3⟩
      · exact ⟨⟨none, 0, he.1, Bs_nil _ _⟩, he.2⟩
theorem tput_lp (t : Nd) (S T T' : Nat → Prop) (x : V4) (w : World) (hx : Nv S w t x) (hw : Lp t) (b : By) (kv : Value) (hb : Bs T b kv w) (y : By) (yv : Value) (hy : Bs T' y yv w) :
    Calls Try.prog 13 #[v4 x, kv, yv] w fun e w' => ∃ (r : Nd) (u : V4), e = .returned (.tuple #[v4 u, .int .i64 (pe t b y)]) ∧ Nv (w.heap.size ≤ ·) w' r u ∧ PR t b y r ∧ Below w.heap.size w w' := by
  have hx := Nv_mono (S' := (· < w.heap.size)) hx (fun k _ h => h)
  have hb := Bs_mono (S' := (· < w.heap.size)) hb (fun k _ h => h)
  have hy := Bs_mono (S' := (· < w.heap.size)) hy (fun k _ h => h)
  obtain ⟨k, a1, n1, c1, a2, m2, c2, a3, n3, c3, rfl⟩ := Nv_form hx
  obtain ⟨ak, ck, rfl, _⟩ := Bs_form hb
  obtain ⟨av, cv, rfl, _⟩ := Bs_form hy
  have KR : ∀ wx : World, Below w.heap.size w wx → Calls Try.prog 22 #[.agg #[.int .i64 k, .slice a1 n1 c1, .slice a2 m2 c2, .slice a3 n3 c3], .int .i64 0] wx (RP w.heap.size 0 t wx) := fun wx h => (read_lp w.heap.size (wf_any t)).1 0 (.int .i64 k, .slice a1 n1 c1, .slice a2 m2 c2, .slice a3 n3 c3) wx (by omega) (Nv_below hx h) h.size hw
  cases hr : rd 0 t with
  | false =>
    have hp : pe t b y = 1 := by unfold pe; rw [hr]; rfl
    have hPR : PR t b y Nd.no := by unfold PR; rw [hp, if_neg (by decide)]
    rw [hp]
    refine (put_form k a1 a2 a3 ak av n1 c1 m2 c2 n3 c3 b.length ck y.length cv w (fun wx h => (KR wx h).mono fun e w' he => ?_)).mono fun e w' he => ?_
    · obtain ⟨z, h1, _, h3⟩ := he
      rw [hr] at h1
      exact ⟨z, h1, h3⟩
    · exact ⟨Nd.no, (.int .i64 0, .slice none 0 0, .slice none 0 0, .slice none 0 0), he.1, Nv_no _ _, hPR, he.2⟩
  | true =>
    have hp : pe t b y = mp b.length y.length := by unfold pe; rw [hr]; rfl
    by_cases hm : mp b.length y.length = 0
    · have hp0 : pe t b y = 0 := hp.trans hm
      have hR := (rd_right t).1 hr
      obtain ⟨l1, l2⟩ := mp_zero hm
      have hl := hv_len b
      refine (put_value k a1 a2 a3 ak av n1 c1 m2 c2 n3 c3 b.length ck y.length cv w (hv b) y t (fun wx h => (KR wx h).mono fun e w' he => ?_) (fun wx => ?_) (fun wx h => ?_) (fun z pv F wx hin hpv hbl => ?_) (fun t' z F wx hin hrs hup => ?_)).mono fun e w' he => ?_
      · obtain ⟨z, h1, h2, h3⟩ := he
        rw [hr] at h1
        exact ⟨z, h1, h2 hr, h3⟩
      · have := mayput_any ak av b.length ck y.length cv wx
        rwa [hm] at this
      · exact halves_bs (Bs_below hb h) (by omega)
      · exact put_all w.heap.size 64 (by omega) _ t (hv b) y z pv _ F wx (Nat.le_refl _) hin hR.1 (fun q hq => (hR.2 q hq).2.1) (by omega) hpv (Bs_lo (Bs_below hy hbl)) (pt_hv b) hbl.size
      · refine plain_all (N := 64) (M := 1024) hin (by omega) (by omega) hrs (fun q hq => ?_) (fun q => ?_) wx (Below.refl _ _)
        · rw [hup q] at hq
          split at hq
          · rename_i e; rw [e, hl]; omega
          · exact (hR.2 q hq).2.1
        · rw [hup q]
          split
          · exact l2
          · exact gt_len' hR q
      · obtain ⟨t', u, h1, h2, h3, h4, h5⟩ := he
        rw [hp0]
        exact ⟨bn t', u, h1, h2, by unfold PR; rw [if_pos hp0]; exact ⟨t', rfl, h3, h4⟩, h5⟩
    · have hPR : PR t b y Nd.no := by unfold PR; rw [hp, if_neg hm]
      rw [hp]
      refine (put_err k a1 a2 a3 ak av n1 c1 m2 c2 n3 c3 b.length ck y.length cv w (fun wx h => (KR wx h).mono fun e w' he => ?_) _ (beq_eq_false_iff_ne.2 hm) (fun wx => mayput_any ak av b.length ck y.length cv wx)).mono fun e w' he => ?_
      · obtain ⟨z, h1, _, h3⟩ := he
        rw [hr] at h1
        exact ⟨z, h1, h3⟩
      · exact ⟨Nd.no, (.int .i64 0, .slice none 0 0, .slice none 0 0, .slice none 0 0), he.1, Nv_no _ _, hPR, he.2⟩
mutual
theorem bn_bn' : ∀ t : Nd, bn (bn t) = bn t
  | .mk k p v ks => by
    have ih := bns_bns' ks
    by_cases h1 : k = 1
    · subst h1; simp [bn]
    by_cases h2 : k = 2
    · subst h2; simp [bn, ih]
    by_cases h3 : k = 3
    · subst h3; simp [bn, ih]
    simp [bn, h1, h2, h3]
theorem bns_bns' : ∀ l : List Nd, bns (bns l) = bns l
  | [] => by simp [bns]
  | t :: r => by simp [bns, bn_bn' t, bns_bns' r]
end
/-- A put that is done answers a tree, with what it should have. -/
theorem pr_ok {t : Nd} {b y : By} {r : Nd} (h : PR t b y r) (h0 : pe t b y = 0) : Right r ∧ (∀ q, gt r q = if q = hv b then y else gt t q) ∧ Right t ∧ b.length ≤ 32 ∧ y.length ≤ 1024 ∧ Lp r ∧ bn r = r := by
  have hr : rd 0 t = true := by
    unfold pe at h0
    split at h0
    · assumption
    · cases h0
  have hm : mp b.length y.length = 0 := by
    unfold pe at h0
    rw [if_pos hr] at h0
    exact h0
  have hR := (rd_right t).1 hr
  obtain ⟨l1, l2⟩ := mp_zero hm
  unfold PR at h
  rw [if_pos h0] at h
  obtain ⟨t', rfl, hs, hu⟩ := h
  have hln : Ln 64 t' := fun q hq => by
    rw [hu q] at hq
    split at hq
    · rename_i e; rw [e, hv_len]; omega
    · exact (hR.2 q hq).2.1
  refine ⟨⟨rs_bn hs _ (bn_bn' t'), fun q hq => ?_⟩, fun q => by rw [gt_bn]; exact hu q, hR, l1, l2, lp_bn hs 64 (by omega) hln, bn_bn' t'⟩
  rw [gt_bn] at hq ⊢
  rw [hu q] at hq ⊢
  split at hq
  · rename_i e
    rw [if_pos e]
    exact ⟨by rw [e, hv_len]; omega, by rw [e, hv_len]; omega, hq, l2⟩
  · rename_i e
    rw [if_neg e]
    exact hR.2 q hq
end Tr
end Go.Proofs.Ytdcbgldelfhohaa
/- The law TreeGone. -/
namespace Go.Proofs.Ytdcbgldelfhohaa
namespace Tr
open Nb Go.RowKit
/-- A node in a box. -/
def NX (h : Nat) (u : V4) (t : Nd) (w : World) : Prop := Bx h u w ∧ Nv (fun _ => True) w t u
theorem NX_below {h : Nat} {u : V4} {t : Nd} {w w' : World} (k : NX h u t w) (b : Below w.heap.size w w') : NX h u t w' := ⟨Bx_below k.1 b, Nv_below k.2 b⟩
theorem pe_zero {t : Nd} {b y : By} (h : Right t) (h1 : b.length ≤ 32) (h2 : y.length ≤ 1024) : pe t b y = 0 := by
  unfold pe mp
  rw [if_pos ((rd_right t).2 h), if_pos h1, if_pos h2]
theorem hv_inj {a b : By} (h : hv a = hv b) : a = b := by
  have := congrArg jn h
  rwa [jn_hv, jn_hv] at this
theorem sn_uniq {a b : Nd} (ha : Right a) (hb : Right b) (h : ∀ q, gt a q = gt b q) : sn a b = true := (sn_bn a b).2 (uniq ha.1 b hb.1 h)
end Tr
end Go.Proofs.Ytdcbgldelfhohaa
/- The law TreeRead. -/
namespace Go.Proofs.Ytdcbgldelfhohaa
namespace Tr
open Nb Go.RowKit
set_option maxHeartbeats 8000000 in
set_option maxRecDepth 100000 in
theorem law_read (t : Nd) (hs : Sm t) (x : V4) (w : World) (hx : Nv (· < w.heap.size) w t x) (hw : wn t ≤ 1048576) (k : By) (kv : Value) (hk : Bs (· < w.heap.size) k kv w) (y : By) (yv : Value) (hy : Bs (· < w.heap.size) y yv w) (o : By) (ov : Value) (ho : Bs (· < w.heap.size) o ov w) :
    Calls Try.prog 8 #[v4 x, kv, yv, ov] w fun e w' => e = .returned (.bool true) ∧ Below w.heap.size w w' := by
  obtain ⟨zk, za1, zn1, zc1, za2, zn2, zc2, za3, zn3, zc3, rfl⟩ := Nv_form hx
  obtain ⟨kp, kc, rfl, _⟩ := Bs_form hk
  obtain ⟨yp, yc, rfl, _⟩ := Bs_form hy
  obtain ⟨op, oc, rfl, _⟩ := Bs_form ho
  have LP : Hid (Lp t) := lp_wn (by omega)
  have bA : Below w.heap.size w (w.alloc (.cells #[.int .i64 zk, .slice za1 zn1 zc1, .slice za2 zn2 zc2, .slice za3 zn3 zc3] 25)) := (Below.refl _ _).alloc (Nat.le_refl _) _
  have Nt : Hid (NX w.heap.size (.int .i64 zk, .slice za1 zn1 zc1, .slice za2 zn2 zc2, .slice za3 zn3 zc3) t (w.alloc (.cells #[.int .i64 zk, .slice za1 zn1 zc1, .slice za2 zn2 zc2, .slice za3 zn3 zc3] 25))) := ⟨Bx_new w (.int .i64 zk, .slice za1 zn1 zc1, .slice za2 zn2 zc2, .slice za3 zn3 zc3), Nv_below (Nv_mono hx (fun _ _ _ => trivial)) bA⟩
  have Bk : Hid (Bs (fun _ => True) k (.slice kp k.length kc) (w.alloc (.cells #[.int .i64 zk, .slice za1 zn1 zc1, .slice za2 zn2 zc2, .slice za3 zn3 zc3] 25))) := Bs_below (Bs_mono hk (fun _ _ _ => trivial)) bA
  have By : Hid (Bs (fun _ => True) y (.slice yp y.length yc) (w.alloc (.cells #[.int .i64 zk, .slice za1 zn1 zc1, .slice za2 zn2 zc2, .slice za3 zn3 zc3] 25))) := Bs_below (Bs_mono hy (fun _ _ _ => trivial)) bA
  have Bo : Hid (Bs (fun _ => True) o (.slice op o.length oc) (w.alloc (.cells #[.int .i64 zk, .slice za1 zn1 zc1, .slice za2 zn2 zc2, .slice za3 zn3 zc3] 25))) := Bs_below (Bs_mono ho (fun _ _ _ => trivial)) bA
  have HB : Hid (Below w.heap.size w (w.alloc (.cells #[.int .i64 zk, .slice za1 zn1 zc1, .slice za2 zn2 zc2, .slice za3 zn3 zc3] 25))) := bA
  clear bA hx hw hk hy ho
  have HSM : Hid (Sm t) := hs
  clear hs
  show Calls Try.prog _ #[.agg #[.int .i64 zk, .slice za1 zn1 zc1, .slice za2 zn2 zc2, .slice za3 zn3 zc3], .slice kp k.length kc, .slice yp y.length yc, .slice op o.length oc] w _
  go_enter Try.func8, Try.ntmps8
  go_wp2_with fail
  refine (alive7_any _).mono ?_
  rintro e w1 ⟨rfl, hb⟩
  replace Nt : Hid (NX (w.heap.size) (.int .i64 zk, .slice za1 zn1 zc1, .slice za2 zn2 zc2, .slice za3 zn3 zc3) (t) w1) := NX_below Nt.out hb
  replace Bk : Hid (Bs (fun _ => True) k (.slice kp k.length kc) w1) := Bs_below Bk.out hb
  replace By : Hid (Bs (fun _ => True) y (.slice yp y.length yc) w1) := Bs_below By.out hb
  replace Bo : Hid (Bs (fun _ => True) o (.slice op o.length oc) w1) := Bs_below Bo.out hb
  replace HB : Hid (Below w.heap.size w w1) := HB.out.trans ((hb).mono HB.out.size)
  clear hb
  have KP : Hid (Calls Try.prog 13 #[.agg #[.int .i64 zk, .slice za1 zn1 zc1, .slice za2 zn2 zc2, .slice za3 zn3 zc3], .slice kp k.length kc, .slice yp y.length yc] w1 fun e w' => ∃ (r : Nd) (u : V4), e = .returned (.tuple #[v4 u, .int .i64 (pe (t) k y)]) ∧ Nv (w1.heap.size ≤ ·) w' r u ∧ PR (t) k y r ∧ Below w1.heap.size w1 w') := tput_lp (t) _ _ _ (.int .i64 zk, .slice za1 zn1 zc1, .slice za2 zn2 zc2, .slice za3 zn3 zc3) w1 Nt.out.2 (LP.out) k _ Bk.out y _ By.out
  have qt0 := Nt.out.1.2.1
  have qt1 := Nt.out.1.2.2.1
  have qt2 := Nt.out.1.2.2.2.1
  have qt3 := Nt.out.1.2.2.2.2
  dsimp only at qt0 qt1 qt2 qt3
  go_wp2_with fail
  refine (KP.out).mono ?_
  rintro e w2 ⟨rx, ux, rfl, hn, hpr, hb⟩
  clear qt0 qt1 qt2 qt3
  obtain ⟨xk, xa1, xn1, xc1, xa2, xn2, xc2, xa3, xn3, xc3, rfl⟩ := Nv_form hn
  have HPx : Hid (PR (t) k y rx) := hpr
  clear hpr KP
  simp only [v4]
  replace Nt : Hid (NX (w.heap.size) (.int .i64 zk, .slice za1 zn1 zc1, .slice za2 zn2 zc2, .slice za3 zn3 zc3) (t) w2) := NX_below Nt.out hb
  replace Bk : Hid (Bs (fun _ => True) k (.slice kp k.length kc) w2) := Bs_below Bk.out hb
  replace By : Hid (Bs (fun _ => True) y (.slice yp y.length yc) w2) := Bs_below By.out hb
  replace Bo : Hid (Bs (fun _ => True) o (.slice op o.length oc) w2) := Bs_below Bo.out hb
  replace HB : Hid (Below w.heap.size w w2) := HB.out.trans ((hb).mono HB.out.size)
  have bA : Below w2.heap.size w2 (w2.alloc (.cells #[.int .i64 xk, .slice xa1 xn1 xc1, .slice xa2 xn2 xc2, .slice xa3 xn3 xc3] 25)) := (Below.refl _ _).alloc (Nat.le_refl _) _
  have Nx : Hid (NX w2.heap.size (.int .i64 xk, .slice xa1 xn1 xc1, .slice xa2 xn2 xc2, .slice xa3 xn3 xc3) rx (w2.alloc (.cells #[.int .i64 xk, .slice xa1 xn1 xc1, .slice xa2 xn2 xc2, .slice xa3 xn3 xc3] 25))) := ⟨Bx_new w2 (.int .i64 xk, .slice xa1 xn1 xc1, .slice xa2 xn2 xc2, .slice xa3 xn3 xc3), Nv_below (Nv_mono hn (fun _ _ _ => trivial)) bA⟩
  clear hn hb
  replace Nt : Hid (NX (w.heap.size) (.int .i64 zk, .slice za1 zn1 zc1, .slice za2 zn2 zc2, .slice za3 zn3 zc3) (t) (w2.alloc (.cells #[.int .i64 xk, .slice xa1 xn1 xc1, .slice xa2 xn2 xc2, .slice xa3 xn3 xc3] 25))) := NX_below Nt.out bA
  replace Bk : Hid (Bs (fun _ => True) k (.slice kp k.length kc) (w2.alloc (.cells #[.int .i64 xk, .slice xa1 xn1 xc1, .slice xa2 xn2 xc2, .slice xa3 xn3 xc3] 25))) := Bs_below Bk.out bA
  replace By : Hid (Bs (fun _ => True) y (.slice yp y.length yc) (w2.alloc (.cells #[.int .i64 xk, .slice xa1 xn1 xc1, .slice xa2 xn2 xc2, .slice xa3 xn3 xc3] 25))) := Bs_below By.out bA
  replace Bo : Hid (Bs (fun _ => True) o (.slice op o.length oc) (w2.alloc (.cells #[.int .i64 xk, .slice xa1 xn1 xc1, .slice xa2 xn2 xc2, .slice xa3 xn3 xc3] 25))) := Bs_below Bo.out bA
  replace HB : Hid (Below w.heap.size w (w2.alloc (.cells #[.int .i64 xk, .slice xa1 xn1 xc1, .slice xa2 xn2 xc2, .slice xa3 xn3 xc3] 25))) := HB.out.trans ((bA).mono HB.out.size)
  clear bA
  obtain ⟨pf, hpf⟩ : ∃ pf, pf = pe t k y := ⟨_, rfl⟩
  rw [← hpf]
  have HF : Hid (pf = pe t k y) := hpf
  clear hpf
  by_cases h1 : pf = 0
  rotate_left
  · have e1 : (pf == 0) = false := beq_eq_false_iff_ne.2 h1
    have hno : rx = Nd.no := by
      have h := HPx.out
      unfold PR at h
      rw [if_neg (by rw [← HF.out]; exact h1)] at h
      exact h
    subst hno
    clear h1
    have KS : Hid (∀ wx : World, Hid (NX w2.heap.size (.int .i64 xk, .slice xa1 xn1 xc1, .slice xa2 xn2 xc2, .slice xa3 xn3 xc3) Nd.no wx) → Calls Try.prog 15 #[.agg #[.int .i64 xk, .slice xa1 xn1 xc1, .slice xa2 xn2 xc2, .slice xa3 xn3 xc3], .agg #[.int .i64 0, .slice none 0 0, .slice none 0 0, .slice none 0 0]] wx fun e w' => e = .returned (.bool true) ∧ Below wx.heap.size wx w') := fun wx hh => by
      have h := same_any (show Sm Nd.no from sm_nil 0 [] []) Nd.no _ (fun _ => True) (.int .i64 xk, .slice xa1 xn1 xc1, .slice xa2 xn2 xc2, .slice xa3 xn3 xc3) (.int .i64 0, .slice none 0 0, .slice none 0 0, .slice none 0 0) _ hh.out.2 (Nv_no _ _)
      rwa [show sn Nd.no Nd.no = true by decide +kernel] at h
    have qx0 := Nx.out.1.2.1
    have qx1 := Nx.out.1.2.2.1
    have qx2 := Nx.out.1.2.2.2.1
    have qx3 := Nx.out.1.2.2.2.2
    dsimp only at qx0 qx1 qx2 qx3
    go_wp2_with fail
    refine (KS.out _ Nx.out).mono ?_
    rintro e w3 ⟨rfl, hb⟩
    clear qx0 qx1 qx2 qx3
    replace HB : Hid (Below w.heap.size w w3) := HB.out.trans (hb.mono HB.out.size)
    clear hb KS
    go_wp2_with fail
    go_ret
    exact ⟨rfl, HB.out⟩
  subst h1
  obtain ⟨hR, hgt, hRt, l1, l2, hlp, _⟩ := pr_ok HPx.out HF.out.symm
  have HGX : Hid (gans rx k = (y, 0)) := by
    show _ = _
    unfold gans
    rw [(rd_right rx).2 hR, if_pos rfl, if_pos l1, hgt, if_pos rfl]
  have HRD : Hid (rd 0 rx = true) := (rd_right rx).2 hR
  have HLX : Hid (Lp rx) := hlp
  have HGO : Hid (o.length ≤ 32 → o ≠ k → gans rx o = (gt t (hv o), 0) ∧ gans t o = (gt t (hv o), 0)) := fun h1 h2 => by
    unfold gans
    rw [(rd_right rx).2 hR, (rd_right t).2 hRt, if_pos rfl, if_pos h1, if_pos rfl, if_pos h1, hgt, if_neg (fun e => h2 (hv_inj e))]
    exact ⟨rfl, rfl⟩
  clear hR hgt hRt l1 l2 hlp HF HPx HSM
  have KG : Hid (Calls Try.prog 11 #[.agg #[.int .i64 xk, .slice xa1 xn1 xc1, .slice xa2 xn2 xc2, .slice xa3 xn3 xc3], .slice kp k.length kc] (w2.alloc (.cells #[.int .i64 xk, .slice xa1 xn1 xc1, .slice xa2 xn2 xc2, .slice xa3 xn3 xc3] 25)) fun e w' => (∃ a c, e = .returned (.tuple #[.slice a y.length c, .int .i64 0]) ∧ Bs (fun _ => True) y (.slice a y.length c) w') ∧ Below (w2.alloc (.cells #[.int .i64 xk, .slice xa1 xn1 xc1, .slice xa2 xn2 xc2, .slice xa3 xn3 xc3] 25)).heap.size (w2.alloc (.cells #[.int .i64 xk, .slice xa1 xn1 xc1, .slice xa2 xn2 xc2, .slice xa3 xn3 xc3] 25)) w') := by
    refine (get_lp (rx) (w2.alloc (.cells #[.int .i64 xk, .slice xa1 xn1 xc1, .slice xa2 xn2 xc2, .slice xa3 xn3 xc3] 25)).heap.size (.int .i64 xk, .slice xa1 xn1 xc1, .slice xa2 xn2 xc2, .slice xa3 xn3 xc3) (w2.alloc (.cells #[.int .i64 xk, .slice xa1 xn1 xc1, .slice xa2 xn2 xc2, .slice xa3 xn3 xc3] 25)) (Nv_mono Nx.out.2 (fun _ _ h => h)) (Nat.le_refl _) (HLX.out) k _ (Bs_mono Bk.out (fun _ _ h => h))).mono fun e w' he => ?_
    rw [HGX.out] at he
    obtain ⟨⟨a, c, h1, h2⟩, h3⟩ := he
    exact ⟨⟨a, c, h1, Bs_mono h2 (fun _ _ _ => trivial)⟩, h3⟩
  have qx0 := Nx.out.1.2.1
  have qx1 := Nx.out.1.2.2.1
  have qx2 := Nx.out.1.2.2.2.1
  have qx3 := Nx.out.1.2.2.2.2
  dsimp only at qx0 qx1 qx2 qx3
  go_wp2_with fail
  refine (KG.out).mono ?_
  rintro e w3 ⟨⟨yga, ygc, rfl, hd⟩, hb⟩
  clear qx0 qx1 qx2 qx3
  replace Nt : Hid (NX (w.heap.size) (.int .i64 zk, .slice za1 zn1 zc1, .slice za2 zn2 zc2, .slice za3 zn3 zc3) (t) w3) := NX_below Nt.out hb
  replace Nx : Hid (NX (w2.heap.size) (.int .i64 xk, .slice xa1 xn1 xc1, .slice xa2 xn2 xc2, .slice xa3 xn3 xc3) (rx) w3) := NX_below Nx.out hb
  replace Bk : Hid (Bs (fun _ => True) k (.slice kp k.length kc) w3) := Bs_below Bk.out hb
  replace By : Hid (Bs (fun _ => True) y (.slice yp y.length yc) w3) := Bs_below By.out hb
  replace Bo : Hid (Bs (fun _ => True) o (.slice op o.length oc) w3) := Bs_below Bo.out hb
  replace HB : Hid (Below w.heap.size w w3) := HB.out.trans ((hb).mono HB.out.size)
  have By_w3 : Hid (Bs (fun _ => True) y (.slice yga y.length ygc) w3) := hd
  clear hd hb KG
  have KT : Hid (Calls Try.prog 9 #[.agg #[.int .i64 xk, .slice xa1 xn1 xc1, .slice xa2 xn2 xc2, .slice xa3 xn3 xc3]] w3 fun e w' => e = .returned (.bool true) ∧ Below w3.heap.size w3 w') := by
    have h := right_lp rx w3.heap.size (.int .i64 xk, .slice xa1 xn1 xc1, .slice xa2 xn2 xc2, .slice xa3 xn3 xc3) w3 (Nv_mono Nx.out.2 (fun _ _ h => h)) (Nat.le_refl _) HLX.out
    rwa [HRD.out] at h
  have qx0 := Nx.out.1.2.1
  have qx1 := Nx.out.1.2.2.1
  have qx2 := Nx.out.1.2.2.2.1
  have qx3 := Nx.out.1.2.2.2.2
  dsimp only at qx0 qx1 qx2 qx3
  go_wp2_with fail
  refine (KT.out).mono ?_
  rintro e w4 ⟨rfl, hb⟩
  clear qx0 qx1 qx2 qx3
  replace Nt : Hid (NX (w.heap.size) (.int .i64 zk, .slice za1 zn1 zc1, .slice za2 zn2 zc2, .slice za3 zn3 zc3) (t) w4) := NX_below Nt.out hb
  replace Nx : Hid (NX (w2.heap.size) (.int .i64 xk, .slice xa1 xn1 xc1, .slice xa2 xn2 xc2, .slice xa3 xn3 xc3) (rx) w4) := NX_below Nx.out hb
  replace Bk : Hid (Bs (fun _ => True) k (.slice kp k.length kc) w4) := Bs_below Bk.out hb
  replace By : Hid (Bs (fun _ => True) y (.slice yp y.length yc) w4) := Bs_below By.out hb
  replace Bo : Hid (Bs (fun _ => True) o (.slice op o.length oc) w4) := Bs_below Bo.out hb
  replace By_w3 : Hid (Bs (fun _ => True) y (.slice yga y.length ygc) w4) := Bs_below By_w3.out hb
  replace HB : Hid (Below w.heap.size w w4) := HB.out.trans ((hb).mono HB.out.size)
  clear hb KT HRD
  have x1 := Sl_st (Bs_sl By_w3.out)
  have x2 := Sl_st (Bs_sl By.out)
  have s1 := st_eq y y
  rw [decide_eq_true rfl] at s1
  by_cases ho : o.length ≤ 32
  rotate_left
  · have d1 : decide ((32 : Int) < (o.length : Int)) = true := decide_eq_true (by omega)
    have d2 : decide (32 < o.length) = true := decide_eq_true (by omega)
    clear ho
    generalize Tr.st y = Y at *
    generalize o.length = on at *
    go_wp2_with fail
    go_ret
    exact ⟨rfl, HB.out⟩
  have d1 : decide ((32 : Int) < (o.length : Int)) = false := decide_eq_false (by omega)
  have d2 : decide (32 < o.length) = false := decide_eq_false (by omega)
  have x3 := Sl_st (Bs_sl Bo.out)
  have x4 := Sl_st (Bs_sl Bk.out)
  have s2 := st_eq o k
  by_cases hok : o = k
  · rw [decide_eq_true hok] at s2
    clear ho hok HGO
    generalize Tr.st y = Y at *
    generalize Tr.st o = O at *
    generalize Tr.st k = K at *
    generalize o.length = on at *
    go_wp2_with fail
    go_ret
    exact ⟨rfl, HB.out⟩
  rw [decide_eq_false hok] at s2
  obtain ⟨g1, g2⟩ := HGO.out ho hok
  have HG1 : Hid (gans rx o = (gt t (hv o), 0)) := g1
  have HG2 : Hid (gans t o = (gt t (hv o), 0)) := g2
  clear ho hok g1 g2 HGO HGX
  generalize hgd : gt t (hv o) = d at *
  generalize Tr.st y = Y at *
  generalize Tr.st o = O at *
  generalize Tr.st k = K at *
  clear hgd
  have KG : Hid (Calls Try.prog 11 #[.agg #[.int .i64 xk, .slice xa1 xn1 xc1, .slice xa2 xn2 xc2, .slice xa3 xn3 xc3], .slice op o.length oc] w4 fun e w' => (∃ a c, e = .returned (.tuple #[.slice a d.length c, .int .i64 0]) ∧ Bs (fun _ => True) d (.slice a d.length c) w') ∧ Below w4.heap.size w4 w') := by
    refine (get_lp (rx) w4.heap.size (.int .i64 xk, .slice xa1 xn1 xc1, .slice xa2 xn2 xc2, .slice xa3 xn3 xc3) w4 (Nv_mono Nx.out.2 (fun _ _ h => h)) (Nat.le_refl _) (HLX.out) o _ (Bs_mono Bo.out (fun _ _ h => h))).mono fun e w' he => ?_
    rw [HG1.out] at he
    obtain ⟨⟨a, c, h1, h2⟩, h3⟩ := he
    exact ⟨⟨a, c, h1, Bs_mono h2 (fun _ _ _ => trivial)⟩, h3⟩
  have qx0 := Nx.out.1.2.1
  have qx1 := Nx.out.1.2.2.1
  have qx2 := Nx.out.1.2.2.2.1
  have qx3 := Nx.out.1.2.2.2.2
  dsimp only at qx0 qx1 qx2 qx3
  go_wp2_with fail
  refine (KG.out).mono ?_
  rintro e w5 ⟨⟨dga, dgc, rfl, hd⟩, hb⟩
  clear qx0 qx1 qx2 qx3
  replace Nt : Hid (NX (w.heap.size) (.int .i64 zk, .slice za1 zn1 zc1, .slice za2 zn2 zc2, .slice za3 zn3 zc3) (t) w5) := NX_below Nt.out hb
  replace Nx : Hid (NX (w2.heap.size) (.int .i64 xk, .slice xa1 xn1 xc1, .slice xa2 xn2 xc2, .slice xa3 xn3 xc3) (rx) w5) := NX_below Nx.out hb
  replace Bk : Hid (Bs (fun _ => True) k (.slice kp k.length kc) w5) := Bs_below Bk.out hb
  replace By : Hid (Bs (fun _ => True) y (.slice yp y.length yc) w5) := Bs_below By.out hb
  replace Bo : Hid (Bs (fun _ => True) o (.slice op o.length oc) w5) := Bs_below Bo.out hb
  replace By_w3 : Hid (Bs (fun _ => True) y (.slice yga y.length ygc) w5) := Bs_below By_w3.out hb
  replace HB : Hid (Below w.heap.size w w5) := HB.out.trans ((hb).mono HB.out.size)
  have Bd_w5 : Hid (Bs (fun _ => True) d (.slice dga d.length dgc) w5) := hd
  clear hd hb KG
  clear x1 x2 x3 x4 s1 s2 d1 d2 HG1
  have KG : Hid (Calls Try.prog 11 #[.agg #[.int .i64 zk, .slice za1 zn1 zc1, .slice za2 zn2 zc2, .slice za3 zn3 zc3], .slice op o.length oc] w5 fun e w' => (∃ a c, e = .returned (.tuple #[.slice a d.length c, .int .i64 0]) ∧ Bs (fun _ => True) d (.slice a d.length c) w') ∧ Below w5.heap.size w5 w') := by
    refine (get_lp t w5.heap.size (.int .i64 zk, .slice za1 zn1 zc1, .slice za2 zn2 zc2, .slice za3 zn3 zc3) w5 (Nv_mono Nt.out.2 (fun _ _ h => h)) (Nat.le_refl _) LP.out o _ (Bs_mono Bo.out (fun _ _ h => h))).mono fun e w' he => ?_
    rw [HG2.out] at he
    obtain ⟨⟨a, c, h1, h2⟩, h3⟩ := he
    exact ⟨⟨a, c, h1, Bs_mono h2 (fun _ _ _ => trivial)⟩, h3⟩
  have qt0 := Nt.out.1.2.1
  have qt1 := Nt.out.1.2.2.1
  have qt2 := Nt.out.1.2.2.2.1
  have qt3 := Nt.out.1.2.2.2.2
  dsimp only at qt0 qt1 qt2 qt3
  go_wp2_with fail
  refine (KG.out).mono ?_
  rintro e w6 ⟨⟨fa, fc, rfl, hd⟩, hb⟩
  clear qt0 qt1 qt2 qt3
  replace Nt : Hid (NX (w.heap.size) (.int .i64 zk, .slice za1 zn1 zc1, .slice za2 zn2 zc2, .slice za3 zn3 zc3) (t) w6) := NX_below Nt.out hb
  replace Nx : Hid (NX (w2.heap.size) (.int .i64 xk, .slice xa1 xn1 xc1, .slice xa2 xn2 xc2, .slice xa3 xn3 xc3) (rx) w6) := NX_below Nx.out hb
  replace Bk : Hid (Bs (fun _ => True) k (.slice kp k.length kc) w6) := Bs_below Bk.out hb
  replace By : Hid (Bs (fun _ => True) y (.slice yp y.length yc) w6) := Bs_below By.out hb
  replace Bo : Hid (Bs (fun _ => True) o (.slice op o.length oc) w6) := Bs_below Bo.out hb
  replace By_w3 : Hid (Bs (fun _ => True) y (.slice yga y.length ygc) w6) := Bs_below By_w3.out hb
  replace Bd_w5 : Hid (Bs (fun _ => True) d (.slice dga d.length dgc) w6) := Bs_below Bd_w5.out hb
  replace HB : Hid (Below w.heap.size w w6) := HB.out.trans ((hb).mono HB.out.size)
  have x5 := Sl_st (Bs_sl hd)
  have x6 := Sl_st (Bs_sl Bd_w5.out)
  have s1 := st_eq d d
  rw [decide_eq_true rfl] at s1
  clear hd hb KG
  generalize Tr.st d = DD at *
  generalize d.length = dn at *
  go_wp2_with fail
  go_ret
  exact ⟨rfl, HB.out⟩
end Tr
end Go.Proofs.Ytdcbgldelfhohaa
/- The law TreeGets. -/
namespace Go.Proofs.Ytdcbgldelfhohaa
namespace Tr
open Nb Go.RowKit
theorem vw_bs {b : By} {ao : Option Addr} {cap : Nat} {w : World} (hc : b.length ≤ cap) (h : Sp.Vw b ao w) : Bs (· < w.heap.size) b (.slice ao b.length cap) w :=
  ⟨ao, cap, rfl, hc, fun h0 => by
    obtain ⟨g, off, e, hg, hj⟩ := h h0
    exact ⟨g, off, e, hg, hg, hj⟩⟩
set_option maxHeartbeats 2000000 in
set_option maxRecDepth 100000 in
theorem law_gets (t : Nd) (hs : Sm t) (x : V4) (w : World) (hx : Nv (· < w.heap.size) w t x) (hw : wn t ≤ 1048576) (b : By) (kv : Value) (hb : Bs (· < w.heap.size) b kv w) :
    Calls Try.prog 4 #[v4 x, kv] w fun e w' => e = .returned (.bool true) ∧ Below w.heap.size w w' := by
  obtain ⟨k, a1, n1, c1, a2, m2, c2, a3, n3, c3, rfl⟩ := Nv_form hx
  obtain ⟨ak, ck, rfl, _⟩ := Bs_form hb
  have N0 := NB_new hx (Nat.le_refl _)
  have B0 := Bs_below hb N0.b
  have KX : Hid (∀ wx : World, NB w.heap.size (.int .i64 k, .slice a1 n1 c1, .slice a2 m2 c2, .slice a3 n3 c3) t w.heap.size w wx → Bs (· < w.heap.size) b (.slice ak b.length ck) wx → Calls Try.prog 11 #[.agg #[.int .i64 k, .slice a1 n1 c1, .slice a2 m2 c2, .slice a3 n3 c3], .slice ak b.length ck] wx fun e w' => (∃ a c, e = .returned (.tuple #[.slice a (gans t b).1.length c, .int .i64 (gans t b).2]) ∧ Bs (fun _ => True) (gans t b).1 (.slice a (gans t b).1.length c) w') ∧ Below wx.heap.size wx w') := fun wx hn hk => by
    refine (get_any t w.heap.size (.int .i64 k, .slice a1 n1 c1, .slice a2 m2 c2, .slice a3 n3 c3) wx hn.n hn.l (by omega) b _ hk).mono fun e w' he => ?_
    obtain ⟨⟨a, c, h1, h2⟩, h3⟩ := he
    exact ⟨⟨a, c, h1, Bs_mono h2 (fun _ _ _ => trivial)⟩, h3⟩
  have KY : Hid (∀ wx : World, NB w.heap.size (.int .i64 k, .slice a1 n1 c1, .slice a2 m2 c2, .slice a3 n3 c3) t w.heap.size w wx → Bs (· < w.heap.size) b (.slice ak b.length ck) wx → Calls Try.prog 12 #[.agg #[.int .i64 k, .slice a1 n1 c1, .slice a2 m2 c2, .slice a3 n3 c3], .slice ak b.length ck] wx fun e w' => (∃ a c, e = .returned (.tuple #[.slice a (gans t b).1.length c, .int .i64 (gans t b).2]) ∧ Bs (fun _ => True) (gans t b).1 (.slice a (gans t b).1.length c) w') ∧ Below wx.heap.size wx w') := fun wx hn hk =>
    gget_any t hs _ _ (.int .i64 k, .slice a1 n1 c1, .slice a2 m2 c2, .slice a3 n3 c3) wx hn.n hw b _ hk
  have R0 : Hid (NB w.heap.size (.int .i64 k, .slice a1 n1 c1, .slice a2 m2 c2, .slice a3 n3 c3) t w.heap.size w (w.alloc (.cells #[.int .i64 k, .slice a1 n1 c1, .slice a2 m2 c2, .slice a3 n3 c3] 25))) := N0
  have HK : Hid (Bs (· < w.heap.size) b (.slice ak b.length ck) (w.alloc (.cells #[.int .i64 k, .slice a1 n1 c1, .slice a2 m2 c2, .slice a3 n3 c3] 25))) := B0
  clear B0 N0 hx hw hs hb
  generalize gans t b = r at *
  obtain ⟨rb, re⟩ := r
  dsimp only at *
  show Calls Try.prog _ #[.agg #[.int .i64 k, .slice a1 n1 c1, .slice a2 m2 c2, .slice a3 n3 c3], .slice ak b.length ck] w _
  have q0 := R0.out.bx.2.1
  have q1 := R0.out.bx.2.2.1
  have q2 := R0.out.bx.2.2.2.1
  have q3 := R0.out.bx.2.2.2.2
  dsimp only at q0 q1 q2 q3
  generalize hW : (w.alloc (.cells #[.int .i64 k, .slice a1 n1 c1, .slice a2 m2 c2, .slice a3 n3 c3] 25)) = W1 at *
  go_enter Try.func4, Try.ntmps4
  go_wp2_with fail
  refine (KX.out _ R0.out HK.out).mono ?_
  rintro e w1 ⟨⟨xa, xc, rfl, hx1⟩, hb1⟩
  have R1 : Hid (NB w.heap.size (.int .i64 k, .slice a1 n1 c1, .slice a2 m2 c2, .slice a3 n3 c3) t w.heap.size w w1) := NB_below R0.out hb1
  have HK1 : Hid (Bs (· < w.heap.size) b (.slice ak b.length ck) w1) := Bs_below HK.out hb1
  have HX1 : Hid (Bs (fun _ => True) rb (.slice xa rb.length xc) w1) := hx1
  replace q0 := R1.out.bx.2.1
  replace q1 := R1.out.bx.2.2.1
  replace q2 := R1.out.bx.2.2.2.1
  replace q3 := R1.out.bx.2.2.2.2
  dsimp only at q0 q1 q2 q3
  clear hb1 hx1 R0 HK KX hW
  go_wp2_with fail
  refine (KY.out _ R1.out HK1.out).mono ?_
  rintro e w2 ⟨⟨ya, yc, rfl, hy2⟩, hb2⟩
  have HZ : Hid (Below w.heap.size w w2) := (NB_below R1.out hb2).b
  have cx := Sl_st (Bs_sl (Bs_below HX1.out hb2))
  have cy := Sl_st (Bs_sl hy2)
  have cb : (re == re) = true := beq_self_eq_true re
  have cl : (rb == rb) = true := beq_self_eq_true rb
  have cs := st_list rb
  clear hb2 hy2 R1 HK1 HX1 KY q0 q1 q2 q3
  go_wp2_with fail
  go_ret
  exact ⟨rfl, HZ.out⟩
end Tr
end Go.Proofs.Ytdcbgldelfhohaa
