/- lampbearerref.GGet. -/
import Derived.Test.YtdcbgldelfhohaaPackF
import Derived.Test.YtdcbgldelfhohaaPackA
import Derived.Test.YtdcbgldelfhohaaPackE
import Derived.Shelf.SlGeneric
import Derived.Shelf.SlSortCmp.WholeK
import Derived.Ground.SlsfProg
import Derived.Test.YtdcbgldelfhohaaProg
import Derived.Sort.OwnSorted
namespace Go.Proofs.Ytdcbgldelfhohaa
namespace Tr
open Nb Go.RowKit
theorem nhalves_bs {S : Nat → Prop} {b : By} {v : Value} {w : World} (hb : Bs S b v w) (hl : b.length ≤ 2097152) : Calls Try.prog 28 #[v] w fun e w' => ∃ a n c, e = .returned (.slice a n c) ∧ Pk.Sl (hv b) (.slice a n c) w' ∧ Below w.heap.size w w' := by
  obtain ⟨ao, cap, h1, _, vw⟩ := Bs_sl hb
  subst h1
  refine (nhalves_any b ao cap w hl vw).mono fun e w' he => ?_
  obtain ⟨v, h1, h2, h3⟩ := he
  have h4 := Bs_sl (own_bs h2)
  have h5 := h4
  obtain ⟨a, c, rfl, _⟩ := h5
  exact ⟨a, _, c, h1, h4, h3⟩
theorem slc_bs {b : By} {v : Value} {w : World} (h : SlC b v w) : Bs (fun _ => True) b v w := by
  obtain ⟨ao, cap, h1, h2, _, h3⟩ := h
  refine ⟨ao, cap, h1, h2, fun h0 => ?_⟩
  obtain ⟨k, off, e, hlt, hc⟩ := h3 h0
  exact ⟨k, off, e, trivial, hlt, hc⟩
theorem st_eq (a b : By) : ((st a).toList == (st b).toList) = decide (a = b) := by
  rw [st_list, st_list, Bool.eq_iff_iff, beq_iff_eq, decide_eq_true_iff]
set_option maxHeartbeats 2000000 in
set_option maxRecDepth 100000 in
theorem gg_form (k : Int) (a1 a2 a3 ak : Option Addr) (n1 c1 m2 c2 n3 c3 nk ck : Nat) (w : World) (KG0 : ∀ wx : World, Below w.heap.size w wx → Calls Try.prog 10 #[.agg #[.int .i64 k, .slice a1 n1 c1, .slice a2 m2 c2, .slice a3 n3 c3]] wx fun e w' => e = .returned (.bool false) ∧ Below wx.heap.size wx w') :
    Calls Try.prog 12 #[.agg #[.int .i64 k, .slice a1 n1 c1, .slice a2 m2 c2, .slice a3 n3 c3], .slice ak nk ck] w fun e w' => e = .returned (.tuple #[.slice none 0 0, .int .i64 1]) ∧ Below w.heap.size w w' := by
  have HB : Below w.heap.size w (w.alloc (.cells #[.int .i64 k, .slice a1 n1 c1, .slice a2 m2 c2, .slice a3 n3 c3] 25)) := (Below.refl _ _).alloc (Nat.le_refl _) _
  obtain ⟨_, q0, q1, q2, q3⟩ := Bx_new w (.int .i64 k, .slice a1 n1 c1, .slice a2 m2 c2, .slice a3 n3 c3)
  dsimp only at q0 q1 q2 q3
  have KG : Hid (Calls Try.prog 10 #[.agg #[.int .i64 k, .slice a1 n1 c1, .slice a2 m2 c2, .slice a3 n3 c3]] (w.alloc (.cells #[.int .i64 k, .slice a1 n1 c1, .slice a2 m2 c2, .slice a3 n3 c3] 25)) fun e w' => e = .returned (.bool false) ∧ Below (w.alloc (.cells #[.int .i64 k, .slice a1 n1 c1, .slice a2 m2 c2, .slice a3 n3 c3] 25)).heap.size (w.alloc (.cells #[.int .i64 k, .slice a1 n1 c1, .slice a2 m2 c2, .slice a3 n3 c3] 25)) w') := KG0 _ HB
  have HBB : Hid (Below w.heap.size w (w.alloc (.cells #[.int .i64 k, .slice a1 n1 c1, .slice a2 m2 c2, .slice a3 n3 c3] 25))) := HB
  clear KG0 HB
  go_enter Try.func12, Try.ntmps12
  go_wp2_with fail
  refine KG.out.mono ?_
  rintro e w1 ⟨rfl, hb1⟩
  have HZ : Hid (Below w.heap.size w w1) := HBB.out.trans (hb1.mono HBB.out.size)
  clear hb1
  go_wp2_with fail
  go_ret2
  exact ⟨rfl, HZ.out⟩
set_option maxHeartbeats 2000000 in
set_option maxRecDepth 100000 in
theorem gg_key (k : Int) (a1 a2 a3 ak : Option Addr) (n1 c1 m2 c2 n3 c3 nk ck : Nat) (w : World) (KG0 : ∀ wx : World, Below w.heap.size w wx → Calls Try.prog 10 #[.agg #[.int .i64 k, .slice a1 n1 c1, .slice a2 m2 c2, .slice a3 n3 c3]] wx fun e w' => e = .returned (.bool true) ∧ Below wx.heap.size wx w') (hk : ¬ nk ≤ 32) :
    Calls Try.prog 12 #[.agg #[.int .i64 k, .slice a1 n1 c1, .slice a2 m2 c2, .slice a3 n3 c3], .slice ak nk ck] w fun e w' => e = .returned (.tuple #[.slice none 0 0, .int .i64 3]) ∧ Below w.heap.size w w' := by
  have HB : Below w.heap.size w (w.alloc (.cells #[.int .i64 k, .slice a1 n1 c1, .slice a2 m2 c2, .slice a3 n3 c3] 25)) := (Below.refl _ _).alloc (Nat.le_refl _) _
  obtain ⟨_, q0, q1, q2, q3⟩ := Bx_new w (.int .i64 k, .slice a1 n1 c1, .slice a2 m2 c2, .slice a3 n3 c3)
  dsimp only at q0 q1 q2 q3
  have KG : Hid (Calls Try.prog 10 #[.agg #[.int .i64 k, .slice a1 n1 c1, .slice a2 m2 c2, .slice a3 n3 c3]] (w.alloc (.cells #[.int .i64 k, .slice a1 n1 c1, .slice a2 m2 c2, .slice a3 n3 c3] 25)) fun e w' => e = .returned (.bool true) ∧ Below (w.alloc (.cells #[.int .i64 k, .slice a1 n1 c1, .slice a2 m2 c2, .slice a3 n3 c3] 25)).heap.size (w.alloc (.cells #[.int .i64 k, .slice a1 n1 c1, .slice a2 m2 c2, .slice a3 n3 c3] 25)) w') := KG0 _ HB
  have HBB : Hid (Below w.heap.size w (w.alloc (.cells #[.int .i64 k, .slice a1 n1 c1, .slice a2 m2 c2, .slice a3 n3 c3] 25))) := HB
  have d9 : decide ((32 : Int) < (nk : Int)) = true := decide_eq_true (by omega)
  have d8 : decide (32 < nk) = true := decide_eq_true (by omega)
  clear KG0 HB hk
  go_enter Try.func12, Try.ntmps12
  go_wp2_with fail
  refine KG.out.mono ?_
  rintro e w1 ⟨rfl, hb1⟩
  have HZ : Hid (Below w.heap.size w w1) := HBB.out.trans (hb1.mono HBB.out.size)
  clear hb1
  go_wp2_with fail
  go_ret2
  exact ⟨rfl, HZ.out⟩
inductive GGR (W0 : World) (kh : By) (X Y : ByteArray) (k : Int) (a1 a2 a3 ak : Option Addr) (n1 c1 m2 c2 n3 c3 nk ck g0 g off n lc j g9 : Nat) (v33 v34 v35 v36 v4' v5' : Value) (B : Bool) (d : Nat → Bool) (x : Act) (wx : World) : Prop where
  | mk (u27 u28 u29 u30 u31 u32 : Value) (hx : x = { tmps := #[.agg #[.int .i64 k, .slice a1 n1 c1, .slice a2 m2 c2, .slice a3 n3 c3], .slice ak nk ck, .pointer (some ⟨g0, 0, none⟩), undef, v4', v5', .slice (some ⟨g, off, none⟩) n lc, .bool true, undef, .pointer (some ⟨g9, 0, none⟩), .agg #[.int .i64 k, .slice a1 n1 c1, .slice a2 m2 c2, .slice a3 n3 c3], .bool true, .bool false, .slice ak nk ck, .int .i64 (nk : Int), .bool false, .tuple #[.slice (some ⟨g, off, none⟩) n lc, .bool true], .agg #[.int .i64 k, .slice a1 n1 c1, .slice a2 m2 c2, .slice a3 n3 c3], .tuple #[.slice (some ⟨g, off, none⟩) n lc, .bool true], .slice (some ⟨g, off, none⟩) n lc, .bool true, .slice (some ⟨g, off, none⟩) n lc, .int .i64 (n : Int), .int .i64 (j : Int), .bool true, .pointer (some ⟨g, off + j * 2, none⟩), .agg #[.string X, .string Y], u27, u28, u29, u30, u31, u32, v33, v34, v35, v36], defers := [] }) (hw : Below W0.heap.size W0 wx) (p0 : d 0 = true → u27 = .pointer (some ⟨g9, 0, none⟩)) (p1 : d 1 = true → u28 = .string X) (p2 : d 2 = true → u29 = .slice ak nk ck) (p4 : d 4 = true → u31 = .string (st kh)) (p5 : d 5 = true → u32 = .bool B) (z3 : d 3 = true → ∃ a n c, u30 = .slice a n c ∧ Pk.Sl kh (.slice a n c) wx) : GGR W0 kh X Y k a1 a2 a3 ak n1 c1 m2 c2 n3 c3 nk ck g0 g off n lc j g9 v33 v34 v35 v36 v4' v5' B d x wx
set_option maxHeartbeats 2000000 in
set_option maxRecDepth 100000 in
theorem gg_value (k : Int) (a1 a2 a3 ak : Option Addr) (n1 c1 m2 c2 n3 c3 nk ck : Nat) (w : World) (KG0 : ∀ wx : World, Below w.heap.size w wx → Calls Try.prog 10 #[.agg #[.int .i64 k, .slice a1 n1 c1, .slice a2 m2 c2, .slice a3 n3 c3]] wx fun e w' => e = .returned (.bool true) ∧ Below wx.heap.size wx w') (hk : nk ≤ 32) (l : Rt) (kh b : By) (HL : Hid (l.length ≤ 1048576))
    (KR0 : ∀ wx : World, Below w.heap.size w wx → Calls Try.prog 23 #[.agg #[.int .i64 k, .slice a1 n1 c1, .slice a2 m2 c2, .slice a3 n3 c3], .string ⟨#[]⟩] wx fun e w' => ∃ la n lc, e = .returned (.tuple #[.slice la n lc, .bool true]) ∧ (n = l.length ∧ Rv l (.slice la n lc) w') ∧ Below wx.heap.size wx w')
    (KH0 : Hid (∀ wx : World, Below w.heap.size w wx → Calls Try.prog 28 #[.slice ak nk ck] wx fun e w' => ∃ a n c, e = .returned (.slice a n c) ∧ Pk.Sl kh (.slice a n c) w' ∧ Below wx.heap.size wx w'))
    (i0 : Nat) (HI : Hid (i0 ≤ l.length)) (HM : Hid (∀ j, j < i0 → (l.getD j n2).1 ≠ kh)) (HE : Hid (i0 < l.length → (l.getD i0 n2).1 = kh ∧ (l.getD i0 n2).2 = b)) (HF : Hid (i0 = l.length → b = [])) (HBL : Hid (b.length ≤ 4194304)) :
    Calls Try.prog 12 #[.agg #[.int .i64 k, .slice a1 n1 c1, .slice a2 m2 c2, .slice a3 n3 c3], .slice ak nk ck] w fun e w' => (∃ a c, e = .returned (.tuple #[.slice a b.length c, .int .i64 0]) ∧ Bs (fun _ => True) b (.slice a b.length c) w') ∧ Below w.heap.size w w' := by
  have HB : Below w.heap.size w (w.alloc (.cells #[.int .i64 k, .slice a1 n1 c1, .slice a2 m2 c2, .slice a3 n3 c3] 25)) := (Below.refl _ _).alloc (Nat.le_refl _) _
  obtain ⟨_, q0, q1, q2, q3⟩ := Bx_new w (.int .i64 k, .slice a1 n1 c1, .slice a2 m2 c2, .slice a3 n3 c3)
  dsimp only at q0 q1 q2 q3
  have KG : Hid (Calls Try.prog 10 #[.agg #[.int .i64 k, .slice a1 n1 c1, .slice a2 m2 c2, .slice a3 n3 c3]] (w.alloc (.cells #[.int .i64 k, .slice a1 n1 c1, .slice a2 m2 c2, .slice a3 n3 c3] 25)) fun e w' => e = .returned (.bool true) ∧ Below (w.alloc (.cells #[.int .i64 k, .slice a1 n1 c1, .slice a2 m2 c2, .slice a3 n3 c3] 25)).heap.size (w.alloc (.cells #[.int .i64 k, .slice a1 n1 c1, .slice a2 m2 c2, .slice a3 n3 c3] 25)) w') := KG0 _ HB
  have HBB : Hid (Below w.heap.size w (w.alloc (.cells #[.int .i64 k, .slice a1 n1 c1, .slice a2 m2 c2, .slice a3 n3 c3] 25))) := HB
  have KR1 : Hid (∀ wx : World, Below w.heap.size w wx → Calls Try.prog 23 #[.agg #[.int .i64 k, .slice a1 n1 c1, .slice a2 m2 c2, .slice a3 n3 c3], .string ⟨#[]⟩] wx fun e w' => ∃ la n lc, e = .returned (.tuple #[.slice la n lc, .bool true]) ∧ (n = l.length ∧ Rv l (.slice la n lc) w') ∧ Below wx.heap.size wx w') := KR0
  have d9 : decide ((32 : Int) < (nk : Int)) = false := decide_eq_false (by omega)
  have d8 : decide (32 < nk) = false := decide_eq_false (by omega)
  have hh' : w.heap.size < (w.alloc (.cells #[.int .i64 k, .slice a1 n1 c1, .slice a2 m2 c2, .slice a3 n3 c3] 25)).heap.size := by simp
  clear KG0 HB hk KR0
  go_enter Try.func12, Try.ntmps12
  go_wp2_with fail
  refine KG.out.mono ?_
  rintro e w1 ⟨rfl, hb1⟩
  have HZ : Hid (Below w.heap.size w w1) := HBB.out.trans (hb1.mono HBB.out.size)
  replace q0 := (hb1.cell (p := ⟨w.heap.size, 0, none⟩) hh').trans q0
  replace q1 := (hb1.cell (p := ⟨w.heap.size, 1, none⟩) hh').trans q1
  replace q2 := (hb1.cell (p := ⟨w.heap.size, 2, none⟩) hh').trans q2
  replace q3 := (hb1.cell (p := ⟨w.heap.size, 3, none⟩) hh').trans q3
  clear hb1 hh' KG HBB
  have KR2 : Hid (∀ W : World, W = w1 → Calls Try.prog 23 #[.agg #[.int .i64 k, .slice a1 n1 c1, .slice a2 m2 c2, .slice a3 n3 c3], .string ⟨#[]⟩] W fun e w' => ∃ la n lc, e = .returned (.tuple #[.slice la n lc, .bool true]) ∧ (n = l.length ∧ Rv l (.slice la n lc) w') ∧ Below w.heap.size w w') := fun W e => by
    subst e
    refine (KR1.out W HZ.out).mono fun e w' he => ?_
    obtain ⟨la, n, lc, h1, h2, h3⟩ := he
    exact ⟨la, n, lc, h1, h2, HZ.out.trans (h3.mono HZ.out.size)⟩
  clear KR1
  go_wp2_with fail
  refine (KR2.out _ rfl).mono ?_
  rintro e W0 ⟨la, n, lc, rfl, hx0, bR⟩
  have hx : Hid _ := hx0
  have BW0 : Hid (Below w.heap.size w W0) := bR
  clear hx0 KR2 bR q0 q1 q2 q3 HZ
  generalize hg0 : w.heap.size = g0 at *
  go_wp2_with fail
  go_loopw [23] (fun i wr => ∃ j : Nat, j ≤ i0 ∧ i = .int .i64 (j : Int) ∧ Below W0.heap.size W0 wr) (fun i _ => ((n : Int) - intOf i).toNat)
  case atStart => exact ⟨0, Nat.zero_le _, rfl, Below.refl _ _⟩
  case round =>
    obtain ⟨j, hj, rfl, hB⟩ := hrel
    have hin : i0 ≤ n := by have := hx.out.1; have := HI.out; omega
    by_cases hlt : j < n
    · have d0 : decide ((j : Int) < (n : Int)) = true := decide_eq_true (by omega)
      have d1 : (0 : Int) ≤ (j : Int) := by omega
      have d2 : (j : Int) < (n : Int) := by omega
      have hjl : j < l.length := by have := hx.out.1; omega
      obtain ⟨a', cap', e2, -, hq⟩ := hx.out.2
      obtain ⟨g, off, rfl, hg, hcell⟩ := hq (by omega)
      injection e2 with e2 e2' e2''
      subst e2
      clear e2' e2''
      obtain ⟨x0, x1⟩ := hcell j hjl
      have y0 := (hB.cell (p := ⟨g, off + 2 * j, none⟩) hg).trans x0
      have y1 := (hB.cell (p := ⟨g, off + 2 * j + 1, none⟩) hg).trans x1
      have hg2 : g < wr.heap.size := Nat.lt_of_lt_of_le hg hB.size
      rw [Nat.mul_comm 2 j] at y0 y1
      have e5 : Hid (wrap64 ((j : Int) + 1) = ((j + 1 : Nat) : Int)) := by have := hx.out.1; have := HL.out; show _ = _; unfold wrap64; omega
      have B2 : Hid (Below W0.heap.size W0 (wr.alloc (.cells #[.string (st (l.getD j n2).1), .string (st (l.getD j n2).2)] 51))) := hB.alloc hB.size _
      have HA := heap_alloc_new wr (.cells #[.string (st (l.getD j n2).1), .string (st (l.getD j n2).2)] 51)
      have r0 : (wr.alloc (.cells #[.string (st (l.getD j n2).1), .string (st (l.getD j n2).2)] 51)).cell? ⟨wr.heap.size, 0, none⟩ = some (.string (st (l.getD j n2).1)) := by simp only [World.cell?, HA]; rfl
      have r1 : (wr.alloc (.cells #[.string (st (l.getD j n2).1), .string (st (l.getD j n2).2)] 51)).cell? ⟨wr.heap.size, 1, none⟩ = some (.string (st (l.getD j n2).2)) := by simp only [World.cell?, HA]; rfl
      have h9 : wr.heap.size < (wr.alloc (.cells #[.string (st (l.getD j n2).1), .string (st (l.getD j n2).2)] 51)).heap.size := by simp
      have hne : Hid (j < i0 → (l.getD j n2).1 ≠ kh) := fun h => HM.out j h
      have hyes : Hid (j = i0 → (l.getD j n2).1 = kh ∧ (l.getD j n2).2 = b) := fun h => by subst h; exact HE.out hjl
      clear HA hq hcell x0 x1
      generalize l.getD j n2 = r at *
      obtain ⟨rp, rv⟩ := r
      dsimp only at *
      have hse := st_eq rp kh
      generalize hX : st rp = X at *
      generalize hY : st rv = Y at *
      go_upto_region 9 with fail
      generalize (wr.alloc (.cells #[.string X, .string Y] 51)) = W1 at *
      generalize wr.heap.size = g9 at *
      have hw0 : Below W1.heap.size W1 W1.drew := (Below.refl _ _).drew
      have KH : Hid (∀ wx : World, Below W1.heap.size W1 wx → Calls Try.prog 28 #[.slice ak nk ck] wx fun e w' => ∃ a n c, e = .returned (.slice a n c) ∧ Pk.Sl kh (.slice a n c) w' ∧ Below wx.heap.size wx w') := fun wx hb => KH0.out wx (by
        have h1 := BW0.out.trans (B2.out.mono (by have := BW0.out.size; omega))
        exact h1.trans (hb.mono (by have := h1.size; omega)))
      refine RI.wp_region_inv (GGR W1 kh X Y k a1 a2 a3 ak n1 c1 m2 c2 n3 c3 nk ck g0 g off n lc j g9 u33 u34 u35 u36 u4 u5 (decide (rp = kh))) (by kernel_rfl) (by kernel_rfl) ?_ ?_ ?_
      · exact ⟨_, _, _, _, _, _, rfl, hw0, nofun, nofun, nofun, nofun, nofun, nofun⟩
      · skip
        intro d x wx i hI hi hm
        obtain ⟨u27, u28, u29, u30, u31, u32, rfl, hw, p0, p1, p2, p4, p5, z3⟩ := hI
        have hi' : i = 0 ∨ i = 1 ∨ i = 2 ∨ i = 3 ∨ i = 4 ∨ i = 5 := by simp at hi; omega
        have hd := hm.2
        clear hm hi
        rcases hi' with rfl | rfl | rfl | rfl | rfl | rfl
        · refine RI.wpOp_plain rfl rfl ?_
          go_simp
          exact ⟨_, u28, u29, u30, u31, u32, rfl, hw, fun _ => rfl, p1, p2, p4, p5, z3⟩
        · have hd := hd _ rfl
          simp [Region.binds] at hd
          obtain rfl := p0 (by simp [hd])
          refine RI.wpOp_plain rfl rfl ?_
          have x0 := (hw.cell (p := ⟨g9, 0, none⟩) h9).trans r0
          go_simp
          exact ⟨_, _, u29, u30, u31, u32, rfl, hw, p0, fun _ => rfl, p2, p4, p5, z3⟩
        · refine RI.wpOp_plain rfl rfl ?_
          go_simp
          exact ⟨u27, u28, _, u30, u31, u32, rfl, hw, p0, p1, fun _ => rfl, p4, p5, z3⟩
        · have hd := hd _ rfl
          simp [Region.binds] at hd
          obtain rfl := p2 (by simp [hd])
          refine RI.wpOp_plain rfl rfl ?_
          go_simp
          refine (KH.out _ hw).mono ?_
          rintro e w1 ⟨ha, hn, hc, rfl, hkh, hb1⟩
          exact ⟨u27, u28, _, _, u31, u32, rfl, hw.trans (hb1.mono hw.size), p0, p1, p2, p4, p5, fun _ => ⟨_, _, _, rfl, hkh⟩⟩
        · have hd := hd _ rfl
          simp [Region.binds] at hd
          refine RI.wpOp_plain rfl rfl ?_
          obtain ⟨ha, hn, hc, rfl, hkh⟩ := z3 (by simp [hd])
          have x0 := Sl_st hkh
          go_simp
          exact ⟨u27, u28, u29, _, _, u32, rfl, hw, p0, p1, p2, fun _ => rfl, p5, z3⟩
        · have hd := hd _ rfl
          simp [Region.binds] at hd
          obtain rfl := p1 (by simp [hd])
          obtain rfl := p4 (by simp [hd])
          refine RI.wpOp_plain rfl rfl ?_
          go_simp
          exact ⟨u27, _, u29, u30, _, _, rfl, hw, p0, p1, p2, p4, fun _ => rfl, z3⟩
      · skip
        intro d x wx hI hd
        obtain ⟨u27, u28, u29, u30, u31, u32, rfl, hw, p0, p1, p2, p4, p5, z3⟩ := hI
        obtain rfl := p5 (hd 5 (by decide))
        have r1' := (hw.cell (p := ⟨g9, 1, none⟩) h9).trans r1
        have hg9 : g9 < wx.heap.size := Nat.lt_of_lt_of_le h9 hw.size
        have BX : Hid (Below W0.heap.size W0 wx) := B2.out.trans (hw.mono B2.out.size)
        clear hw KH p0 p1 p2 p4 z3
        by_cases hrk : rp = kh
        · have hji : j = i0 := by
            apply Classical.byContradiction
            intro hne2
            exact hne.out (by omega) hrk
          have hb := (hyes.out hji).2
          rw [decide_eq_true hrk]
          subst hb
          obtain ⟨cv, W9, v1, v2, v3, v4⟩ := st_slc rv (HBL.out) wx
          rw [hY] at v1
          have HR : Hid (Bs (fun _ => True) rv (.slice (some ⟨wx.heap.size, 0, none⟩) rv.length cv) W9) := slc_bs v2
          have HZ9 : Hid (Below g0 w W9) := by
            have h1 := BW0.out.trans (BX.out.mono (by have := BW0.out.size; omega))
            exact h1.trans (v4.mono (by have := h1.size; omega))
          clear v2 v3 v4 hne hyes hB hx hse BX B2
          go_wp2_with fail
          go_ret2
          exact ⟨⟨_, cv, rfl, HR.out⟩, HZ9.out⟩
        · rw [decide_eq_false hrk]
          have hji : j < i0 := by
            apply Classical.byContradiction
            intro h2
            exact hrk (hyes.out (by omega)).1
          clear hne hyes hse
          go_wp2_with fail
          first | rw [e5.out] | rw [show (j : Int) + 1 = ((j + 1 : Nat) : Int) from by omega]
          exact ⟨⟨j + 1, by omega, rfl, BX.out⟩, msr_up j n hlt⟩
    · have d0 : decide ((j : Int) < (n : Int)) = false := decide_eq_false (by omega)
      have hb : b = [] := HF.out (by have := hx.out.1; omega)
      subst hb
      have HZ9 : Hid (Below g0 w wr) := BW0.out.trans (hB.mono (by have := BW0.out.size; omega))
      clear hx hB
      go_wp2_with fail
      go_ret2
      exact ⟨⟨none, 0, rfl, Bs_nil _ _⟩, HZ9.out⟩
end Tr
end Go.Proofs.Ytdcbgldelfhohaa
/- The closure of routePut's that finds a path; slices.IndexFunc of it. -/
namespace Go.Proofs.Ytdcbgldelfhohaa
namespace Tr
open Nb Go.RowKit
set_option maxHeartbeats 2000000 in
set_option maxRecDepth 100000 in
theorem del_any (a b p : By) (g : Nat) (w : World) (hc : w.cell? ⟨g, 0, none⟩ = some (.string (st p))) (hg : g < w.heap.size) :
    Calls Try.prog 54 #[.agg #[.string (st a), .string (st b)], .pointer (some ⟨g, 0, none⟩)] w fun e w' => e = .returned (.bool (decide (a = p))) ∧ Below w.heap.size w w' := by
  have hse := st_eq a p
  have HB : Hid (Below w.heap.size w (w.alloc (.cells #[.string (st a), .string (st b)] 51))) := (Below.refl _ _).alloc (Nat.le_refl _) _
  have HA := heap_alloc_new w (.cells #[.string (st a), .string (st b)] 51)
  have q0 : (w.alloc (.cells #[.string (st a), .string (st b)] 51)).cell? ⟨w.heap.size, 0, none⟩ = some (.string (st a)) := by simp only [World.cell?, HA]; rfl
  have q1 : (w.alloc (.cells #[.string (st a), .string (st b)] 51)).cell? ⟨g, 0, none⟩ = some (.string (st p)) := (HB.out.cell (p := ⟨g, 0, none⟩) hg).trans hc
  clear HA hc
  generalize decide (a = p) = R at *
  generalize st a = X at *
  generalize st b = Y at *
  generalize st p = Z at *
  go_enter Try.func54, Try.ntmps54
  go_wp2_with fail
  go_ret
  exact ⟨rfl, HB.out⟩
set_option maxHeartbeats 2000000 in
set_option maxRecDepth 100000 in
theorem idx_any (l : Rt) (p : By) (g0 : Nat) (la : Option Addr) (n lc : Nat) (w : World) (hx : Hid (n = l.length ∧ Rv l (.slice la n lc) w)) (HL : Hid (l.length ≤ 4194304)) (hc : Hid (w.cell? ⟨g0, 0, none⟩ = some (.string (st p)))) (hg0 : Hid (g0 < w.heap.size)) (i0 : Nat) (HI : Hid (i0 ≤ l.length)) (HM : Hid (∀ j, j < i0 → (l.getD j n2).1 ≠ p)) (HE : Hid (i0 < l.length → (l.getD i0 n2).1 = p)) (R : Int) (HR1 : Hid (i0 < l.length → R = (i0 : Int))) (HR2 : Hid (i0 = l.length → R = -1)) :
    Calls Try.prog 66 #[.slice la n lc, .func (.func 54) #[] #[.pointer (some ⟨g0, 0, none⟩)]] w fun e w' => e = .returned (.int .i64 R) ∧ Below w.heap.size w w' := by
  have KD : Hid (∀ (a b : By) (wx : World), Below w.heap.size w wx → Calls Try.prog 54 #[.agg #[.string (st a), .string (st b)], .pointer (some ⟨g0, 0, none⟩)] wx fun e w' => e = .returned (.bool (decide (a = p))) ∧ Below wx.heap.size wx w') := fun a b wx hb => del_any a b p g0 wx ((hb.cell (p := ⟨g0, 0, none⟩) hg0.out).trans hc.out) (Nat.lt_of_lt_of_le hg0.out hb.size)
  clear hc hg0
  go_enter Try.func66, Try.ntmps66
  go_wp2_with fail
  go_loopw [8] (fun i wr => ∃ j : Nat, j ≤ i0 ∧ i = .int .i64 (j : Int) ∧ Below w.heap.size w wr) (fun i _ => ((n : Int) - intOf i).toNat)
  case atStart => exact ⟨0, Nat.zero_le _, rfl, Below.refl _ _⟩
  case round =>
    obtain ⟨j, hj, rfl, hB⟩ := hrel
    have hin : i0 ≤ n := by have := hx.out.1; have := HI.out; omega
    by_cases hlt : j < n
    · have d0 : decide ((j : Int) < (n : Int)) = true := decide_eq_true (by omega)
      have d1 : (0 : Int) ≤ (j : Int) := by omega
      have d2 : (j : Int) < (n : Int) := by omega
      have hjl : j < l.length := by have := hx.out.1; omega
      obtain ⟨a', cap', e2, -, hq⟩ := hx.out.2
      obtain ⟨g, off, rfl, hg, hcell⟩ := hq (by omega)
      injection e2 with e2 e2' e2''
      subst e2
      clear e2' e2''
      obtain ⟨x0, x1⟩ := hcell j hjl
      have y0 := (hB.cell (p := ⟨g, off + 2 * j, none⟩) hg).trans x0
      have y1 := (hB.cell (p := ⟨g, off + 2 * j + 1, none⟩) hg).trans x1
      rw [Nat.mul_comm 2 j] at y0 y1
      have e5 : Hid (wrap64 ((j : Int) + 1) = ((j + 1 : Nat) : Int)) := by have := hx.out.1; have := HL.out; show _ = _; unfold wrap64; omega
      have hne : Hid (j < i0 → (l.getD j n2).1 ≠ p) := fun h => HM.out j h
      have hyes : Hid (j = i0 → (l.getD j n2).1 = p) := fun h => by subst h; exact HE.out hjl
      have HBB : Hid (Below w.heap.size w wr) := hB
      clear hq hcell x0 x1
      generalize l.getD j n2 = r at *
      obtain ⟨rp, rv⟩ := r
      dsimp only at *
      have kd := KD.out rp rv wr hB
      generalize st rp = X at *
      generalize st rv = Y at *
      clear hB
      go_wp2_with fail
      refine kd.mono ?_
      rintro e w1 ⟨rfl, hb1⟩
      have BX : Hid (Below w.heap.size w w1) := HBB.out.trans (hb1.mono HBB.out.size)
      clear hb1 kd y0 y1 HBB
      by_cases hrk : rp = p
      · have hji : j = i0 := by
          apply Classical.byContradiction
          intro hne2
          exact hne.out (by omega) hrk
        rw [decide_eq_true hrk]
        have hR := HR1.out (by omega)
        subst hR
        subst hji
        clear hne hyes hrk
        go_wp2_with fail
        go_ret
        exact ⟨rfl, BX.out⟩
      · rw [decide_eq_false hrk]
        have hji : j < i0 := by
          apply Classical.byContradiction
          intro h2
          exact hrk (hyes.out (by omega))
        clear hne hyes hrk
        go_wp2_with fail
        first | rw [e5.out] | rw [show (j : Int) + 1 = ((j + 1 : Nat) : Int) from by omega]
        exact ⟨⟨j + 1, by omega, rfl, BX.out⟩, msr_up j n hlt⟩
    · have d0 : decide ((j : Int) < (n : Int)) = false := decide_eq_false (by omega)
      have hR := HR2.out (by have := hx.out.1; omega)
      subst hR
      have HZ9 : Hid (Below w.heap.size w wr) := hB
      clear hx hB
      go_wp2_with fail
      go_ret
      exact ⟨rfl, HZ9.out⟩
end Tr
end Go.Proofs.Ytdcbgldelfhohaa
/- slices.Clone of routes. -/
namespace Go.Proofs.Ytdcbgldelfhohaa
namespace Tr
open Nb Go.RowKit
set_option maxHeartbeats 2000000 in
set_option maxRecDepth 100000 in
theorem clone_rt (l : Rt) (v : Value) (w : World) (hv : Rv l v w) (hl : l.length ≤ 4194304) :
    Calls Try.prog 53 #[v] w fun e w' => ∃ z, e = .returned z ∧ Ow w.heap.size l z w' ∧ Below w.heap.size w w' := by
  have hv0 := hv
  obtain ⟨ao, cap, rfl, hc, hq⟩ := hv
  cases ao with
  | none =>
    have h0 : l.length = 0 := by
      apply Classical.byContradiction
      intro h
      obtain ⟨g, off, e, _⟩ := hq (by omega)
      cases e
    have h1 : l = [] := List.length_eq_zero_iff.1 h0
    subst h1
    have x1 := Lib.run_eql_slice_nil w 47 51 none 0 cap 0 0 Try.underlying47
    clear hv0 hq h0 hc hl
    show Calls Try.prog _ #[.slice none 0 cap] w _
    go_enter Try.func53, Try.ntmps53
    go_wp2_with fail
    go_ret
    exact ⟨_, rfl, World.ownsRow_nil _ _ _ _, Below.refl _ _⟩
  | some ad =>
    have x1 := Lib.run_eql_slice_nil w 47 51 (some ad) l.length cap 0 0 Try.underlying47
    have ba : Below w.heap.size w (w.alloc (.cells #[] 51)) := (Below.refl _ _).alloc (Nat.le_refl _) _
    have ow : Ow w.heap.size [] (.slice (some ⟨w.heap.size, 0, none⟩) 0 0) (w.alloc (.cells #[] 51)) := World.ownsRow_lit w #[] 0 (Nat.le_refl _) (Nat.zero_le _) rfl
    obtain ⟨z, w2, hap, ho, hb, _⟩ := app_rv 47 ow (Rv_below hv0 ba) ba.size (by simpa using hl)
    have HO : Hid (Ow w.heap.size l z w2) := by show Ow _ _ _ _; simpa using ho
    have HB : Hid (Below w.heap.size w w2) := ba.trans hb
    clear hv0 hq hc hl ow ho hb ba
    go_enter Try.func53, Try.ntmps53
    go_wp2_with (at_builtin; refine wpList_apw rfl rfl rfl rfl hap ?_)
    go_ret
    exact ⟨_, rfl, HO.out, HB.out⟩
end Tr
end Go.Proofs.Ytdcbgldelfhohaa
/- Rows of routes that are written place by place; a list with one taken out. -/
namespace Go.Proofs.Ytdcbgldelfhohaa
namespace Tr
open Nb Go.RowKit
theorem c2_set : ∀ (L : Rt) (i : Nat) (a b : By), i < L.length → c2 (L.set i (a, b)) = ((c2 L).set (i * 2) (.string (st a))).set (i * 2 + 1) (.string (st b))
  | [], i, _, _, h => absurd h (by simp)
  | r :: L, 0, a, b, _ => rfl
  | r :: L, i + 1, a, b, h => by
    have ih := c2_set L i a b (by simpa using h)
    show [_, _] ++ c2 (L.set i (a, b)) = _
    rw [ih]
    have e1 : (i + 1) * 2 = i * 2 + 1 + 1 := by omega
    rw [e1]
    rfl
theorem Ow_set {lo : Nat} {L : Rt} {g cap : Nat} {w : World} (h : Ow lo L (.slice (some ⟨g, 0, none⟩) L.length cap) w) (i : Nat) (hi : i < L.length) (a b : By) :
    Ow lo (L.set i (a, b)) (.slice (some ⟨g, 0, none⟩) L.length cap) (w.setCells g (i * 2) [.string (st a), .string (st b)]) := by
  have h2 := (((World.ownsRow.stored h (i * 2) (.string (st a))).1).stored (i * 2 + 1) (.string (st b))).1
  show World.ownsRow _ _ _ _ _ _ _
  rw [c2_set L i a b hi, List.length_set]
  exact h2
theorem Ow_there {lo : Nat} {L : Rt} {g cap : Nat} {w : World} (h : Ow lo L (.slice (some ⟨g, 0, none⟩) L.length cap) w) (i : Nat) (hi : i < L.length) : w.there g (i * 2) 2 := fun j hj => by
  refine ⟨?_, World.ownsRow.frozenAt h _⟩
  have hlt : i * 2 + j < L.length * 2 := by omega
  rw [World.ownsRow.cellAt h _ hlt, List.getElem?_eq_getElem (by rw [c2_len]; exact hlt)]
  rfl
theorem c2_take : ∀ (L : Rt) (m : Nat), (c2 L).take (m * 2) = c2 (L.take m)
  | [], m => by simp [c2]
  | r :: L, 0 => by simp [c2]
  | r :: L, m + 1 => by
    have ih := c2_take L m
    have e1 : (m + 1) * 2 = m * 2 + 1 + 1 := by omega
    rw [e1]
    show (_ :: _ :: (c2 L)).take (m * 2 + 1 + 1) = _ :: _ :: c2 (L.take m)
    rw [List.take_succ_cons, List.take_succ_cons, ih]
theorem Ow_cut {lo : Nat} {L : Rt} {g n cap : Nat} {w : World} (hn : n = L.length) (h : Ow lo L (.slice (some ⟨g, 0, none⟩) n cap) w) (m : Nat) (hm : m ≤ n) :
    Ow lo (L.take m) (.slice (some ⟨g, 0, none⟩) m cap) w := by
  subst hn
  have e : (L.take m).length = m := by rw [List.length_take]; omega
  rcases h.2 with ⟨h', _⟩ | ⟨g', cap', cur, h', hb, hg, hnc, hcm, hcs, htake⟩
  · cases h'
  · injection h' with h1 _ h3
    injection h1 with h1
    injection h1 with h1
    subst h1 h3
    refine ⟨by rw [c2_len], .inr ⟨g, cap, cur, by rw [e], hb, hg, by rw [e]; omega, hcm, hcs, ?_⟩⟩
    rw [e, ← c2_take, ← htake, List.take_take, Nat.min_eq_left (by omega)]
/-- The list while one is taken out: up to i moved. -/
def Lst (l : Rt) (i0 i : Nat) : Rt := (l.eraseIdx i0).take i ++ l.drop i
theorem Lst_len {l : Rt} {i0 i : Nat} (h0 : i0 < l.length) (hi : i < l.length) : (Lst l i0 i).length = l.length := by
  unfold Lst
  rw [List.length_append, List.length_take, List.length_drop, List.length_eraseIdx, if_pos h0]
  omega
theorem Lst_start {l : Rt} {i0 : Nat} (h0 : i0 < l.length) : Lst l i0 i0 = l := by
  unfold Lst
  rw [List.eraseIdx_eq_take_drop_succ, List.take_append_of_le_length (by rw [List.length_take]; omega), List.take_take, Nat.min_self, List.take_append_drop]
theorem Lst_get {l : Rt} {i0 i j : Nat} (h0 : i0 < l.length) (hi : i < l.length) (hj : i ≤ j) : (Lst l i0 i).getD j n2 = l.getD j n2 := by
  have hlen : ((l.eraseIdx i0).take i).length = i := by rw [List.length_take, List.length_eraseIdx, if_pos h0]; omega
  unfold Lst
  rw [List.getD_eq_getElem?_getD, List.getD_eq_getElem?_getD, List.getElem?_append_right (by omega), hlen, List.getElem?_drop]
  congr 2
  omega
theorem Lst_step {l : Rt} {i0 i : Nat} (h0 : i0 ≤ i) (hi : i + 1 < l.length) : (Lst l i0 i).set i (l.getD (i + 1) n2) = Lst l i0 (i + 1) := by
  have hlen : ((l.eraseIdx i0).take i).length = i := by rw [List.length_take, List.length_eraseIdx, if_pos (by omega)]; omega
  apply List.ext_getElem?
  intro k
  unfold Lst
  rw [List.getElem?_set]
  have hlen2 : ((l.eraseIdx i0).take (i + 1)).length = i + 1 := by rw [List.length_take, List.length_eraseIdx, if_pos (by omega)]; omega
  by_cases hk : i = k
  · subst hk
    have hlt : i < ((l.eraseIdx i0).take i ++ l.drop i).length := by rw [List.length_append, hlen, List.length_drop]; omega
    rw [if_pos rfl, if_pos hlt, List.getElem?_append_left (by omega), List.getElem?_take, if_pos (by omega), List.getElem?_eraseIdx, if_neg (by omega), List.getD_eq_getElem?_getD, List.getElem?_eq_getElem hi]
    rfl
  · rw [if_neg hk]
    rcases Nat.lt_or_ge k i with h | h
    · rw [List.getElem?_append_left (by omega), List.getElem?_append_left (by omega), List.getElem?_take, List.getElem?_take, if_pos h, if_pos (by omega)]
    · rw [List.getElem?_append_right (by omega), List.getElem?_append_right (by omega), hlen, hlen2, List.getElem?_drop, List.getElem?_drop]
      congr 1
      omega
theorem Lst_end {l : Rt} {i0 : Nat} (x : By × By) (h0 : i0 < l.length) : ((Lst l i0 (l.length - 1)).set (l.length - 1) x).take (l.length - 1) = l.eraseIdx i0 := by
  have hlen : (l.eraseIdx i0).length = l.length - 1 := by rw [List.length_eraseIdx, if_pos h0]
  have hlen2 : ((l.eraseIdx i0).take (l.length - 1)).length = l.length - 1 := by rw [List.length_take, hlen, Nat.min_self]
  unfold Lst
  rw [List.set_append_right _ _ (by omega), List.take_append_of_le_length (by omega), List.take_take, Nat.min_self, List.take_of_length_le (by omega)]
theorem filter_erase : ∀ (l : Rt) (p : By) (i0 : Nat), Srt l → i0 < l.length → (l.getD i0 n2).1 = p → l.filter (fun r => decide (r.1 ≠ p)) = l.eraseIdx i0
  | [], _, _, _, h, _ => absurd h (by simp)
  | r :: l, p, 0, hs, _, h => by
    have hs' : (∀ x ∈ l, less r.1 x.1) ∧ Srt l := List.pairwise_cons.1 hs
    have h : r.1 = p := h
    rw [List.filter_cons, if_neg (by simp [h]), List.eraseIdx_cons_zero, List.filter_eq_self]
    intro x hx
    exact decide_eq_true (fun e => less_irrefl p (by have := hs'.1 x hx; rwa [h, e] at this))
  | r :: l, p, i + 1, hs, hi, h => by
    have hs' : (∀ x ∈ l, less r.1 x.1) ∧ Srt l := List.pairwise_cons.1 hs
    have hi' : i < l.length := by simpa using hi
    have h' : (l.getD i n2).1 = p := h
    have hm : l.getD i n2 ∈ l := by rw [List.getD_eq_getElem?_getD, List.getElem?_eq_getElem hi']; exact List.getElem_mem hi'
    have hne : r.1 ≠ p := fun e => less_irrefl p (by have := hs'.1 _ hm; rwa [e, h'] at this)
    rw [List.filter_cons, if_pos (by simp [hne]), List.eraseIdx_cons_succ, filter_erase l p i hs'.2 hi' h']
theorem filter_none {l : Rt} {p : By} (h : ∀ j, j < l.length → (l.getD j n2).1 ≠ p) : l.filter (fun r => decide (r.1 ≠ p)) = l := by
  rw [List.filter_eq_self]
  intro x hx
  obtain ⟨i, hi, rfl⟩ := List.mem_iff_getElem.1 hx
  have := h i hi
  rw [List.getD_eq_getElem?_getD, List.getElem?_eq_getElem hi] at this
  exact decide_eq_true this
end Tr
end Go.Proofs.Ytdcbgldelfhohaa
/- slices.DeleteFunc of routes, by their path. -/
namespace Go.Proofs.Ytdcbgldelfhohaa
namespace Tr
open Nb Go.RowKit
theorem infoRt2 : (Try.prog.info? 51).map (·.size) = some 2 := by kernel_rfl
theorem wpList_st2 {ops : Array Oper} {rest : List Oper} {op : Oper} {a : Act} {w : World} {Q : Exit → Act → World → Prop} {x y : Operand} {G o : Nat} {X Y : ByteArray} (hgd : op.guard = none) (ho : op.op = .store 51 x y)
    (hx : a.eval x = .pointer (some ⟨G, o, none⟩)) (hy : a.eval y = .agg #[.string X, .string Y]) (ht : w.there G o 2)
    (h : wpList Try.prog ops Q rest (a.put op.dst undef) (w.setCells G o [.string X, .string Y])) : wpList Try.prog ops Q (op :: rest) a w :=
  wpList_plain hgd fun _ hK => wp_store_mid 51 x y ho G o #[.string X, .string Y] hx hy ht infoRt2 (all_oneCell_toArray (cs := [.string X, .string Y]) (fun v hv => by simp only [List.mem_cons, List.not_mem_nil, or_false] at hv; rcases hv with rfl | rfl <;> rfl)) (hK _ _ h)
theorem ow_below {lo : Nat} {L : Rt} {v : Value} {w w' : World} (h : Ow lo L v w) (hb : Below w.heap.size w w') : Ow lo L v w' := by
  refine ⟨h.1, ?_⟩
  rcases h.2 with h2 | ⟨g, cap, cur, h2, h3, h4, h5⟩
  · exact .inl h2
  · exact .inr ⟨g, cap, cur, h2, h3, (hb.block g (Array.getElem?_eq_some_iff.1 h4).1).trans h4, h5⟩
theorem ow_low {lo : Nat} {L : Rt} {g n cap : Nat} {w : World} (h : Ow lo L (.slice (some ⟨g, 0, none⟩) n cap) w) : lo ≤ g ∧ g < w.heap.size := by
  rcases h.2 with ⟨h', _⟩ | ⟨g', cap', cur, h', hb, hg, _⟩
  · cases h'
  · injection h' with h1
    injection h1 with h1
    injection h1 with h1
    subst h1
    exact ⟨hb, (Array.getElem?_eq_some_iff.1 hg).1⟩
theorem ow_cap {lo : Nat} {L : Rt} {g cap : Nat} {w : World} (h : Ow lo L (.slice (some ⟨g, 0, none⟩) L.length cap) w) : L.length ≤ cap := by
  rcases h.2 with ⟨h', _⟩ | ⟨g', cap', cur, h', hb, hg, hc, _⟩
  · cases h'
  · injection h' with _ _ h3
    subst h3
    exact hc
theorem zeroRt (w : World) : (zeroValue 51).run Try.prog w = .ok (.agg #[.string ⟨#[]⟩, .string ⟨#[]⟩]) w := by kernel_rfl
theorem run_clear1 (w : World) (g o c : Nat) (ty : TypeId) (ht : w.there g o 2) : (Builtin.clear_ #[47] ty #[.slice (some ⟨g, o, none⟩) 1 c]).run Try.prog w = .ok (.tuple #[]) (w.setCells g o [.string ⟨#[]⟩, .string ⟨#[]⟩]) := by
  have hst := run_storeCells_cells (P := Try.prog) g o [.string ⟨#[]⟩, .string ⟨#[]⟩] 0 w (fun j hj => (ht j hj).1) (fun j hj => (ht j hj).2) (fun v hv => by simp only [List.mem_cons, List.not_mem_nil, or_false] at hv; rcases hv with rfl | rfl <;> rfl)
  simp only [Nat.add_zero] at hst
  have hzc : (Builtin.zeroCells (Value.agg #[.string ⟨#[]⟩, .string ⟨#[]⟩]).cells 1).toList = [.string ⟨#[]⟩, .string ⟨#[]⟩] := by kernel_rfl
  simp [Builtin.clear_, run_underlying Try.underlying47, hzc, hst]
set_option maxHeartbeats 2000000 in
set_option maxRecDepth 100000 in
theorem delf_in (l : Rt) (p : By) (g0 lo g n cap : Nat) (w : World) (hn : Hid (n = l.length)) (how : Hid (Ow lo l (.slice (some ⟨g, 0, none⟩) n cap) w)) (hlo : Hid (lo ≤ w.heap.size)) (hg0 : Hid (g0 < lo)) (hc : Hid (w.cell? ⟨g0, 0, none⟩ = some (.string (st p)))) (HL : Hid (l.length ≤ 4194304)) (i0 : Nat) (h0 : Hid (i0 < n)) (hk : Hid ((l.getD i0 n2).1 = p)) (hne : Hid (∀ j, j < n → j ≠ i0 → (l.getD j n2).1 ≠ p)) :
    Calls Try.prog 52 #[.slice (some ⟨g, 0, none⟩) n cap, .func (.func 54) #[] #[.pointer (some ⟨g0, 0, none⟩)]] w fun e w' => e = .returned (.slice (some ⟨g, 0, none⟩) (n - 1) cap) ∧ Ow lo (l.eraseIdx i0) (.slice (some ⟨g, 0, none⟩) (n - 1) cap) w' ∧ Below lo w w' := by
  have KI : Hid (Calls Try.prog 66 #[.slice (some ⟨g, 0, none⟩) n cap, .func (.func 54) #[] #[.pointer (some ⟨g0, 0, none⟩)]] w fun e w' => e = .returned (.int .i64 (i0 : Int)) ∧ Below w.heap.size w w') :=
    idx_any l p g0 _ n cap w ⟨hn.out, own_rv how.out⟩ HL hc (Nat.lt_of_lt_of_le hg0.out hlo.out) i0 (by have := hn.out; have := h0.out; show _ ≤ _; omega) (fun j hj => hne.out j (by have := h0.out; omega) (by omega)) (fun _ => hk.out) (i0 : Int) (fun _ => rfl) (fun h => by have := hn.out; have := h0.out; omega)
  have KD : Hid (∀ (a b : By) (wx : World), Below lo w wx → Calls Try.prog 54 #[.agg #[.string (st a), .string (st b)], .pointer (some ⟨g0, 0, none⟩)] wx fun e w' => e = .returned (.bool (decide (a = p))) ∧ Below wx.heap.size wx w') := fun a b wx hb => del_any a b p g0 wx ((hb.cell (p := ⟨g0, 0, none⟩) hg0.out).trans hc.out) (Nat.lt_of_lt_of_le (Nat.lt_of_lt_of_le hg0.out hlo.out) hb.size)
  have e1 : ((i0 : Int) == -1) = false := beq_eq_false_iff_ne.2 (by omega)
  have e6 : Hid (wrap64 ((i0 : Int) + 1) = ((i0 + 1 : Nat) : Int)) := by have := hn.out; have := HL.out; have := h0.out; show _ = _; unfold wrap64; omega
  clear hc hg0
  go_enter Try.func52, Try.ntmps52
  go_wp2_with fail
  refine KI.out.mono ?_
  rintro e w1 ⟨rfl, hb1⟩
  have HS : Hid (Ow lo (Lst l i0 i0) (.slice (some ⟨g, 0, none⟩) n cap) w1 ∧ Below lo w w1) := by
    refine ⟨?_, hb1.mono hlo.out⟩
    rw [Lst_start (by have := hn.out; have := h0.out; omega)]
    exact ow_below how.out hb1
  clear hb1 KI how
  go_wp2_with fail
  go_loopw [5, 6] (fun iv jv wr => ∃ i : Nat, i0 ≤ i ∧ i < n ∧ iv = .int .i64 (i : Int) ∧ jv = .int .i64 ((i + 1 : Nat) : Int) ∧ Ow lo (Lst l i0 i) (.slice (some ⟨g, 0, none⟩) n cap) wr ∧ Below lo w wr) (fun _ jv _ => ((n : Int) - intOf jv).toNat)
  case atStart => exact ⟨i0, Nat.le_refl _, h0.out, rfl, by first | rfl | (rw [e6.out]) | (congr 1), HS.out.1, HS.out.2⟩
  case round =>
    obtain ⟨i, hi0, hin, rfl, rfl, hO, hB⟩ := hrel
    clear HS
    have hil : i < l.length := by have := hn.out; omega
    have h0l : i0 < l.length := by omega
    have hLn : Hid ((Lst l i0 i).length = l.length) := Lst_len h0l hil
    have HO : Hid (Ow lo (Lst l i0 i) (.slice (some ⟨g, 0, none⟩) (Lst l i0 i).length cap) wr) := by
      show Ow _ _ _ _
      rw [hLn.out, ← hn.out]
      exact hO
    have HB : Hid (Below lo w wr) := hB
    by_cases hlt : i + 1 < n
    · have d0 : decide (((i + 1 : Nat) : Int) < (n : Int)) = true := decide_eq_true (by omega)
      have d0' : decide (i + 1 < n) = true := decide_eq_true (by omega)
      have d1 : (0 : Int) ≤ ((i + 1 : Nat) : Int) := by omega
      have d2 : ((i + 1 : Nat) : Int) < (n : Int) := by omega
      have d3 : (0 : Int) ≤ (i : Int) := by omega
      have d4 : (i : Int) < (n : Int) := by omega
      obtain ⟨a', cap', e2, -, hq⟩ := own_rv HO.out
      obtain ⟨g', off, e3, hg, hcell⟩ := hq (by have := hLn.out; omega)
      injection e2 with e2 e2' e2''
      rw [← e2] at e3
      injection e3 with e3
      injection e3 with e3 e4
      subst e3 e4
      obtain ⟨x0, x1⟩ := hcell (i + 1) (by have := hLn.out; have := hn.out; omega)
      rw [Lst_get h0l hil (by omega)] at x0 x1
      clear e2 e2' e2'' hq hcell
      have y0 : wr.cell? ⟨g, (i + 1) * 2, none⟩ = some (.string (st (l.getD (i + 1) n2).1)) := by rw [← x0]; congr 2; omega
      have y1 : wr.cell? ⟨g, (i + 1) * 2 + 1, none⟩ = some (.string (st (l.getD (i + 1) n2).2)) := by rw [← x1]; congr 2; omega
      have hpn := hne.out (i + 1) hlt (by omega)
      have hst : Hid ((Lst l i0 i).set i (l.getD (i + 1) n2) = Lst l i0 (i + 1)) := Lst_step hi0 (show i + 1 < l.length by have := hn.out; omega)
      have e5 : Hid (wrap64 ((i : Int) + 1) = ((i + 1 : Nat) : Int)) := by have := HL.out; have := hn.out; show _ = _; unfold wrap64; omega
      have e7 : Hid (wrap64 ((i : Int) + 1 + 1) = ((i + 1 + 1 : Nat) : Int)) := by have := HL.out; have := hn.out; show _ = _; unfold wrap64; omega
      clear x0 x1 hO hB
      generalize l.getD (i + 1) n2 = r at *
      obtain ⟨rp, rv⟩ := r
      dsimp only at *
      have bA : Below wr.heap.size wr (wr.alloc (.cells #[.string (st rp), .string (st rv)] 51)) := (Below.refl _ _).alloc (Nat.le_refl _) _
      have HA := heap_alloc_new wr (.cells #[.string (st rp), .string (st rv)] 51)
      have r0 : (wr.alloc (.cells #[.string (st rp), .string (st rv)] 51)).cell? ⟨wr.heap.size, 0, none⟩ = some (.string (st rp)) := by simp only [World.cell?, HA]; rfl
      have r1 : (wr.alloc (.cells #[.string (st rp), .string (st rv)] 51)).cell? ⟨wr.heap.size, 1, none⟩ = some (.string (st rv)) := by simp only [World.cell?, HA]; rfl
      have h9 : wr.heap.size < (wr.alloc (.cells #[.string (st rp), .string (st rv)] 51)).heap.size := by simp
      have HO2 : Hid (Ow lo (Lst l i0 i) (.slice (some ⟨g, 0, none⟩) (Lst l i0 i).length cap) (wr.alloc (.cells #[.string (st rp), .string (st rv)] 51))) := ow_below HO.out bA
      have hlw : lo ≤ wr.heap.size := Nat.le_trans hlo.out HB.out.size
      have HB2 : Hid (Below lo w (wr.alloc (.cells #[.string (st rp), .string (st rv)] 51))) := HB.out.trans (bA.mono hlw)
      have kd := KD.out rp rv _ HB2.out
      rw [decide_eq_false hpn] at kd
      have HKD : Hid (Calls Try.prog 54 #[.agg #[.string (st rp), .string (st rv)], .pointer (some ⟨g0, 0, none⟩)] (wr.alloc (.cells #[.string (st rp), .string (st rv)] 51)) fun e w' => e = .returned (.bool false) ∧ Below (wr.alloc (.cells #[.string (st rp), .string (st rv)] 51)).heap.size (wr.alloc (.cells #[.string (st rp), .string (st rv)] 51)) w') := kd
      clear HA bA kd HO HB
      go_wp2_with fail
      refine HKD.out.mono ?_
      rintro e w2 ⟨rfl, hb2⟩
      have s0 := (hb2.cell (p := ⟨wr.heap.size, 0, none⟩) h9).trans r0
      have s1 := (hb2.cell (p := ⟨wr.heap.size, 1, none⟩) h9).trans r1
      have HO3 : Hid (Ow lo (Lst l i0 i) (.slice (some ⟨g, 0, none⟩) (Lst l i0 i).length cap) w2) := ow_below HO2.out hb2
      have HB3 : Hid (Below lo w w2) := HB2.out.trans (hb2.mono (Nat.le_trans hlo.out HB2.out.size))
      have ht := Ow_there HO3.out i (by have := hLn.out; omega)
      clear hb2 HO2 HB2 HKD r0 r1 h9 y0 y1
      go_wp2_with (refine wpList_st2 rfl rfl rfl rfl ht ?_)
      have HO4 := Ow_set HO3.out i (by have := hLn.out; omega) rp rv
      rw [hst.out, hLn.out, ← hn.out] at HO4
      have HB4 : Below lo w (w2.setCells g (i * 2) [.string (st rp), .string (st rv)]) := HB3.out.grown (gb_sets g _ _ _) (Nat.le_trans hlo.out HB3.out.size) (fun k e => by injection e with e; have := (ow_low HO3.out).1; omega)
      refine ⟨⟨i + 1, by omega, hlt, ?_, ?_, HO4, HB4⟩, ?_⟩
      · first | rfl | rw [e5.out]
      · first | rfl | rw [e7.out]
      · first | exact msr_up (i + 1) n hlt | (rw [e7.out]; exact msr_up (i + 1) n hlt)
    · have d0 : decide (((i + 1 : Nat) : Int) < (n : Int)) = false := decide_eq_false (by omega)
      have d0' : decide (i + 1 < n) = false := decide_eq_false (by omega)
      have d3 : (0 : Int) ≤ (i : Int) := by omega
      have d4 : (i : Int) ≤ (n : Int) := by omega
      have hi1 : Hid (i = n - 1) := by show _ = _; omega
      have hcp := (ow_cap HO.out)
      have d5 : i < cap := by have := hLn.out; omega
      have hn1 : n - i = 1 := by omega
      have xcl : (Builtin.clear_ #[47] 0 #[.slice (some ⟨g, i * 2, none⟩) (n - i) (cap - i)]).run Try.prog wr = .ok (.tuple #[]) (wr.setCells g (i * 2) [.string ⟨#[]⟩, .string ⟨#[]⟩]) := by
        rw [hn1]
        exact run_clear1 wr g (i * 2) _ 0 (Ow_there HO.out i (by have := hLn.out; omega))
      have HF : Hid (Ow lo (l.eraseIdx i0) (.slice (some ⟨g, 0, none⟩) i cap) (wr.setCells g (i * 2) [.string ⟨#[]⟩, .string ⟨#[]⟩])) := by
        have h1 := Ow_set HO.out i (by have := hLn.out; omega) [] []
        have h2 := Ow_cut (by rw [List.length_set]) h1 i (by have := hLn.out; omega)
        have h3 := Lst_end ([], []) h0l
        rw [← hn.out, ← hi1.out] at h3
        rwa [h3] at h2
      have HZ : Hid (Below lo w (wr.setCells g (i * 2) [.string ⟨#[]⟩, .string ⟨#[]⟩])) := HB.out.grown (gb_sets g _ _ _) (Nat.le_trans hlo.out HB.out.size) (fun k e => by injection e with e; have := (ow_low HO.out).1; omega)
      clear hO hB hcp hn1
      generalize (wr.setCells g (i * 2) [.string ⟨#[]⟩, .string ⟨#[]⟩]) = W9 at *
      go_wp2_with fail
      go_ret
      rw [← hi1.out]
      exact ⟨rfl, HF.out, HZ.out⟩
set_option maxHeartbeats 2000000 in
set_option maxRecDepth 100000 in
theorem delf_out (g0 : Nat) (la : Option Addr) (n lc : Nat) (w : World) (KI : Hid (Calls Try.prog 66 #[.slice la n lc, .func (.func 54) #[] #[.pointer (some ⟨g0, 0, none⟩)]] w fun e w' => e = .returned (.int .i64 (-1)) ∧ Below w.heap.size w w')) :
    Calls Try.prog 52 #[.slice la n lc, .func (.func 54) #[] #[.pointer (some ⟨g0, 0, none⟩)]] w fun e w' => e = .returned (.slice la n lc) ∧ Below w.heap.size w w' := by
  go_enter Try.func52, Try.ntmps52
  go_wp2_with fail
  refine KI.out.mono ?_
  rintro e w1 ⟨rfl, hb1⟩
  have HZ : Hid (Below w.heap.size w w1) := hb1
  clear hb1
  go_wp2_with fail
  go_ret
  exact ⟨rfl, HZ.out⟩
theorem srt_ne {l : Rt} (hs : Srt l) {i j : Nat} (hi : i < l.length) (hj : j < l.length) (hne : j ≠ i) : (l.getD j n2).1 ≠ (l.getD i n2).1 := by
  have h := List.pairwise_iff_getElem.1 hs
  rw [List.getD_eq_getElem?_getD, List.getD_eq_getElem?_getD, List.getElem?_eq_getElem hi, List.getElem?_eq_getElem hj]
  rcases Nat.lt_or_ge j i with k | k
  · intro e
    have e : l[j].1 = l[i].1 := e
    have := h j i hj hi k
    rw [e] at this
    exact less_irrefl _ this
  · intro e
    have e : l[j].1 = l[i].1 := e
    have := h i j hi hj (by omega)
    rw [e] at this
    exact less_irrefl _ this
theorem first_at (p : By) : ∀ l : Rt, ∃ i, i ≤ l.length ∧ (∀ j, j < i → (l.getD j n2).1 ≠ p) ∧ (i < l.length → (l.getD i n2).1 = p)
  | [] => ⟨0, Nat.le_refl _, fun j hj => absurd hj (by omega), fun h => absurd h (by simp)⟩
  | (q, v) :: r => by
    by_cases e : q = p
    · exact ⟨0, Nat.zero_le _, fun j hj => absurd hj (by omega), fun _ => e⟩
    · obtain ⟨i, h1, h2, h3⟩ := first_at p r
      refine ⟨i + 1, by simpa using h1, fun j hj => ?_, fun h => h3 (by simpa using h)⟩
      cases j with
      | zero => exact e
      | succ j => exact h2 j (by omega)
theorem delf_any (l : Rt) (p : By) (g0 lo : Nat) (v : Value) (w : World) (how : Ow lo l v w) (hlo : lo ≤ w.heap.size) (hg0 : g0 < lo) (hc : w.cell? ⟨g0, 0, none⟩ = some (.string (st p))) (HL : l.length ≤ 4194304) (hs : Srt l) :
    Calls Try.prog 52 #[v, .func (.func 54) #[] #[.pointer (some ⟨g0, 0, none⟩)]] w fun e w' => ∃ z, e = .returned z ∧ Ow lo (l.filter fun r => decide (r.1 ≠ p)) z w' ∧ Below lo w w' := by
  obtain ⟨i, h1, h2, h3⟩ := first_at p l
  rcases Nat.lt_or_ge i l.length with hi | hi
  · rcases how.2 with ⟨_, h'⟩ | ⟨g, cap, cur, rfl, _⟩
    · omega
    · have hk := h3 hi
      refine (delf_in l p g0 lo g l.length cap w rfl how hlo hg0 hc HL i hi hk (fun j hj hne => by rw [← hk]; exact srt_ne hs hi hj hne)).mono fun e w' he => ?_
      obtain ⟨e1, e2, e3⟩ := he
      refine ⟨_, e1, ?_, e3⟩
      rw [filter_erase l p i hs hi hk]
      exact e2
  · have hv := own_rv how
    have hv0 := hv
    obtain ⟨ao, cap, rfl, _, _⟩ := hv0
    refine (delf_out g0 ao l.length cap w (idx_any l p g0 ao l.length cap w ⟨rfl, hv⟩ HL hc (Nat.lt_of_lt_of_le hg0 hlo) i h1 h2 h3 (-1) (fun h => absurd h (by omega)) (fun _ => rfl))).mono fun e w' he => ?_
    refine ⟨_, he.1, ?_, he.2.mono hlo⟩
    rw [filter_none (fun j hj => h2 j (by omega))]
    exact ow_below how he.2
end Tr
end Go.Proofs.Ytdcbgldelfhohaa
/- lampbearerref.routePut, over what slices.SortFunc does. -/
namespace Go.Proofs.Ytdcbgldelfhohaa
namespace Tr
open Nb Go.RowKit
/-- What slices.SortFunc does to a row of routes. -/
def SortOk : Prop := ∀ (lo : Nat) (L : Rt) (v : Value) (w : World), Ow lo L v w → lo ≤ w.heap.size → L.length ≤ 4194304 → Calls Try.prog 55 #[v, .func (.func 56) #[] #[]] w fun e w' => e = .returned (.tuple #[]) ∧ ∃ L2 : Rt, L2.Perm L ∧ (L2.Pairwise fun a b => ¬ less b.1 a.1) ∧ Ow lo L2 v w' ∧ Below lo w w'
set_option maxHeartbeats 2000000 in
set_option maxRecDepth 100000 in
theorem rput_any (l : Rt) (kh y : By) (la ak av : Option Addr) (n lc nk ck nv cv : Nat) (w : World) (hl : Hid (Rv l (.slice la n lc) w)) (HL : Hid (l.length ≤ 1048576)) (hs : Hid (Srt l)) (hp : Hid (Pts l)) (hvo : Hid (VO l)) (hpt : Hid (Pt kh)) (hn0 : Hid (nv = y.length))
    (hy : Hid (Pk.Sl y (.slice av nv cv) w)) (hso : SortOk)
    (KH0 : Hid (∀ wx : World, Below w.heap.size w wx → Calls Try.prog 28 #[.slice ak nk ck] wx fun e w' => ∃ a n c, e = .returned (.slice a n c) ∧ Pk.Sl kh (.slice a n c) w' ∧ Below wx.heap.size wx w')) :
    Calls Try.prog 32 #[.slice la n lc, .slice ak nk ck, .slice av nv cv] w fun e w' => ∃ z L2, e = .returned z ∧ Rv L2 z w' ∧ RPs l kh y L2 ∧ L2.length ≤ l.length + 1 ∧ Below w.heap.size w w' := by
  have KH : Hid (Calls Try.prog 28 #[.slice ak nk ck] w fun e w' => ∃ a n c, e = .returned (.slice a n c) ∧ Pk.Sl kh (.slice a n c) w' ∧ Below w.heap.size w w') := KH0.out w (Below.refl _ _)
  clear KH0
  go_enter Try.func32, Try.ntmps32
  go_wp2_with fail
  refine KH.out.mono ?_
  rintro e w1 ⟨ha, hn, hc, rfl, hkh, hb1⟩
  have x0 := Sl_st hkh
  have bA : Below w1.heap.size w1 (w1.alloc (.cells #[.string (st kh)] 9)) := (Below.refl _ _).alloc (Nat.le_refl _) _
  have HA := heap_alloc_new w1 (.cells #[.string (st kh)] 9)
  have r0 : Hid ((w1.alloc (.cells #[.string (st kh)] 9)).cell? ⟨w1.heap.size, 0, none⟩ = some (.string (st kh))) := by show _ = _; simp only [World.cell?, HA]; rfl
  have h9 : Hid (w1.heap.size < (w1.alloc (.cells #[.string (st kh)] 9)).heap.size) := by show _ < _; simp
  have BA : Hid (Below w.heap.size w (w1.alloc (.cells #[.string (st kh)] 9))) := hb1.trans (bA.mono hb1.size)
  clear hkh hb1 bA HA KH
  go_wp2_with fail
  clear x0
  generalize (w1.alloc (.cells #[.string (st kh)] 9)) = W2 at *
  generalize hg0 : w1.heap.size = g0 at *
  have KC := clone_rt l (.slice la n lc) W2 (Rv_below hl.out BA.out) (by have := HL.out; omega)
  refine KC.mono ?_
  rintro e w3 ⟨z3, rfl, ho3, hb3⟩
  have ho30 := ho3
  obtain ⟨za, zn, zc, rfl⟩ := own_slice ho30
  have KD : Hid (Calls Try.prog 52 #[.slice za zn zc, .func (.func 54) #[] #[.pointer (some ⟨g0, 0, none⟩)]] w3 fun e w' => ∃ z, e = .returned z ∧ Ow W2.heap.size (l.filter fun r => decide (r.1 ≠ kh)) z w' ∧ Below W2.heap.size w3 w') := delf_any l kh g0 W2.heap.size _ w3 ho3 hb3.size h9.out ((hb3.cell (p := ⟨g0, 0, none⟩) h9.out).trans r0.out) (by have := HL.out; omega) hs.out
  have B3 : Hid (Below W2.heap.size W2 w3) := hb3
  clear KC ho3 ho30 hb3
  go_wp2_with fail
  refine KD.out.mono ?_
  rintro e w4 ⟨z4, rfl, ho4, hb4⟩
  have ho40 := ho4
  obtain ⟨ya, yn, yc, rfl⟩ := own_slice ho40
  have B4' : Hid (Below W2.heap.size W2 w4) := B3.out.trans (hb4.mono (Nat.le_refl _))
  have HO4 : Hid (Ow W2.heap.size (l.filter fun r => decide (r.1 ≠ kh)) (.slice ya yn yc) w4) := ho4
  have hcg := (B4'.out.cell (p := ⟨g0, 0, none⟩) h9.out).trans r0.out
  have hlf : Hid ((l.filter fun r => decide (r.1 ≠ kh)).length ≤ 1048576) := Nat.le_trans (List.length_filter_le _ _) HL.out
  clear KD ho4 ho40 hb4 B3
  have FIN : Hid (∀ (M : Rt) (v : Value) (W : World), M = rpm l kh y → Ow W2.heap.size M v W → M.length ≤ 4194304 → Below W2.heap.size W2 W → Calls Try.prog 55 #[v, .func (.func 56) #[] #[]] W fun e w' => e = .returned (.tuple #[]) ∧ ∃ L2 : Rt, RPs l kh y L2 ∧ L2.length = M.length ∧ Rv L2 v w' ∧ Below w.heap.size w w') := fun M v W hM hO hL hB => by
    refine (hso W2.heap.size M v W hO hB.size hL).mono fun e w' he => ?_
    obtain ⟨e1, L2, e2, e3, e4, e5⟩ := he
    subst hM
    refine ⟨e1, L2, rp_spec hs.out hp.out hvo.out hpt.out e2 e3, e2.length_eq, own_rv e4, ?_⟩
    have h1 := hB.trans (e5.mono (Nat.le_refl _))
    exact BA.out.trans (h1.mono BA.out.size)
  by_cases hy0 : y = []
  · have hn1 : nv = 0 := by rw [hn0.out, hy0]; rfl
    have hrp : Hid (rpm l kh y = l.filter fun r => decide (r.1 ≠ kh)) := by show _ = _; unfold rpm; rw [if_pos hy0, List.append_nil]
    subst hn1
    have KS : Hid (Calls Try.prog 55 #[.slice ya yn yc, .func (.func 56) #[] #[]] w4 fun e w' => e = .returned (.tuple #[]) ∧ ∃ L2 : Rt, RPs l kh y L2 ∧ L2.length ≤ l.length + 1 ∧ Rv L2 (.slice ya yn yc) w' ∧ Below w.heap.size w w') := (FIN.out _ _ w4 hrp.out.symm HO4.out (by have := hlf.out; omega) B4'.out).mono fun e w' he => by
      obtain ⟨e1, L2, e2, e3, e4, e5⟩ := he
      exact ⟨e1, L2, e2, by have := List.length_filter_le (fun r : By × By => decide (r.1 ≠ kh)) l; omega, e4, e5⟩
    clear hy0 FIN hy hn0 hcg
    go_wp2_with fail
    refine KS.out.mono ?_
    rintro e w5 ⟨rfl, L2, f1, f2, f3, f4⟩
    have HF : Hid (RPs l kh y L2 ∧ L2.length ≤ l.length + 1 ∧ Rv L2 (.slice ya yn yc) w5 ∧ Below w.heap.size w w5) := ⟨f1, f2, f3, f4⟩
    clear f1 f2 f3 f4
    go_wp2_with fail
    go_ret
    exact ⟨_, L2, rfl, HF.out.2.2.1, HF.out.1, HF.out.2.1, HF.out.2.2.2⟩
  · have hnp : 0 < nv := by rw [hn0.out]; exact List.length_pos_iff.2 hy0
    have d0 : decide ((0 : Int) < (nv : Int)) = true := decide_eq_true (by omega)
    have hrp : Hid (rpm l kh y = (l.filter fun r => decide (r.1 ≠ kh)) ++ [(kh, y)]) := by show _ = _; unfold rpm; rw [if_neg hy0]
    have BW4 : Below w.heap.size w w4 := BA.out.trans (B4'.out.mono BA.out.size)
    have x1 := Sl_st (Pk.Sl_below hy.out BW4)
    have bB : Below w4.heap.size w4 (w4.alloc (.cells #[.string (st kh), .string (st y)] 51)) := (Below.refl _ _).alloc (Nat.le_refl _) _
    obtain ⟨v5, w5, hap, ho5, hb5, -⟩ := app_rv 47 (ow_below HO4.out bB) (lit_rv (kh, y) w4) (Nat.le_trans B4'.out.size bB.size) (by have := hlf.out; simp only [List.length_singleton]; omega)
    obtain ⟨va, vn, vc, rfl⟩ := own_slice ho5
    have B5 : Below W2.heap.size W2 w5 := B4'.out.trans ((bB.mono B4'.out.size).trans hb5)
    have KS : Hid (Calls Try.prog 55 #[.slice va vn vc, .func (.func 56) #[] #[]] w5 fun e w' => e = .returned (.tuple #[]) ∧ ∃ L2 : Rt, RPs l kh y L2 ∧ L2.length ≤ l.length + 1 ∧ Rv L2 (.slice va vn vc) w' ∧ Below w.heap.size w w') := (FIN.out _ _ w5 hrp.out.symm ho5 (by have := hlf.out; simp only [List.length_append, List.length_singleton]; omega) B5).mono fun e w' he => by
      obtain ⟨e1, L2, e2, e3, e4, e5⟩ := he
      exact ⟨e1, L2, e2, by have := List.length_filter_le (fun r : By × By => decide (r.1 ≠ kh)) l; simp only [List.length_append, List.length_singleton] at e3; omega, e4, e5⟩
    clear hy0 FIN hy hn0 ho5 hb5 B5 bB BW4
    go_wp2_with (at_builtin; refine wpList_apw rfl rfl rfl rfl hap ?_)
    refine KS.out.mono ?_
    rintro e w6 ⟨rfl, L2, f1, f2, f3, f4⟩
    have HF : Hid (RPs l kh y L2 ∧ L2.length ≤ l.length + 1 ∧ Rv L2 (.slice va vn vc) w6 ∧ Below w.heap.size w w6) := ⟨f1, f2, f3, f4⟩
    clear f1 f2 f3 f4
    go_wp2_with fail
    go_ret
    exact ⟨_, L2, rfl, HF.out.2.2.1, HF.out.1, HF.out.2.1, HF.out.2.2.2⟩
end Tr
end Go.Proofs.Ytdcbgldelfhohaa
/- tree.Right; the law TreeRights. -/
namespace Go.Proofs.Ytdcbgldelfhohaa
namespace Tr
open Nb Go.RowKit
/-- A node in its box. -/
structure NB (h : Nat) (u : V4) (t : Nd) (lo : Nat) (W wx : World) : Prop where
  bx : Bx h u wx
  n : Nv (· < lo) wx t u
  l : lo ≤ wx.heap.size
  b : Below W.heap.size W wx
theorem NB_below {h : Nat} {u : V4} {t : Nd} {lo : Nat} {W wx w2 : World} (k : NB h u t lo W wx) (b : Below wx.heap.size wx w2) : NB h u t lo W w2 := ⟨Bx_below k.bx b, Nv_below k.n b, Nat.le_trans k.l b.size, k.b.trans (b.mono k.b.size)⟩
theorem NB_new {u : V4} {t : Nd} {lo : Nat} {w : World} (hn : Nv (· < lo) w t u) (hl : lo ≤ w.heap.size) : NB w.heap.size u t lo w (w.alloc (.cells #[u.1, u.2.1, u.2.2.1, u.2.2.2] 25)) := by
  have b : Below w.heap.size w (w.alloc (.cells #[u.1, u.2.1, u.2.2.1, u.2.2.2] 25)) := (Below.refl _ _).alloc (Nat.le_refl _) _
  exact ⟨Bx_new w u, Nv_below hn b, Nat.le_trans hl b.size, b⟩
set_option maxHeartbeats 1000000 in
set_option maxRecDepth 100000 in
theorem right_any (t : Nd) (lo : Nat) (x : V4) (w : World) (hx : Nv (· < lo) w t x) (hlo : lo ≤ w.heap.size) (hw : wn t ≤ 4194304) :
    Calls Try.prog 9 #[v4 x] w fun e w' => e = .returned (.bool (rd 0 t)) ∧ Below w.heap.size w w' := by
  obtain ⟨k, a1, n1, c1, a2, m2, c2, a3, n3, c3, rfl⟩ := Nv_form hx
  have N0 := NB_new hx hlo
  obtain ⟨_, q0, q1, q2, q3⟩ := N0.bx
  dsimp only at q0 q1 q2 q3
  have KR : Hid (∀ wx : World, NB w.heap.size (.int .i64 k, .slice a1 n1 c1, .slice a2 m2 c2, .slice a3 n3 c3) t lo w wx → Calls Try.prog 22 #[.agg #[.int .i64 k, .slice a1 n1 c1, .slice a2 m2 c2, .slice a3 n3 c3], .int .i64 0] wx fun e w' => ∃ y, e = .returned (.tuple #[y, .bool (rd 0 t)]) ∧ Below wx.heap.size wx w') := fun wx hn => by
    refine ((read_all lo (wf_any t)).1 0 (.int .i64 k, .slice a1 n1 c1, .slice a2 m2 c2, .slice a3 n3 c3) wx (by omega) hn.n hn.l hw).mono fun e w' he => ?_
    obtain ⟨y, h1, _, h3⟩ := he
    exact ⟨y, h1, h3⟩
  have HN : Hid (NB w.heap.size (.int .i64 k, .slice a1 n1 c1, .slice a2 m2 c2, .slice a3 n3 c3) t lo w (w.alloc (.cells #[.int .i64 k, .slice a1 n1 c1, .slice a2 m2 c2, .slice a3 n3 c3] 25))) := N0
  clear N0 hx hlo hw
  show Calls Try.prog _ #[.agg #[.int .i64 k, .slice a1 n1 c1, .slice a2 m2 c2, .slice a3 n3 c3]] w _
  generalize rd 0 t = r at *
  go_enter Try.func9, Try.ntmps9
  go_wp2_with fail
  refine (KR.out _ HN.out).mono ?_
  rintro e w1 ⟨y, rfl, hb1⟩
  have HZ : Hid (Below w.heap.size w w1) := HN.out.b.trans (hb1.mono HN.out.b.size)
  clear hb1
  go_wp2_with fail
  go_ret
  exact ⟨rfl, HZ.out⟩
theorem rd_gr (t : Nd) : rd 0 t = gr t := by rw [Bool.eq_iff_iff, rd_right, gr_right]
set_option maxHeartbeats 2000000 in
set_option maxRecDepth 100000 in
theorem law_rights (t : Nd) (hs : Sm t) (x : V4) (w : World) (hx : Nv (· < w.heap.size) w t x) (hw : wn t ≤ 1048576) :
    Calls Try.prog 3 #[v4 x] w fun e w' => e = .returned (.bool true) ∧ Below w.heap.size w w' := by
  obtain ⟨k, a1, n1, c1, a2, m2, c2, a3, n3, c3, rfl⟩ := Nv_form hx
  have N0 := NB_new hx (Nat.le_refl _)
  have KR : Hid (∀ wx : World, NB w.heap.size (.int .i64 k, .slice a1 n1 c1, .slice a2 m2 c2, .slice a3 n3 c3) t w.heap.size w wx → Calls Try.prog 9 #[.agg #[.int .i64 k, .slice a1 n1 c1, .slice a2 m2 c2, .slice a3 n3 c3]] wx fun e w' => e = .returned (.bool (gr t)) ∧ Below wx.heap.size wx w') := fun wx hn => by
    rw [← rd_gr]
    exact right_any t w.heap.size (.int .i64 k, .slice a1 n1 c1, .slice a2 m2 c2, .slice a3 n3 c3) wx hn.n hn.l (by omega)
  have KG : Hid (∀ wx : World, NB w.heap.size (.int .i64 k, .slice a1 n1 c1, .slice a2 m2 c2, .slice a3 n3 c3) t w.heap.size w wx → Calls Try.prog 10 #[.agg #[.int .i64 k, .slice a1 n1 c1, .slice a2 m2 c2, .slice a3 n3 c3]] wx fun e w' => e = .returned (.bool (gr t)) ∧ Below wx.heap.size wx w') := fun wx hn => gright_any grown_ok t hs _ (.int .i64 k, .slice a1 n1 c1, .slice a2 m2 c2, .slice a3 n3 c3) wx hn.n hw
  have R0 : NB w.heap.size (.int .i64 k, .slice a1 n1 c1, .slice a2 m2 c2, .slice a3 n3 c3) t w.heap.size w (w.alloc (.cells #[.int .i64 k, .slice a1 n1 c1, .slice a2 m2 c2, .slice a3 n3 c3] 25)).drew := NB_below N0 (Below.refl _ _).drew
  clear N0 hx hw hs
  show Calls Try.prog _ #[.agg #[.int .i64 k, .slice a1 n1 c1, .slice a2 m2 c2, .slice a3 n3 c3]] w _
  generalize gr t = r at *
  go_enter Try.func3, Try.ntmps3
  go_upto_region 1 with fail
  generalize (w.alloc (.cells #[.int .i64 k, .slice a1 n1 c1, .slice a2 m2 c2, .slice a3 n3 c3] 25)) = W0 at *
  generalize hg0 : w.heap.size = g0 at *
  refine RS.wp_region_one (NB g0 (.int .i64 k, .slice a1 n1 c1, .slice a2 m2 c2, .slice a3 n3 c3) t g0 w) (by kernel_rfl) (by kernel_rfl) (R0) ?_
  dsimp only [List.toList_toArray]
  refine RS.go1 (v := ?_) (a' := ?_) rfl ?_ ?_ ?_
  rotate_left 2
  · intro K wx hS hK
    have m0 := hS.bx.2.1
    have m1 := hS.bx.2.2.1
    have m2' := hS.bx.2.2.2.1
    have m3 := hS.bx.2.2.2.2
    go_simp
    exact hK _ hS
  · simp only [Act.put, List.setIfInBounds_toArray, List.set_cons_succ, List.set_cons_zero]
    rfl
  refine RS.go1 (v := ?_) (a' := ?_) rfl ?_ ?_ ?_
  rotate_left 2
  · intro K wx hS hK
    go_simp
    refine (KR.out _ hS).mono (fun e w2 he => ?_)
    refine ⟨_, he.1, ?_⟩
    exact hK _ (NB_below hS he.2)
  · simp only [Act.put, List.setIfInBounds_toArray, List.set_cons_succ, List.set_cons_zero]
    rfl
  refine RS.go1 (v := ?_) (a' := ?_) rfl ?_ ?_ ?_
  rotate_left 2
  · intro K wx hS hK
    have m0 := hS.bx.2.1
    have m1 := hS.bx.2.2.1
    have m2' := hS.bx.2.2.2.1
    have m3 := hS.bx.2.2.2.2
    go_simp
    exact hK _ hS
  · simp only [Act.put, List.setIfInBounds_toArray, List.set_cons_succ, List.set_cons_zero]
    rfl
  refine RS.go1 (v := ?_) (a' := ?_) rfl ?_ ?_ ?_
  rotate_left 2
  · intro K wx hS hK
    go_simp
    refine (KG.out _ hS).mono (fun e w2 he => ?_)
    refine ⟨_, he.1, ?_⟩
    exact hK _ (NB_below hS he.2)
  · simp only [Act.put, List.setIfInBounds_toArray, List.set_cons_succ, List.set_cons_zero]
    rfl
  refine RS.go1 (v := ?_) (a' := ?_) rfl ?_ ?_ ?_
  rotate_left 2
  · intro K wx hS hK
    have e := beq_self_eq_true r
    go_simp
    exact hK _ hS
  · simp only [Act.put, List.setIfInBounds_toArray, List.set_cons_succ, List.set_cons_zero]
    rfl
  refine RS.go1 (v := ?_) (a' := ?_) rfl ?_ ?_ ?_
  rotate_left 2
  · intro K wx hS hK
    go_simp
    exact hK _ hS
  · simp only [Act.put, List.setIfInBounds_toArray, List.set_cons_succ, List.set_cons_zero]
    rfl
  refine RS.go_end ?_
  intro w9 m9
  have HZ : Hid (Below w.heap.size w w9) := m9.b
  clear m9 R0
  go_wp2_with fail
  go_ret
  exact ⟨rfl, HZ.out⟩
end Tr
end Go.Proofs.Ytdcbgldelfhohaa
/- tree.Get and lampbearerref.GGet, whole. -/
namespace Go.Proofs.Ytdcbgldelfhohaa
namespace Tr
open Nb Go.RowKit
/-- What a value asked for by its key is answered with. -/
def gans (t : Nd) (b : By) : By × Int := if rd 0 t = true then (if b.length ≤ 32 then (gt t (hv b), 0) else ([], 3)) else ([], 1)
theorem gans_form {t : Nd} {b : By} (h : rd 0 t = false) : gans t b = ([], 1) := by
  unfold gans
  rw [h]; rfl
theorem gans_key {t : Nd} {b : By} (h : rd 0 t = true) (hk : ¬ b.length ≤ 32) : gans t b = ([], 3) := by
  unfold gans
  rw [if_pos h, if_neg hk]
theorem gans_val {t : Nd} {b : By} (h : rd 0 t = true) (hk : b.length ≤ 32) : gans t b = (gt t (hv b), 0) := by
  unfold gans
  rw [if_pos h, if_pos hk]
theorem gt_len {t : Nd} (h : Right t) (q : By) : (gt t q).length ≤ 1024 := by
  by_cases e : gt t q = []
  · rw [e]; exact Nat.zero_le _
  · exact (h.2 q e).2.2.2
theorem get_any (t : Nd) (lo : Nat) (x : V4) (w : World) (hx : Nv (· < lo) w t x) (hlo : lo ≤ w.heap.size) (hw : wn t ≤ 4194304) (b : By) (kv : Value) (hb : Bs (· < lo) b kv w) :
    Calls Try.prog 11 #[v4 x, kv] w fun e w' => (∃ a c, e = .returned (.tuple #[.slice a (gans t b).1.length c, .int .i64 (gans t b).2]) ∧ Bs (Sb lo w') (gans t b).1 (.slice a (gans t b).1.length c) w') ∧ Below w.heap.size w w' := by
  obtain ⟨k, a1, n1, c1, a2, m2, c2, a3, n3, c3, rfl⟩ := Nv_form hx
  obtain ⟨ak, ck, rfl, hck⟩ := Bs_form hb
  have KR : ∀ wx : World, Below w.heap.size w wx → Calls Try.prog 22 #[.agg #[.int .i64 k, .slice a1 n1 c1, .slice a2 m2 c2, .slice a3 n3 c3], .int .i64 0] wx (RP lo 0 t wx) := fun wx h => (read_all lo (wf_any t)).1 0 (.int .i64 k, .slice a1 n1 c1, .slice a2 m2 c2, .slice a3 n3 c3) wx (by omega) (Nv_below hx h) (Nat.le_trans hlo h.size) hw
  cases hr : rd 0 t with
  | false =>
    rw [gans_form hr]
    refine (get_form k a1 a2 a3 ak n1 c1 m2 c2 n3 c3 b.length ck w (fun wx h => (KR wx h).mono fun e w' he => ?_)).mono fun e w' he => ?_
    · obtain ⟨y, h1, _, h3⟩ := he
      rw [hr] at h1
      exact ⟨y, h1, h3⟩
    · exact ⟨⟨none, 0, he.1, Bs_nil _ _⟩, he.2⟩
  | true =>
    by_cases hk : b.length ≤ 32
    · rw [gans_val hr hk]
      have hR := (rd_right t).1 hr
      refine get_value k a1 a2 a3 ak n1 c1 m2 c2 n3 c3 b.length ck w lo (gt t (hv b)) (hv b) t (fun y => w.heap.size ≤ y) (fun wx h => (KR wx h).mono fun e w' he => ?_) hk (fun wx h => ?_) (fun ty yy kv wx hin hkv => ?_) (fun v wx hv => ?_)
      · obtain ⟨y, h1, h2, h3⟩ := he
        rw [hr] at h1
        exact ⟨y, h1, In_mono (h2 hr) (fun z hz => Nat.le_trans h.size hz), h3⟩
      · exact halves_bs (Bs_below hb h) (by omega)
      · exact get_all lo _ t _ _ _ _ wx (Nat.le_refl _) hin hR.1 hkv (pt_hv b)
      · refine (clone_bs hv (by have := gt_len hR (Nb.hv b); omega)).mono fun e w' he => ?_
        obtain ⟨v, h1, h2, h3⟩ := he
        obtain ⟨a, c, rfl, _⟩ := Bs_form h2
        exact ⟨a, c, h1, Bs_mono h2 (fun k hk _ => .inr hk.2), h3⟩
    · rw [gans_key hr hk]
      refine (get_key k a1 a2 a3 ak n1 c1 m2 c2 n3 c3 b.length ck w (fun wx h => (KR wx h).mono fun e w' he => ?_) hk).mono fun e w' he => ?_
      · obtain ⟨y, h1, _, h3⟩ := he
        rw [hr] at h1
        exact ⟨y, h1, h3⟩
      · exact ⟨⟨none, 0, he.1, Bs_nil _ _⟩, he.2⟩
theorem lk_find (q : By) : ∀ l : Rt, ∃ i, i ≤ l.length ∧ (∀ j, j < i → (l.getD j n2).1 ≠ q) ∧ (i < l.length → (l.getD i n2).1 = q ∧ (l.getD i n2).2 = lk l q) ∧ (i = l.length → lk l q = [])
  | [] => ⟨0, Nat.le_refl _, fun j hj => absurd hj (by omega), fun h => absurd h (by simp), fun _ => rfl⟩
  | (p, v) :: r => by
    by_cases e : q = p
    · refine ⟨0, Nat.zero_le _, fun j hj => absurd hj (by omega), fun _ => ?_, fun h => by simp at h⟩
      rw [lk, if_pos e]
      exact ⟨e.symm, rfl⟩
    · obtain ⟨i, h1, h2, h3, h4⟩ := lk_find q r
      rw [lk, if_neg e]
      refine ⟨i + 1, by simpa using h1, fun j hj => ?_, fun h => h3 (by simpa using h), fun h => h4 (by simpa using h)⟩
      cases j with
      | zero => exact fun h => e h.symm
      | succ j => exact h2 j (by omega)
theorem gget_any (t : Nd) (hs : Sm t) (S T : Nat → Prop) (x : V4) (w : World) (hx : Nv S w t x) (hw : wn t ≤ 1048576) (b : By) (kv : Value) (hb : Bs T b kv w) :
    Calls Try.prog 12 #[v4 x, kv] w fun e w' => (∃ a c, e = .returned (.tuple #[.slice a (gans t b).1.length c, .int .i64 (gans t b).2]) ∧ Bs (fun _ => True) (gans t b).1 (.slice a (gans t b).1.length c) w') ∧ Below w.heap.size w w' := by
  obtain ⟨k, a1, n1, c1, a2, m2, c2, a3, n3, c3, rfl⟩ := Nv_form hx
  obtain ⟨ak, ck, rfl, hck⟩ := Bs_form hb
  have KG : ∀ wx : World, Below w.heap.size w wx → Calls Try.prog 10 #[.agg #[.int .i64 k, .slice a1 n1 c1, .slice a2 m2 c2, .slice a3 n3 c3]] wx fun e w' => e = .returned (.bool (rd 0 t)) ∧ Below wx.heap.size wx w' := fun wx h => by
    rw [rd_gr]
    exact gright_any grown_ok t hs S (.int .i64 k, .slice a1 n1 c1, .slice a2 m2 c2, .slice a3 n3 c3) wx (Nv_below hx h) hw
  cases hr : rd 0 t with
  | false =>
    rw [gans_form hr]
    rw [hr] at KG
    exact (gg_form k a1 a2 a3 ak n1 c1 m2 c2 n3 c3 b.length ck w KG).mono fun e w' he => ⟨⟨none, 0, he.1, Bs_nil _ _⟩, he.2⟩
  | true =>
    rw [hr] at KG
    by_cases hk : b.length ≤ 32
    · rw [gans_val hr hk]
      have hR := (rd_right t).1 hr
      obtain ⟨l, hl, _, _⟩ := (right_iff t).1 hR
      have hlk := (rt_spec hl).2.2 (hv b)
      have hp : pre [] l = l := by unfold pre; simp
      have hlen : l.length ≤ 1048576 := Nat.le_trans (rt_count (wf_any t) l hl) hw
      obtain ⟨i, h1, h2, h3, h4⟩ := lk_find (hv b) l
      rw [hlk] at h3 h4
      refine gg_value k a1 a2 a3 ak n1 c1 m2 c2 n3 c3 b.length ck w KG hk l (hv b) (gt t (hv b)) hlen (fun wx hbw => ?_) (fun wx h => nhalves_bs (Bs_below hb h) (by omega)) i h1 h2 h3 h4 (by have := gt_len hR (hv b); show _ ≤ _; omega)
      refine (routes_any (wf_any t) S (.int .i64 k, .slice a1 n1 c1, .slice a2 m2 c2, .slice a3 n3 c3) wx [] (Nv_below hx hbw) (by rw [List.length_nil]; omega)).mono fun e w' he => ?_
      obtain ⟨g1 | g1, g2⟩ := he
      · obtain ⟨l2, y, g3, g4, g5⟩ := g1
        rw [hl] at g3
        cases g3
        rw [hp] at g5
        have g6 := g5
        obtain ⟨la, lc, rfl, -, -⟩ := g5
        exact ⟨la, _, lc, g4, ⟨rfl, g6⟩, g2⟩
      · rw [hl] at g1; cases g1.1
    · rw [gans_key hr hk]
      exact (gg_key k a1 a2 a3 ak n1 c1 m2 c2 n3 c3 b.length ck w KG hk).mono fun e w' he => ⟨⟨none, 0, he.1, Bs_nil _ _⟩, he.2⟩
end Tr
end Go.Proofs.Ytdcbgldelfhohaa
/- lampbearerref.GPut at every argument, and the law TreePuts: over what slices.SortFunc does. -/
namespace Go.Proofs.Ytdcbgldelfhohaa
namespace Tr
open Nb Go.RowKit
mutual
theorem bn_bn : ∀ t : Nd, bn (bn t) = bn t
  | .mk k p v ks => by
    have ih := bns_bns ks
    by_cases h1 : k = 1
    · subst h1; simp [bn]
    by_cases h2 : k = 2
    · subst h2; simp [bn, ih]
    by_cases h3 : k = 3
    · subst h3; simp [bn, ih]
    simp [bn, h1, h2, h3]
theorem bns_bns : ∀ l : List Nd, bns (bns l) = bns l
  | [] => by simp [bns]
  | t :: r => by simp [bns, bn_bn t, bns_bns r]
end
/-- The reference's answer to a put. -/
def GR2 (t : Nd) (b y : By) (r : Nd) : Prop := if pe t b y = 0 then ∃ l l2, rt t = some l ∧ RPs l (hv b) y l2 ∧ r = grw l2 ∧ ∀ q ∈ l2, q.1.length < 65 else r = Nd.no
theorem put_eq {t : Nd} {b y : By} {r s : Nd} (h1 : PR t b y r) (h2 : GR2 t b y s) : sn r s = true := by
  rw [sn_bn]
  unfold PR at h1
  unfold GR2 at h2
  by_cases h : pe t b y = 0
  · rw [if_pos h] at h1 h2
    obtain ⟨t', rfl, hr, hu⟩ := h1
    obtain ⟨l, l2, hl, hp, rfl, hn⟩ := h2
    rw [bn_bn]
    exact put_same hl hp hr hu hn
  · rw [if_neg h] at h1 h2
    rw [h1, h2]
theorem rps_short {l l2 : Rt} {p y : By} (h : RPs l p y l2) (hl : ∀ r ∈ l, r.1.length ≤ 64) (hp : p.length ≤ 64) : ∀ r ∈ l2, r.1.length < 65 := fun r hr => by
  have h1 := lk_mem l2 r h.hs hr
  have h2 := h.hv r hr
  rw [h.hk] at h1
  by_cases e : r.1 = p
  · rw [e]; omega
  · rw [if_neg e] at h1
    obtain ⟨r', hr', e'⟩ := lk_in (l := l) (q := r.1) (by rw [h1]; exact h2)
    have := hl r' hr'
    rw [← e']
    omega
theorem gput_any (hso : SortOk) (t : Nd) (hsm : Sm t) (S T T' : Nat → Prop) (x : V4) (w : World) (hx : Nv S w t x) (hw : wn t ≤ 1048576) (b : By) (kv : Value) (hb : Bs T b kv w) (y : By) (yv : Value) (hy : Bs T' y yv w) (hl1 : ∀ l, rt t = some l → l.length + 1 ≤ 1048576) :
    Calls Try.prog 14 #[v4 x, kv, yv] w fun e w' => ∃ (r : Nd) (u : V4), e = .returned (.tuple #[v4 u, .int .i64 (pe t b y)]) ∧ Nv (w.heap.size ≤ ·) w' r u ∧ GR2 t b y r ∧ Below w.heap.size w w' := by
  obtain ⟨k, a1, n1, c1, a2, m2, c2, a3, n3, c3, rfl⟩ := Nv_form hx
  obtain ⟨ak, ck, rfl, _⟩ := Bs_form hb
  obtain ⟨av, cv, rfl, _⟩ := Bs_form hy
  have KG : ∀ wx : World, Below w.heap.size w wx → Calls Try.prog 10 #[.agg #[.int .i64 k, .slice a1 n1 c1, .slice a2 m2 c2, .slice a3 n3 c3]] wx fun e w' => e = .returned (.bool (rd 0 t)) ∧ Below wx.heap.size wx w' := fun wx h => by
    rw [rd_gr]
    exact gright_any grown_ok t hsm S (.int .i64 k, .slice a1 n1 c1, .slice a2 m2 c2, .slice a3 n3 c3) wx (Nv_below hx h) hw
  cases hr : rd 0 t with
  | false =>
    rw [hr] at KG
    have hp : pe t b y = 1 := by unfold pe; rw [hr]; rfl
    have hPR : GR2 t b y Nd.no := by unfold GR2; rw [hp, if_neg (by decide)]
    rw [hp]
    exact (gp_form k a1 a2 a3 ak av n1 c1 m2 c2 n3 c3 b.length ck y.length cv w KG).mono fun e w' he => ⟨Nd.no, (.int .i64 0, .slice none 0 0, .slice none 0 0, .slice none 0 0), he.1, Nv_no _ _, hPR, he.2⟩
  | true =>
    rw [hr] at KG
    have hp : pe t b y = mp b.length y.length := by unfold pe; rw [hr]; rfl
    by_cases hm : mp b.length y.length = 0
    · have hp0 : pe t b y = 0 := hp.trans hm
      have hR := (rd_right t).1 hr
      obtain ⟨l1, l2⟩ := mp_zero hm
      have hlv := hv_len b
      obtain ⟨l, hl, hok, _⟩ := (right_iff t).1 hR
      obtain ⟨r1, r2, r3⟩ := rt_spec hl
      have hvo : VO l := fun r hr => (hok r hr).2.2.1
      have hpre : pre [] l = l := by unfold pre; simp
      have hlen := hl1 l hl
      have hshort : ∀ r ∈ l, r.1.length ≤ 64 := fun r hr => (hok r hr).2.1
      have KM : ∀ wx : World, Calls Try.prog 31 #[.slice ak b.length ck, .slice av y.length cv] wx fun e w' => e = .returned (.int .i64 0) ∧ w' = wx := fun wx => by
        have := puterror_any ak av b.length ck y.length cv wx
        rwa [hm] at this
      have KT : ∀ wx : World, Below w.heap.size w wx → Calls Try.prog 23 #[.agg #[.int .i64 k, .slice a1 n1 c1, .slice a2 m2 c2, .slice a3 n3 c3], .string ⟨#[]⟩] wx fun e w' => ∃ la n lc, e = .returned (.tuple #[.slice la n lc, .bool true]) ∧ Rv l (.slice la n lc) w' ∧ Below wx.heap.size wx w' := fun wx hbw => by
        refine (routes_any (wf_any t) S (.int .i64 k, .slice a1 n1 c1, .slice a2 m2 c2, .slice a3 n3 c3) wx [] (Nv_below hx hbw) (by rw [List.length_nil]; omega)).mono fun e w' he => ?_
        obtain ⟨g1 | g1, g2⟩ := he
        · obtain ⟨l2, y, g3, g4, g5⟩ := g1
          rw [hl] at g3
          cases g3
          rw [hpre] at g5
          have g6 := g5
          obtain ⟨la, lc, rfl, -, -⟩ := g5
          exact ⟨la, _, lc, g4, g6, g2⟩
        · rw [hl] at g1; cases g1.1
      rw [hp0]
      refine (gp_value k a1 a2 a3 ak av n1 c1 m2 c2 n3 c3 b.length ck y.length cv w l (fun l2 => RPs l (hv b) y l2 ∧ l2.length ≤ l.length + 1) KG KM KT (fun v wx hrv hbw => ?_) (fun l2 v wx hpl hrv => ?_)).mono fun e w' he => ?_
      · have hrv0 := hrv
        obtain ⟨la, lc, rfl, _, _⟩ := hrv0
        refine (rput_any l (hv b) y la ak av l.length lc b.length ck y.length cv wx hrv (by show _ ≤ _; omega) r1 r2 hvo (pt_hv b) rfl (Bs_sl (Bs_below hy hbw)) hso (fun wy hby => nhalves_bs (Bs_below (Bs_below hb hbw) hby) (by omega))).mono fun e w' he => ?_
        obtain ⟨z, L2, g1, g2, g3, g4, g5⟩ := he
        have g6 := g2
        obtain ⟨za, zc, rfl, _, _⟩ := g6
        exact ⟨L2, za, _, zc, ⟨g3, g4⟩, g1, g2, g5⟩
      · exact grown_ok l2 v wx hrv (by have := hpl.2; omega) (rps_short hpl.1 hshort (by omega)) hpl.1.hs hpl.1.hp
      · obtain ⟨l2, u, g1, g2, g3, g4⟩ := he
        exact ⟨grw l2, u, g2, g3, by unfold GR2; rw [if_pos hp0]; exact ⟨l, l2, hl, g1.1, rfl, rps_short g1.1 hshort (by omega)⟩, g4⟩
    · have hPR : GR2 t b y Nd.no := by unfold GR2; rw [hp, if_neg hm]
      rw [hp]
      exact (gp_err k a1 a2 a3 ak av n1 c1 m2 c2 n3 c3 b.length ck y.length cv w KG _ (beq_eq_false_iff_ne.2 hm) (fun wx => puterror_any ak av b.length ck y.length cv wx)).mono fun e w' he => ⟨Nd.no, (.int .i64 0, .slice none 0 0, .slice none 0 0, .slice none 0 0), he.1, Nv_no _ _, hPR, he.2⟩
end Tr
end Go.Proofs.Ytdcbgldelfhohaa
/- lampbearerref.GOf, over what slices.SortFunc does. -/
namespace Go.Proofs.Ytdcbgldelfhohaa
namespace Tr
open Nb Go.RowKit
/-- Routes that have what many puts come to. -/
structure GL (l : Rt) (L : Rt) : Prop where
  s : Srt L
  p : Pts L
  v : VO L
  k : ∀ q, lk L q = vl l q
/-- What GOf answers. -/
def OG (l : Rt) (r : Nd) : Prop := if oe l = 0 then ∃ L, GL l L ∧ r = grw L ∧ ∀ q ∈ L, q.1.length < 65 else r = Nd.no
/-- What stands behind k rounds of GOf. -/
structure OJ (l : Rt) (w : World) (k : Nat) (lv : Value) (wr : World) : Prop where
  nd : ∃ L, Rv L lv wr ∧ GL (l.take k) L ∧ L.length ≤ k
  ok : ∀ r ∈ l.take k, mp r.1.length r.2.length = 0
  b : Below w.heap.size w wr
  v : B4 w.heap.size wr
theorem gl_short {l L : Rt} (h : GL l L) (ho : ∀ r ∈ l, mp r.1.length r.2.length = 0) : ∀ q ∈ L, q.1.length < 65 := fun q hq => by
  have h1 := lk_mem L q h.s hq
  have h2 := h.v q hq
  rw [h.k] at h1
  have := (vl_ln ho).1 q.1 (by rw [h1]; exact h2)
  omega
set_option maxHeartbeats 2000000 in
set_option maxRecDepth 100000 in
theorem gof_any (hso : SortOk) (l : Rt) (ao : Option Addr) (n cap : Nat) (w : World) (hl : Pv (· < w.heap.size) l (.slice ao n cap) w) (hn : Hid (n = l.length)) (HL : Hid (n ≤ 1048576)) :
    Calls Try.prog 20 #[.slice ao n cap] w fun e w' => ∃ (r : Nd) (u : V4), e = .returned (.tuple #[v4 u, .int .i64 (oe l)]) ∧ Nv (w.heap.size ≤ ·) w' r u ∧ OG l r ∧ Below w.heap.size w w' := by
  have HP : Hid (Pv (· < w.heap.size) l (.slice ao n cap) w) := hl
  have HSO : Hid SortOk := hso
  have bA : Below w.heap.size w (w.alloc (.cells #[.int .i64 0, .slice none 0 0, .slice none 0 0, .slice none 0 0] 25)) := (Below.refl _ _).alloc (Nat.le_refl _) _
  have I0 : Hid (OJ l w 0 (.slice none 0 0) (w.alloc (.cells #[.int .i64 0, .slice none 0 0, .slice none 0 0, .slice none 0 0] 25))) := ⟨⟨[], Rv_nil _, ⟨.nil, fun r hr => absurd hr (by simp), fun r hr => absurd hr (by simp), fun q => rfl⟩, Nat.le_refl _⟩, fun r hr => absurd hr (by simp), bA, B4_new w⟩
  clear hl bA hso
  go_enter Try.func20, Try.ntmps20
  go_wp2_with fail
  generalize (w.alloc (.cells #[.int .i64 0, .slice none 0 0, .slice none 0 0, .slice none 0 0] 25)) = W0 at *
  go_loopw [4, 10] (fun lv i wr => ∃ k : Nat, k ≤ n ∧ i = .int .i64 (k : Int) ∧ OJ l w k lv wr) (fun _ i _ => ((n : Int) - intOf i).toNat)
  case atStart => exact ⟨0, Nat.zero_le _, rfl, I0.out⟩
  case round =>
    obtain ⟨k, hk, rfl, hI⟩ := hrel
    have HI : Hid (OJ l w k u4 wr) := hI
    obtain ⟨L, hrv, _⟩ := hI.nd
    obtain ⟨la, lc, rfl, _⟩ := hrv
    generalize L.length = ln at *
    clear hI
    by_cases hlt : k < n
    · have hkl : k < l.length := by have := hn.out; omega
      have d0 : decide ((k : Int) < (n : Int)) = true := decide_eq_true (by omega)
      have d1 : (0 : Int) ≤ (k : Int) := by omega
      have d2 : (k : Int) < (n : Int) := by omega
      obtain ⟨g, off, kv, vv, rfl, hgw, hgl, c0, c1, hb0, hb1⟩ := Pv_at HP.out hkl
      obtain ⟨kb, hkb⟩ : ∃ kb, kb = (l.getD k n2).1 := ⟨_, rfl⟩
      obtain ⟨vb, hvb⟩ : ∃ vb, vb = (l.getD k n2).2 := ⟨_, rfl⟩
      rw [← hkb] at hb0
      rw [← hvb] at hb1
      obtain ⟨ak, ck, rfl, _⟩ := Bs_form hb0
      obtain ⟨av, cv, rfl, _⟩ := Bs_form hb1
      have r0 : wr.cell? ⟨g, off + k * 2, none⟩ = some (.slice ak kb.length ck) := (HI.out.b.cell (p := ⟨g, off + k * 2, none⟩) hgl).trans (by rw [Nat.mul_comm k 2]; exact c0)
      have r1 : wr.cell? ⟨g, off + k * 2 + 1, none⟩ = some (.slice av vb.length cv) := (HI.out.b.cell (p := ⟨g, off + k * 2 + 1, none⟩) hgl).trans (by rw [Nat.mul_comm k 2]; exact c1)
      have HKB : Hid (Bs (· < w.heap.size) kb (.slice ak kb.length ck) w) := hb0
      have HVB : Hid (Bs (· < w.heap.size) vb (.slice av vb.length cv) w) := hb1
      have HR : Hid ((kb, vb) = l.getD k n2) := by rw [hkb, hvb]; exact rfl
      have e5 : Hid (wrap64 ((k : Int) + 1) = ((k + 1 : Nat) : Int)) := by have := HL.out; show _ = _; unfold wrap64; omega
      have hms := msr_up k n hlt
      obtain ⟨nk, hnk⟩ : ∃ nk, nk = kb.length := ⟨_, rfl⟩
      obtain ⟨nv, hnv⟩ : ∃ nv, nv = vb.length := ⟨_, rfl⟩
      have HNK : Hid (nk = kb.length) := hnk
      have HNV : Hid (nv = vb.length) := hnv
      rw [← hnk] at HKB r0
      rw [← hnv] at HVB r1
      clear hnk hnv hb0 hb1 c0 c1
      have KM : Hid (∀ wx : World, Calls Try.prog 31 #[.slice ak nk ck, .slice av nv cv] wx fun e w' => e = .returned (.int .i64 (mp nk nv)) ∧ w' = wx) := fun wx => puterror_any ak av nk ck nv cv wx
      have HA := heap_alloc_new wr (.cells #[.slice ak nk ck, .slice av nv cv] 65)
      have p0 : (wr.alloc (.cells #[.slice ak nk ck, .slice av nv cv] 65)).cell? ⟨wr.heap.size, 0, none⟩ = some (.slice ak nk ck) := by simp only [World.cell?, HA]; rfl
      have p1 : (wr.alloc (.cells #[.slice ak nk ck, .slice av nv cv] 65)).cell? ⟨wr.heap.size, 1, none⟩ = some (.slice av nv cv) := by simp only [World.cell?, HA]; rfl
      have bW : Below wr.heap.size wr (wr.alloc (.cells #[.slice ak nk ck, .slice av nv cv] 65)) := (Below.refl _ _).alloc (Nat.le_refl _) _
      have HI1 : Hid (OJ l w k (.slice la ln lc) (wr.alloc (.cells #[.slice ak nk ck, .slice av nv cv] 65))) := by
        obtain ⟨⟨L, h1, h2, h3⟩, ok, b, v⟩ := HI.out
        exact ⟨⟨L, Rv_below h1 bW, h2, h3⟩, ok, b.trans (bW.mono b.size), B4_gb (r := none) v (gb_below bW) (fun e => by cases e)⟩
      clear HA bW HI hgw hgl hkb hvb HP
      generalize hw1 : (wr.alloc (.cells #[.slice ak nk ck, .slice av nv cv] 65)) = w1 at *
      by_cases hm : mp nk nv = 0
      · rw [hm] at KM
        have KP : Hid (∀ wx : World, wx = w1 → Calls Try.prog 32 #[.slice la ln lc, .slice ak nk ck, .slice av nv cv] wx fun e w' => ∃ a m c, e = .returned (.slice a m c) ∧ OJ l w (k + 1) (.slice a m c) w') := fun wx ew => by
          subst ew
          obtain ⟨⟨L, h1, h2, h3⟩, ok, b, v⟩ := HI1.out
          have hm' : mp (l.getD k n2).1.length (l.getD k n2).2.length = 0 := by rw [← HR.out, ← HNK.out, ← HNV.out]; exact hm
          obtain ⟨l1, l2⟩ := mp_zero hm
          have hL2 := HNK.out
          refine (rput_any L (hv kb) vb la ak av ln lc nk ck nv cv _ h1 (by have := HL.out; show _ ≤ _; omega) h2.s h2.p h2.v (pt_hv kb) HNV.out (Bs_sl (Bs_below HVB.out b)) HSO.out (fun wy hby => nhalves_bs (Bs_below (Bs_below HKB.out b) hby) (by omega))).mono fun e w' he => ?_
          obtain ⟨z, L2, g1, g2, g3, g4, g5⟩ := he
          have g6 := g2
          obtain ⟨za, zc, rfl, _, _⟩ := g6
          refine ⟨za, _, zc, g1, ⟨L2, g2, ⟨g3.hs, g3.hp, g3.hv, fun q => ?_⟩, by omega⟩, fun r hr => ?_, b.trans (g5.mono b.size), B4_gb (r := none) v (gb_below g5) (fun e => by cases e)⟩
          · rw [take_snoc l k hkl, vl_snoc, ← HR.out, g3.hk q, h2.k q]
          · rw [take_snoc l k hkl] at hr
            rcases List.mem_append.1 hr with hr | hr
            · exact ok r hr
            · rw [List.mem_singleton.1 hr]; exact hm'
        clear HR HKB HVB HNK HNV HI1 hm HSO hn hk hkl HL
        go_wp2_with fail
        refine (KM.out _).mono ?_
        rintro e w2 ⟨rfl, rfl⟩
        go_wp2_with fail
        refine (KP.out _ rfl).mono ?_
        rintro e w3 ⟨a3, m3, c3, rfl, hJ⟩
        have HJ : Hid (OJ l w (k + 1) (.slice a3 m3 c3) w3) := hJ
        clear hJ KP KM p0 p1 r0 r1
        go_wp2_with fail
        rw [e5.out]
        exact ⟨⟨k + 1, hlt, rfl, HJ.out⟩, hms⟩
      · have hm' : oe l = mp nk nv := by
          have h0 := oe_at l k hkl HI1.out.ok (by rw [← HR.out]; show mp kb.length vb.length ≠ 0; rw [← HNK.out, ← HNV.out]; exact hm)
          rw [h0, ← HR.out]
          show mp kb.length vb.length = _
          rw [← HNK.out, ← HNV.out]
        have hOG : Hid (OG l Nd.no) := by show OG _ _; unfold OG; rw [hm', if_neg hm]
        have HB : Hid (Below w.heap.size w w1) := HI1.out.b
        have hbv := HI1.out.v
        have hne : (mp nk nv == 0) = false := beq_eq_false_iff_ne.2 hm
        have HOE : Hid (oe l = mp nk nv) := hm'
        clear HR HKB HVB HNK HNV HI1 hm HSO hn hk hkl HL hm' I0 e5 hms
        generalize mp nk nv = er at *
        go_wp2_with fail
        refine (KM.out _).mono ?_
        rintro e w2 ⟨rfl, rfl⟩
        go_wp2_with (refine wpList_st4 rfl rfl rfl rfl hbv ?_; intro w9 gb9 s0 s1 s2 s3)
        have B9 : Below w.heap.size w w9 := HB.out.grown gb9 HB.out.size (fun k e => by injection e with e; omega)
        exact bodyPost_ret (v := .tuple #[.agg #[.int .i64 0, .slice none 0 0, .slice none 0 0, .slice none 0 0], .int .i64 er]) (resN2 _ _ _ w.heap.size 2 3 _ _ _ _ _ rfl rfl rfl s0 s1 s2 s3) rfl ⟨Nd.no, (.int .i64 0, .slice none 0 0, .slice none 0 0, .slice none 0 0), by rw [HOE.out]; rfl, Nv_no _ _, hOG.out, B9⟩
    · have ek : k = n := by omega
      subst ek
      have d0 : decide ((k : Int) < (k : Int)) = false := decide_eq_false (by omega)
      have hne := hn.out
      obtain ⟨⟨L, h1, h2, h3⟩, ok, b, v⟩ := HI.out
      rw [List.take_of_length_le (by omega)] at h2 ok
      have ho0 : oe l = 0 := oe_zero l ok
      have hsh := gl_short h2 ok
      have hOG : Hid (OG l (grw L)) := by show OG _ _; unfold OG; rw [if_pos ho0]; exact ⟨L, h2, rfl, hsh⟩
      have KW : Hid (Calls Try.prog 24 #[.slice la ln lc] wr fun e w' => ∃ u : V4, e = .returned (v4 u) ∧ Nv (wr.heap.size ≤ ·) w' (grw L) u ∧ Below wr.heap.size wr w') := grown_ok L _ wr h1 (by have := HL.out; omega) hsh h2.s h2.p
      have HB : Hid (Below w.heap.size w wr) := b
      have HV : Hid (B4 w.heap.size wr) := v
      have HOE : Hid (oe l = 0) := ho0
      clear HI h1 h2 h3 ok b v hsh ho0 HP HSO hn hne HL hk hlt I0
      go_wp2_with fail
      refine KW.out.mono ?_
      rintro e w5 ⟨u, rfl, hn5, hb5⟩
      obtain ⟨uk, ua1, un1, uc1, ua2, un2, uc2, ua3, un3, uc3, rfl⟩ := Nv_form hn5
      have hbv5 : B4 w.heap.size w5 := B4_gb (r := none) HV.out (gb_below hb5) (fun e => by cases e)
      have HZ5 : Hid (Below w.heap.size w w5) := HB.out.trans (hb5.mono HB.out.size)
      have HG4 : Hid (w.heap.size < wr.heap.size) := HV.out.hi
      have HN5 : Hid (Nv (wr.heap.size ≤ ·) w5 (grw L) (.int .i64 uk, .slice ua1 un1 uc1, .slice ua2 un2 uc2, .slice ua3 un3 uc3)) := hn5
      clear hn5 hb5 HB HV KW
      simp only [v4]
      go_wp2_with (refine wpList_st4 rfl rfl rfl rfl hbv5 ?_; intro w9 gb9 s0 s1 s2 s3)
      have B9 : Below w.heap.size w w9 := HZ5.out.grown gb9 HZ5.out.size (fun k e => by injection e with e; omega)
      have N9 : Nv (w.heap.size ≤ ·) w9 (grw L) (.int .i64 uk, .slice ua1 un1 uc1, .slice ua2 un2 uc2, .slice ua3 un3 uc3) :=
        Nv_mono (Nv_gb HN5.out gb9 (fun k hk e => by injection e with e; have := HG4.out; omega)) (fun k hk _ => by have := HG4.out; omega)
      exact bodyPost_ret (v := .tuple #[.agg #[.int .i64 uk, .slice ua1 un1 uc1, .slice ua2 un2 uc2, .slice ua3 un3 uc3], .int .i64 0]) (resN2 _ _ _ w.heap.size 2 3 _ _ _ _ _ rfl rfl rfl s0 s1 s2 s3) rfl ⟨grw L, (.int .i64 uk, .slice ua1 un1 uc1, .slice ua2 un2 uc2, .slice ua3 un3 uc3), by rw [HOE.out]; rfl, N9, hOG.out, B9⟩
end Tr
end Go.Proofs.Ytdcbgldelfhohaa
/- The law TreePuts, over what slices.SortFunc does. -/
namespace Go.Proofs.Ytdcbgldelfhohaa
namespace Tr
open Nb Go.RowKit
theorem rt_less {t : Nd} {l : Rt} (h : rt t = some l) : l.length + 1 ≤ wn t := by
  cases t with
  | mk k p v ks =>
    unfold rt at h
    split at h
    · cases h
    split at h
    · cases h
      unfold wn
      rw [List.length_nil]; omega
    split at h
    · cases h
      unfold wn
      rw [List.length_singleton]; omega
    split at h
    · rename_i h2
      obtain ⟨t, rfl⟩ := List.length_eq_one_iff.1 h2.2
      rw [rt0] at h
      cases ha : rt t with
      | none => rw [ha] at h; cases h
      | some a =>
        rw [ha] at h
        cases h
        have := rt_count (wf_any t) a ha
        unfold wn wnk wnk
        rw [pre_len']; omega
    split at h
    · cases ha : rtk 0 ks with
      | none => rw [ha] at h; cases h
      | some a =>
        rw [ha] at h
        cases h
        have := rtk_count ks 0 a (fun j hj l hl => rt_count (wf_any _) l hl) ha
        unfold wn
        rw [List.length_append]
        split
        · rw [List.length_nil]; omega
        · rw [List.length_singleton]; omega
    · cases h
end Tr
end Go.Proofs.Ytdcbgldelfhohaa
/- The law TreePuts, over what slices.SortFunc does. -/
namespace Go.Proofs.Ytdcbgldelfhohaa
namespace Tr
open Nb Go.RowKit
theorem bns_len' : ∀ l : List Nd, (bns l).length = l.length
  | [] => rfl
  | t :: r => by rw [bns, List.length_cons, List.length_cons, bns_len' r]
theorem bns_at : ∀ (l : List Nd) (j : Nat), j < l.length → (bns l).getD j Nd.no = bn (l.getD j Nd.no)
  | [], j, h => absurd h (by simp)
  | t :: r, 0, _ => by rw [bns]; rfl
  | t :: r, j + 1, h => by
    rw [bns, List.getD_cons_succ, List.getD_cons_succ]
    exact bns_at r j (by simpa using h)
theorem sm_nil (k : Int) (p v : By) : Sm (.mk k p v []) := .mk k p v [] (by simp) (fun j hj => absurd hj (by simp))
theorem sm_bn {t : Nd} (h : Rs t) : Sm (bn t) := by
  induction h with
  | none p v ks => simp only [bn]; exact sm_nil _ _ _
  | leaf p v ks hp hv => simp only [bn]; exact sm_nil _ _ _
  | road p v t hp h0 hk h ih =>
    have e : bn (.mk 2 p v [t]) = .mk 2 p [] [bn t] := by simp [bn, bns]
    rw [e]
    refine .mk 2 p [] [bn t] (by simp) (fun j hj => ?_)
    have : j = 0 := by simpa using hj
    subst this
    exact ih
  | fork p v ks hl h h2 ih =>
    have e : bn (.mk 3 p v ks) = .mk 3 [] v (bns ks) := by simp [bn]
    rw [e]
    refine .mk 3 [] v (bns ks) (by rw [bns_len', hl]; omega) (fun j hj => ?_)
    rw [bns_len'] at hj
    rw [bns_at ks j hj]
    exact ih j (by omega)
theorem pr_sm {t : Nd} {b y : By} {r : Nd} (h : PR t b y r) : Sm r := by
  unfold PR at h
  split at h
  · obtain ⟨t', rfl, hr, _⟩ := h
    exact sm_bn hr
  · rw [h]; exact sm_nil _ _ _
set_option maxHeartbeats 2000000 in
set_option maxRecDepth 100000 in
theorem law_puts (hso : SortOk) (t : Nd) (hs : Sm t) (x : V4) (w : World) (hx : Nv (· < w.heap.size) w t x) (hw : wn t ≤ 1048576) (b : By) (kv : Value) (hb : Bs (· < w.heap.size) b kv w) (y : By) (yv : Value) (hy : Bs (· < w.heap.size) y yv w) :
    Calls Try.prog 5 #[v4 x, kv, yv] w fun e w' => e = .returned (.bool true) ∧ Below w.heap.size w w' := by
  obtain ⟨k, a1, n1, c1, a2, m2, c2, a3, n3, c3, rfl⟩ := Nv_form hx
  obtain ⟨ak, ck, rfl, _⟩ := Bs_form hb
  obtain ⟨av, cv, rfl, _⟩ := Bs_form hy
  have N0 := NB_new hx (Nat.le_refl _)
  have KX : Hid (∀ wx : World, NB w.heap.size (.int .i64 k, .slice a1 n1 c1, .slice a2 m2 c2, .slice a3 n3 c3) t w.heap.size w wx → Calls Try.prog 13 #[.agg #[.int .i64 k, .slice a1 n1 c1, .slice a2 m2 c2, .slice a3 n3 c3], .slice ak b.length ck, .slice av y.length cv] wx fun e w' => ∃ (r : Nd) (u : V4), e = .returned (.tuple #[v4 u, .int .i64 (pe t b y)]) ∧ (Nv (fun _ => True) w' r u ∧ PR t b y r) ∧ Below wx.heap.size wx w') := fun wx hn => by
    refine (tput_any t _ _ _ (.int .i64 k, .slice a1 n1 c1, .slice a2 m2 c2, .slice a3 n3 c3) wx hn.n (by omega) b _ (Bs_below hb hn.b) y _ (Bs_below hy hn.b)).mono fun e w' he => ?_
    obtain ⟨r, u, h1, h2, h3, h4⟩ := he
    exact ⟨r, u, h1, ⟨Nv_mono h2 (fun _ _ _ => trivial), h3⟩, h4⟩
  have KY : Hid (∀ wx : World, NB w.heap.size (.int .i64 k, .slice a1 n1 c1, .slice a2 m2 c2, .slice a3 n3 c3) t w.heap.size w wx → Calls Try.prog 14 #[.agg #[.int .i64 k, .slice a1 n1 c1, .slice a2 m2 c2, .slice a3 n3 c3], .slice ak b.length ck, .slice av y.length cv] wx fun e w' => ∃ (r : Nd) (u : V4), e = .returned (.tuple #[v4 u, .int .i64 (pe t b y)]) ∧ (Nv (fun _ => True) w' r u ∧ GR2 t b y r) ∧ Below wx.heap.size wx w') := fun wx hn => by
    refine (gput_any hso t hs _ _ _ (.int .i64 k, .slice a1 n1 c1, .slice a2 m2 c2, .slice a3 n3 c3) wx hn.n hw b _ (Bs_below hb hn.b) y _ (Bs_below hy hn.b) (fun l hl => Nat.le_trans (rt_less hl) hw)).mono fun e w' he => ?_
    obtain ⟨r, u, h1, h2, h3, h4⟩ := he
    exact ⟨r, u, h1, ⟨Nv_mono h2 (fun _ _ _ => trivial), h3⟩, h4⟩
  have R0 : Hid (NB w.heap.size (.int .i64 k, .slice a1 n1 c1, .slice a2 m2 c2, .slice a3 n3 c3) t w.heap.size w (w.alloc (.cells #[.int .i64 k, .slice a1 n1 c1, .slice a2 m2 c2, .slice a3 n3 c3] 25))) := N0
  clear N0 hx hw hs hb hy
  show Calls Try.prog _ #[.agg #[.int .i64 k, .slice a1 n1 c1, .slice a2 m2 c2, .slice a3 n3 c3], .slice ak b.length ck, .slice av y.length cv] w _
  have q0 := R0.out.bx.2.1
  have q1 := R0.out.bx.2.2.1
  have q2 := R0.out.bx.2.2.2.1
  have q3 := R0.out.bx.2.2.2.2
  dsimp only at q0 q1 q2 q3
  generalize hP : pe t b y = P at *
  generalize hW : (w.alloc (.cells #[.int .i64 k, .slice a1 n1 c1, .slice a2 m2 c2, .slice a3 n3 c3] 25)) = W1 at *
  go_enter Try.func5, Try.ntmps5
  go_wp2_with fail
  refine (KX.out _ R0.out).mono ?_
  rintro e w1 ⟨r1, u1, rfl, hr1, hb1⟩
  have R1 : Hid (NB w.heap.size (.int .i64 k, .slice a1 n1 c1, .slice a2 m2 c2, .slice a3 n3 c3) t w.heap.size w w1) := NB_below R0.out hb1
  have HR1 : Hid (Nv (fun _ => True) w1 r1 u1 ∧ PR t b y r1) := hr1
  obtain ⟨xk, xa1, xn1, xc1, xa2, xn2, xc2, xa3, xn3, xc3, rfl⟩ := Nv_form hr1.1
  have bA : Below w1.heap.size w1 (w1.alloc (.cells #[.int .i64 xk, .slice xa1 xn1 xc1, .slice xa2 xn2 xc2, .slice xa3 xn3 xc3] 25)) := (Below.refl _ _).alloc (Nat.le_refl _) _
  have BX1 := Bx_new w1 (.int .i64 xk, .slice xa1 xn1 xc1, .slice xa2 xn2 xc2, .slice xa3 xn3 xc3)
  dsimp only at BX1
  have R2 : Hid (NB w.heap.size (.int .i64 k, .slice a1 n1 c1, .slice a2 m2 c2, .slice a3 n3 c3) t w.heap.size w (w1.alloc (.cells #[.int .i64 xk, .slice xa1 xn1 xc1, .slice xa2 xn2 xc2, .slice xa3 xn3 xc3] 25))) := NB_below R1.out bA
  have HR2 : Hid (Nv (fun _ => True) (w1.alloc (.cells #[.int .i64 xk, .slice xa1 xn1 xc1, .slice xa2 xn2 xc2, .slice xa3 xn3 xc3] 25)) r1 (.int .i64 xk, .slice xa1 xn1 xc1, .slice xa2 xn2 xc2, .slice xa3 xn3 xc3) ∧ PR t b y r1) := ⟨Nv_below hr1.1 bA, hr1.2⟩
  have HBX : Hid (Bx w1.heap.size (.int .i64 xk, .slice xa1 xn1 xc1, .slice xa2 xn2 xc2, .slice xa3 xn3 xc3) (w1.alloc (.cells #[.int .i64 xk, .slice xa1 xn1 xc1, .slice xa2 xn2 xc2, .slice xa3 xn3 xc3] 25))) := BX1
  clear hb1 hr1 bA BX1 R0 R1 HR1 KX hW q0 q1 q2 q3
  simp only [v4]
  have q0 := R2.out.bx.2.1
  have q1 := R2.out.bx.2.2.1
  have q2 := R2.out.bx.2.2.2.1
  have q3 := R2.out.bx.2.2.2.2
  dsimp only at q0 q1 q2 q3
  go_wp2_with fail
  refine (KY.out _ R2.out).mono ?_
  rintro e w2 ⟨r2, u2, rfl, hr2, hb2⟩
  obtain ⟨zk, za1, zn1, zc1, za2, zn2, zc2, za3, zn3, zc3, rfl⟩ := Nv_form hr2.1
  have bB : Below w2.heap.size w2 (w2.alloc (.cells #[.int .i64 zk, .slice za1 zn1 zc1, .slice za2 zn2 zc2, .slice za3 zn3 zc3] 25)) := (Below.refl _ _).alloc (Nat.le_refl _) _
  have BX2 := Bx_new w2 (.int .i64 zk, .slice za1 zn1 zc1, .slice za2 zn2 zc2, .slice za3 zn3 zc3)
  dsimp only at BX2
  have BX1 := Bx_below (Bx_below HBX.out hb2) bB
  have hz := put_eq HR2.out.2 hr2.2
  have hN1 := Nv_below (Nv_below HR2.out.1 hb2) bB
  have hN2 := Nv_below hr2.1 bB
  have KS : Hid (∀ wx : World, wx = (w2.alloc (.cells #[.int .i64 zk, .slice za1 zn1 zc1, .slice za2 zn2 zc2, .slice za3 zn3 zc3] 25)) → Calls Try.prog 15 #[.agg #[.int .i64 xk, .slice xa1 xn1 xc1, .slice xa2 xn2 xc2, .slice xa3 xn3 xc3], .agg #[.int .i64 zk, .slice za1 zn1 zc1, .slice za2 zn2 zc2, .slice za3 zn3 zc3]] wx fun e w' => e = .returned (.bool true) ∧ Below w.heap.size w w') := fun wx ew => by
    subst ew
    have h := same_any (pr_sm HR2.out.2) r2 _ _ (.int .i64 xk, .slice xa1 xn1 xc1, .slice xa2 xn2 xc2, .slice xa3 xn3 xc3) (.int .i64 zk, .slice za1 zn1 zc1, .slice za2 zn2 zc2, .slice za3 zn3 zc3) _ hN1 hN2
    rw [hz] at h
    refine h.mono fun e w' he => ⟨he.1, ?_⟩
    have b3 := (NB_below (NB_below R2.out hb2) bB).b
    exact b3.trans (he.2.mono b3.size)
  have m0 := BX1.2.1
  have m1 := BX1.2.2.1
  have m2' := BX1.2.2.2.1
  have m3 := BX1.2.2.2.2
  have k0 := BX2.2.1
  have k1 := BX2.2.2.1
  have k2 := BX2.2.2.2.1
  have k3 := BX2.2.2.2.2
  dsimp only at m0 m1 m2' m3 k0 k1 k2 k3
  have cb : (P == P) = true := beq_self_eq_true P
  clear hb2 hr2 bB BX1 BX2 hz hN1 hN2 R2 HR2 HBX KY q0 q1 q2 q3
  simp only [v4]
  go_wp2_with fail
  refine (KS.out _ rfl).mono ?_
  rintro e w9 ⟨rfl, hb9⟩
  have HZ : Hid (Below w.heap.size w w9) := hb9
  clear hb9 KS m0 m1 m2' m3 k0 k1 k2 k3
  go_wp2_with fail
  go_ret
  exact ⟨rfl, HZ.out⟩
end Tr
end Go.Proofs.Ytdcbgldelfhohaa
/- The law TreeBuilds, over what slices.SortFunc does. -/
namespace Go.Proofs.Ytdcbgldelfhohaa
namespace Tr
open Nb Go.RowKit
theorem of_eq {l : Rt} {r s : Nd} (h1 : OR l r) (h2 : OG l s) : sn r s = true := by
  rw [sn_bn]
  unfold OR at h1
  unfold OG at h2
  by_cases h : oe l = 0
  · rw [if_pos h] at h1 h2
    obtain ⟨t', rfl, hr, hu⟩ := h1
    obtain ⟨L, hp, rfl, hn⟩ := h2
    rw [bn_bn]
    obtain ⟨g1, g2⟩ := grow_spec 65 L hn hp.s hp.p hp.v
    refine uniq hr _ g1 (fun q => ?_)
    rw [hu q]
    exact ((g2 q).trans (hp.k q)).symm
  · rw [if_neg h] at h1 h2
    rw [h1, h2]
theorem or_sm {l : Rt} {r : Nd} (h : OR l r) : Sm r := by
  unfold OR at h
  split at h
  · obtain ⟨t', rfl, hr, _⟩ := h
    exact sm_bn hr
  · rw [h]; exact sm_nil _ _ _
set_option maxHeartbeats 2000000 in
set_option maxRecDepth 100000 in
theorem law_builds (hso : SortOk) (l : Rt) (v : Value) (w : World) (hl : Pv (· < w.heap.size) l v w) (hw : l.length ≤ 1048576) :
    Calls Try.prog 7 #[v] w fun e w' => e = .returned (.bool true) ∧ Below w.heap.size w w' := by
  obtain ⟨ao, cap, rfl, _⟩ := Pv_form hl
  have KX : Hid (Calls Try.prog 19 #[.slice ao l.length cap] w fun e w' => ∃ (r : Nd) (u : V4), e = .returned (.tuple #[v4 u, .int .i64 (oe l)]) ∧ (Nv (fun _ => True) w' r u ∧ OR l r) ∧ Below w.heap.size w w') := by
    refine (of_any l ao l.length cap w hl rfl (by show _ ≤ _; omega)).mono fun e w' he => ?_
    obtain ⟨r, u, h1, h2, h3, h4⟩ := he
    exact ⟨r, u, h1, ⟨Nv_mono h2 (fun _ _ _ => trivial), h3⟩, h4⟩
  have KY : Hid (∀ wx : World, Below w.heap.size w wx → Calls Try.prog 20 #[.slice ao l.length cap] wx fun e w' => ∃ (r : Nd) (u : V4), e = .returned (.tuple #[v4 u, .int .i64 (oe l)]) ∧ (Nv (fun _ => True) w' r u ∧ OG l r) ∧ Below wx.heap.size wx w') := fun wx hb => by
    refine (gof_any hso l ao l.length cap wx (Pv_mono (Pv_below hl hb) (fun _ hk h => h)) rfl hw).mono fun e w' he => ?_
    obtain ⟨r, u, h1, h2, h3, h4⟩ := he
    exact ⟨r, u, h1, ⟨Nv_mono h2 (fun _ _ _ => trivial), h3⟩, h4⟩
  clear hl hw hso
  generalize hP : oe l = P at *
  generalize l.length = n at *
  go_enter Try.func7, Try.ntmps7
  go_wp2_with fail
  refine KX.out.mono ?_
  rintro e w1 ⟨r1, u1, rfl, hr1, hb1⟩
  obtain ⟨xk, xa1, xn1, xc1, xa2, xn2, xc2, xa3, xn3, xc3, rfl⟩ := Nv_form hr1.1
  have bA : Below w1.heap.size w1 (w1.alloc (.cells #[.int .i64 xk, .slice xa1 xn1 xc1, .slice xa2 xn2 xc2, .slice xa3 xn3 xc3] 25)) := (Below.refl _ _).alloc (Nat.le_refl _) _
  have BX1 := Bx_new w1 (.int .i64 xk, .slice xa1 xn1 xc1, .slice xa2 xn2 xc2, .slice xa3 xn3 xc3)
  dsimp only at BX1
  have R2 : Hid (Below w.heap.size w (w1.alloc (.cells #[.int .i64 xk, .slice xa1 xn1 xc1, .slice xa2 xn2 xc2, .slice xa3 xn3 xc3] 25))) := hb1.trans (bA.mono hb1.size)
  have HR2 : Hid (Nv (fun _ => True) (w1.alloc (.cells #[.int .i64 xk, .slice xa1 xn1 xc1, .slice xa2 xn2 xc2, .slice xa3 xn3 xc3] 25)) r1 (.int .i64 xk, .slice xa1 xn1 xc1, .slice xa2 xn2 xc2, .slice xa3 xn3 xc3) ∧ OR l r1) := ⟨Nv_below hr1.1 bA, hr1.2⟩
  have HBX : Hid (Bx w1.heap.size (.int .i64 xk, .slice xa1 xn1 xc1, .slice xa2 xn2 xc2, .slice xa3 xn3 xc3) (w1.alloc (.cells #[.int .i64 xk, .slice xa1 xn1 xc1, .slice xa2 xn2 xc2, .slice xa3 xn3 xc3] 25))) := BX1
  clear hb1 hr1 bA BX1 KX
  simp only [v4]
  go_wp2_with fail
  refine (KY.out _ R2.out).mono ?_
  rintro e w2 ⟨r2, u2, rfl, hr2, hb2⟩
  obtain ⟨zk, za1, zn1, zc1, za2, zn2, zc2, za3, zn3, zc3, rfl⟩ := Nv_form hr2.1
  have bB : Below w2.heap.size w2 (w2.alloc (.cells #[.int .i64 zk, .slice za1 zn1 zc1, .slice za2 zn2 zc2, .slice za3 zn3 zc3] 25)) := (Below.refl _ _).alloc (Nat.le_refl _) _
  have BX2 := Bx_new w2 (.int .i64 zk, .slice za1 zn1 zc1, .slice za2 zn2 zc2, .slice za3 zn3 zc3)
  dsimp only at BX2
  have BX1 := Bx_below (Bx_below HBX.out hb2) bB
  have hz := of_eq HR2.out.2 hr2.2
  have hN1 := Nv_below (Nv_below HR2.out.1 hb2) bB
  have hN2 := Nv_below hr2.1 bB
  have KS : Hid (∀ wx : World, wx = (w2.alloc (.cells #[.int .i64 zk, .slice za1 zn1 zc1, .slice za2 zn2 zc2, .slice za3 zn3 zc3] 25)) → Calls Try.prog 15 #[.agg #[.int .i64 xk, .slice xa1 xn1 xc1, .slice xa2 xn2 xc2, .slice xa3 xn3 xc3], .agg #[.int .i64 zk, .slice za1 zn1 zc1, .slice za2 zn2 zc2, .slice za3 zn3 zc3]] wx fun e w' => e = .returned (.bool true) ∧ Below w.heap.size w w') := fun wx ew => by
    subst ew
    have h := same_any (or_sm HR2.out.2) r2 _ _ (.int .i64 xk, .slice xa1 xn1 xc1, .slice xa2 xn2 xc2, .slice xa3 xn3 xc3) (.int .i64 zk, .slice za1 zn1 zc1, .slice za2 zn2 zc2, .slice za3 zn3 zc3) _ hN1 hN2
    rw [hz] at h
    refine h.mono fun e w' he => ⟨he.1, ?_⟩
    have b3 := (R2.out.trans (hb2.mono R2.out.size))
    have b4 := b3.trans (bB.mono b3.size)
    exact b4.trans (he.2.mono b4.size)
  have m0 := BX1.2.1
  have m1 := BX1.2.2.1
  have m2' := BX1.2.2.2.1
  have m3 := BX1.2.2.2.2
  have k0 := BX2.2.1
  have k1 := BX2.2.2.1
  have k2 := BX2.2.2.2.1
  have k3 := BX2.2.2.2.2
  dsimp only at m0 m1 m2' m3 k0 k1 k2 k3
  have cb : (P == P) = true := beq_self_eq_true P
  clear hb2 hr2 bB BX1 BX2 hz hN1 hN2 R2 HR2 HBX KY
  simp only [v4]
  go_wp2_with fail
  refine (KS.out _ rfl).mono ?_
  rintro e w9 ⟨rfl, hb9⟩
  have HZ : Hid (Below w.heap.size w w9) := hb9
  clear hb9 KS m0 m1 m2' m3 k0 k1 k2 k3
  go_wp2_with fail
  go_ret
  exact ⟨rfl, HZ.out⟩
end Tr
end Go.Proofs.Ytdcbgldelfhohaa
/- The library's contract of slices.SortFunc, laid at this dump by the kit's own tool. -/
namespace Go.Proofs
open Go.Shelf
def Try.sortRt_ren : Go.Shelf.Ren := ⟨fun | 6 => 55 | 15 => 68 | 14 => 67 | 28 => 79 | 29 => 80 | 20 => 71 | 21 => 72 | 22 => 73 | 23 => 74 | 24 => 75 | 25 => 76 | 26 => 77 | 27 => 78 | 46 => 82 | 47 => 83 | 48 => 84 | 49 => 85 | 50 => 86 | 57 => 87 | n => n, fun | 22 => 47 | 24 => 51 | 25 => 94 | 3 => 3 | 39 => 78 | 0 => 0 | 53 => 119 | 55 => 121 | 4 => 4 | 46 => 112 | 45 => 111 | 50 => 116 | 5 => 5 | 9 => 9 | 66 => 122 | 70 => 126 | 76 => 128 | 77 => 129 | n => n, fun | n => n⟩
theorem Try.sortRt : Go.Proofs.SlLaysF0.n6 Try.prog Try.sortRt_ren := {
  mixed := by kernel_rfl
  f6 := ⟨Try.f55.name, by decide, Try.func55.trans (congrArg some (by kernel_rfl))⟩
  f14 := ⟨Try.f67.name, by decide, Try.func67.trans (congrArg some (by kernel_rfl))⟩
  f15 := Try.func68.trans (congrArg some (by kernel_rfl))
  f20 := ⟨Try.f71.name, by decide, Try.func71.trans (congrArg some (by kernel_rfl))⟩
  f21 := ⟨Try.f72.name, by decide, Try.func72.trans (congrArg some (by kernel_rfl))⟩
  f22 := ⟨Try.f73.name, by decide, Try.func73.trans (congrArg some (by kernel_rfl))⟩
  f23 := ⟨Try.f74.name, by decide, Try.func74.trans (congrArg some (by kernel_rfl))⟩
  f24 := ⟨Try.f75.name, by decide, Try.func75.trans (congrArg some (by kernel_rfl))⟩
  f25 := ⟨Try.f76.name, by decide, Try.func76.trans (congrArg some (by kernel_rfl))⟩
  f26 := ⟨Try.f77.name, by decide, Try.func77.trans (congrArg some (by kernel_rfl))⟩
  f27 := ⟨Try.f78.name, by decide, Try.func78.trans (congrArg some (by kernel_rfl))⟩
  f28 := Try.func79.trans (congrArg some (by kernel_rfl))
  f29 := Try.func80.trans (congrArg some (by kernel_rfl))
  f46 := ⟨Try.f82.name, by decide, Try.func82.trans (congrArg some (by kernel_rfl))⟩
  f47 := Try.func83.trans (congrArg some (by kernel_rfl))
  f48 := Try.func84.trans (congrArg some (by kernel_rfl))
  f49 := ⟨Try.f85.name, by decide, Try.func85.trans (congrArg some (by kernel_rfl))⟩
  f50 := ⟨Try.f86.name, by decide, Try.func86.trans (congrArg some (by kernel_rfl))⟩
  f57 := ⟨Try.f87.name, by decide, Try.func87.trans (congrArg some (by kernel_rfl))⟩
  t0 := Try.underlying0
  a0 := Try.isAgg0
  z0 := Try.sizeOf0
  v0 := Try.zeroValue0
  t3 := Try.underlying3
  a3 := Try.isAgg3
  z3 := Try.sizeOf3
  v3 := Try.zeroValue3
  t4 := Try.underlying4
  a4 := Try.isAgg4
  z4 := Try.sizeOf4
  v4 := Try.zeroValue4
  t5 := Try.underlying5
  a5 := Try.isAgg5
  z5 := Try.sizeOf5
  v5 := Try.zeroValue5
  t9 := Try.underlying9
  a9 := Try.isAgg9
  z9 := Try.sizeOf9
  v9 := Try.zeroValue9
  t22 := Try.underlying47
  a22 := Try.isAgg47
  z22 := Try.sizeOf47
  v22 := Try.zeroValue47
  t25 := Try.underlying94
  a25 := Try.isAgg94
  z25 := Try.sizeOf94
  v25 := Try.zeroValue94
  t39 := Try.underlying78
  a39 := Try.isAgg78
  z39 := Try.sizeOf78
  v39 := Try.zeroValue78
  t45 := Try.underlying111
  a45 := Try.isAgg111
  z45 := Try.sizeOf111
  v45 := Try.zeroValue111
  t46 := Try.underlying112
  a46 := Try.isAgg112
  z46 := Try.sizeOf112
  v46 := Try.zeroValue112
  t50 := Try.underlying116
  a50 := Try.isAgg116
  z50 := Try.sizeOf116
  v50 := Try.zeroValue116
  t53 := Try.underlying119
  a53 := Try.isAgg119
  z53 := Try.sizeOf119
  v53 := Try.zeroValue119
  t55 := Try.underlying121
  a55 := Try.isAgg121
  z55 := Try.sizeOf121
  v55 := Try.zeroValue121
  t66 := Try.underlying122
  a66 := Try.isAgg122
  z66 := Try.sizeOf122
  v66 := Try.zeroValue122
  t70 := Try.underlying126
  a70 := Try.isAgg126
  z70 := Try.sizeOf126
  v70 := Try.zeroValue126
  t76 := Try.underlying128
  a76 := Try.isAgg128
  z76 := Try.sizeOf128
  v76 := Try.zeroValue128
  t77 := Try.underlying129
  a77 := Try.isAgg129
  z77 := Try.sizeOf129
  v77 := Try.zeroValue129 }
end Go.Proofs
/- slices.SortFunc of routes, by their paths. -/
namespace Go.Proofs.Ytdcbgldelfhohaa
namespace Tr
open Nb Go.RowKit
theorem below_refl (lo : Nat) (w : World) : Below lo w w := Below.refl lo w
theorem brefl_grown {lo : Nat} {w w' : World} {g : Nat} (h : w.grownBy w' (some g)) (hlo : lo ≤ w.heap.size) (hg : lo ≤ g) : Below lo w w' := (Below.refl lo w).grown h hlo (fun k e => by injection e with e; omega)
open Go.Sort Go.Shelf
def enc2 (r : By × By) : List Value := [.string (st r.1), .string (st r.2)]
def cf2 (x y : By × By) : Int := Lib.compareBytes x.1 y.1
theorem cmp_less : ∀ a b : By, decide (Lib.compareBytes a b < 0) = Op.bytesLess a b
  | [], [] => by simp [Lib.compareBytes, Op.bytesLess]
  | [], _ :: _ => by simp [Lib.compareBytes, Op.bytesLess]
  | _ :: _, [] => by simp [Lib.compareBytes, Op.bytesLess]
  | x :: a, y :: b => by
    have ih := cmp_less a b
    by_cases h1 : x < y
    · simp [Lib.compareBytes, Op.bytesLess, h1]
    · by_cases h2 : x = y
      · subst h2
        simp [Lib.compareBytes, Op.bytesLess, ← ih]
      · have h3 : y < x := by
          rcases Nat.lt_trichotomy x.toNat y.toNat with h | h | h
          · exact absurd (UInt8.lt_iff_toNat_lt.2 h) h1
          · exact absurd (UInt8.toNat_inj.1 h) h2
          · exact UInt8.lt_iff_toNat_lt.2 h
        simp [Lib.compareBytes, Op.bytesLess, h1, h2, h3]
theorem lt2 (x y : By × By) : ltOf cf2 x y = true ↔ less x.1 y.1 := by
  unfold ltOf cf2 less
  rw [cmp_less]
theorem swo2 : SWO (ltOf cf2) where
  irrefl x := by
    cases h : ltOf cf2 x x with
    | false => rfl
    | true => exact absurd ((lt2 x x).1 h) (less_irrefl _)
  trans x y z h1 h2 := (lt2 x z).2 (less_trans _ _ _ ((lt2 x y).1 h1) ((lt2 y z).1 h2))
  ntrans x y z h1 h2 := by
    cases h : ltOf cf2 x z with
    | false => rfl
    | true =>
      exfalso
      have hxz := (lt2 x z).1 h
      have n1 : ¬ less x.1 y.1 := fun k => by rw [(lt2 x y).2 k] at h1; cases h1
      have n2 : ¬ less y.1 z.1 := fun k => by rw [(lt2 y z).2 k] at h2; cases h2
      rcases less_total x.1 y.1 with k | k | k
      · exact n1 k
      · rw [k] at hxz; exact n2 hxz
      · exact n2 (less_trans _ _ _ k hxz)
theorem c2_at2 : ∀ (L : Rt) (t : Nat), t < L.length * 2 → (c2 L)[t]? = some ((enc2 (L.getD (t / 2) n2))[t % 2]!)
  | [], t, h => absurd h (by simp)
  | r :: L, 0, _ => rfl
  | r :: L, 1, _ => rfl
  | r :: L, t + 2, h => by
    have ih := c2_at2 L t (by simp only [List.length_cons] at h; omega)
    have e1 : (t + 2) / 2 = t / 2 + 1 := by omega
    have e2 : (t + 2) % 2 = t % 2 := by omega
    rw [e1, e2, List.getD_cons_succ, ← ih]
    rfl
theorem flat_get (L : Rt) (t : Nat) (h : t < L.length * 2) : (flatK enc2 2 L.toArray)[t]! = (enc2 (L.getD (t / 2) n2))[t % 2]! := by
  rw [get_flatK enc2 2 L.toArray t (by simpa using h)]
  have hd : t / 2 < L.length := by omega
  have e : L.toArray[t / 2]! = L.getD (t / 2) n2 := by
    rw [List.getD_eq_getElem?_getD, List.getElem?_eq_getElem hd]
    simp [hd]
  rw [e]
set_option maxHeartbeats 1000000 in
theorem cmp_any (x y : By × By) (W : World) : Calls Try.prog 56 #[.agg #[.string (st x.1), .string (st x.2)], .agg #[.string (st y.1), .string (st y.2)]] W fun e w' => e = .returned (.int .i64 (cf2 x y)) ∧ ∃ q os', w' = Go.Sort.grow (W.drewN q) os' := by
  have hcon := fun W' => Try.strings_Compare (st x.1) (st y.1) W'
  have e : cf2 x y = Lib.compareBytes (st x.1).data.toList (st y.1).data.toList := rfl
  rw [e]
  clear e
  generalize Lib.compareBytes (st x.1).data.toList (st y.1).data.toList = r at hcon ⊢
  go_enter Try.func56, Try.ntmps56
  go_wp2_with (go_at_call 57; refine (hcon _).mono ?_; rintro e w' ⟨rfl, rfl⟩)
  go_ret
  exact ⟨rfl, 0, _, by rw [alloc_eq_grow, alloc_eq_grow, grow_grow]; rfl⟩
theorem heap_sortedK {w : World} {g n : Nat} {os : Array Obj} {cur : Array Value} {e : TypeId} {fr : Nat × Nat} (F : Array Value) (hb : w.heap[g]? = some (.cells cur e fr)) :
    (Go.Sort.grow (putRow id (Go.Sort.ahead w n) g 0 F) os).heap[g]? = some (.cells (putCells id 0 F cur) e fr) := by
  have hg : g < w.heap.size := (Array.getElem?_eq_some_iff.1 hb).1
  rw [heap_grow_old _ _ (by simpa using hg)]
  simp [putRow, mapBlock, Go.Sort.ahead, Array.getElem?_modify, hb, onCells]
theorem grownBy_sortedK {w : World} {g n : Nat} {os : Array Obj} (F : Array Value) : w.grownBy (Go.Sort.grow (putRow id (Go.Sort.ahead w n) g 0 F) os) (some g) := by
  refine ⟨rfl, rfl, rfl, by simp, fun k hk hne => ?_⟩
  rw [heap_grow_old _ _ (by simpa using hk)]
  have : g ≠ k := fun e => hne (by rw [e])
  simp [putRow, mapBlock, Go.Sort.ahead, Array.getElem?_modify, this]
theorem take_putK (cur : Array Value) (L : Rt) (h : L.length * 2 ≤ cur.size) : (putCells id 0 (flatK enc2 2 L.toArray) cur).toList.take (L.length * 2) = c2 L := by
  apply List.ext_getElem?
  intro j
  by_cases hj : j < L.length * 2
  · rw [List.getElem?_take_of_lt hj, Array.getElem?_toList, c2_at2 L j hj, ← flat_get L j hj]
    have hc : j < cur.size := by omega
    simp [putCells, hj, hc]
  · rw [List.getElem?_take_eq_none (by omega), List.getElem?_eq_none (by rw [c2_len]; omega)]
theorem holds_own {lo : Nat} {L : Rt} {g cap : Nat} {w : World} (h : Ow lo L (.slice (some ⟨g, 0, none⟩) L.length cap) w) : HoldsK enc2 2 w g 0 L.toArray := fun j hj => by
  have hj' : j < L.length * 2 := by simpa using hj
  refine ⟨?_, World.ownsRow.frozenAt h _⟩
  rw [Nat.zero_add, World.ownsRow.cellAt h j hj', c2_at2 L j hj', flat_get L j hj']
  rfl
theorem sort_some (lo : Nat) (L : Rt) (g cap : Nat) (w : World) (how : Ow lo L (.slice (some ⟨g, 0, none⟩) L.length cap) w) (hlo : lo ≤ w.heap.size) (hl : L.length ≤ 4194304) :
    Calls Try.prog 55 #[.slice (some ⟨g, 0, none⟩) L.length cap, .func (.func 56) #[] #[]] w fun e w' => e = .returned (.tuple #[]) ∧ ∃ L2 : Rt, L2.Perm L ∧ (L2.Pairwise fun a b => ¬ less b.1 a.1) ∧ Ow lo L2 (.slice (some ⟨g, 0, none⟩) L.length cap) w' ∧ Below lo w w' := by
  have eg : ∀ args w, (callFunc 56 args).run Try.prog w = .ok (.enter 56 args) w := enters_of Try.func56 (by kernel_rfl) rfl
  have hg := ow_low how
  have hcon := AnyQ.slices_SortFunc Try.sortRt 2 Try.isAgg51 Try.sizeOf51 enc2 (fun _ => rfl) (fun x v hv => by simp [enc2] at hv; rcases hv with rfl | rfl <;> rfl) cf2 swo2 56 #[] g 0 cap L.toArray w eg (fun _ _ _ _ x y => cmp_any x y _) (holds_own how) hg.2 (by simp; omega)
  have hcon' : Calls Try.prog 55 #[.slice (some ⟨g, 0, none⟩) L.length cap, .func (.func 56) #[] #[]] w _ := hcon
  refine hcon'.mono fun e w' he => ?_
  obtain ⟨e1, d', n, os, hp, hsd, rfl⟩ := he
  have hsz : d'.size = L.length := by simpa using hp.1
  have hlen : d'.toList.length = L.length := by simpa using hsz
  refine ⟨e1, d'.toList, ?_, ?_, ?_, ?_⟩
  · have h := hp.2.2
    have x1 : d'.extract 0 L.toArray.size = d' := by
      rw [show L.toArray.size = d'.size from by simp [hsz]]
      simp
    rw [x1] at h
    simpa using h
  · rw [List.pairwise_iff_getElem]
    intro i j hi hj hij hless
    have h := hsd i j (Nat.zero_le _) hij (by simp; omega)
    have y1 : d'[j]! = d'.toList[j] := by rw [getElem!_pos d' j (by omega)]; rfl
    have y2 : d'[i]! = d'.toList[i] := by rw [getElem!_pos d' i (by omega)]; rfl
    rw [y1, y2, (lt2 _ _).2 hless] at h
    cases h
  · rcases how.2 with ⟨h', _⟩ | ⟨g', cap', cur, h', hb, hgb, hnc, hcm, hcs, htake⟩
    · cases h'
    · injection h' with k1 _ k3
      injection k1 with k1
      injection k1 with k1
      subst k1 k3
      refine ⟨by rw [c2_len], .inr ⟨g, cap, _, by rw [hlen], hb, heap_sortedK _ hgb, by rw [hlen]; exact hnc, hcm, by simp [putCells, hcs], ?_⟩⟩
      have h := take_putK cur d'.toList (by rw [hlen, hcs]; omega)
      simpa using h
  · exact brefl_grown (grownBy_sortedK _) hlo hg.1
set_option maxHeartbeats 2000000 in
set_option maxRecDepth 100000 in
theorem ins_none (w : World) : Calls Try.prog 71 #[.slice none 0 0, .int .i64 0, .int .i64 0, .func (.func 56) #[] #[]] w fun e w' => e = .returned (.tuple #[]) ∧ w' = w := by
  go_enter Try.func71, Try.ntmps71
  go_wp2_with fail
  go_loopw [8] (fun i wr => i = .int .i64 1 ∧ wr = w) (fun _ _ => 0)
  case atStart => exact ⟨rfl, rfl⟩
  case round =>
    obtain ⟨rfl, rfl⟩ := hrel
    go_wp2_with fail
    go_end0
    exact ⟨rfl, rfl⟩
set_option maxHeartbeats 2000000 in
set_option maxRecDepth 100000 in
theorem pdq_none (lim : Value) (w : World) : Calls Try.prog 67 #[.slice none 0 0, .int .i64 0, .int .i64 0, lim, .func (.func 56) #[] #[]] w fun e w' => e = .returned (.tuple #[]) ∧ w' = w := by
  have KI : Hid (∀ wx : World, Calls Try.prog 71 #[.slice none 0 0, .int .i64 0, .int .i64 0, .func (.func 56) #[] #[]] wx fun e w' => e = .returned (.tuple #[]) ∧ w' = wx) := fun wx => ins_none wx
  go_enter Try.func67, Try.ntmps67
  go_wp2_with fail
  go_loopw [1, 2] (fun i j wr => i = .int .i64 0 ∧ j = .int .i64 0 ∧ wr = w) (fun _ _ _ => 0)
  case atStart => exact ⟨rfl, rfl, rfl⟩
  case round =>
    obtain ⟨rfl, rfl, rfl⟩ := hrel
    go_wp2_with fail
    refine (KI.out _).mono ?_
    rintro e w1 ⟨rfl, rfl⟩
    go_wp2_with fail
    (try simp only [Exit.inBlock, Exit.then])
    refine bodyPost_ret (results_none rfl _ _ _) rfl ?_
    exact ⟨rfl, rfl⟩
set_option maxHeartbeats 2000000 in
set_option maxRecDepth 100000 in
theorem sort_none (w : World) : Calls Try.prog 55 #[.slice none 0 0, .func (.func 56) #[] #[]] w fun e w' => e = .returned (.tuple #[]) ∧ w' = w := by
  have KB : Hid (∀ wx : World, Calls Try.prog 68 #[.int .u64 0] wx fun e w' => e = .returned (.int .i64 (Lib.bitLen (0 : Int).toNat)) ∧ w' = wx) := fun wx => Try.bits_Len 0 wx (by decide) (by decide)
  have KP : Hid (∀ (lim : Value) (wx : World), Calls Try.prog 67 #[.slice none 0 0, .int .i64 0, .int .i64 0, lim, .func (.func 56) #[] #[]] wx fun e w' => e = .returned (.tuple #[]) ∧ w' = wx) := fun lim wx => pdq_none lim wx
  go_enter Try.func55, Try.ntmps55
  go_wp2_with fail
  refine (KB.out _).mono ?_
  rintro e w1 ⟨rfl, rfl⟩
  go_wp2_with fail
  refine (KP.out _ _).mono ?_
  rintro e w1 ⟨rfl, rfl⟩
  go_wp2_with fail
  go_end0
  exact ⟨rfl, rfl⟩
theorem sort_ok : SortOk := fun lo L v w how hlo hl => by
  have how' := how
  rcases how'.2 with ⟨rfl, h0⟩ | ⟨g, cap, cur, rfl, _⟩
  · have hL : L = [] := List.length_eq_zero_iff.1 h0
    subst hL
    refine (sort_none w).mono fun e w' he => ?_
    obtain ⟨e1, rfl⟩ := he
    exact ⟨e1, [], List.Perm.refl _, List.Pairwise.nil, how, below_refl _ _⟩
  · refine (sort_some lo L g cap w how hlo hl).mono fun e w' he => ?_
    obtain ⟨e1, L2, h1, h2, h3, h4⟩ := he
    exact ⟨e1, L2, h1, h2, h3, h4⟩
end Tr
end Go.Proofs.Ytdcbgldelfhohaa
/- The law TreeGets. -/
namespace Go.Proofs.Ytdcbgldelfhohaa
namespace Tr
open Nb Go.RowKit
theorem vw_bs {b : By} {ao : Option Addr} {cap : Nat} {w : World} (hc : b.length ≤ cap) (h : Sp.Vw b ao w) : Bs (· < w.heap.size) b (.slice ao b.length cap) w :=
  ⟨ao, cap, rfl, hc, fun h0 => by
    obtain ⟨g, off, e, hg, hj⟩ := h h0
    exact ⟨g, off, e, hg, hg, hj⟩⟩
set_option maxHeartbeats 2000000 in
set_option maxRecDepth 100000 in
theorem law_gets (t : Nd) (hs : Sm t) (x : V4) (w : World) (hx : Nv (· < w.heap.size) w t x) (hw : wn t ≤ 1048576) (b : By) (kv : Value) (hb : Bs (· < w.heap.size) b kv w) :
    Calls Try.prog 4 #[v4 x, kv] w fun e w' => e = .returned (.bool true) ∧ Below w.heap.size w w' := by
  obtain ⟨k, a1, n1, c1, a2, m2, c2, a3, n3, c3, rfl⟩ := Nv_form hx
  obtain ⟨ak, ck, rfl, _⟩ := Bs_form hb
  have N0 := NB_new hx (Nat.le_refl _)
  have B0 := Bs_below hb N0.b
  have KX : Hid (∀ wx : World, NB w.heap.size (.int .i64 k, .slice a1 n1 c1, .slice a2 m2 c2, .slice a3 n3 c3) t w.heap.size w wx → Bs (· < w.heap.size) b (.slice ak b.length ck) wx → Calls Try.prog 11 #[.agg #[.int .i64 k, .slice a1 n1 c1, .slice a2 m2 c2, .slice a3 n3 c3], .slice ak b.length ck] wx fun e w' => (∃ a c, e = .returned (.tuple #[.slice a (gans t b).1.length c, .int .i64 (gans t b).2]) ∧ Bs (fun _ => True) (gans t b).1 (.slice a (gans t b).1.length c) w') ∧ Below wx.heap.size wx w') := fun wx hn hk => by
    refine (get_any t w.heap.size (.int .i64 k, .slice a1 n1 c1, .slice a2 m2 c2, .slice a3 n3 c3) wx hn.n hn.l (by omega) b _ hk).mono fun e w' he => ?_
    obtain ⟨⟨a, c, h1, h2⟩, h3⟩ := he
    exact ⟨⟨a, c, h1, Bs_mono h2 (fun _ _ _ => trivial)⟩, h3⟩
  have KY : Hid (∀ wx : World, NB w.heap.size (.int .i64 k, .slice a1 n1 c1, .slice a2 m2 c2, .slice a3 n3 c3) t w.heap.size w wx → Bs (· < w.heap.size) b (.slice ak b.length ck) wx → Calls Try.prog 12 #[.agg #[.int .i64 k, .slice a1 n1 c1, .slice a2 m2 c2, .slice a3 n3 c3], .slice ak b.length ck] wx fun e w' => (∃ a c, e = .returned (.tuple #[.slice a (gans t b).1.length c, .int .i64 (gans t b).2]) ∧ Bs (fun _ => True) (gans t b).1 (.slice a (gans t b).1.length c) w') ∧ Below wx.heap.size wx w') := fun wx hn hk =>
    gget_any t hs _ _ (.int .i64 k, .slice a1 n1 c1, .slice a2 m2 c2, .slice a3 n3 c3) wx hn.n hw b _ hk
  have R0 : Hid (NB w.heap.size (.int .i64 k, .slice a1 n1 c1, .slice a2 m2 c2, .slice a3 n3 c3) t w.heap.size w (w.alloc (.cells #[.int .i64 k, .slice a1 n1 c1, .slice a2 m2 c2, .slice a3 n3 c3] 25))) := N0
  have HK : Hid (Bs (· < w.heap.size) b (.slice ak b.length ck) (w.alloc (.cells #[.int .i64 k, .slice a1 n1 c1, .slice a2 m2 c2, .slice a3 n3 c3] 25))) := B0
  clear B0 N0 hx hw hs hb
  generalize gans t b = r at *
  obtain ⟨rb, re⟩ := r
  dsimp only at *
  show Calls Try.prog _ #[.agg #[.int .i64 k, .slice a1 n1 c1, .slice a2 m2 c2, .slice a3 n3 c3], .slice ak b.length ck] w _
  have q0 := R0.out.bx.2.1
  have q1 := R0.out.bx.2.2.1
  have q2 := R0.out.bx.2.2.2.1
  have q3 := R0.out.bx.2.2.2.2
  dsimp only at q0 q1 q2 q3
  generalize hW : (w.alloc (.cells #[.int .i64 k, .slice a1 n1 c1, .slice a2 m2 c2, .slice a3 n3 c3] 25)) = W1 at *
  go_enter Try.func4, Try.ntmps4
  go_wp2_with fail
  refine (KX.out _ R0.out HK.out).mono ?_
  rintro e w1 ⟨⟨xa, xc, rfl, hx1⟩, hb1⟩
  have R1 : Hid (NB w.heap.size (.int .i64 k, .slice a1 n1 c1, .slice a2 m2 c2, .slice a3 n3 c3) t w.heap.size w w1) := NB_below R0.out hb1
  have HK1 : Hid (Bs (· < w.heap.size) b (.slice ak b.length ck) w1) := Bs_below HK.out hb1
  have HX1 : Hid (Bs (fun _ => True) rb (.slice xa rb.length xc) w1) := hx1
  replace q0 := R1.out.bx.2.1
  replace q1 := R1.out.bx.2.2.1
  replace q2 := R1.out.bx.2.2.2.1
  replace q3 := R1.out.bx.2.2.2.2
  dsimp only at q0 q1 q2 q3
  clear hb1 hx1 R0 HK KX hW
  go_wp2_with fail
  refine (KY.out _ R1.out HK1.out).mono ?_
  rintro e w2 ⟨⟨ya, yc, rfl, hy2⟩, hb2⟩
  have HZ : Hid (Below w.heap.size w w2) := (NB_below R1.out hb2).b
  have cx := Sl_st (Bs_sl (Bs_below HX1.out hb2))
  have cy := Sl_st (Bs_sl hy2)
  have cb : (re == re) = true := beq_self_eq_true re
  have cl : (rb == rb) = true := beq_self_eq_true rb
  have cs := st_list rb
  clear hb2 hy2 R1 HK1 HX1 KY q0 q1 q2 q3
  go_wp2_with fail
  go_ret
  exact ⟨rfl, HZ.out⟩
end Tr
end Go.Proofs.Ytdcbgldelfhohaa
/- The law TreePuts and what slices.SortFunc does, together. -/
namespace Go.Proofs.Ytdcbgldelfhohaa
namespace Tr
theorem sort_ok' : SortOk := sort_ok
end Tr
end Go.Proofs.Ytdcbgldelfhohaa
