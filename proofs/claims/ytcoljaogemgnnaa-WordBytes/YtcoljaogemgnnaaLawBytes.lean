/- lampbearerlaw.WordBytes: word.Cmp, Int, Bytes and Read answer as the document's own do. -/
import Derived.Test.YtcoljaogemgnnaaWCmp
import Derived.Test.YtcoljaogemgnnaaWRd
import Derived.Test.YtcoljaogemgnnaaWBytes
import Derived.Test.YtcoljaogemgnnaaInt
import Derived.Test.YtcoljaogemgnnaaRegInv
namespace Go.Proofs.Ytcoljaogemgnnaa
open Go.RowKit Go.Shelf
theorem S2_sets {w : World} {a b g : Nat} {w1 : World} (h : S2 w a b w1) (hg : w.heap.size + 1 < g) (vs : List Value) (o : Nat) : S2 w a b (w1.setCells g o vs) :=
  ⟨by rw [Sp.size_setCells]; exact h.hi, Sp.CK_sets (k := .u64) h.c0 (by omega) vs o, Sp.CK_sets (k := .u64) h.c1 (by omega) vs o, Sp.Bel_sets (by omega) vs o _ h.bel⟩
theorem Vw_sets {l : List UInt8} {ao : Option Addr} {g : Nat} {w1 : World} (h : Sp.Vw l ao w1) (hg : ∀ g' off, ao = some ⟨g', off, none⟩ → 0 < l.length → g' ≠ g) (vs : List Value) (o : Nat) : Sp.Vw l ao (w1.setCells g o vs) := fun h0 => by
  obtain ⟨g', off, e, hlt, hc⟩ := h h0
  refine ⟨g', off, e, by rw [Sp.size_setCells]; exact hlt, fun j hj => ?_⟩
  rw [World.cell?_setCells_out g vs o w1 ⟨g', off + j, none⟩ (fun k => absurd k (hg g' off e h0))]
  exact hc j hj
/-- What holds while the law's test goes on. -/
def WBI (w : World) (a b n V g9 : Nat) (l : List UInt8) (ao : Option Addr) (cap : Nat) (d : Nat → Bool) (x : Act) (wx : World) : Prop :=
  ∃ (u8 u12 u13 u14 u15 u16 u17 u18 u19 u20 u21 u22 u23 u24 u25 u26 u27 u28 u29 u30 u31 u32 u33 u34 u35 u36 u37 u38 u39 u40 : Value) (g30 : Nat) (c30 : Nat),
    x = { tmps := #[.agg #[.int .u64 (dg a 0), .int .u64 (dg a 1), .int .u64 (dg a 2), .int .u64 (dg a 3)], .agg #[.int .u64 (dg b 0), .int .u64 (dg b 1), .int .u64 (dg b 2), .int .u64 (dg b 3)], .int .u64 (n : Int), .slice ao l.length cap, .pointer (some ⟨w.heap.size, 0, none⟩), .pointer (some ⟨w.heap.size + 1, 0, none⟩), undef, undef, u8, .pointer (some ⟨g9, 0, none⟩), .agg #[.int .u64 (dg a 0), .int .u64 (dg a 1), .int .u64 (dg a 2), .int .u64 (dg a 3)], Sp.Hv (bt a), u12, u13, u14, u15, u16, u17, u18, u19, u20, u21, u22, u23, u24, u25, u26, u27, u28, u29, u30, u31, u32, u33, u34, u35, u36, u37, u38, u39, u40], defers := [] } ∧
    (S2 w a b wx) ∧ (Sp.CK .u8 g9 32 (bt a) wx) ∧ (g9 < wx.heap.size) ∧ (Sp.Vw l ao wx) ∧
    (d 0 = true → u12 = Wd a) ∧ (d 1 = true → u13 = Wd b) ∧ (d 2 = true → u14 = .int .i64 (cm (a : Int) (b : Int))) ∧ (d 3 = true → u15 = Wd a) ∧ (d 4 = true → u16 = Wd b) ∧ (d 5 = true → u17 = .int .i64 (cm (a : Int) (b : Int))) ∧ (d 6 = true → u18 = .bool true) ∧ (d 7 = true → u19 = .bool true) ∧ (d 8 = true → u20 = .int .u64 (n : Int)) ∧ (d 9 = true → u21 = Wd n) ∧ (d 10 = true → u22 = .int .u64 (n : Int)) ∧ (d 11 = true → u23 = Wd n) ∧ (d 12 = true → u24 = .bool true) ∧ (d 13 = true → u25 = .bool true) ∧ (d 14 = true → u26 = .bool true) ∧ (d 15 = true → u27 = .slice (some ⟨g9, 0, none⟩) 32 32) ∧ (d 16 = true → u28 = .string (wstr a)) ∧ (d 17 = true → u29 = Wd a) ∧ (d 19 = true → u31 = .string (wstr a)) ∧ (d 20 = true → u32 = .bool true) ∧ (d 21 = true → u33 = .bool true) ∧ (d 22 = true → u34 = .bool true) ∧ (d 23 = true → u35 = .slice ao l.length cap) ∧ (d 24 = true → u36 = Wd V) ∧ (d 25 = true → u37 = .slice ao l.length cap) ∧ (d 26 = true → u38 = Wd V) ∧ (d 27 = true → u39 = .bool true) ∧ (d 28 = true → u40 = .bool true) ∧ (d 29 = true → u8 = .bool true) ∧ (d 18 = true → u30 = .slice (some ⟨g30, 0, none⟩) 32 c30 ∧ R32 g30 (bt a) wx ∧ g30 < wx.heap.size)
set_option maxHeartbeats 4000000 in
set_option maxRecDepth 100000 in
theorem law_bytes (a b n : Nat) (ha : a < 2 ^ 256) (hb : b < 2 ^ 256) (hn : n < 18446744073709551616) (l : List UInt8) (ao : Option Addr) (cap : Nat) (hl : (l.length : Int) ≤ 140737488355328) (hcap : l.length ≤ cap) (w : World) (hv : Sp.Vw l ao w) :
    Calls Try.prog 4 #[Wd a, Wd b, .int .u64 (n : Int), .slice ao l.length cap] w fun e w' => e = .returned (.bool true) ∧ Below w.heap.size w w' := by
  obtain ⟨V, hV⟩ : ∃ V, V = if l.length = 0 then 0 else le (fun j => (l.getD j 0).toNat) l.length (min l.length 32) := ⟨_, rfl⟩
  have fb : ∀ j, (fun j => (l.getD j 0).toNat) j < 256 := fun j => UInt8.toNat_lt _
  have KC : Hid (∀ w : World, Calls Try.prog 14 #[Wd a, Wd b] w fun e w' => e = .returned (.int .i64 (cm (a : Int) (b : Int))) ∧ Below w.heap.size w w') := fun w => cmp_any a b ha hb w
  have KW : Hid (∀ w : World, Calls Try.prog 15 #[Wd a, Wd b] w fun e w' => e = .returned (.int .i64 (cm (a : Int) (b : Int))) ∧ Below w.heap.size w w') := fun w => wcmp_any a b ha hb w
  have KI : Hid (∀ w : World, Calls Try.prog 16 #[.int .u64 (n : Int)] w fun e w' => e = .returned (Wd n) ∧ Below w.heap.size w w') := fun w => int_any n hn w
  have KJ : Hid (∀ w : World, Calls Try.prog 17 #[.int .u64 (n : Int)] w fun e w' => e = .returned (Wd n) ∧ Below w.heap.size w w') := fun w => wint_any n hn w
  have KR : Hid (∀ w : World, Sp.Vw l ao w → Calls Try.prog 19 #[.slice ao l.length cap] w fun e w' => e = .returned (Wd V) ∧ Below w.heap.size w w') := fun w hv => by
    rw [hV]
    split
    · rename_i h0; rw [h0]; exact read_none ao cap w
    · rename_i h0
      obtain ⟨g, off, rfl, hg, hc⟩ := hv (by omega)
      exact read_any g off l.length cap _ w (by omega) (by omega) hg fb hc
  have KS : Hid (∀ w : World, Sp.Vw l ao w → Calls Try.prog 20 #[.slice ao l.length cap] w fun e w' => e = .returned (Wd V) ∧ Below w.heap.size w w') := fun w hv => by
    rw [hV]
    split
    · rename_i h0; rw [h0]; exact wread_none ao cap w
    · rename_i h0
      obtain ⟨g, off, rfl, hg, hc⟩ := hv (by omega)
      have k := wread_any g off l.length cap (fun j => (l.getD j 0).toNat) w (by omega) (by omega) hcap hg fb hc
      have e := le_rv (fun j => (l.getD j 0).toNat) (l.length - 32) (min l.length 32)
      rw [show l.length - 32 + min l.length 32 = l.length by omega] at e
      rw [e]; exact k
  clear ha hb hn hl hcap hV fb
  have m0 := S2_start w a b
  conv => arg 3; unfold Wd
  go_enter Try.func4, Try.ntmps4
  go_wp2_with fail
  have v0 := Sp.Vw_below hv m0.bel
  generalize (w.alloc (.cells #[.int .u64 (dg a 0), .int .u64 (dg a 1), .int .u64 (dg a 2), .int .u64 (dg a 3)] 24)).alloc (.cells #[.int .u64 (dg b 0), .int .u64 (dg b 1), .int .u64 (dg b 2), .int .u64 (dg b 3)] 24) = W0 at m0 v0 ⊢
  refine (bytes_any a W0).mono ?_
  rintro e w1 ⟨rfl, hb1⟩
  have m1 := S2_below m0 hb1
  have v1 := Sp.Vw_below v0 hb1
  clear m0 v0 hb1 hv
  dsimp only
  go_step
  go_step
  go_step
  go_step
  have q2 := Sp.Vb_zero32 w.heap.size w1 29 (by have := m1.hi; omega)
  have m2 := S2_below m1 ((Below.refl w1.heap.size w1).alloc (Nat.le_refl _) (.cells #[.int .u8 0, .int .u8 0, .int .u8 0, .int .u8 0, .int .u8 0, .int .u8 0, .int .u8 0, .int .u8 0, .int .u8 0, .int .u8 0, .int .u8 0, .int .u8 0, .int .u8 0, .int .u8 0, .int .u8 0, .int .u8 0, .int .u8 0, .int .u8 0, .int .u8 0, .int .u8 0, .int .u8 0, .int .u8 0, .int .u8 0, .int .u8 0, .int .u8 0, .int .u8 0, .int .u8 0, .int .u8 0, .int .u8 0, .int .u8 0, .int .u8 0, .int .u8 0] 29))
  have v2 := Sp.Vw_al v1 (.cells #[.int .u8 0, .int .u8 0, .int .u8 0, .int .u8 0, .int .u8 0, .int .u8 0, .int .u8 0, .int .u8 0, .int .u8 0, .int .u8 0, .int .u8 0, .int .u8 0, .int .u8 0, .int .u8 0, .int .u8 0, .int .u8 0, .int .u8 0, .int .u8 0, .int .u8 0, .int .u8 0, .int .u8 0, .int .u8 0, .int .u8 0, .int .u8 0, .int .u8 0, .int .u8 0, .int .u8 0, .int .u8 0, .int .u8 0, .int .u8 0, .int .u8 0, .int .u8 0] 29)
  generalize w1.alloc (.cells #[.int .u8 0, .int .u8 0, .int .u8 0, .int .u8 0, .int .u8 0, .int .u8 0, .int .u8 0, .int .u8 0, .int .u8 0, .int .u8 0, .int .u8 0, .int .u8 0, .int .u8 0, .int .u8 0, .int .u8 0, .int .u8 0, .int .u8 0, .int .u8 0, .int .u8 0, .int .u8 0, .int .u8 0, .int .u8 0, .int .u8 0, .int .u8 0, .int .u8 0, .int .u8 0, .int .u8 0, .int .u8 0, .int .u8 0, .int .u8 0, .int .u8 0, .int .u8 0] 29) = W2 at q2 m2 v2 ⊢
  have hg9 : w.heap.size + 1 < w1.heap.size := m1.hi
  have hgl : ∀ g off, ao = some ⟨g, off, none⟩ → 0 < l.length → g ≠ w1.heap.size := fun g off e h0 => by
    obtain ⟨g', off', e', hg', _⟩ := v1 h0
    rw [e] at e'
    cases e'
    omega
  generalize w1.heap.size = g9 at q2 hg9 hgl ⊢
  have t1 : W2.there g9 0 (Sp.h32 (bt a)).toArray.size := Sp.there32a q2.c q2.f
  have C0 : Sp.CK .u8 g9 32 (bt a) (W2.setCells g9 0 (Sp.h32 (bt a)).toArray.toList) := Sp.CK_set32 q2.c q2.f
  have S0 : S2 w a b (W2.setCells g9 0 (Sp.h32 (bt a)).toArray.toList) := S2_sets m2 hg9 _ _
  have V0 : Sp.Vw l ao (W2.setCells g9 0 (Sp.h32 (bt a)).toArray.toList) := Vw_sets v2 hgl _ _
  have Z0 : g9 < (W2.setCells g9 0 (Sp.h32 (bt a)).toArray.toList).heap.size := by rw [Sp.size_setCells]; exact q2.hi
  refine wpList_store_mid rfl 29 (.tmp 9) (.tmp 11) rfl g9 0 (Sp.h32 (bt a)).toArray rfl rfl t1 Sp.info32a (all_oneCell_toArray (Sp.h32_one (bt a))) ?_
  refine wpList_nil ?_
  clear q2 m2 v2 t1
  generalize W2.setCells g9 0 (Sp.h32 (bt a)).toArray.toList = W3 at C0 S0 V0 Z0 ⊢
  go_upto_region 2 with fail
  refine RI.wp_region_inv (WBI w a b n V g9 l ao cap) (by kernel_rfl) (by kernel_rfl) ?_ ?_ ?_
  · exact ⟨.bool false, undef, undef, undef, undef, undef, undef, undef, undef, undef, undef, undef, undef, undef, undef, undef, undef, undef, undef, undef, undef, undef, undef, undef, undef, undef, undef, undef, undef, undef, 0, 0, rfl, S2_drew S0, Sp.CK_drew C0, Z0, Sp.Vw_drew V0, nofun, nofun, nofun, nofun, nofun, nofun, nofun, nofun, nofun, nofun, nofun, nofun, nofun, nofun, nofun, nofun, nofun, nofun, nofun, nofun, nofun, nofun, nofun, nofun, nofun, nofun, nofun, nofun, nofun, nofun⟩
  · clear C0 S0 V0 Z0
    intro d x wx i hI hi hm
    obtain ⟨u8, u12, u13, u14, u15, u16, u17, u18, u19, u20, u21, u22, u23, u24, u25, u26, u27, u28, u29, u30, u31, u32, u33, u34, u35, u36, u37, u38, u39, u40, g30, c30, rfl, hS, hC, hz, hV, p0, p1, p2, p3, p4, p5, p6, p7, p8, p9, p10, p11, p12, p13, p14, p15, p16, p17, p19, p20, p21, p22, p23, p24, p25, p26, p27, p28, p29, px18⟩ := hI
    have hi' : i = 0 ∨ i = 1 ∨ i = 2 ∨ i = 3 ∨ i = 4 ∨ i = 5 ∨ i = 6 ∨ i = 7 ∨ i = 8 ∨ i = 9 ∨ i = 10 ∨ i = 11 ∨ i = 12 ∨ i = 13 ∨ i = 14 ∨ i = 15 ∨ i = 16 ∨ i = 17 ∨ i = 18 ∨ i = 19 ∨ i = 20 ∨ i = 21 ∨ i = 22 ∨ i = 23 ∨ i = 24 ∨ i = 25 ∨ i = 26 ∨ i = 27 ∨ i = 28 ∨ i = 29 := by simp at hi; omega
    have hd := hm.2
    clear hm hi
    rcases hi' with rfl | rfl | rfl | rfl | rfl | rfl | rfl | rfl | rfl | rfl | rfl | rfl | rfl | rfl | rfl | rfl | rfl | rfl | rfl | rfl | rfl | rfl | rfl | rfl | rfl | rfl | rfl | rfl | rfl | rfl
    · refine RI.wpOp_plain rfl rfl ?_
      have c0 : ∀ o, o < 4 → wx.cell? ⟨w.heap.size, o, none⟩ = some (.int .u64 (dg a o)) := hS.c0
      go_simp
      exact ⟨u8, _, u13, u14, u15, u16, u17, u18, u19, u20, u21, u22, u23, u24, u25, u26, u27, u28, u29, u30, u31, u32, u33, u34, u35, u36, u37, u38, u39, u40, g30, c30, rfl, hS, hC, hz, hV, fun _ => rfl, RI.keep (by decide) p1, RI.keep (by decide) p2, RI.keep (by decide) p3, RI.keep (by decide) p4, RI.keep (by decide) p5, RI.keep (by decide) p6, RI.keep (by decide) p7, RI.keep (by decide) p8, RI.keep (by decide) p9, RI.keep (by decide) p10, RI.keep (by decide) p11, RI.keep (by decide) p12, RI.keep (by decide) p13, RI.keep (by decide) p14, RI.keep (by decide) p15, RI.keep (by decide) p16, RI.keep (by decide) p17, RI.keep (by decide) p19, RI.keep (by decide) p20, RI.keep (by decide) p21, RI.keep (by decide) p22, RI.keep (by decide) p23, RI.keep (by decide) p24, RI.keep (by decide) p25, RI.keep (by decide) p26, RI.keep (by decide) p27, RI.keep (by decide) p28, RI.keep (by decide) p29, RI.keep (by decide) px18⟩
    · refine RI.wpOp_plain rfl rfl ?_
      have c0 : ∀ o, o < 4 → wx.cell? ⟨w.heap.size + 1, o, none⟩ = some (.int .u64 (dg b o)) := hS.c1
      go_simp
      exact ⟨u8, u12, _, u14, u15, u16, u17, u18, u19, u20, u21, u22, u23, u24, u25, u26, u27, u28, u29, u30, u31, u32, u33, u34, u35, u36, u37, u38, u39, u40, g30, c30, rfl, hS, hC, hz, hV, RI.keep (by decide) p0, fun _ => rfl, RI.keep (by decide) p2, RI.keep (by decide) p3, RI.keep (by decide) p4, RI.keep (by decide) p5, RI.keep (by decide) p6, RI.keep (by decide) p7, RI.keep (by decide) p8, RI.keep (by decide) p9, RI.keep (by decide) p10, RI.keep (by decide) p11, RI.keep (by decide) p12, RI.keep (by decide) p13, RI.keep (by decide) p14, RI.keep (by decide) p15, RI.keep (by decide) p16, RI.keep (by decide) p17, RI.keep (by decide) p19, RI.keep (by decide) p20, RI.keep (by decide) p21, RI.keep (by decide) p22, RI.keep (by decide) p23, RI.keep (by decide) p24, RI.keep (by decide) p25, RI.keep (by decide) p26, RI.keep (by decide) p27, RI.keep (by decide) p28, RI.keep (by decide) p29, RI.keep (by decide) px18⟩
    · have hd := hd _ rfl
      simp [Region.binds] at hd
      obtain rfl := p0 (by simp [hd])
      obtain rfl := p1 (by simp [hd])
      refine RI.wpOp_plain rfl rfl ?_
      go_simp
      refine (KC.out _).mono ?_
      rintro e w1 ⟨rfl, hb1⟩
      exact ⟨u8, _, _, _, u15, u16, u17, u18, u19, u20, u21, u22, u23, u24, u25, u26, u27, u28, u29, u30, u31, u32, u33, u34, u35, u36, u37, u38, u39, u40, g30, c30, rfl, S2_below hS hb1, Sp.CK_below hC hb1 hz, Nat.lt_of_lt_of_le hz hb1.size, Sp.Vw_below hV hb1, RI.keep (by decide) p0, RI.keep (by decide) p1, fun _ => rfl, RI.keep (by decide) p3, RI.keep (by decide) p4, RI.keep (by decide) p5, RI.keep (by decide) p6, RI.keep (by decide) p7, RI.keep (by decide) p8, RI.keep (by decide) p9, RI.keep (by decide) p10, RI.keep (by decide) p11, RI.keep (by decide) p12, RI.keep (by decide) p13, RI.keep (by decide) p14, RI.keep (by decide) p15, RI.keep (by decide) p16, RI.keep (by decide) p17, RI.keep (by decide) p19, RI.keep (by decide) p20, RI.keep (by decide) p21, RI.keep (by decide) p22, RI.keep (by decide) p23, RI.keep (by decide) p24, RI.keep (by decide) p25, RI.keep (by decide) p26, RI.keep (by decide) p27, RI.keep (by decide) p28, RI.keep (by decide) p29, RI.keep (by decide) (fun h => ⟨(px18 h).1, R32_below (px18 h).2.1 hb1 (px18 h).2.2, Nat.lt_of_lt_of_le (px18 h).2.2 hb1.size⟩)⟩
    · refine RI.wpOp_plain rfl rfl ?_
      have c0 : ∀ o, o < 4 → wx.cell? ⟨w.heap.size, o, none⟩ = some (.int .u64 (dg a o)) := hS.c0
      go_simp
      exact ⟨u8, u12, u13, u14, _, u16, u17, u18, u19, u20, u21, u22, u23, u24, u25, u26, u27, u28, u29, u30, u31, u32, u33, u34, u35, u36, u37, u38, u39, u40, g30, c30, rfl, hS, hC, hz, hV, RI.keep (by decide) p0, RI.keep (by decide) p1, RI.keep (by decide) p2, fun _ => rfl, RI.keep (by decide) p4, RI.keep (by decide) p5, RI.keep (by decide) p6, RI.keep (by decide) p7, RI.keep (by decide) p8, RI.keep (by decide) p9, RI.keep (by decide) p10, RI.keep (by decide) p11, RI.keep (by decide) p12, RI.keep (by decide) p13, RI.keep (by decide) p14, RI.keep (by decide) p15, RI.keep (by decide) p16, RI.keep (by decide) p17, RI.keep (by decide) p19, RI.keep (by decide) p20, RI.keep (by decide) p21, RI.keep (by decide) p22, RI.keep (by decide) p23, RI.keep (by decide) p24, RI.keep (by decide) p25, RI.keep (by decide) p26, RI.keep (by decide) p27, RI.keep (by decide) p28, RI.keep (by decide) p29, RI.keep (by decide) px18⟩
    · refine RI.wpOp_plain rfl rfl ?_
      have c0 : ∀ o, o < 4 → wx.cell? ⟨w.heap.size + 1, o, none⟩ = some (.int .u64 (dg b o)) := hS.c1
      go_simp
      exact ⟨u8, u12, u13, u14, u15, _, u17, u18, u19, u20, u21, u22, u23, u24, u25, u26, u27, u28, u29, u30, u31, u32, u33, u34, u35, u36, u37, u38, u39, u40, g30, c30, rfl, hS, hC, hz, hV, RI.keep (by decide) p0, RI.keep (by decide) p1, RI.keep (by decide) p2, RI.keep (by decide) p3, fun _ => rfl, RI.keep (by decide) p5, RI.keep (by decide) p6, RI.keep (by decide) p7, RI.keep (by decide) p8, RI.keep (by decide) p9, RI.keep (by decide) p10, RI.keep (by decide) p11, RI.keep (by decide) p12, RI.keep (by decide) p13, RI.keep (by decide) p14, RI.keep (by decide) p15, RI.keep (by decide) p16, RI.keep (by decide) p17, RI.keep (by decide) p19, RI.keep (by decide) p20, RI.keep (by decide) p21, RI.keep (by decide) p22, RI.keep (by decide) p23, RI.keep (by decide) p24, RI.keep (by decide) p25, RI.keep (by decide) p26, RI.keep (by decide) p27, RI.keep (by decide) p28, RI.keep (by decide) p29, RI.keep (by decide) px18⟩
    · have hd := hd _ rfl
      simp [Region.binds] at hd
      obtain rfl := p2 (by simp [hd])
      obtain rfl := p3 (by simp [hd])
      obtain rfl := p4 (by simp [hd])
      refine RI.wpOp_plain rfl rfl ?_
      go_simp
      refine (KW.out _).mono ?_
      rintro e w1 ⟨rfl, hb1⟩
      exact ⟨u8, u12, u13, _, _, _, _, u18, u19, u20, u21, u22, u23, u24, u25, u26, u27, u28, u29, u30, u31, u32, u33, u34, u35, u36, u37, u38, u39, u40, g30, c30, rfl, S2_below hS hb1, Sp.CK_below hC hb1 hz, Nat.lt_of_lt_of_le hz hb1.size, Sp.Vw_below hV hb1, RI.keep (by decide) p0, RI.keep (by decide) p1, RI.keep (by decide) p2, RI.keep (by decide) p3, RI.keep (by decide) p4, fun _ => rfl, RI.keep (by decide) p6, RI.keep (by decide) p7, RI.keep (by decide) p8, RI.keep (by decide) p9, RI.keep (by decide) p10, RI.keep (by decide) p11, RI.keep (by decide) p12, RI.keep (by decide) p13, RI.keep (by decide) p14, RI.keep (by decide) p15, RI.keep (by decide) p16, RI.keep (by decide) p17, RI.keep (by decide) p19, RI.keep (by decide) p20, RI.keep (by decide) p21, RI.keep (by decide) p22, RI.keep (by decide) p23, RI.keep (by decide) p24, RI.keep (by decide) p25, RI.keep (by decide) p26, RI.keep (by decide) p27, RI.keep (by decide) p28, RI.keep (by decide) p29, RI.keep (by decide) (fun h => ⟨(px18 h).1, R32_below (px18 h).2.1 hb1 (px18 h).2.2, Nat.lt_of_lt_of_le (px18 h).2.2 hb1.size⟩)⟩
    · have hd := hd _ rfl
      simp [Region.binds] at hd
      obtain rfl := p2 (by simp [hd])
      obtain rfl := p5 (by simp [hd])
      refine RI.wpOp_plain rfl rfl ?_
      go_simp
      exact ⟨u8, u12, u13, _, u15, u16, _, _, u19, u20, u21, u22, u23, u24, u25, u26, u27, u28, u29, u30, u31, u32, u33, u34, u35, u36, u37, u38, u39, u40, g30, c30, rfl, hS, hC, hz, hV, RI.keep (by decide) p0, RI.keep (by decide) p1, RI.keep (by decide) p2, RI.keep (by decide) p3, RI.keep (by decide) p4, RI.keep (by decide) p5, fun _ => rfl, RI.keep (by decide) p7, RI.keep (by decide) p8, RI.keep (by decide) p9, RI.keep (by decide) p10, RI.keep (by decide) p11, RI.keep (by decide) p12, RI.keep (by decide) p13, RI.keep (by decide) p14, RI.keep (by decide) p15, RI.keep (by decide) p16, RI.keep (by decide) p17, RI.keep (by decide) p19, RI.keep (by decide) p20, RI.keep (by decide) p21, RI.keep (by decide) p22, RI.keep (by decide) p23, RI.keep (by decide) p24, RI.keep (by decide) p25, RI.keep (by decide) p26, RI.keep (by decide) p27, RI.keep (by decide) p28, RI.keep (by decide) p29, RI.keep (by decide) px18⟩
    · have hd := hd _ rfl
      simp [Region.binds] at hd
      obtain rfl := p5 (by simp [hd])
      obtain rfl := p6 (by simp [hd])
      refine RI.wpOp_plain rfl rfl ?_
      go_simp
      exact ⟨u8, u12, u13, u14, u15, u16, _, _, _, u20, u21, u22, u23, u24, u25, u26, u27, u28, u29, u30, u31, u32, u33, u34, u35, u36, u37, u38, u39, u40, g30, c30, rfl, hS, hC, hz, hV, RI.keep (by decide) p0, RI.keep (by decide) p1, RI.keep (by decide) p2, RI.keep (by decide) p3, RI.keep (by decide) p4, RI.keep (by decide) p5, RI.keep (by decide) p6, fun _ => rfl, RI.keep (by decide) p8, RI.keep (by decide) p9, RI.keep (by decide) p10, RI.keep (by decide) p11, RI.keep (by decide) p12, RI.keep (by decide) p13, RI.keep (by decide) p14, RI.keep (by decide) p15, RI.keep (by decide) p16, RI.keep (by decide) p17, RI.keep (by decide) p19, RI.keep (by decide) p20, RI.keep (by decide) p21, RI.keep (by decide) p22, RI.keep (by decide) p23, RI.keep (by decide) p24, RI.keep (by decide) p25, RI.keep (by decide) p26, RI.keep (by decide) p27, RI.keep (by decide) p28, RI.keep (by decide) p29, RI.keep (by decide) px18⟩
    · have hd := hd _ rfl
      simp [Region.binds] at hd
      obtain rfl := p7 (by simp [hd])
      refine RI.wpOp_guard rfl rfl rfl ?_
      go_simp
      exact ⟨u8, u12, u13, u14, u15, u16, u17, u18, _, _, u21, u22, u23, u24, u25, u26, u27, u28, u29, u30, u31, u32, u33, u34, u35, u36, u37, u38, u39, u40, g30, c30, rfl, hS, hC, hz, hV, RI.keep (by decide) p0, RI.keep (by decide) p1, RI.keep (by decide) p2, RI.keep (by decide) p3, RI.keep (by decide) p4, RI.keep (by decide) p5, RI.keep (by decide) p6, RI.keep (by decide) p7, fun _ => rfl, RI.keep (by decide) p9, RI.keep (by decide) p10, RI.keep (by decide) p11, RI.keep (by decide) p12, RI.keep (by decide) p13, RI.keep (by decide) p14, RI.keep (by decide) p15, RI.keep (by decide) p16, RI.keep (by decide) p17, RI.keep (by decide) p19, RI.keep (by decide) p20, RI.keep (by decide) p21, RI.keep (by decide) p22, RI.keep (by decide) p23, RI.keep (by decide) p24, RI.keep (by decide) p25, RI.keep (by decide) p26, RI.keep (by decide) p27, RI.keep (by decide) p28, RI.keep (by decide) p29, RI.keep (by decide) px18⟩
    · have hd := hd _ rfl
      simp [Region.binds] at hd
      obtain rfl := p7 (by simp [hd])
      obtain rfl := p8 (by simp [hd])
      refine RI.wpOp_guard rfl rfl rfl ?_
      go_simp
      refine (KI.out _).mono ?_
      rintro e w1 ⟨rfl, hb1⟩
      exact ⟨u8, u12, u13, u14, u15, u16, u17, u18, _, _, _, u22, u23, u24, u25, u26, u27, u28, u29, u30, u31, u32, u33, u34, u35, u36, u37, u38, u39, u40, g30, c30, rfl, S2_below hS hb1, Sp.CK_below hC hb1 hz, Nat.lt_of_lt_of_le hz hb1.size, Sp.Vw_below hV hb1, RI.keep (by decide) p0, RI.keep (by decide) p1, RI.keep (by decide) p2, RI.keep (by decide) p3, RI.keep (by decide) p4, RI.keep (by decide) p5, RI.keep (by decide) p6, RI.keep (by decide) p7, RI.keep (by decide) p8, fun _ => rfl, RI.keep (by decide) p10, RI.keep (by decide) p11, RI.keep (by decide) p12, RI.keep (by decide) p13, RI.keep (by decide) p14, RI.keep (by decide) p15, RI.keep (by decide) p16, RI.keep (by decide) p17, RI.keep (by decide) p19, RI.keep (by decide) p20, RI.keep (by decide) p21, RI.keep (by decide) p22, RI.keep (by decide) p23, RI.keep (by decide) p24, RI.keep (by decide) p25, RI.keep (by decide) p26, RI.keep (by decide) p27, RI.keep (by decide) p28, RI.keep (by decide) p29, RI.keep (by decide) (fun h => ⟨(px18 h).1, R32_below (px18 h).2.1 hb1 (px18 h).2.2, Nat.lt_of_lt_of_le (px18 h).2.2 hb1.size⟩)⟩
    · have hd := hd _ rfl
      simp [Region.binds] at hd
      obtain rfl := p7 (by simp [hd])
      refine RI.wpOp_guard rfl rfl rfl ?_
      go_simp
      exact ⟨u8, u12, u13, u14, u15, u16, u17, u18, _, u20, u21, _, u23, u24, u25, u26, u27, u28, u29, u30, u31, u32, u33, u34, u35, u36, u37, u38, u39, u40, g30, c30, rfl, hS, hC, hz, hV, RI.keep (by decide) p0, RI.keep (by decide) p1, RI.keep (by decide) p2, RI.keep (by decide) p3, RI.keep (by decide) p4, RI.keep (by decide) p5, RI.keep (by decide) p6, RI.keep (by decide) p7, RI.keep (by decide) p8, RI.keep (by decide) p9, fun _ => rfl, RI.keep (by decide) p11, RI.keep (by decide) p12, RI.keep (by decide) p13, RI.keep (by decide) p14, RI.keep (by decide) p15, RI.keep (by decide) p16, RI.keep (by decide) p17, RI.keep (by decide) p19, RI.keep (by decide) p20, RI.keep (by decide) p21, RI.keep (by decide) p22, RI.keep (by decide) p23, RI.keep (by decide) p24, RI.keep (by decide) p25, RI.keep (by decide) p26, RI.keep (by decide) p27, RI.keep (by decide) p28, RI.keep (by decide) p29, RI.keep (by decide) px18⟩
    · have hd := hd _ rfl
      simp [Region.binds] at hd
      obtain rfl := p7 (by simp [hd])
      obtain rfl := p9 (by simp [hd])
      obtain rfl := p10 (by simp [hd])
      refine RI.wpOp_guard rfl rfl rfl ?_
      go_simp
      refine (KJ.out _).mono ?_
      rintro e w1 ⟨rfl, hb1⟩
      exact ⟨u8, u12, u13, u14, u15, u16, u17, u18, _, u20, _, _, _, u24, u25, u26, u27, u28, u29, u30, u31, u32, u33, u34, u35, u36, u37, u38, u39, u40, g30, c30, rfl, S2_below hS hb1, Sp.CK_below hC hb1 hz, Nat.lt_of_lt_of_le hz hb1.size, Sp.Vw_below hV hb1, RI.keep (by decide) p0, RI.keep (by decide) p1, RI.keep (by decide) p2, RI.keep (by decide) p3, RI.keep (by decide) p4, RI.keep (by decide) p5, RI.keep (by decide) p6, RI.keep (by decide) p7, RI.keep (by decide) p8, RI.keep (by decide) p9, RI.keep (by decide) p10, fun _ => rfl, RI.keep (by decide) p12, RI.keep (by decide) p13, RI.keep (by decide) p14, RI.keep (by decide) p15, RI.keep (by decide) p16, RI.keep (by decide) p17, RI.keep (by decide) p19, RI.keep (by decide) p20, RI.keep (by decide) p21, RI.keep (by decide) p22, RI.keep (by decide) p23, RI.keep (by decide) p24, RI.keep (by decide) p25, RI.keep (by decide) p26, RI.keep (by decide) p27, RI.keep (by decide) p28, RI.keep (by decide) p29, RI.keep (by decide) (fun h => ⟨(px18 h).1, R32_below (px18 h).2.1 hb1 (px18 h).2.2, Nat.lt_of_lt_of_le (px18 h).2.2 hb1.size⟩)⟩
    · have hd := hd _ rfl
      simp [Region.binds] at hd
      obtain rfl := p7 (by simp [hd])
      obtain rfl := p9 (by simp [hd])
      obtain rfl := p11 (by simp [hd])
      refine RI.wpOp_guard rfl rfl rfl ?_
      have e1 := eq_self n
      have q1 := fun op x y => eq_guard op x y n n
      go_simp
      exact ⟨u8, u12, u13, u14, u15, u16, u17, u18, _, u20, _, u22, _, _, u25, u26, u27, u28, u29, u30, u31, u32, u33, u34, u35, u36, u37, u38, u39, u40, g30, c30, rfl, hS, hC, hz, hV, RI.keep (by decide) p0, RI.keep (by decide) p1, RI.keep (by decide) p2, RI.keep (by decide) p3, RI.keep (by decide) p4, RI.keep (by decide) p5, RI.keep (by decide) p6, RI.keep (by decide) p7, RI.keep (by decide) p8, RI.keep (by decide) p9, RI.keep (by decide) p10, RI.keep (by decide) p11, fun _ => rfl, RI.keep (by decide) p13, RI.keep (by decide) p14, RI.keep (by decide) p15, RI.keep (by decide) p16, RI.keep (by decide) p17, RI.keep (by decide) p19, RI.keep (by decide) p20, RI.keep (by decide) p21, RI.keep (by decide) p22, RI.keep (by decide) p23, RI.keep (by decide) p24, RI.keep (by decide) p25, RI.keep (by decide) p26, RI.keep (by decide) p27, RI.keep (by decide) p28, RI.keep (by decide) p29, RI.keep (by decide) px18⟩
    · have hd := hd _ rfl
      simp [Region.binds] at hd
      obtain rfl := p7 (by simp [hd])
      obtain rfl := p12 (by simp [hd])
      refine RI.wpOp_plain rfl rfl ?_
      go_simp
      exact ⟨u8, u12, u13, u14, u15, u16, u17, u18, _, u20, u21, u22, u23, _, _, u26, u27, u28, u29, u30, u31, u32, u33, u34, u35, u36, u37, u38, u39, u40, g30, c30, rfl, hS, hC, hz, hV, RI.keep (by decide) p0, RI.keep (by decide) p1, RI.keep (by decide) p2, RI.keep (by decide) p3, RI.keep (by decide) p4, RI.keep (by decide) p5, RI.keep (by decide) p6, RI.keep (by decide) p7, RI.keep (by decide) p8, RI.keep (by decide) p9, RI.keep (by decide) p10, RI.keep (by decide) p11, RI.keep (by decide) p12, fun _ => rfl, RI.keep (by decide) p14, RI.keep (by decide) p15, RI.keep (by decide) p16, RI.keep (by decide) p17, RI.keep (by decide) p19, RI.keep (by decide) p20, RI.keep (by decide) p21, RI.keep (by decide) p22, RI.keep (by decide) p23, RI.keep (by decide) p24, RI.keep (by decide) p25, RI.keep (by decide) p26, RI.keep (by decide) p27, RI.keep (by decide) p28, RI.keep (by decide) p29, RI.keep (by decide) px18⟩
    · have hd := hd _ rfl
      simp [Region.binds] at hd
      obtain rfl := p11 (by simp [hd])
      obtain rfl := p13 (by simp [hd])
      refine RI.wpOp_plain rfl rfl ?_
      go_simp
      exact ⟨u8, u12, u13, u14, u15, u16, u17, u18, u19, u20, u21, u22, _, u24, _, _, u27, u28, u29, u30, u31, u32, u33, u34, u35, u36, u37, u38, u39, u40, g30, c30, rfl, hS, hC, hz, hV, RI.keep (by decide) p0, RI.keep (by decide) p1, RI.keep (by decide) p2, RI.keep (by decide) p3, RI.keep (by decide) p4, RI.keep (by decide) p5, RI.keep (by decide) p6, RI.keep (by decide) p7, RI.keep (by decide) p8, RI.keep (by decide) p9, RI.keep (by decide) p10, RI.keep (by decide) p11, RI.keep (by decide) p12, RI.keep (by decide) p13, fun _ => rfl, RI.keep (by decide) p15, RI.keep (by decide) p16, RI.keep (by decide) p17, RI.keep (by decide) p19, RI.keep (by decide) p20, RI.keep (by decide) p21, RI.keep (by decide) p22, RI.keep (by decide) p23, RI.keep (by decide) p24, RI.keep (by decide) p25, RI.keep (by decide) p26, RI.keep (by decide) p27, RI.keep (by decide) p28, RI.keep (by decide) p29, RI.keep (by decide) px18⟩
    · have hd := hd _ rfl
      simp [Region.binds] at hd
      obtain rfl := p14 (by simp [hd])
      refine RI.wpOp_guard rfl rfl rfl ?_
      go_simp
      exact ⟨u8, u12, u13, u14, u15, u16, u17, u18, u19, u20, u21, u22, u23, u24, u25, _, _, u28, u29, u30, u31, u32, u33, u34, u35, u36, u37, u38, u39, u40, g30, c30, rfl, hS, hC, hz, hV, RI.keep (by decide) p0, RI.keep (by decide) p1, RI.keep (by decide) p2, RI.keep (by decide) p3, RI.keep (by decide) p4, RI.keep (by decide) p5, RI.keep (by decide) p6, RI.keep (by decide) p7, RI.keep (by decide) p8, RI.keep (by decide) p9, RI.keep (by decide) p10, RI.keep (by decide) p11, RI.keep (by decide) p12, RI.keep (by decide) p13, RI.keep (by decide) p14, fun _ => rfl, RI.keep (by decide) p16, RI.keep (by decide) p17, RI.keep (by decide) p19, RI.keep (by decide) p20, RI.keep (by decide) p21, RI.keep (by decide) p22, RI.keep (by decide) p23, RI.keep (by decide) p24, RI.keep (by decide) p25, RI.keep (by decide) p26, RI.keep (by decide) p27, RI.keep (by decide) p28, RI.keep (by decide) p29, RI.keep (by decide) px18⟩
    · have hd := hd _ rfl
      simp [Region.binds] at hd
      obtain rfl := p14 (by simp [hd])
      obtain rfl := p15 (by simp [hd])
      refine RI.wpOp_guard rfl rfl rfl ?_
      have v1 := conv_bytes (cap := 32) hC
      go_simp
      exact ⟨u8, u12, u13, u14, u15, u16, u17, u18, u19, u20, u21, u22, u23, u24, u25, _, _, _, u29, u30, u31, u32, u33, u34, u35, u36, u37, u38, u39, u40, g30, c30, rfl, hS, hC, hz, hV, RI.keep (by decide) p0, RI.keep (by decide) p1, RI.keep (by decide) p2, RI.keep (by decide) p3, RI.keep (by decide) p4, RI.keep (by decide) p5, RI.keep (by decide) p6, RI.keep (by decide) p7, RI.keep (by decide) p8, RI.keep (by decide) p9, RI.keep (by decide) p10, RI.keep (by decide) p11, RI.keep (by decide) p12, RI.keep (by decide) p13, RI.keep (by decide) p14, RI.keep (by decide) p15, fun _ => rfl, RI.keep (by decide) p17, RI.keep (by decide) p19, RI.keep (by decide) p20, RI.keep (by decide) p21, RI.keep (by decide) p22, RI.keep (by decide) p23, RI.keep (by decide) p24, RI.keep (by decide) p25, RI.keep (by decide) p26, RI.keep (by decide) p27, RI.keep (by decide) p28, RI.keep (by decide) p29, RI.keep (by decide) px18⟩
    · have hd := hd _ rfl
      simp [Region.binds] at hd
      obtain rfl := p14 (by simp [hd])
      refine RI.wpOp_guard rfl rfl rfl ?_
      have c0 : ∀ o, o < 4 → wx.cell? ⟨w.heap.size, o, none⟩ = some (.int .u64 (dg a o)) := hS.c0
      go_simp
      exact ⟨u8, u12, u13, u14, u15, u16, u17, u18, u19, u20, u21, u22, u23, u24, u25, _, u27, u28, _, u30, u31, u32, u33, u34, u35, u36, u37, u38, u39, u40, g30, c30, rfl, hS, hC, hz, hV, RI.keep (by decide) p0, RI.keep (by decide) p1, RI.keep (by decide) p2, RI.keep (by decide) p3, RI.keep (by decide) p4, RI.keep (by decide) p5, RI.keep (by decide) p6, RI.keep (by decide) p7, RI.keep (by decide) p8, RI.keep (by decide) p9, RI.keep (by decide) p10, RI.keep (by decide) p11, RI.keep (by decide) p12, RI.keep (by decide) p13, RI.keep (by decide) p14, RI.keep (by decide) p15, RI.keep (by decide) p16, fun _ => rfl, RI.keep (by decide) p19, RI.keep (by decide) p20, RI.keep (by decide) p21, RI.keep (by decide) p22, RI.keep (by decide) p23, RI.keep (by decide) p24, RI.keep (by decide) p25, RI.keep (by decide) p26, RI.keep (by decide) p27, RI.keep (by decide) p28, RI.keep (by decide) p29, RI.keep (by decide) px18⟩
    · have hd := hd _ rfl
      simp [Region.binds] at hd
      obtain rfl := p14 (by simp [hd])
      obtain rfl := p17 (by simp [hd])
      refine RI.wpOp_guard rfl rfl rfl ?_
      go_simp
      refine (wbytes_any a _).mono ?_
      rintro e w1 ⟨g1, cap1, rfl, own1, hb1⟩
      exact ⟨u8, u12, u13, u14, u15, u16, u17, u18, u19, u20, u21, u22, u23, u24, u25, _, u27, u28, _, _, u31, u32, u33, u34, u35, u36, u37, u38, u39, u40, g1, cap1, rfl, S2_below hS hb1, Sp.CK_below hC hb1 hz, Nat.lt_of_lt_of_le hz hb1.size, Sp.Vw_below hV hb1, RI.keep (by decide) p0, RI.keep (by decide) p1, RI.keep (by decide) p2, RI.keep (by decide) p3, RI.keep (by decide) p4, RI.keep (by decide) p5, RI.keep (by decide) p6, RI.keep (by decide) p7, RI.keep (by decide) p8, RI.keep (by decide) p9, RI.keep (by decide) p10, RI.keep (by decide) p11, RI.keep (by decide) p12, RI.keep (by decide) p13, RI.keep (by decide) p14, RI.keep (by decide) p15, RI.keep (by decide) p16, RI.keep (by decide) p17, RI.keep (by decide) p19, RI.keep (by decide) p20, RI.keep (by decide) p21, RI.keep (by decide) p22, RI.keep (by decide) p23, RI.keep (by decide) p24, RI.keep (by decide) p25, RI.keep (by decide) p26, RI.keep (by decide) p27, RI.keep (by decide) p28, RI.keep (by decide) p29, fun _ => ⟨rfl, R32_own own1, (own1.lt g1 rfl).2⟩⟩
    · have hd := hd _ rfl
      simp [Region.binds] at hd
      obtain rfl := p14 (by simp [hd])
      obtain ⟨rfl, r18, z18⟩ := px18 (by simp [hd])
      refine RI.wpOp_guard rfl rfl rfl ?_
      have v1 := conv_bytes (cap := c30) r18
      go_simp
      exact ⟨u8, u12, u13, u14, u15, u16, u17, u18, u19, u20, u21, u22, u23, u24, u25, _, u27, u28, u29, _, _, u32, u33, u34, u35, u36, u37, u38, u39, u40, g30, c30, rfl, hS, hC, hz, hV, RI.keep (by decide) p0, RI.keep (by decide) p1, RI.keep (by decide) p2, RI.keep (by decide) p3, RI.keep (by decide) p4, RI.keep (by decide) p5, RI.keep (by decide) p6, RI.keep (by decide) p7, RI.keep (by decide) p8, RI.keep (by decide) p9, RI.keep (by decide) p10, RI.keep (by decide) p11, RI.keep (by decide) p12, RI.keep (by decide) p13, RI.keep (by decide) p14, RI.keep (by decide) p15, RI.keep (by decide) p16, RI.keep (by decide) p17, fun _ => rfl, RI.keep (by decide) p20, RI.keep (by decide) p21, RI.keep (by decide) p22, RI.keep (by decide) p23, RI.keep (by decide) p24, RI.keep (by decide) p25, RI.keep (by decide) p26, RI.keep (by decide) p27, RI.keep (by decide) p28, RI.keep (by decide) p29, RI.keep (by decide) fun _ => ⟨rfl, r18, z18⟩⟩
    · have hd := hd _ rfl
      simp [Region.binds] at hd
      obtain rfl := p14 (by simp [hd])
      obtain rfl := p16 (by simp [hd])
      obtain rfl := p19 (by simp [hd])
      refine RI.wpOp_guard rfl rfl rfl ?_
      go_simp
      exact ⟨u8, u12, u13, u14, u15, u16, u17, u18, u19, u20, u21, u22, u23, u24, u25, _, u27, _, u29, u30, _, _, u33, u34, u35, u36, u37, u38, u39, u40, g30, c30, rfl, hS, hC, hz, hV, RI.keep (by decide) p0, RI.keep (by decide) p1, RI.keep (by decide) p2, RI.keep (by decide) p3, RI.keep (by decide) p4, RI.keep (by decide) p5, RI.keep (by decide) p6, RI.keep (by decide) p7, RI.keep (by decide) p8, RI.keep (by decide) p9, RI.keep (by decide) p10, RI.keep (by decide) p11, RI.keep (by decide) p12, RI.keep (by decide) p13, RI.keep (by decide) p14, RI.keep (by decide) p15, RI.keep (by decide) p16, RI.keep (by decide) p17, RI.keep (by decide) p19, fun _ => rfl, RI.keep (by decide) p21, RI.keep (by decide) p22, RI.keep (by decide) p23, RI.keep (by decide) p24, RI.keep (by decide) p25, RI.keep (by decide) p26, RI.keep (by decide) p27, RI.keep (by decide) p28, RI.keep (by decide) p29, RI.keep (by decide) px18⟩
    · have hd := hd _ rfl
      simp [Region.binds] at hd
      obtain rfl := p14 (by simp [hd])
      obtain rfl := p20 (by simp [hd])
      refine RI.wpOp_plain rfl rfl ?_
      go_simp
      exact ⟨u8, u12, u13, u14, u15, u16, u17, u18, u19, u20, u21, u22, u23, u24, u25, _, u27, u28, u29, u30, u31, _, _, u34, u35, u36, u37, u38, u39, u40, g30, c30, rfl, hS, hC, hz, hV, RI.keep (by decide) p0, RI.keep (by decide) p1, RI.keep (by decide) p2, RI.keep (by decide) p3, RI.keep (by decide) p4, RI.keep (by decide) p5, RI.keep (by decide) p6, RI.keep (by decide) p7, RI.keep (by decide) p8, RI.keep (by decide) p9, RI.keep (by decide) p10, RI.keep (by decide) p11, RI.keep (by decide) p12, RI.keep (by decide) p13, RI.keep (by decide) p14, RI.keep (by decide) p15, RI.keep (by decide) p16, RI.keep (by decide) p17, RI.keep (by decide) p19, RI.keep (by decide) p20, fun _ => rfl, RI.keep (by decide) p22, RI.keep (by decide) p23, RI.keep (by decide) p24, RI.keep (by decide) p25, RI.keep (by decide) p26, RI.keep (by decide) p27, RI.keep (by decide) p28, RI.keep (by decide) p29, RI.keep (by decide) px18⟩
    · have hd := hd _ rfl
      simp [Region.binds] at hd
      obtain ⟨rfl, r18, z18⟩ := px18 (by simp [hd])
      obtain rfl := p21 (by simp [hd])
      refine RI.wpOp_plain rfl rfl ?_
      go_simp
      exact ⟨u8, u12, u13, u14, u15, u16, u17, u18, u19, u20, u21, u22, u23, u24, u25, u26, u27, u28, u29, _, u31, u32, _, _, u35, u36, u37, u38, u39, u40, g30, c30, rfl, hS, hC, hz, hV, RI.keep (by decide) p0, RI.keep (by decide) p1, RI.keep (by decide) p2, RI.keep (by decide) p3, RI.keep (by decide) p4, RI.keep (by decide) p5, RI.keep (by decide) p6, RI.keep (by decide) p7, RI.keep (by decide) p8, RI.keep (by decide) p9, RI.keep (by decide) p10, RI.keep (by decide) p11, RI.keep (by decide) p12, RI.keep (by decide) p13, RI.keep (by decide) p14, RI.keep (by decide) p15, RI.keep (by decide) p16, RI.keep (by decide) p17, RI.keep (by decide) p19, RI.keep (by decide) p20, RI.keep (by decide) p21, fun _ => rfl, RI.keep (by decide) p23, RI.keep (by decide) p24, RI.keep (by decide) p25, RI.keep (by decide) p26, RI.keep (by decide) p27, RI.keep (by decide) p28, RI.keep (by decide) p29, RI.keep (by decide) fun _ => ⟨rfl, r18, z18⟩⟩
    · have hd := hd _ rfl
      simp [Region.binds] at hd
      obtain rfl := p22 (by simp [hd])
      refine RI.wpOp_guard rfl rfl rfl ?_
      go_simp
      exact ⟨u8, u12, u13, u14, u15, u16, u17, u18, u19, u20, u21, u22, u23, u24, u25, u26, u27, u28, u29, u30, u31, u32, u33, _, _, u36, u37, u38, u39, u40, g30, c30, rfl, hS, hC, hz, hV, RI.keep (by decide) p0, RI.keep (by decide) p1, RI.keep (by decide) p2, RI.keep (by decide) p3, RI.keep (by decide) p4, RI.keep (by decide) p5, RI.keep (by decide) p6, RI.keep (by decide) p7, RI.keep (by decide) p8, RI.keep (by decide) p9, RI.keep (by decide) p10, RI.keep (by decide) p11, RI.keep (by decide) p12, RI.keep (by decide) p13, RI.keep (by decide) p14, RI.keep (by decide) p15, RI.keep (by decide) p16, RI.keep (by decide) p17, RI.keep (by decide) p19, RI.keep (by decide) p20, RI.keep (by decide) p21, RI.keep (by decide) p22, fun _ => rfl, RI.keep (by decide) p24, RI.keep (by decide) p25, RI.keep (by decide) p26, RI.keep (by decide) p27, RI.keep (by decide) p28, RI.keep (by decide) p29, RI.keep (by decide) px18⟩
    · have hd := hd _ rfl
      simp [Region.binds] at hd
      obtain rfl := p22 (by simp [hd])
      obtain rfl := p23 (by simp [hd])
      refine RI.wpOp_guard rfl rfl rfl ?_
      go_simp
      refine (KR.out _ hV).mono ?_
      rintro e w1 ⟨rfl, hb1⟩
      exact ⟨u8, u12, u13, u14, u15, u16, u17, u18, u19, u20, u21, u22, u23, u24, u25, u26, u27, u28, u29, u30, u31, u32, u33, _, _, _, u37, u38, u39, u40, g30, c30, rfl, S2_below hS hb1, Sp.CK_below hC hb1 hz, Nat.lt_of_lt_of_le hz hb1.size, Sp.Vw_below hV hb1, RI.keep (by decide) p0, RI.keep (by decide) p1, RI.keep (by decide) p2, RI.keep (by decide) p3, RI.keep (by decide) p4, RI.keep (by decide) p5, RI.keep (by decide) p6, RI.keep (by decide) p7, RI.keep (by decide) p8, RI.keep (by decide) p9, RI.keep (by decide) p10, RI.keep (by decide) p11, RI.keep (by decide) p12, RI.keep (by decide) p13, RI.keep (by decide) p14, RI.keep (by decide) p15, RI.keep (by decide) p16, RI.keep (by decide) p17, RI.keep (by decide) p19, RI.keep (by decide) p20, RI.keep (by decide) p21, RI.keep (by decide) p22, RI.keep (by decide) p23, fun _ => rfl, RI.keep (by decide) p25, RI.keep (by decide) p26, RI.keep (by decide) p27, RI.keep (by decide) p28, RI.keep (by decide) p29, RI.keep (by decide) (fun h => ⟨(px18 h).1, R32_below (px18 h).2.1 hb1 (px18 h).2.2, Nat.lt_of_lt_of_le (px18 h).2.2 hb1.size⟩)⟩
    · have hd := hd _ rfl
      simp [Region.binds] at hd
      obtain rfl := p22 (by simp [hd])
      refine RI.wpOp_guard rfl rfl rfl ?_
      go_simp
      exact ⟨u8, u12, u13, u14, u15, u16, u17, u18, u19, u20, u21, u22, u23, u24, u25, u26, u27, u28, u29, u30, u31, u32, u33, _, u35, u36, _, u38, u39, u40, g30, c30, rfl, hS, hC, hz, hV, RI.keep (by decide) p0, RI.keep (by decide) p1, RI.keep (by decide) p2, RI.keep (by decide) p3, RI.keep (by decide) p4, RI.keep (by decide) p5, RI.keep (by decide) p6, RI.keep (by decide) p7, RI.keep (by decide) p8, RI.keep (by decide) p9, RI.keep (by decide) p10, RI.keep (by decide) p11, RI.keep (by decide) p12, RI.keep (by decide) p13, RI.keep (by decide) p14, RI.keep (by decide) p15, RI.keep (by decide) p16, RI.keep (by decide) p17, RI.keep (by decide) p19, RI.keep (by decide) p20, RI.keep (by decide) p21, RI.keep (by decide) p22, RI.keep (by decide) p23, RI.keep (by decide) p24, fun _ => rfl, RI.keep (by decide) p26, RI.keep (by decide) p27, RI.keep (by decide) p28, RI.keep (by decide) p29, RI.keep (by decide) px18⟩
    · have hd := hd _ rfl
      simp [Region.binds] at hd
      obtain rfl := p22 (by simp [hd])
      obtain rfl := p24 (by simp [hd])
      obtain rfl := p25 (by simp [hd])
      refine RI.wpOp_guard rfl rfl rfl ?_
      go_simp
      refine (KS.out _ hV).mono ?_
      rintro e w1 ⟨rfl, hb1⟩
      exact ⟨u8, u12, u13, u14, u15, u16, u17, u18, u19, u20, u21, u22, u23, u24, u25, u26, u27, u28, u29, u30, u31, u32, u33, _, u35, _, _, _, u39, u40, g30, c30, rfl, S2_below hS hb1, Sp.CK_below hC hb1 hz, Nat.lt_of_lt_of_le hz hb1.size, Sp.Vw_below hV hb1, RI.keep (by decide) p0, RI.keep (by decide) p1, RI.keep (by decide) p2, RI.keep (by decide) p3, RI.keep (by decide) p4, RI.keep (by decide) p5, RI.keep (by decide) p6, RI.keep (by decide) p7, RI.keep (by decide) p8, RI.keep (by decide) p9, RI.keep (by decide) p10, RI.keep (by decide) p11, RI.keep (by decide) p12, RI.keep (by decide) p13, RI.keep (by decide) p14, RI.keep (by decide) p15, RI.keep (by decide) p16, RI.keep (by decide) p17, RI.keep (by decide) p19, RI.keep (by decide) p20, RI.keep (by decide) p21, RI.keep (by decide) p22, RI.keep (by decide) p23, RI.keep (by decide) p24, RI.keep (by decide) p25, fun _ => rfl, RI.keep (by decide) p27, RI.keep (by decide) p28, RI.keep (by decide) p29, RI.keep (by decide) (fun h => ⟨(px18 h).1, R32_below (px18 h).2.1 hb1 (px18 h).2.2, Nat.lt_of_lt_of_le (px18 h).2.2 hb1.size⟩)⟩
    · have hd := hd _ rfl
      simp [Region.binds] at hd
      obtain rfl := p22 (by simp [hd])
      obtain rfl := p24 (by simp [hd])
      obtain rfl := p26 (by simp [hd])
      refine RI.wpOp_guard rfl rfl rfl ?_
      have e1 := eq_self V
      have q1 := fun op x y => eq_guard op x y V V
      go_simp
      exact ⟨u8, u12, u13, u14, u15, u16, u17, u18, u19, u20, u21, u22, u23, u24, u25, u26, u27, u28, u29, u30, u31, u32, u33, _, u35, _, u37, _, _, u40, g30, c30, rfl, hS, hC, hz, hV, RI.keep (by decide) p0, RI.keep (by decide) p1, RI.keep (by decide) p2, RI.keep (by decide) p3, RI.keep (by decide) p4, RI.keep (by decide) p5, RI.keep (by decide) p6, RI.keep (by decide) p7, RI.keep (by decide) p8, RI.keep (by decide) p9, RI.keep (by decide) p10, RI.keep (by decide) p11, RI.keep (by decide) p12, RI.keep (by decide) p13, RI.keep (by decide) p14, RI.keep (by decide) p15, RI.keep (by decide) p16, RI.keep (by decide) p17, RI.keep (by decide) p19, RI.keep (by decide) p20, RI.keep (by decide) p21, RI.keep (by decide) p22, RI.keep (by decide) p23, RI.keep (by decide) p24, RI.keep (by decide) p25, RI.keep (by decide) p26, fun _ => rfl, RI.keep (by decide) p28, RI.keep (by decide) p29, RI.keep (by decide) px18⟩
    · have hd := hd _ rfl
      simp [Region.binds] at hd
      obtain rfl := p22 (by simp [hd])
      obtain rfl := p27 (by simp [hd])
      refine RI.wpOp_plain rfl rfl ?_
      go_simp
      exact ⟨u8, u12, u13, u14, u15, u16, u17, u18, u19, u20, u21, u22, u23, u24, u25, u26, u27, u28, u29, u30, u31, u32, u33, _, u35, u36, u37, u38, _, _, g30, c30, rfl, hS, hC, hz, hV, RI.keep (by decide) p0, RI.keep (by decide) p1, RI.keep (by decide) p2, RI.keep (by decide) p3, RI.keep (by decide) p4, RI.keep (by decide) p5, RI.keep (by decide) p6, RI.keep (by decide) p7, RI.keep (by decide) p8, RI.keep (by decide) p9, RI.keep (by decide) p10, RI.keep (by decide) p11, RI.keep (by decide) p12, RI.keep (by decide) p13, RI.keep (by decide) p14, RI.keep (by decide) p15, RI.keep (by decide) p16, RI.keep (by decide) p17, RI.keep (by decide) p19, RI.keep (by decide) p20, RI.keep (by decide) p21, RI.keep (by decide) p22, RI.keep (by decide) p23, RI.keep (by decide) p24, RI.keep (by decide) p25, RI.keep (by decide) p26, RI.keep (by decide) p27, fun _ => rfl, RI.keep (by decide) p29, RI.keep (by decide) px18⟩
    · have hd := hd _ rfl
      simp [Region.binds] at hd
      obtain rfl := p0 (by simp [hd])
      obtain rfl := p1 (by simp [hd])
      obtain rfl := p2 (by simp [hd])
      obtain rfl := p3 (by simp [hd])
      obtain rfl := p4 (by simp [hd])
      obtain rfl := p5 (by simp [hd])
      obtain rfl := p6 (by simp [hd])
      obtain rfl := p7 (by simp [hd])
      obtain rfl := p8 (by simp [hd])
      obtain rfl := p9 (by simp [hd])
      obtain rfl := p10 (by simp [hd])
      obtain rfl := p11 (by simp [hd])
      obtain rfl := p12 (by simp [hd])
      obtain rfl := p13 (by simp [hd])
      obtain rfl := p14 (by simp [hd])
      obtain rfl := p15 (by simp [hd])
      obtain rfl := p16 (by simp [hd])
      obtain rfl := p17 (by simp [hd])
      obtain ⟨rfl, r18, z18⟩ := px18 (by simp [hd])
      obtain rfl := p19 (by simp [hd])
      obtain rfl := p20 (by simp [hd])
      obtain rfl := p21 (by simp [hd])
      obtain rfl := p22 (by simp [hd])
      obtain rfl := p23 (by simp [hd])
      obtain rfl := p24 (by simp [hd])
      obtain rfl := p25 (by simp [hd])
      obtain rfl := p26 (by simp [hd])
      obtain rfl := p27 (by simp [hd])
      obtain rfl := p28 (by simp [hd])
      refine RI.wpOp_plain rfl rfl ?_
      go_simp
      exact ⟨_, _, _, _, _, _, _, _, _, _, _, _, _, _, _, _, _, _, _, _, _, _, _, _, _, _, _, _, _, _, g30, c30, rfl, hS, hC, hz, hV, RI.keep (by decide) p0, RI.keep (by decide) p1, RI.keep (by decide) p2, RI.keep (by decide) p3, RI.keep (by decide) p4, RI.keep (by decide) p5, RI.keep (by decide) p6, RI.keep (by decide) p7, RI.keep (by decide) p8, RI.keep (by decide) p9, RI.keep (by decide) p10, RI.keep (by decide) p11, RI.keep (by decide) p12, RI.keep (by decide) p13, RI.keep (by decide) p14, RI.keep (by decide) p15, RI.keep (by decide) p16, RI.keep (by decide) p17, RI.keep (by decide) p19, RI.keep (by decide) p20, RI.keep (by decide) p21, RI.keep (by decide) p22, RI.keep (by decide) p23, RI.keep (by decide) p24, RI.keep (by decide) p25, RI.keep (by decide) p26, RI.keep (by decide) p27, RI.keep (by decide) p28, fun _ => rfl, RI.keep (by decide) fun _ => ⟨rfl, r18, z18⟩⟩
  · clear C0 S0 V0 Z0
    intro d x wx hI hd
    obtain ⟨u8, u12, u13, u14, u15, u16, u17, u18, u19, u20, u21, u22, u23, u24, u25, u26, u27, u28, u29, u30, u31, u32, u33, u34, u35, u36, u37, u38, u39, u40, g30, c30, rfl, hS, hC, hz, hV, p0, p1, p2, p3, p4, p5, p6, p7, p8, p9, p10, p11, p12, p13, p14, p15, p16, p17, p19, p20, p21, p22, p23, p24, p25, p26, p27, p28, p29, px18⟩ := hI
    obtain rfl := p29 (hd 29 (by decide))
    have HB : Hid (Below w.heap.size w wx) := hS.bel
    clear p0 p1 p2 p3 p4 p5 p6 p7 p8 p9 p10 p11 p12 p13 p14 p15 p16 p17 p19 p20 p21 p22 p23 p24 p25 p26 p27 p28 p29 px18 hS hC hz hV hd
    go_wp2_with fail
    go_ret
    exact ⟨rfl, HB.out⟩
end Go.Proofs.Ytcoljaogemgnnaa
