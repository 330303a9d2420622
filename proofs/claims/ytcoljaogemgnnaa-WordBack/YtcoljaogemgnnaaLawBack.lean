/- lampbearerkeep.WordBack: a word is read as it was written. -/
import Derived.Test.YtcoljaogemgnnaaAlive1
import Derived.Test.YtcoljaogemgnnaaWCmp
import Derived.Test.YtcoljaogemgnnaaWRd
import Derived.Test.YtcoljaogemgnnaaWBytes
import Derived.Test.YtcoljaogemgnnaaRegInv
namespace Go.Proofs.Ytcoljaogemgnnaa
open Go.RowKit Go.Shelf
theorem S2_sets {w : World} {a b g : Nat} {w1 : World} (h : S2 w a b w1) (hg : w.heap.size + 1 < g) (vs : List Value) (o : Nat) : S2 w a b (w1.setCells g o vs) :=
  ⟨by rw [Sp.size_setCells]; exact h.hi, Sp.CK_sets (k := .u64) h.c0 (by omega) vs o, Sp.CK_sets (k := .u64) h.c1 (by omega) vs o, Sp.Bel_sets (by omega) vs o _ h.bel⟩
theorem S2_al {w : World} {a b : Nat} {w1 : World} (h : S2 w a b w1) (o : Obj) : S2 w a b (w1.alloc o) := S2_below h ((Below.refl _ _).alloc (Nat.le_refl _) o)
theorem Vb_set32 {B g : Nat} {F G : Nat → Int} {w1 : World} (h : Sp.Vb .u8 B g 32 F w1) : Sp.Vb .u8 B g 32 G (w1.setCells g 0 (Sp.h32 G).toArray.toList) := ⟨h.lo, by rw [Sp.size_setCells]; exact h.hi, Sp.CK_set32 h.c h.f, Sp.Fz_sets h.f _ _⟩
theorem cm_lt (a b : Nat) : decide (cm (a : Int) (b : Int) < 0) = decide (a < b) := by
  rw [decide_eq_decide]; unfold cm
  split
  · constructor <;> intro _ <;> omega
  · split <;> constructor <;> intro _ <;> omega
theorem cm_eq (a b : Nat) : (cm (a : Int) (b : Int) == 0) = decide (a = b) := by
  rw [Bool.eq_iff_iff, beq_iff_eq, decide_eq_true_iff]; unfold cm
  split
  · constructor <;> intro _ <;> omega
  · split <;> constructor <;> intro _ <;> omega
theorem cm_neg (a b : Nat) : IntKind.i64.wrap (-cm (b : Int) (a : Int)) = cm (a : Int) (b : Int) := by
  rw [IntKind.wrap_i64]; unfold cm
  repeat' split
  all_goals omega
theorem read_back (a g : Nat) (ha : a < 2 ^ 256) (w : World) (h : Sp.CK .u8 g 32 (bt a) w) (hg : g < w.heap.size) :
    Calls Try.prog 19 #[.slice (some ⟨g, 0, none⟩) 32 32] w fun e w' => e = .returned (Wd a) ∧ Below w.heap.size w w' := by
  have k := read_any g 0 32 32 (fun j => a / 2 ^ (8 * (31 - j)) % 256) w (by decide) (by decide) hg (fun j => Nat.mod_lt _ (by decide)) (fun j hj => by rw [Nat.zero_add]; exact h j hj)
  have e := le_rv (fun j => a / 2 ^ (8 * (31 - j)) % 256) 0 32
  rw [Nat.zero_add, rv_bt a ha 32 (by decide)] at e
  simp only [Nat.sub_self, Nat.mul_zero, Nat.pow_zero, Nat.div_one] at e
  rw [show min 32 32 = 32 from rfl, e] at k
  exact k
/-- What holds while the two rows of bytes are laid down. -/
def BK3 (w : World) (a b : Nat) (d : Nat → Bool) (x : Act) (wx : World) : Prop :=
  ∃ (u5 u6 u9 u10 u11 u12 : Value) (g5 g6 : Nat) (F5 F6 : Nat → Int),
    x = { tmps := #[.agg #[.int .u64 (dg a 0), .int .u64 (dg a 1), .int .u64 (dg a 2), .int .u64 (dg a 3)], .agg #[.int .u64 (dg b 0), .int .u64 (dg b 1), .int .u64 (dg b 2), .int .u64 (dg b 3)], .pointer (some ⟨w.heap.size, 0, none⟩), .pointer (some ⟨w.heap.size + 1, 0, none⟩), .bool false, u5, u6, .bool true, .bool false, u9, u10, u11, u12, undef, undef, undef, undef, undef, undef, undef, undef, undef, undef, undef, undef, undef, undef, undef, undef, undef, undef, undef, undef, undef, undef, undef, undef, undef, undef, undef, undef, undef, undef, undef, undef, undef, undef, undef, undef], defers := [] } ∧ S2 w a b wx ∧
    (d 0 = true → u9 = Wd a) ∧ (d 1 = true → u10 = Sp.Hv (bt a)) ∧ (d 2 = true → u11 = Wd b) ∧ (d 3 = true → u12 = Sp.Hv (bt b)) ∧
    (d 4 = true → u5 = .pointer (some ⟨g5, 0, none⟩) ∧ Sp.Vb .u8 (w.heap.size + 1 + 1) g5 32 F5 wx) ∧ (d 5 = true → u6 = .pointer (some ⟨g6, 0, none⟩) ∧ Sp.Vb .u8 (w.heap.size + 1 + 1) g6 32 F6 wx) ∧ (d 4 = true → d 5 = true → g5 ≠ g6) ∧
    (d 6 = true → d 4 = true ∧ F5 = bt a) ∧ (d 7 = true → d 5 = true ∧ F6 = bt b)
theorem BK_two {d : Nat → Bool} {i : Nat} {p : Prop} (h4 : (4 : Nat) ≠ i) (h5 : (5 : Nat) ≠ i) (h : d 4 = true → d 5 = true → p) : RI.don d i 4 = true → RI.don d i 5 = true → p := by
  rw [RI.don_other _ _ _ h4, RI.don_other _ _ _ h5]; exact h
theorem BK_on {d : Nat → Bool} {i j k : Nat} {p : Prop} (hj : j ≠ i) (hk : k ≠ i) (h : d j = true → d k = true ∧ p) : RI.don d i j = true → RI.don d i k = true ∧ p := by
  rw [RI.don_other _ _ _ hj, RI.don_other _ _ _ hk]; exact h
theorem BK_no {d : Nat → Bool} {i j : Nat} {p q : Prop} (hj : j ≠ i) (hf : d i = false) (h : d j = true → d i = true ∧ p) : RI.don d i j = true → q := by
  rw [RI.don_other _ _ _ hj]; intro k; have := (h k).1; rw [hf] at this; exact absurd this (by decide)
/-- What holds while the law's test goes on. -/
def BK4 (w : World) (a b g5 g6 : Nat) (ha hb : Value) (C D : Int) (s t : Bool) (d : Nat → Bool) (x : Act) (wx : World) : Prop :=
  ∃ (u4 u13 u14 u15 u16 u17 u18 u19 u20 u21 u22 u23 u24 u25 u26 u27 u28 u29 u30 u31 u32 u33 u34 u35 u36 u37 u38 u39 u40 u41 u42 u43 u44 u45 u46 u47 u48 : Value),
    x = { tmps := #[.agg #[.int .u64 (dg a 0), .int .u64 (dg a 1), .int .u64 (dg a 2), .int .u64 (dg a 3)], .agg #[.int .u64 (dg b 0), .int .u64 (dg b 1), .int .u64 (dg b 2), .int .u64 (dg b 3)], .pointer (some ⟨w.heap.size, 0, none⟩), .pointer (some ⟨w.heap.size + 1, 0, none⟩), u4, .pointer (some ⟨g5, 0, none⟩), .pointer (some ⟨g6, 0, none⟩), .bool true, .bool false, Wd a, ha, Wd b, hb, u13, u14, u15, u16, u17, u18, u19, u20, u21, u22, u23, u24, u25, u26, u27, u28, u29, u30, u31, u32, u33, u34, u35, u36, u37, u38, u39, u40, u41, u42, u43, u44, u45, u46, u47, u48], defers := [] } ∧
    (S2 w a b wx) ∧ (Sp.CK .u8 g5 32 (bt a) wx) ∧ (g5 < wx.heap.size) ∧ (Sp.CK .u8 g6 32 (bt b) wx) ∧ (g6 < wx.heap.size) ∧
    (d 0 = true → u13 = .slice (some ⟨g5, 0, none⟩) 32 32) ∧ (d 1 = true → u14 = Wd a) ∧ (d 2 = true → u15 = Wd a) ∧ (d 3 = true → u16 = .bool true) ∧ (d 4 = true → u17 = .bool true) ∧ (d 5 = true → u18 = Wd a) ∧ (d 6 = true → u19 = Wd b) ∧ (d 7 = true → u20 = .int .i64 C) ∧ (d 8 = true → u21 = .bool t) ∧ (d 9 = true → u22 = .slice (some ⟨g5, 0, none⟩) 32 32) ∧ (d 10 = true → u23 = .string (wstr a)) ∧ (d 11 = true → u24 = .slice (some ⟨g6, 0, none⟩) 32 32) ∧ (d 12 = true → u25 = .string (wstr b)) ∧ (d 13 = true → u26 = .bool t) ∧ (d 14 = true → u27 = .bool true) ∧ (d 15 = true → u28 = .bool true) ∧ (d 16 = true → u29 = .bool true) ∧ (d 17 = true → u30 = Wd a) ∧ (d 18 = true → u31 = Wd b) ∧ (d 19 = true → u32 = .int .i64 C) ∧ (d 20 = true → u33 = .bool s) ∧ (d 21 = true → u34 = Wd a) ∧ (d 22 = true → u35 = Wd b) ∧ (d 23 = true → u36 = .bool s) ∧ (d 24 = true → u37 = .bool true) ∧ (d 25 = true → u38 = .bool true) ∧ (d 26 = true → u39 = .bool true) ∧ (d 27 = true → u40 = Wd a) ∧ (d 28 = true → u41 = Wd b) ∧ (d 29 = true → u42 = .int .i64 C) ∧ (d 30 = true → u43 = Wd b) ∧ (d 31 = true → u44 = Wd a) ∧ (d 32 = true → u45 = .int .i64 D) ∧ (d 33 = true → u46 = .int .i64 C) ∧ (d 34 = true → u47 = .bool true) ∧ (d 35 = true → u48 = .bool true) ∧ (d 36 = true → u4 = .bool true)
set_option maxHeartbeats 4000000 in
set_option maxRecDepth 100000 in
theorem law_back (a b : Nat) (ha : a < 2 ^ 256) (hb : b < 2 ^ 256) (w : World) :
    Calls Try.prog 6 #[Wd a, Wd b] w fun e w' => e = .returned (.bool true) ∧ Below w.heap.size w w' := by
  have KR : Hid (∀ (w : World) (g : Nat), Sp.CK .u8 g 32 (bt a) w → g < w.heap.size → Calls Try.prog 19 #[.slice (some ⟨g, 0, none⟩) 32 32] w fun e w' => e = .returned (Wd a) ∧ Below w.heap.size w w') := fun w g h hg => read_back a g ha w h hg
  have KC : Hid (∀ w : World, Calls Try.prog 14 #[Wd a, Wd b] w fun e w' => e = .returned (.int .i64 (cm (a : Int) (b : Int))) ∧ Below w.heap.size w w') := fun w => cmp_any a b ha hb w
  have KD : Hid (∀ w : World, Calls Try.prog 14 #[Wd b, Wd a] w fun e w' => e = .returned (.int .i64 (cm (b : Int) (a : Int))) ∧ Below w.heap.size w w') := fun w => cmp_any b a hb ha w
  have R1 : Hid (decide (cm (a : Int) (b : Int) < 0) = decide (a < b)) := cm_lt a b
  have R2 : Hid (Op.bytesLess (wstr a).toList (wstr b).toList = decide (a < b)) := wstr_less a b ha hb
  have R3 : Hid ((cm (a : Int) (b : Int) == 0) = decide (a = b)) := cm_eq a b
  have R4 : Hid (∀ w, (binOp .eql 24 (Wd a) (Wd b)).run Try.prog w = .ok (.bool (decide (a = b))) w) := eq_word a b ha hb
  have R5 : Hid (IntKind.i64.wrap (-cm (b : Int) (a : Int)) = cm (a : Int) (b : Int)) := cm_neg a b
  clear ha hb
  generalize decide (a < b) = t at *
  generalize decide (a = b) = s at *
  generalize hC : cm (a : Int) (b : Int) = C at *
  generalize hD : cm (b : Int) (a : Int) = D at *
  clear hC hD
  have m0 := S2_start w a b
  conv => arg 3; unfold Wd
  go_enter Try.func6, Try.ntmps6
  go_wp2_with fail
  generalize (w.alloc (.cells #[.int .u64 (dg a 0), .int .u64 (dg a 1), .int .u64 (dg a 2), .int .u64 (dg a 3)] 24)).alloc (.cells #[.int .u64 (dg b 0), .int .u64 (dg b 1), .int .u64 (dg b 2), .int .u64 (dg b 3)] 24) = W0 at m0 ⊢
  refine (alive1_any W0).mono ?_
  rintro e w1 ⟨rfl, hb1⟩
  have S0 := S2_below m0 hb1
  clear m0 hb1
  go_upto_region 3 with fail
  refine RI.wp_region_inv (BK3 w a b) (by kernel_rfl) (by kernel_rfl) ?_ ?_ ?_
  · exact ⟨undef, undef, undef, undef, undef, undef, 0, 0, fun _ => 0, fun _ => 0, rfl, S2_drew S0, nofun, nofun, nofun, nofun, nofun, nofun, nofun, nofun, nofun⟩
  · clear S0
    intro d x wx i hI hi hm
    obtain ⟨u5, u6, u9, u10, u11, u12, g5, g6, F5, F6, rfl, hS, p0, p1, p2, p3, p4, p5, pn, p6, p7⟩ := hI
    have hi' : i = 0 ∨ i = 1 ∨ i = 2 ∨ i = 3 ∨ i = 4 ∨ i = 5 ∨ i = 6 ∨ i = 7 := by simp at hi; omega
    have hd := hm.2
    have hf := hm.1
    clear hm hi
    rcases hi' with rfl | rfl | rfl | rfl | rfl | rfl | rfl | rfl
    · refine RI.wpOp_plain rfl rfl ?_
      have c0 : ∀ o, o < 4 → wx.cell? ⟨w.heap.size, o, none⟩ = some (.int .u64 (dg a o)) := hS.c0
      go_simp
      exact ⟨u5, u6, _, u10, u11, u12, g5, g6, F5, F6, rfl, hS, fun _ => rfl, RI.keep (by decide) p1, RI.keep (by decide) p2, RI.keep (by decide) p3, RI.keep (by decide) p4, RI.keep (by decide) p5, BK_two (by decide) (by decide) pn, BK_on (by decide) (by decide) p6, BK_on (by decide) (by decide) p7⟩
    · have hd := hd _ rfl
      simp [Region.binds] at hd
      obtain rfl := p0 (by simp [hd])
      refine RI.wpOp_plain rfl rfl ?_
      go_simp
      refine (bytes_any a _).mono ?_
      rintro e w1 ⟨rfl, hb1⟩
      exact ⟨u5, u6, _, _, u11, u12, g5, g6, F5, F6, rfl, S2_below hS hb1, RI.keep (by decide) p0, fun _ => rfl, RI.keep (by decide) p2, RI.keep (by decide) p3, RI.keep (by decide) fun h => ⟨(p4 h).1, Sp.Vb_below (p4 h).2 hb1⟩, RI.keep (by decide) fun h => ⟨(p5 h).1, Sp.Vb_below (p5 h).2 hb1⟩, BK_two (by decide) (by decide) pn, BK_on (by decide) (by decide) p6, BK_on (by decide) (by decide) p7⟩
    · refine RI.wpOp_plain rfl rfl ?_
      have c0 : ∀ o, o < 4 → wx.cell? ⟨w.heap.size + 1, o, none⟩ = some (.int .u64 (dg b o)) := hS.c1
      go_simp
      exact ⟨u5, u6, u9, u10, _, u12, g5, g6, F5, F6, rfl, hS, RI.keep (by decide) p0, RI.keep (by decide) p1, fun _ => rfl, RI.keep (by decide) p3, RI.keep (by decide) p4, RI.keep (by decide) p5, BK_two (by decide) (by decide) pn, BK_on (by decide) (by decide) p6, BK_on (by decide) (by decide) p7⟩
    · have hd := hd _ rfl
      simp [Region.binds] at hd
      obtain rfl := p2 (by simp [hd])
      obtain rfl := p1 (by simp [hd])
      refine RI.wpOp_plain rfl rfl ?_
      go_simp
      refine (bytes_any b _).mono ?_
      rintro e w1 ⟨rfl, hb1⟩
      exact ⟨u5, u6, u9, _, _, _, g5, g6, F5, F6, rfl, S2_below hS hb1, RI.keep (by decide) p0, RI.keep (by decide) fun _ => rfl, RI.keep (by decide) p2, fun _ => rfl, RI.keep (by decide) fun h => ⟨(p4 h).1, Sp.Vb_below (p4 h).2 hb1⟩, RI.keep (by decide) fun h => ⟨(p5 h).1, Sp.Vb_below (p5 h).2 hb1⟩, BK_two (by decide) (by decide) pn, BK_on (by decide) (by decide) p6, BK_on (by decide) (by decide) p7⟩
    · have hz : w.heap.size + 1 + 1 ≤ wx.heap.size := hS.hi
      refine RI.wpOp_plain rfl rfl ?_
      go_simp
      exact ⟨_, u6, u9, u10, u11, u12, wx.heap.size, g6, fun _ => 0, F6, rfl, S2_al hS _, RI.keep (by decide) p0, RI.keep (by decide) p1, RI.keep (by decide) p2, RI.keep (by decide) p3, fun _ => ⟨rfl, Sp.Vb_zero32 _ _ _ hz⟩, RI.keep (by decide) fun h => ⟨(p5 h).1, Sp.Vb_al (p5 h).2 _⟩, fun _ h => Nat.ne_of_gt (p5 (by rwa [RI.don_other _ _ _ (by decide)] at h)).2.hi, BK_no (by decide) hf p6, BK_on (by decide) (by decide) p7⟩
    · have hz : w.heap.size + 1 + 1 ≤ wx.heap.size := hS.hi
      refine RI.wpOp_plain rfl rfl ?_
      go_simp
      exact ⟨u5, _, u9, u10, u11, u12, g5, wx.heap.size, F5, fun _ => 0, rfl, S2_al hS _, RI.keep (by decide) p0, RI.keep (by decide) p1, RI.keep (by decide) p2, RI.keep (by decide) p3, RI.keep (by decide) fun h => ⟨(p4 h).1, Sp.Vb_al (p4 h).2 _⟩, fun _ => ⟨rfl, Sp.Vb_zero32 _ _ _ hz⟩, fun h _ => Nat.ne_of_lt (p4 (by rwa [RI.don_other _ _ _ (by decide)] at h)).2.hi, BK_on (by decide) (by decide) p6, BK_no (by decide) hf p7⟩
    · have hd := hd _ rfl
      simp [Region.binds] at hd
      obtain ⟨rfl, v1⟩ := p4 (by simp [hd])
      obtain ⟨rfl, v2⟩ := p5 (by simp [hd])
      have hn : g5 ≠ g6 := pn (by simp [hd]) (by simp [hd])
      obtain rfl := p1 (by simp [hd])
      have ht : wx.there g5 0 (Sp.h32 (bt a)).toArray.size := Sp.there32a v1.c v1.f
      have hl : w.heap.size + 1 < g5 := v1.lo
      refine RI.wpOp_plain rfl rfl ?_
      refine wp_store_mid 29 (.tmp 5) (.tmp 10) rfl g5 0 (Sp.h32 (bt a)).toArray rfl rfl ht Sp.info32a (all_oneCell_toArray (Sp.h32_one _)) ?_
      exact ⟨_, _, u9, _, u11, u12, g5, g6, bt a, F6, rfl, S2_sets hS hl _ _, RI.keep (by decide) p0, RI.keep (by decide) fun _ => rfl, RI.keep (by decide) p2, RI.keep (by decide) p3, RI.keep (by decide) fun _ => ⟨rfl, Vb_set32 v1⟩, RI.keep (by decide) fun _ => ⟨rfl, Sp.Vb_sets v2 hn.symm _ _⟩, BK_two (by decide) (by decide) pn, fun _ => ⟨by simp [RI.don, hd], rfl⟩, BK_on (by decide) (by decide) p7⟩
    · have hd := hd _ rfl
      simp [Region.binds] at hd
      obtain ⟨rfl, v1⟩ := p5 (by simp [hd])
      obtain ⟨rfl, v2⟩ := p4 (by simp [hd])
      have hn : g5 ≠ g6 := pn (by simp [hd]) (by simp [hd])
      obtain rfl := p3 (by simp [hd])
      have ht : wx.there g6 0 (Sp.h32 (bt b)).toArray.size := Sp.there32a v1.c v1.f
      have hl : w.heap.size + 1 < g6 := v1.lo
      refine RI.wpOp_plain rfl rfl ?_
      refine wp_store_mid 29 (.tmp 6) (.tmp 12) rfl g6 0 (Sp.h32 (bt b)).toArray rfl rfl ht Sp.info32a (all_oneCell_toArray (Sp.h32_one _)) ?_
      exact ⟨_, _, u9, u10, u11, _, g5, g6, F5, bt b, rfl, S2_sets hS hl _ _, RI.keep (by decide) p0, RI.keep (by decide) p1, RI.keep (by decide) p2, RI.keep (by decide) fun _ => rfl, RI.keep (by decide) fun _ => ⟨rfl, Sp.Vb_sets v2 hn _ _⟩, RI.keep (by decide) fun _ => ⟨rfl, Vb_set32 v1⟩, BK_two (by decide) (by decide) pn, BK_on (by decide) (by decide) p6, fun _ => ⟨by simp [RI.don, hd], rfl⟩⟩
  · clear S0
    intro d x wx hI hd
    obtain ⟨u5, u6, u9, u10, u11, u12, g5, g6, F5, F6, rfl, hS, p0, p1, p2, p3, p4, p5, pn, p6, p7⟩ := hI
    obtain ⟨rfl, v5⟩ := p4 (hd 4 (by decide))
    obtain ⟨rfl, v6⟩ := p5 (hd 5 (by decide))
    obtain ⟨_, rfl⟩ := p6 (hd 6 (by decide))
    obtain ⟨_, rfl⟩ := p7 (hd 7 (by decide))
    obtain rfl := p0 (hd 0 (by decide))
    obtain rfl := p1 (hd 1 (by decide))
    obtain rfl := p2 (hd 2 (by decide))
    obtain rfl := p3 (hd 3 (by decide))
    clear p0 p1 p2 p3 p4 p5 p6 p7 pn hd
    have z5 := v5.hi
    have z6 := v6.hi
    have C5 := v5.c
    have C6 := v6.c
    clear v5 v6
    generalize wx = W3 at *
    generalize Sp.Hv (bt a) = ha
    generalize Sp.Hv (bt b) = hb
    go_upto_region 4 with fail
    refine RI.wp_region_inv (BK4 w a b g5 g6 ha hb C D s t) (by kernel_rfl) (by kernel_rfl) ?_ ?_ ?_
    · exact ⟨.bool false, undef, undef, undef, undef, undef, undef, undef, undef, undef, undef, undef, undef, undef, undef, undef, undef, undef, undef, undef, undef, undef, undef, undef, undef, undef, undef, undef, undef, undef, undef, undef, undef, undef, undef, undef, undef, rfl, S2_drew hS, Sp.CK_drew C5, z5, Sp.CK_drew C6, z6, nofun, nofun, nofun, nofun, nofun, nofun, nofun, nofun, nofun, nofun, nofun, nofun, nofun, nofun, nofun, nofun, nofun, nofun, nofun, nofun, nofun, nofun, nofun, nofun, nofun, nofun, nofun, nofun, nofun, nofun, nofun, nofun, nofun, nofun, nofun, nofun, nofun⟩
    · clear hS C5 C6 z5 z6
      intro d x wx i hI hi hm
      obtain ⟨u4, u13, u14, u15, u16, u17, u18, u19, u20, u21, u22, u23, u24, u25, u26, u27, u28, u29, u30, u31, u32, u33, u34, u35, u36, u37, u38, u39, u40, u41, u42, u43, u44, u45, u46, u47, u48, rfl, hS, hA, hz, hB, hy, p0, p1, p2, p3, p4, p5, p6, p7, p8, p9, p10, p11, p12, p13, p14, p15, p16, p17, p18, p19, p20, p21, p22, p23, p24, p25, p26, p27, p28, p29, p30, p31, p32, p33, p34, p35, p36⟩ := hI
      have hi' : i = 0 ∨ i = 1 ∨ i = 2 ∨ i = 3 ∨ i = 4 ∨ i = 5 ∨ i = 6 ∨ i = 7 ∨ i = 8 ∨ i = 9 ∨ i = 10 ∨ i = 11 ∨ i = 12 ∨ i = 13 ∨ i = 14 ∨ i = 15 ∨ i = 16 ∨ i = 17 ∨ i = 18 ∨ i = 19 ∨ i = 20 ∨ i = 21 ∨ i = 22 ∨ i = 23 ∨ i = 24 ∨ i = 25 ∨ i = 26 ∨ i = 27 ∨ i = 28 ∨ i = 29 ∨ i = 30 ∨ i = 31 ∨ i = 32 ∨ i = 33 ∨ i = 34 ∨ i = 35 ∨ i = 36 := by simp at hi; omega
      have hd := hm.2
      clear hm hi
      rcases hi' with rfl | rfl | rfl | rfl | rfl | rfl | rfl | rfl | rfl | rfl | rfl | rfl | rfl | rfl | rfl | rfl | rfl | rfl | rfl | rfl | rfl | rfl | rfl | rfl | rfl | rfl | rfl | rfl | rfl | rfl | rfl | rfl | rfl | rfl | rfl | rfl | rfl
      · refine RI.wpOp_plain rfl rfl ?_
        go_simp
        exact ⟨u4, _, u14, u15, u16, u17, u18, u19, u20, u21, u22, u23, u24, u25, u26, u27, u28, u29, u30, u31, u32, u33, u34, u35, u36, u37, u38, u39, u40, u41, u42, u43, u44, u45, u46, u47, u48, rfl, hS, hA, hz, hB, hy, fun _ => rfl, RI.keep (by decide) p1, RI.keep (by decide) p2, RI.keep (by decide) p3, RI.keep (by decide) p4, RI.keep (by decide) p5, RI.keep (by decide) p6, RI.keep (by decide) p7, RI.keep (by decide) p8, RI.keep (by decide) p9, RI.keep (by decide) p10, RI.keep (by decide) p11, RI.keep (by decide) p12, RI.keep (by decide) p13, RI.keep (by decide) p14, RI.keep (by decide) p15, RI.keep (by decide) p16, RI.keep (by decide) p17, RI.keep (by decide) p18, RI.keep (by decide) p19, RI.keep (by decide) p20, RI.keep (by decide) p21, RI.keep (by decide) p22, RI.keep (by decide) p23, RI.keep (by decide) p24, RI.keep (by decide) p25, RI.keep (by decide) p26, RI.keep (by decide) p27, RI.keep (by decide) p28, RI.keep (by decide) p29, RI.keep (by decide) p30, RI.keep (by decide) p31, RI.keep (by decide) p32, RI.keep (by decide) p33, RI.keep (by decide) p34, RI.keep (by decide) p35, RI.keep (by decide) p36⟩
      · have hd := hd _ rfl
        simp [Region.binds] at hd
        obtain rfl := p0 (by simp [hd])
        refine RI.wpOp_plain rfl rfl ?_
        go_simp
        refine (KR.out _ g5 hA hz).mono ?_
        rintro e w1 ⟨rfl, hb1⟩
        exact ⟨u4, _, _, u15, u16, u17, u18, u19, u20, u21, u22, u23, u24, u25, u26, u27, u28, u29, u30, u31, u32, u33, u34, u35, u36, u37, u38, u39, u40, u41, u42, u43, u44, u45, u46, u47, u48, rfl, S2_below hS hb1, Sp.CK_below hA hb1 hz, Nat.lt_of_lt_of_le hz hb1.size, Sp.CK_below hB hb1 hy, Nat.lt_of_lt_of_le hy hb1.size, RI.keep (by decide) p0, fun _ => rfl, RI.keep (by decide) p2, RI.keep (by decide) p3, RI.keep (by decide) p4, RI.keep (by decide) p5, RI.keep (by decide) p6, RI.keep (by decide) p7, RI.keep (by decide) p8, RI.keep (by decide) p9, RI.keep (by decide) p10, RI.keep (by decide) p11, RI.keep (by decide) p12, RI.keep (by decide) p13, RI.keep (by decide) p14, RI.keep (by decide) p15, RI.keep (by decide) p16, RI.keep (by decide) p17, RI.keep (by decide) p18, RI.keep (by decide) p19, RI.keep (by decide) p20, RI.keep (by decide) p21, RI.keep (by decide) p22, RI.keep (by decide) p23, RI.keep (by decide) p24, RI.keep (by decide) p25, RI.keep (by decide) p26, RI.keep (by decide) p27, RI.keep (by decide) p28, RI.keep (by decide) p29, RI.keep (by decide) p30, RI.keep (by decide) p31, RI.keep (by decide) p32, RI.keep (by decide) p33, RI.keep (by decide) p34, RI.keep (by decide) p35, RI.keep (by decide) p36⟩
      · refine RI.wpOp_plain rfl rfl ?_
        have c0 : ∀ o, o < 4 → wx.cell? ⟨w.heap.size, o, none⟩ = some (.int .u64 (dg a o)) := hS.c0
        go_simp
        exact ⟨u4, u13, u14, _, u16, u17, u18, u19, u20, u21, u22, u23, u24, u25, u26, u27, u28, u29, u30, u31, u32, u33, u34, u35, u36, u37, u38, u39, u40, u41, u42, u43, u44, u45, u46, u47, u48, rfl, hS, hA, hz, hB, hy, RI.keep (by decide) p0, RI.keep (by decide) p1, fun _ => rfl, RI.keep (by decide) p3, RI.keep (by decide) p4, RI.keep (by decide) p5, RI.keep (by decide) p6, RI.keep (by decide) p7, RI.keep (by decide) p8, RI.keep (by decide) p9, RI.keep (by decide) p10, RI.keep (by decide) p11, RI.keep (by decide) p12, RI.keep (by decide) p13, RI.keep (by decide) p14, RI.keep (by decide) p15, RI.keep (by decide) p16, RI.keep (by decide) p17, RI.keep (by decide) p18, RI.keep (by decide) p19, RI.keep (by decide) p20, RI.keep (by decide) p21, RI.keep (by decide) p22, RI.keep (by decide) p23, RI.keep (by decide) p24, RI.keep (by decide) p25, RI.keep (by decide) p26, RI.keep (by decide) p27, RI.keep (by decide) p28, RI.keep (by decide) p29, RI.keep (by decide) p30, RI.keep (by decide) p31, RI.keep (by decide) p32, RI.keep (by decide) p33, RI.keep (by decide) p34, RI.keep (by decide) p35, RI.keep (by decide) p36⟩
      · have hd := hd _ rfl
        simp [Region.binds] at hd
        obtain rfl := p1 (by simp [hd])
        obtain rfl := p2 (by simp [hd])
        refine RI.wpOp_plain rfl rfl ?_
        have e1 := eq_self a
        have q1 := fun op x y => eq_guard op x y a a
        go_simp
        exact ⟨u4, u13, _, _, _, u17, u18, u19, u20, u21, u22, u23, u24, u25, u26, u27, u28, u29, u30, u31, u32, u33, u34, u35, u36, u37, u38, u39, u40, u41, u42, u43, u44, u45, u46, u47, u48, rfl, hS, hA, hz, hB, hy, RI.keep (by decide) p0, RI.keep (by decide) p1, RI.keep (by decide) p2, fun _ => rfl, RI.keep (by decide) p4, RI.keep (by decide) p5, RI.keep (by decide) p6, RI.keep (by decide) p7, RI.keep (by decide) p8, RI.keep (by decide) p9, RI.keep (by decide) p10, RI.keep (by decide) p11, RI.keep (by decide) p12, RI.keep (by decide) p13, RI.keep (by decide) p14, RI.keep (by decide) p15, RI.keep (by decide) p16, RI.keep (by decide) p17, RI.keep (by decide) p18, RI.keep (by decide) p19, RI.keep (by decide) p20, RI.keep (by decide) p21, RI.keep (by decide) p22, RI.keep (by decide) p23, RI.keep (by decide) p24, RI.keep (by decide) p25, RI.keep (by decide) p26, RI.keep (by decide) p27, RI.keep (by decide) p28, RI.keep (by decide) p29, RI.keep (by decide) p30, RI.keep (by decide) p31, RI.keep (by decide) p32, RI.keep (by decide) p33, RI.keep (by decide) p34, RI.keep (by decide) p35, RI.keep (by decide) p36⟩
      · have hd := hd _ rfl
        simp [Region.binds] at hd
        obtain rfl := p1 (by simp [hd])
        obtain rfl := p3 (by simp [hd])
        refine RI.wpOp_plain rfl rfl ?_
        go_simp
        exact ⟨u4, u13, _, u15, _, _, u18, u19, u20, u21, u22, u23, u24, u25, u26, u27, u28, u29, u30, u31, u32, u33, u34, u35, u36, u37, u38, u39, u40, u41, u42, u43, u44, u45, u46, u47, u48, rfl, hS, hA, hz, hB, hy, RI.keep (by decide) p0, RI.keep (by decide) p1, RI.keep (by decide) p2, RI.keep (by decide) p3, fun _ => rfl, RI.keep (by decide) p5, RI.keep (by decide) p6, RI.keep (by decide) p7, RI.keep (by decide) p8, RI.keep (by decide) p9, RI.keep (by decide) p10, RI.keep (by decide) p11, RI.keep (by decide) p12, RI.keep (by decide) p13, RI.keep (by decide) p14, RI.keep (by decide) p15, RI.keep (by decide) p16, RI.keep (by decide) p17, RI.keep (by decide) p18, RI.keep (by decide) p19, RI.keep (by decide) p20, RI.keep (by decide) p21, RI.keep (by decide) p22, RI.keep (by decide) p23, RI.keep (by decide) p24, RI.keep (by decide) p25, RI.keep (by decide) p26, RI.keep (by decide) p27, RI.keep (by decide) p28, RI.keep (by decide) p29, RI.keep (by decide) p30, RI.keep (by decide) p31, RI.keep (by decide) p32, RI.keep (by decide) p33, RI.keep (by decide) p34, RI.keep (by decide) p35, RI.keep (by decide) p36⟩
      · have hd := hd _ rfl
        simp [Region.binds] at hd
        obtain rfl := p4 (by simp [hd])
        refine RI.wpOp_guard rfl rfl rfl ?_
        have c0 : ∀ o, o < 4 → wx.cell? ⟨w.heap.size, o, none⟩ = some (.int .u64 (dg a o)) := hS.c0
        go_simp
        exact ⟨u4, u13, u14, u15, u16, _, _, u19, u20, u21, u22, u23, u24, u25, u26, u27, u28, u29, u30, u31, u32, u33, u34, u35, u36, u37, u38, u39, u40, u41, u42, u43, u44, u45, u46, u47, u48, rfl, hS, hA, hz, hB, hy, RI.keep (by decide) p0, RI.keep (by decide) p1, RI.keep (by decide) p2, RI.keep (by decide) p3, RI.keep (by decide) p4, fun _ => rfl, RI.keep (by decide) p6, RI.keep (by decide) p7, RI.keep (by decide) p8, RI.keep (by decide) p9, RI.keep (by decide) p10, RI.keep (by decide) p11, RI.keep (by decide) p12, RI.keep (by decide) p13, RI.keep (by decide) p14, RI.keep (by decide) p15, RI.keep (by decide) p16, RI.keep (by decide) p17, RI.keep (by decide) p18, RI.keep (by decide) p19, RI.keep (by decide) p20, RI.keep (by decide) p21, RI.keep (by decide) p22, RI.keep (by decide) p23, RI.keep (by decide) p24, RI.keep (by decide) p25, RI.keep (by decide) p26, RI.keep (by decide) p27, RI.keep (by decide) p28, RI.keep (by decide) p29, RI.keep (by decide) p30, RI.keep (by decide) p31, RI.keep (by decide) p32, RI.keep (by decide) p33, RI.keep (by decide) p34, RI.keep (by decide) p35, RI.keep (by decide) p36⟩
      · have hd := hd _ rfl
        simp [Region.binds] at hd
        obtain rfl := p4 (by simp [hd])
        refine RI.wpOp_guard rfl rfl rfl ?_
        have c0 : ∀ o, o < 4 → wx.cell? ⟨w.heap.size + 1, o, none⟩ = some (.int .u64 (dg b o)) := hS.c1
        go_simp
        exact ⟨u4, u13, u14, u15, u16, _, u18, _, u20, u21, u22, u23, u24, u25, u26, u27, u28, u29, u30, u31, u32, u33, u34, u35, u36, u37, u38, u39, u40, u41, u42, u43, u44, u45, u46, u47, u48, rfl, hS, hA, hz, hB, hy, RI.keep (by decide) p0, RI.keep (by decide) p1, RI.keep (by decide) p2, RI.keep (by decide) p3, RI.keep (by decide) p4, RI.keep (by decide) p5, fun _ => rfl, RI.keep (by decide) p7, RI.keep (by decide) p8, RI.keep (by decide) p9, RI.keep (by decide) p10, RI.keep (by decide) p11, RI.keep (by decide) p12, RI.keep (by decide) p13, RI.keep (by decide) p14, RI.keep (by decide) p15, RI.keep (by decide) p16, RI.keep (by decide) p17, RI.keep (by decide) p18, RI.keep (by decide) p19, RI.keep (by decide) p20, RI.keep (by decide) p21, RI.keep (by decide) p22, RI.keep (by decide) p23, RI.keep (by decide) p24, RI.keep (by decide) p25, RI.keep (by decide) p26, RI.keep (by decide) p27, RI.keep (by decide) p28, RI.keep (by decide) p29, RI.keep (by decide) p30, RI.keep (by decide) p31, RI.keep (by decide) p32, RI.keep (by decide) p33, RI.keep (by decide) p34, RI.keep (by decide) p35, RI.keep (by decide) p36⟩
      · have hd := hd _ rfl
        simp [Region.binds] at hd
        obtain rfl := p4 (by simp [hd])
        obtain rfl := p5 (by simp [hd])
        obtain rfl := p6 (by simp [hd])
        refine RI.wpOp_guard rfl rfl rfl ?_
        go_simp
        refine (KC.out _).mono ?_
        rintro e w1 ⟨rfl, hb1⟩
        exact ⟨u4, u13, u14, u15, u16, _, _, _, _, u21, u22, u23, u24, u25, u26, u27, u28, u29, u30, u31, u32, u33, u34, u35, u36, u37, u38, u39, u40, u41, u42, u43, u44, u45, u46, u47, u48, rfl, S2_below hS hb1, Sp.CK_below hA hb1 hz, Nat.lt_of_lt_of_le hz hb1.size, Sp.CK_below hB hb1 hy, Nat.lt_of_lt_of_le hy hb1.size, RI.keep (by decide) p0, RI.keep (by decide) p1, RI.keep (by decide) p2, RI.keep (by decide) p3, RI.keep (by decide) p4, RI.keep (by decide) p5, RI.keep (by decide) p6, fun _ => rfl, RI.keep (by decide) p8, RI.keep (by decide) p9, RI.keep (by decide) p10, RI.keep (by decide) p11, RI.keep (by decide) p12, RI.keep (by decide) p13, RI.keep (by decide) p14, RI.keep (by decide) p15, RI.keep (by decide) p16, RI.keep (by decide) p17, RI.keep (by decide) p18, RI.keep (by decide) p19, RI.keep (by decide) p20, RI.keep (by decide) p21, RI.keep (by decide) p22, RI.keep (by decide) p23, RI.keep (by decide) p24, RI.keep (by decide) p25, RI.keep (by decide) p26, RI.keep (by decide) p27, RI.keep (by decide) p28, RI.keep (by decide) p29, RI.keep (by decide) p30, RI.keep (by decide) p31, RI.keep (by decide) p32, RI.keep (by decide) p33, RI.keep (by decide) p34, RI.keep (by decide) p35, RI.keep (by decide) p36⟩
      · have hd := hd _ rfl
        simp [Region.binds] at hd
        obtain rfl := p4 (by simp [hd])
        obtain rfl := p7 (by simp [hd])
        refine RI.wpOp_guard rfl rfl rfl ?_
        have r1 := R1.out
        go_simp
        exact ⟨u4, u13, u14, u15, u16, _, u18, u19, _, _, u22, u23, u24, u25, u26, u27, u28, u29, u30, u31, u32, u33, u34, u35, u36, u37, u38, u39, u40, u41, u42, u43, u44, u45, u46, u47, u48, rfl, hS, hA, hz, hB, hy, RI.keep (by decide) p0, RI.keep (by decide) p1, RI.keep (by decide) p2, RI.keep (by decide) p3, RI.keep (by decide) p4, RI.keep (by decide) p5, RI.keep (by decide) p6, RI.keep (by decide) p7, fun _ => rfl, RI.keep (by decide) p9, RI.keep (by decide) p10, RI.keep (by decide) p11, RI.keep (by decide) p12, RI.keep (by decide) p13, RI.keep (by decide) p14, RI.keep (by decide) p15, RI.keep (by decide) p16, RI.keep (by decide) p17, RI.keep (by decide) p18, RI.keep (by decide) p19, RI.keep (by decide) p20, RI.keep (by decide) p21, RI.keep (by decide) p22, RI.keep (by decide) p23, RI.keep (by decide) p24, RI.keep (by decide) p25, RI.keep (by decide) p26, RI.keep (by decide) p27, RI.keep (by decide) p28, RI.keep (by decide) p29, RI.keep (by decide) p30, RI.keep (by decide) p31, RI.keep (by decide) p32, RI.keep (by decide) p33, RI.keep (by decide) p34, RI.keep (by decide) p35, RI.keep (by decide) p36⟩
      · have hd := hd _ rfl
        simp [Region.binds] at hd
        obtain rfl := p4 (by simp [hd])
        refine RI.wpOp_guard rfl rfl rfl ?_
        go_simp
        exact ⟨u4, u13, u14, u15, u16, _, u18, u19, u20, u21, _, u23, u24, u25, u26, u27, u28, u29, u30, u31, u32, u33, u34, u35, u36, u37, u38, u39, u40, u41, u42, u43, u44, u45, u46, u47, u48, rfl, hS, hA, hz, hB, hy, RI.keep (by decide) p0, RI.keep (by decide) p1, RI.keep (by decide) p2, RI.keep (by decide) p3, RI.keep (by decide) p4, RI.keep (by decide) p5, RI.keep (by decide) p6, RI.keep (by decide) p7, RI.keep (by decide) p8, fun _ => rfl, RI.keep (by decide) p10, RI.keep (by decide) p11, RI.keep (by decide) p12, RI.keep (by decide) p13, RI.keep (by decide) p14, RI.keep (by decide) p15, RI.keep (by decide) p16, RI.keep (by decide) p17, RI.keep (by decide) p18, RI.keep (by decide) p19, RI.keep (by decide) p20, RI.keep (by decide) p21, RI.keep (by decide) p22, RI.keep (by decide) p23, RI.keep (by decide) p24, RI.keep (by decide) p25, RI.keep (by decide) p26, RI.keep (by decide) p27, RI.keep (by decide) p28, RI.keep (by decide) p29, RI.keep (by decide) p30, RI.keep (by decide) p31, RI.keep (by decide) p32, RI.keep (by decide) p33, RI.keep (by decide) p34, RI.keep (by decide) p35, RI.keep (by decide) p36⟩
      · have hd := hd _ rfl
        simp [Region.binds] at hd
        obtain rfl := p4 (by simp [hd])
        obtain rfl := p9 (by simp [hd])
        refine RI.wpOp_guard rfl rfl rfl ?_
        have v1 := conv_bytes (cap := 32) hA
        go_simp
        exact ⟨u4, u13, u14, u15, u16, _, u18, u19, u20, u21, _, _, u24, u25, u26, u27, u28, u29, u30, u31, u32, u33, u34, u35, u36, u37, u38, u39, u40, u41, u42, u43, u44, u45, u46, u47, u48, rfl, hS, hA, hz, hB, hy, RI.keep (by decide) p0, RI.keep (by decide) p1, RI.keep (by decide) p2, RI.keep (by decide) p3, RI.keep (by decide) p4, RI.keep (by decide) p5, RI.keep (by decide) p6, RI.keep (by decide) p7, RI.keep (by decide) p8, RI.keep (by decide) p9, fun _ => rfl, RI.keep (by decide) p11, RI.keep (by decide) p12, RI.keep (by decide) p13, RI.keep (by decide) p14, RI.keep (by decide) p15, RI.keep (by decide) p16, RI.keep (by decide) p17, RI.keep (by decide) p18, RI.keep (by decide) p19, RI.keep (by decide) p20, RI.keep (by decide) p21, RI.keep (by decide) p22, RI.keep (by decide) p23, RI.keep (by decide) p24, RI.keep (by decide) p25, RI.keep (by decide) p26, RI.keep (by decide) p27, RI.keep (by decide) p28, RI.keep (by decide) p29, RI.keep (by decide) p30, RI.keep (by decide) p31, RI.keep (by decide) p32, RI.keep (by decide) p33, RI.keep (by decide) p34, RI.keep (by decide) p35, RI.keep (by decide) p36⟩
      · have hd := hd _ rfl
        simp [Region.binds] at hd
        obtain rfl := p4 (by simp [hd])
        refine RI.wpOp_guard rfl rfl rfl ?_
        go_simp
        exact ⟨u4, u13, u14, u15, u16, _, u18, u19, u20, u21, u22, u23, _, u25, u26, u27, u28, u29, u30, u31, u32, u33, u34, u35, u36, u37, u38, u39, u40, u41, u42, u43, u44, u45, u46, u47, u48, rfl, hS, hA, hz, hB, hy, RI.keep (by decide) p0, RI.keep (by decide) p1, RI.keep (by decide) p2, RI.keep (by decide) p3, RI.keep (by decide) p4, RI.keep (by decide) p5, RI.keep (by decide) p6, RI.keep (by decide) p7, RI.keep (by decide) p8, RI.keep (by decide) p9, RI.keep (by decide) p10, fun _ => rfl, RI.keep (by decide) p12, RI.keep (by decide) p13, RI.keep (by decide) p14, RI.keep (by decide) p15, RI.keep (by decide) p16, RI.keep (by decide) p17, RI.keep (by decide) p18, RI.keep (by decide) p19, RI.keep (by decide) p20, RI.keep (by decide) p21, RI.keep (by decide) p22, RI.keep (by decide) p23, RI.keep (by decide) p24, RI.keep (by decide) p25, RI.keep (by decide) p26, RI.keep (by decide) p27, RI.keep (by decide) p28, RI.keep (by decide) p29, RI.keep (by decide) p30, RI.keep (by decide) p31, RI.keep (by decide) p32, RI.keep (by decide) p33, RI.keep (by decide) p34, RI.keep (by decide) p35, RI.keep (by decide) p36⟩
      · have hd := hd _ rfl
        simp [Region.binds] at hd
        obtain rfl := p4 (by simp [hd])
        obtain rfl := p11 (by simp [hd])
        refine RI.wpOp_guard rfl rfl rfl ?_
        have v1 := conv_bytes (cap := 32) hB
        go_simp
        exact ⟨u4, u13, u14, u15, u16, _, u18, u19, u20, u21, u22, u23, _, _, u26, u27, u28, u29, u30, u31, u32, u33, u34, u35, u36, u37, u38, u39, u40, u41, u42, u43, u44, u45, u46, u47, u48, rfl, hS, hA, hz, hB, hy, RI.keep (by decide) p0, RI.keep (by decide) p1, RI.keep (by decide) p2, RI.keep (by decide) p3, RI.keep (by decide) p4, RI.keep (by decide) p5, RI.keep (by decide) p6, RI.keep (by decide) p7, RI.keep (by decide) p8, RI.keep (by decide) p9, RI.keep (by decide) p10, RI.keep (by decide) p11, fun _ => rfl, RI.keep (by decide) p13, RI.keep (by decide) p14, RI.keep (by decide) p15, RI.keep (by decide) p16, RI.keep (by decide) p17, RI.keep (by decide) p18, RI.keep (by decide) p19, RI.keep (by decide) p20, RI.keep (by decide) p21, RI.keep (by decide) p22, RI.keep (by decide) p23, RI.keep (by decide) p24, RI.keep (by decide) p25, RI.keep (by decide) p26, RI.keep (by decide) p27, RI.keep (by decide) p28, RI.keep (by decide) p29, RI.keep (by decide) p30, RI.keep (by decide) p31, RI.keep (by decide) p32, RI.keep (by decide) p33, RI.keep (by decide) p34, RI.keep (by decide) p35, RI.keep (by decide) p36⟩
      · have hd := hd _ rfl
        simp [Region.binds] at hd
        obtain rfl := p4 (by simp [hd])
        obtain rfl := p10 (by simp [hd])
        obtain rfl := p12 (by simp [hd])
        refine RI.wpOp_guard rfl rfl rfl ?_
        have r1 := R2.out
        go_simp
        exact ⟨u4, u13, u14, u15, u16, _, u18, u19, u20, u21, u22, _, u24, _, _, u27, u28, u29, u30, u31, u32, u33, u34, u35, u36, u37, u38, u39, u40, u41, u42, u43, u44, u45, u46, u47, u48, rfl, hS, hA, hz, hB, hy, RI.keep (by decide) p0, RI.keep (by decide) p1, RI.keep (by decide) p2, RI.keep (by decide) p3, RI.keep (by decide) p4, RI.keep (by decide) p5, RI.keep (by decide) p6, RI.keep (by decide) p7, RI.keep (by decide) p8, RI.keep (by decide) p9, RI.keep (by decide) p10, RI.keep (by decide) p11, RI.keep (by decide) p12, fun _ => rfl, RI.keep (by decide) p14, RI.keep (by decide) p15, RI.keep (by decide) p16, RI.keep (by decide) p17, RI.keep (by decide) p18, RI.keep (by decide) p19, RI.keep (by decide) p20, RI.keep (by decide) p21, RI.keep (by decide) p22, RI.keep (by decide) p23, RI.keep (by decide) p24, RI.keep (by decide) p25, RI.keep (by decide) p26, RI.keep (by decide) p27, RI.keep (by decide) p28, RI.keep (by decide) p29, RI.keep (by decide) p30, RI.keep (by decide) p31, RI.keep (by decide) p32, RI.keep (by decide) p33, RI.keep (by decide) p34, RI.keep (by decide) p35, RI.keep (by decide) p36⟩
      · have hd := hd _ rfl
        simp [Region.binds] at hd
        obtain rfl := p4 (by simp [hd])
        obtain rfl := p8 (by simp [hd])
        obtain rfl := p13 (by simp [hd])
        refine RI.wpOp_guard rfl rfl rfl ?_
        go_simp
        exact ⟨u4, u13, u14, u15, u16, _, u18, u19, u20, _, u22, u23, u24, u25, _, _, u28, u29, u30, u31, u32, u33, u34, u35, u36, u37, u38, u39, u40, u41, u42, u43, u44, u45, u46, u47, u48, rfl, hS, hA, hz, hB, hy, RI.keep (by decide) p0, RI.keep (by decide) p1, RI.keep (by decide) p2, RI.keep (by decide) p3, RI.keep (by decide) p4, RI.keep (by decide) p5, RI.keep (by decide) p6, RI.keep (by decide) p7, RI.keep (by decide) p8, RI.keep (by decide) p9, RI.keep (by decide) p10, RI.keep (by decide) p11, RI.keep (by decide) p12, RI.keep (by decide) p13, fun _ => rfl, RI.keep (by decide) p15, RI.keep (by decide) p16, RI.keep (by decide) p17, RI.keep (by decide) p18, RI.keep (by decide) p19, RI.keep (by decide) p20, RI.keep (by decide) p21, RI.keep (by decide) p22, RI.keep (by decide) p23, RI.keep (by decide) p24, RI.keep (by decide) p25, RI.keep (by decide) p26, RI.keep (by decide) p27, RI.keep (by decide) p28, RI.keep (by decide) p29, RI.keep (by decide) p30, RI.keep (by decide) p31, RI.keep (by decide) p32, RI.keep (by decide) p33, RI.keep (by decide) p34, RI.keep (by decide) p35, RI.keep (by decide) p36⟩
      · have hd := hd _ rfl
        simp [Region.binds] at hd
        obtain rfl := p4 (by simp [hd])
        obtain rfl := p14 (by simp [hd])
        refine RI.wpOp_plain rfl rfl ?_
        go_simp
        exact ⟨u4, u13, u14, u15, u16, _, u18, u19, u20, u21, u22, u23, u24, u25, u26, _, _, u29, u30, u31, u32, u33, u34, u35, u36, u37, u38, u39, u40, u41, u42, u43, u44, u45, u46, u47, u48, rfl, hS, hA, hz, hB, hy, RI.keep (by decide) p0, RI.keep (by decide) p1, RI.keep (by decide) p2, RI.keep (by decide) p3, RI.keep (by decide) p4, RI.keep (by decide) p5, RI.keep (by decide) p6, RI.keep (by decide) p7, RI.keep (by decide) p8, RI.keep (by decide) p9, RI.keep (by decide) p10, RI.keep (by decide) p11, RI.keep (by decide) p12, RI.keep (by decide) p13, RI.keep (by decide) p14, fun _ => rfl, RI.keep (by decide) p16, RI.keep (by decide) p17, RI.keep (by decide) p18, RI.keep (by decide) p19, RI.keep (by decide) p20, RI.keep (by decide) p21, RI.keep (by decide) p22, RI.keep (by decide) p23, RI.keep (by decide) p24, RI.keep (by decide) p25, RI.keep (by decide) p26, RI.keep (by decide) p27, RI.keep (by decide) p28, RI.keep (by decide) p29, RI.keep (by decide) p30, RI.keep (by decide) p31, RI.keep (by decide) p32, RI.keep (by decide) p33, RI.keep (by decide) p34, RI.keep (by decide) p35, RI.keep (by decide) p36⟩
      · have hd := hd _ rfl
        simp [Region.binds] at hd
        obtain rfl := p7 (by simp [hd])
        obtain rfl := p15 (by simp [hd])
        refine RI.wpOp_plain rfl rfl ?_
        go_simp
        exact ⟨u4, u13, u14, u15, u16, u17, u18, u19, _, u21, u22, u23, u24, u25, u26, u27, _, _, u30, u31, u32, u33, u34, u35, u36, u37, u38, u39, u40, u41, u42, u43, u44, u45, u46, u47, u48, rfl, hS, hA, hz, hB, hy, RI.keep (by decide) p0, RI.keep (by decide) p1, RI.keep (by decide) p2, RI.keep (by decide) p3, RI.keep (by decide) p4, RI.keep (by decide) p5, RI.keep (by decide) p6, RI.keep (by decide) p7, RI.keep (by decide) p8, RI.keep (by decide) p9, RI.keep (by decide) p10, RI.keep (by decide) p11, RI.keep (by decide) p12, RI.keep (by decide) p13, RI.keep (by decide) p14, RI.keep (by decide) p15, fun _ => rfl, RI.keep (by decide) p17, RI.keep (by decide) p18, RI.keep (by decide) p19, RI.keep (by decide) p20, RI.keep (by decide) p21, RI.keep (by decide) p22, RI.keep (by decide) p23, RI.keep (by decide) p24, RI.keep (by decide) p25, RI.keep (by decide) p26, RI.keep (by decide) p27, RI.keep (by decide) p28, RI.keep (by decide) p29, RI.keep (by decide) p30, RI.keep (by decide) p31, RI.keep (by decide) p32, RI.keep (by decide) p33, RI.keep (by decide) p34, RI.keep (by decide) p35, RI.keep (by decide) p36⟩
      · have hd := hd _ rfl
        simp [Region.binds] at hd
        obtain rfl := p16 (by simp [hd])
        refine RI.wpOp_guard rfl rfl rfl ?_
        have c0 : ∀ o, o < 4 → wx.cell? ⟨w.heap.size, o, none⟩ = some (.int .u64 (dg a o)) := hS.c0
        go_simp
        exact ⟨u4, u13, u14, u15, u16, u17, u18, u19, u20, u21, u22, u23, u24, u25, u26, u27, u28, _, _, u31, u32, u33, u34, u35, u36, u37, u38, u39, u40, u41, u42, u43, u44, u45, u46, u47, u48, rfl, hS, hA, hz, hB, hy, RI.keep (by decide) p0, RI.keep (by decide) p1, RI.keep (by decide) p2, RI.keep (by decide) p3, RI.keep (by decide) p4, RI.keep (by decide) p5, RI.keep (by decide) p6, RI.keep (by decide) p7, RI.keep (by decide) p8, RI.keep (by decide) p9, RI.keep (by decide) p10, RI.keep (by decide) p11, RI.keep (by decide) p12, RI.keep (by decide) p13, RI.keep (by decide) p14, RI.keep (by decide) p15, RI.keep (by decide) p16, fun _ => rfl, RI.keep (by decide) p18, RI.keep (by decide) p19, RI.keep (by decide) p20, RI.keep (by decide) p21, RI.keep (by decide) p22, RI.keep (by decide) p23, RI.keep (by decide) p24, RI.keep (by decide) p25, RI.keep (by decide) p26, RI.keep (by decide) p27, RI.keep (by decide) p28, RI.keep (by decide) p29, RI.keep (by decide) p30, RI.keep (by decide) p31, RI.keep (by decide) p32, RI.keep (by decide) p33, RI.keep (by decide) p34, RI.keep (by decide) p35, RI.keep (by decide) p36⟩
      · have hd := hd _ rfl
        simp [Region.binds] at hd
        obtain rfl := p16 (by simp [hd])
        refine RI.wpOp_guard rfl rfl rfl ?_
        have c0 : ∀ o, o < 4 → wx.cell? ⟨w.heap.size + 1, o, none⟩ = some (.int .u64 (dg b o)) := hS.c1
        go_simp
        exact ⟨u4, u13, u14, u15, u16, u17, u18, u19, u20, u21, u22, u23, u24, u25, u26, u27, u28, _, u30, _, u32, u33, u34, u35, u36, u37, u38, u39, u40, u41, u42, u43, u44, u45, u46, u47, u48, rfl, hS, hA, hz, hB, hy, RI.keep (by decide) p0, RI.keep (by decide) p1, RI.keep (by decide) p2, RI.keep (by decide) p3, RI.keep (by decide) p4, RI.keep (by decide) p5, RI.keep (by decide) p6, RI.keep (by decide) p7, RI.keep (by decide) p8, RI.keep (by decide) p9, RI.keep (by decide) p10, RI.keep (by decide) p11, RI.keep (by decide) p12, RI.keep (by decide) p13, RI.keep (by decide) p14, RI.keep (by decide) p15, RI.keep (by decide) p16, RI.keep (by decide) p17, fun _ => rfl, RI.keep (by decide) p19, RI.keep (by decide) p20, RI.keep (by decide) p21, RI.keep (by decide) p22, RI.keep (by decide) p23, RI.keep (by decide) p24, RI.keep (by decide) p25, RI.keep (by decide) p26, RI.keep (by decide) p27, RI.keep (by decide) p28, RI.keep (by decide) p29, RI.keep (by decide) p30, RI.keep (by decide) p31, RI.keep (by decide) p32, RI.keep (by decide) p33, RI.keep (by decide) p34, RI.keep (by decide) p35, RI.keep (by decide) p36⟩
      · have hd := hd _ rfl
        simp [Region.binds] at hd
        obtain rfl := p16 (by simp [hd])
        obtain rfl := p17 (by simp [hd])
        obtain rfl := p18 (by simp [hd])
        refine RI.wpOp_guard rfl rfl rfl ?_
        go_simp
        refine (KC.out _).mono ?_
        rintro e w1 ⟨rfl, hb1⟩
        exact ⟨u4, u13, u14, u15, u16, u17, u18, u19, u20, u21, u22, u23, u24, u25, u26, u27, u28, _, _, _, _, u33, u34, u35, u36, u37, u38, u39, u40, u41, u42, u43, u44, u45, u46, u47, u48, rfl, S2_below hS hb1, Sp.CK_below hA hb1 hz, Nat.lt_of_lt_of_le hz hb1.size, Sp.CK_below hB hb1 hy, Nat.lt_of_lt_of_le hy hb1.size, RI.keep (by decide) p0, RI.keep (by decide) p1, RI.keep (by decide) p2, RI.keep (by decide) p3, RI.keep (by decide) p4, RI.keep (by decide) p5, RI.keep (by decide) p6, RI.keep (by decide) p7, RI.keep (by decide) p8, RI.keep (by decide) p9, RI.keep (by decide) p10, RI.keep (by decide) p11, RI.keep (by decide) p12, RI.keep (by decide) p13, RI.keep (by decide) p14, RI.keep (by decide) p15, RI.keep (by decide) p16, RI.keep (by decide) p17, RI.keep (by decide) p18, fun _ => rfl, RI.keep (by decide) p20, RI.keep (by decide) p21, RI.keep (by decide) p22, RI.keep (by decide) p23, RI.keep (by decide) p24, RI.keep (by decide) p25, RI.keep (by decide) p26, RI.keep (by decide) p27, RI.keep (by decide) p28, RI.keep (by decide) p29, RI.keep (by decide) p30, RI.keep (by decide) p31, RI.keep (by decide) p32, RI.keep (by decide) p33, RI.keep (by decide) p34, RI.keep (by decide) p35, RI.keep (by decide) p36⟩
      · have hd := hd _ rfl
        simp [Region.binds] at hd
        obtain rfl := p16 (by simp [hd])
        obtain rfl := p19 (by simp [hd])
        refine RI.wpOp_guard rfl rfl rfl ?_
        have r1 := R3.out
        go_simp
        exact ⟨u4, u13, u14, u15, u16, u17, u18, u19, u20, u21, u22, u23, u24, u25, u26, u27, u28, _, u30, u31, _, _, u34, u35, u36, u37, u38, u39, u40, u41, u42, u43, u44, u45, u46, u47, u48, rfl, hS, hA, hz, hB, hy, RI.keep (by decide) p0, RI.keep (by decide) p1, RI.keep (by decide) p2, RI.keep (by decide) p3, RI.keep (by decide) p4, RI.keep (by decide) p5, RI.keep (by decide) p6, RI.keep (by decide) p7, RI.keep (by decide) p8, RI.keep (by decide) p9, RI.keep (by decide) p10, RI.keep (by decide) p11, RI.keep (by decide) p12, RI.keep (by decide) p13, RI.keep (by decide) p14, RI.keep (by decide) p15, RI.keep (by decide) p16, RI.keep (by decide) p17, RI.keep (by decide) p18, RI.keep (by decide) p19, fun _ => rfl, RI.keep (by decide) p21, RI.keep (by decide) p22, RI.keep (by decide) p23, RI.keep (by decide) p24, RI.keep (by decide) p25, RI.keep (by decide) p26, RI.keep (by decide) p27, RI.keep (by decide) p28, RI.keep (by decide) p29, RI.keep (by decide) p30, RI.keep (by decide) p31, RI.keep (by decide) p32, RI.keep (by decide) p33, RI.keep (by decide) p34, RI.keep (by decide) p35, RI.keep (by decide) p36⟩
      · have hd := hd _ rfl
        simp [Region.binds] at hd
        obtain rfl := p16 (by simp [hd])
        refine RI.wpOp_guard rfl rfl rfl ?_
        have c0 : ∀ o, o < 4 → wx.cell? ⟨w.heap.size, o, none⟩ = some (.int .u64 (dg a o)) := hS.c0
        go_simp
        exact ⟨u4, u13, u14, u15, u16, u17, u18, u19, u20, u21, u22, u23, u24, u25, u26, u27, u28, _, u30, u31, u32, u33, _, u35, u36, u37, u38, u39, u40, u41, u42, u43, u44, u45, u46, u47, u48, rfl, hS, hA, hz, hB, hy, RI.keep (by decide) p0, RI.keep (by decide) p1, RI.keep (by decide) p2, RI.keep (by decide) p3, RI.keep (by decide) p4, RI.keep (by decide) p5, RI.keep (by decide) p6, RI.keep (by decide) p7, RI.keep (by decide) p8, RI.keep (by decide) p9, RI.keep (by decide) p10, RI.keep (by decide) p11, RI.keep (by decide) p12, RI.keep (by decide) p13, RI.keep (by decide) p14, RI.keep (by decide) p15, RI.keep (by decide) p16, RI.keep (by decide) p17, RI.keep (by decide) p18, RI.keep (by decide) p19, RI.keep (by decide) p20, fun _ => rfl, RI.keep (by decide) p22, RI.keep (by decide) p23, RI.keep (by decide) p24, RI.keep (by decide) p25, RI.keep (by decide) p26, RI.keep (by decide) p27, RI.keep (by decide) p28, RI.keep (by decide) p29, RI.keep (by decide) p30, RI.keep (by decide) p31, RI.keep (by decide) p32, RI.keep (by decide) p33, RI.keep (by decide) p34, RI.keep (by decide) p35, RI.keep (by decide) p36⟩
      · have hd := hd _ rfl
        simp [Region.binds] at hd
        obtain rfl := p16 (by simp [hd])
        refine RI.wpOp_guard rfl rfl rfl ?_
        have c0 : ∀ o, o < 4 → wx.cell? ⟨w.heap.size + 1, o, none⟩ = some (.int .u64 (dg b o)) := hS.c1
        go_simp
        exact ⟨u4, u13, u14, u15, u16, u17, u18, u19, u20, u21, u22, u23, u24, u25, u26, u27, u28, _, u30, u31, u32, u33, u34, _, u36, u37, u38, u39, u40, u41, u42, u43, u44, u45, u46, u47, u48, rfl, hS, hA, hz, hB, hy, RI.keep (by decide) p0, RI.keep (by decide) p1, RI.keep (by decide) p2, RI.keep (by decide) p3, RI.keep (by decide) p4, RI.keep (by decide) p5, RI.keep (by decide) p6, RI.keep (by decide) p7, RI.keep (by decide) p8, RI.keep (by decide) p9, RI.keep (by decide) p10, RI.keep (by decide) p11, RI.keep (by decide) p12, RI.keep (by decide) p13, RI.keep (by decide) p14, RI.keep (by decide) p15, RI.keep (by decide) p16, RI.keep (by decide) p17, RI.keep (by decide) p18, RI.keep (by decide) p19, RI.keep (by decide) p20, RI.keep (by decide) p21, fun _ => rfl, RI.keep (by decide) p23, RI.keep (by decide) p24, RI.keep (by decide) p25, RI.keep (by decide) p26, RI.keep (by decide) p27, RI.keep (by decide) p28, RI.keep (by decide) p29, RI.keep (by decide) p30, RI.keep (by decide) p31, RI.keep (by decide) p32, RI.keep (by decide) p33, RI.keep (by decide) p34, RI.keep (by decide) p35, RI.keep (by decide) p36⟩
      · have hd := hd _ rfl
        simp [Region.binds] at hd
        obtain rfl := p16 (by simp [hd])
        obtain rfl := p21 (by simp [hd])
        obtain rfl := p22 (by simp [hd])
        refine RI.wpOp_guard rfl rfl rfl ?_
        have e1 := R4.out
        have q1 := fun op x y => eq_guard op x y a b
        go_simp
        exact ⟨u4, u13, u14, u15, u16, u17, u18, u19, u20, u21, u22, u23, u24, u25, u26, u27, u28, _, u30, u31, u32, u33, _, _, _, u37, u38, u39, u40, u41, u42, u43, u44, u45, u46, u47, u48, rfl, hS, hA, hz, hB, hy, RI.keep (by decide) p0, RI.keep (by decide) p1, RI.keep (by decide) p2, RI.keep (by decide) p3, RI.keep (by decide) p4, RI.keep (by decide) p5, RI.keep (by decide) p6, RI.keep (by decide) p7, RI.keep (by decide) p8, RI.keep (by decide) p9, RI.keep (by decide) p10, RI.keep (by decide) p11, RI.keep (by decide) p12, RI.keep (by decide) p13, RI.keep (by decide) p14, RI.keep (by decide) p15, RI.keep (by decide) p16, RI.keep (by decide) p17, RI.keep (by decide) p18, RI.keep (by decide) p19, RI.keep (by decide) p20, RI.keep (by decide) p21, RI.keep (by decide) p22, fun _ => rfl, RI.keep (by decide) p24, RI.keep (by decide) p25, RI.keep (by decide) p26, RI.keep (by decide) p27, RI.keep (by decide) p28, RI.keep (by decide) p29, RI.keep (by decide) p30, RI.keep (by decide) p31, RI.keep (by decide) p32, RI.keep (by decide) p33, RI.keep (by decide) p34, RI.keep (by decide) p35, RI.keep (by decide) p36⟩
      · have hd := hd _ rfl
        simp [Region.binds] at hd
        obtain rfl := p16 (by simp [hd])
        obtain rfl := p20 (by simp [hd])
        obtain rfl := p23 (by simp [hd])
        refine RI.wpOp_guard rfl rfl rfl ?_
        go_simp
        exact ⟨u4, u13, u14, u15, u16, u17, u18, u19, u20, u21, u22, u23, u24, u25, u26, u27, u28, _, u30, u31, u32, _, u34, u35, _, _, u38, u39, u40, u41, u42, u43, u44, u45, u46, u47, u48, rfl, hS, hA, hz, hB, hy, RI.keep (by decide) p0, RI.keep (by decide) p1, RI.keep (by decide) p2, RI.keep (by decide) p3, RI.keep (by decide) p4, RI.keep (by decide) p5, RI.keep (by decide) p6, RI.keep (by decide) p7, RI.keep (by decide) p8, RI.keep (by decide) p9, RI.keep (by decide) p10, RI.keep (by decide) p11, RI.keep (by decide) p12, RI.keep (by decide) p13, RI.keep (by decide) p14, RI.keep (by decide) p15, RI.keep (by decide) p16, RI.keep (by decide) p17, RI.keep (by decide) p18, RI.keep (by decide) p19, RI.keep (by decide) p20, RI.keep (by decide) p21, RI.keep (by decide) p22, RI.keep (by decide) p23, fun _ => rfl, RI.keep (by decide) p25, RI.keep (by decide) p26, RI.keep (by decide) p27, RI.keep (by decide) p28, RI.keep (by decide) p29, RI.keep (by decide) p30, RI.keep (by decide) p31, RI.keep (by decide) p32, RI.keep (by decide) p33, RI.keep (by decide) p34, RI.keep (by decide) p35, RI.keep (by decide) p36⟩
      · have hd := hd _ rfl
        simp [Region.binds] at hd
        obtain rfl := p16 (by simp [hd])
        obtain rfl := p24 (by simp [hd])
        refine RI.wpOp_plain rfl rfl ?_
        go_simp
        exact ⟨u4, u13, u14, u15, u16, u17, u18, u19, u20, u21, u22, u23, u24, u25, u26, u27, u28, _, u30, u31, u32, u33, u34, u35, u36, _, _, u39, u40, u41, u42, u43, u44, u45, u46, u47, u48, rfl, hS, hA, hz, hB, hy, RI.keep (by decide) p0, RI.keep (by decide) p1, RI.keep (by decide) p2, RI.keep (by decide) p3, RI.keep (by decide) p4, RI.keep (by decide) p5, RI.keep (by decide) p6, RI.keep (by decide) p7, RI.keep (by decide) p8, RI.keep (by decide) p9, RI.keep (by decide) p10, RI.keep (by decide) p11, RI.keep (by decide) p12, RI.keep (by decide) p13, RI.keep (by decide) p14, RI.keep (by decide) p15, RI.keep (by decide) p16, RI.keep (by decide) p17, RI.keep (by decide) p18, RI.keep (by decide) p19, RI.keep (by decide) p20, RI.keep (by decide) p21, RI.keep (by decide) p22, RI.keep (by decide) p23, RI.keep (by decide) p24, fun _ => rfl, RI.keep (by decide) p26, RI.keep (by decide) p27, RI.keep (by decide) p28, RI.keep (by decide) p29, RI.keep (by decide) p30, RI.keep (by decide) p31, RI.keep (by decide) p32, RI.keep (by decide) p33, RI.keep (by decide) p34, RI.keep (by decide) p35, RI.keep (by decide) p36⟩
      · have hd := hd _ rfl
        simp [Region.binds] at hd
        obtain rfl := p19 (by simp [hd])
        obtain rfl := p25 (by simp [hd])
        refine RI.wpOp_plain rfl rfl ?_
        go_simp
        exact ⟨u4, u13, u14, u15, u16, u17, u18, u19, u20, u21, u22, u23, u24, u25, u26, u27, u28, u29, u30, u31, _, u33, u34, u35, u36, u37, _, _, u40, u41, u42, u43, u44, u45, u46, u47, u48, rfl, hS, hA, hz, hB, hy, RI.keep (by decide) p0, RI.keep (by decide) p1, RI.keep (by decide) p2, RI.keep (by decide) p3, RI.keep (by decide) p4, RI.keep (by decide) p5, RI.keep (by decide) p6, RI.keep (by decide) p7, RI.keep (by decide) p8, RI.keep (by decide) p9, RI.keep (by decide) p10, RI.keep (by decide) p11, RI.keep (by decide) p12, RI.keep (by decide) p13, RI.keep (by decide) p14, RI.keep (by decide) p15, RI.keep (by decide) p16, RI.keep (by decide) p17, RI.keep (by decide) p18, RI.keep (by decide) p19, RI.keep (by decide) p20, RI.keep (by decide) p21, RI.keep (by decide) p22, RI.keep (by decide) p23, RI.keep (by decide) p24, RI.keep (by decide) p25, fun _ => rfl, RI.keep (by decide) p27, RI.keep (by decide) p28, RI.keep (by decide) p29, RI.keep (by decide) p30, RI.keep (by decide) p31, RI.keep (by decide) p32, RI.keep (by decide) p33, RI.keep (by decide) p34, RI.keep (by decide) p35, RI.keep (by decide) p36⟩
      · have hd := hd _ rfl
        simp [Region.binds] at hd
        obtain rfl := p26 (by simp [hd])
        refine RI.wpOp_guard rfl rfl rfl ?_
        have c0 : ∀ o, o < 4 → wx.cell? ⟨w.heap.size, o, none⟩ = some (.int .u64 (dg a o)) := hS.c0
        go_simp
        exact ⟨u4, u13, u14, u15, u16, u17, u18, u19, u20, u21, u22, u23, u24, u25, u26, u27, u28, u29, u30, u31, u32, u33, u34, u35, u36, u37, u38, _, _, u41, u42, u43, u44, u45, u46, u47, u48, rfl, hS, hA, hz, hB, hy, RI.keep (by decide) p0, RI.keep (by decide) p1, RI.keep (by decide) p2, RI.keep (by decide) p3, RI.keep (by decide) p4, RI.keep (by decide) p5, RI.keep (by decide) p6, RI.keep (by decide) p7, RI.keep (by decide) p8, RI.keep (by decide) p9, RI.keep (by decide) p10, RI.keep (by decide) p11, RI.keep (by decide) p12, RI.keep (by decide) p13, RI.keep (by decide) p14, RI.keep (by decide) p15, RI.keep (by decide) p16, RI.keep (by decide) p17, RI.keep (by decide) p18, RI.keep (by decide) p19, RI.keep (by decide) p20, RI.keep (by decide) p21, RI.keep (by decide) p22, RI.keep (by decide) p23, RI.keep (by decide) p24, RI.keep (by decide) p25, RI.keep (by decide) p26, fun _ => rfl, RI.keep (by decide) p28, RI.keep (by decide) p29, RI.keep (by decide) p30, RI.keep (by decide) p31, RI.keep (by decide) p32, RI.keep (by decide) p33, RI.keep (by decide) p34, RI.keep (by decide) p35, RI.keep (by decide) p36⟩
      · have hd := hd _ rfl
        simp [Region.binds] at hd
        obtain rfl := p26 (by simp [hd])
        refine RI.wpOp_guard rfl rfl rfl ?_
        have c0 : ∀ o, o < 4 → wx.cell? ⟨w.heap.size + 1, o, none⟩ = some (.int .u64 (dg b o)) := hS.c1
        go_simp
        exact ⟨u4, u13, u14, u15, u16, u17, u18, u19, u20, u21, u22, u23, u24, u25, u26, u27, u28, u29, u30, u31, u32, u33, u34, u35, u36, u37, u38, _, u40, _, u42, u43, u44, u45, u46, u47, u48, rfl, hS, hA, hz, hB, hy, RI.keep (by decide) p0, RI.keep (by decide) p1, RI.keep (by decide) p2, RI.keep (by decide) p3, RI.keep (by decide) p4, RI.keep (by decide) p5, RI.keep (by decide) p6, RI.keep (by decide) p7, RI.keep (by decide) p8, RI.keep (by decide) p9, RI.keep (by decide) p10, RI.keep (by decide) p11, RI.keep (by decide) p12, RI.keep (by decide) p13, RI.keep (by decide) p14, RI.keep (by decide) p15, RI.keep (by decide) p16, RI.keep (by decide) p17, RI.keep (by decide) p18, RI.keep (by decide) p19, RI.keep (by decide) p20, RI.keep (by decide) p21, RI.keep (by decide) p22, RI.keep (by decide) p23, RI.keep (by decide) p24, RI.keep (by decide) p25, RI.keep (by decide) p26, RI.keep (by decide) p27, fun _ => rfl, RI.keep (by decide) p29, RI.keep (by decide) p30, RI.keep (by decide) p31, RI.keep (by decide) p32, RI.keep (by decide) p33, RI.keep (by decide) p34, RI.keep (by decide) p35, RI.keep (by decide) p36⟩
      · have hd := hd _ rfl
        simp [Region.binds] at hd
        obtain rfl := p26 (by simp [hd])
        obtain rfl := p27 (by simp [hd])
        obtain rfl := p28 (by simp [hd])
        refine RI.wpOp_guard rfl rfl rfl ?_
        go_simp
        refine (KC.out _).mono ?_
        rintro e w1 ⟨rfl, hb1⟩
        exact ⟨u4, u13, u14, u15, u16, u17, u18, u19, u20, u21, u22, u23, u24, u25, u26, u27, u28, u29, u30, u31, u32, u33, u34, u35, u36, u37, u38, _, _, _, _, u43, u44, u45, u46, u47, u48, rfl, S2_below hS hb1, Sp.CK_below hA hb1 hz, Nat.lt_of_lt_of_le hz hb1.size, Sp.CK_below hB hb1 hy, Nat.lt_of_lt_of_le hy hb1.size, RI.keep (by decide) p0, RI.keep (by decide) p1, RI.keep (by decide) p2, RI.keep (by decide) p3, RI.keep (by decide) p4, RI.keep (by decide) p5, RI.keep (by decide) p6, RI.keep (by decide) p7, RI.keep (by decide) p8, RI.keep (by decide) p9, RI.keep (by decide) p10, RI.keep (by decide) p11, RI.keep (by decide) p12, RI.keep (by decide) p13, RI.keep (by decide) p14, RI.keep (by decide) p15, RI.keep (by decide) p16, RI.keep (by decide) p17, RI.keep (by decide) p18, RI.keep (by decide) p19, RI.keep (by decide) p20, RI.keep (by decide) p21, RI.keep (by decide) p22, RI.keep (by decide) p23, RI.keep (by decide) p24, RI.keep (by decide) p25, RI.keep (by decide) p26, RI.keep (by decide) p27, RI.keep (by decide) p28, fun _ => rfl, RI.keep (by decide) p30, RI.keep (by decide) p31, RI.keep (by decide) p32, RI.keep (by decide) p33, RI.keep (by decide) p34, RI.keep (by decide) p35, RI.keep (by decide) p36⟩
      · have hd := hd _ rfl
        simp [Region.binds] at hd
        obtain rfl := p26 (by simp [hd])
        refine RI.wpOp_guard rfl rfl rfl ?_
        have c0 : ∀ o, o < 4 → wx.cell? ⟨w.heap.size + 1, o, none⟩ = some (.int .u64 (dg b o)) := hS.c1
        go_simp
        exact ⟨u4, u13, u14, u15, u16, u17, u18, u19, u20, u21, u22, u23, u24, u25, u26, u27, u28, u29, u30, u31, u32, u33, u34, u35, u36, u37, u38, _, u40, u41, u42, _, u44, u45, u46, u47, u48, rfl, hS, hA, hz, hB, hy, RI.keep (by decide) p0, RI.keep (by decide) p1, RI.keep (by decide) p2, RI.keep (by decide) p3, RI.keep (by decide) p4, RI.keep (by decide) p5, RI.keep (by decide) p6, RI.keep (by decide) p7, RI.keep (by decide) p8, RI.keep (by decide) p9, RI.keep (by decide) p10, RI.keep (by decide) p11, RI.keep (by decide) p12, RI.keep (by decide) p13, RI.keep (by decide) p14, RI.keep (by decide) p15, RI.keep (by decide) p16, RI.keep (by decide) p17, RI.keep (by decide) p18, RI.keep (by decide) p19, RI.keep (by decide) p20, RI.keep (by decide) p21, RI.keep (by decide) p22, RI.keep (by decide) p23, RI.keep (by decide) p24, RI.keep (by decide) p25, RI.keep (by decide) p26, RI.keep (by decide) p27, RI.keep (by decide) p28, RI.keep (by decide) p29, fun _ => rfl, RI.keep (by decide) p31, RI.keep (by decide) p32, RI.keep (by decide) p33, RI.keep (by decide) p34, RI.keep (by decide) p35, RI.keep (by decide) p36⟩
      · have hd := hd _ rfl
        simp [Region.binds] at hd
        obtain rfl := p26 (by simp [hd])
        refine RI.wpOp_guard rfl rfl rfl ?_
        have c0 : ∀ o, o < 4 → wx.cell? ⟨w.heap.size, o, none⟩ = some (.int .u64 (dg a o)) := hS.c0
        go_simp
        exact ⟨u4, u13, u14, u15, u16, u17, u18, u19, u20, u21, u22, u23, u24, u25, u26, u27, u28, u29, u30, u31, u32, u33, u34, u35, u36, u37, u38, _, u40, u41, u42, u43, _, u45, u46, u47, u48, rfl, hS, hA, hz, hB, hy, RI.keep (by decide) p0, RI.keep (by decide) p1, RI.keep (by decide) p2, RI.keep (by decide) p3, RI.keep (by decide) p4, RI.keep (by decide) p5, RI.keep (by decide) p6, RI.keep (by decide) p7, RI.keep (by decide) p8, RI.keep (by decide) p9, RI.keep (by decide) p10, RI.keep (by decide) p11, RI.keep (by decide) p12, RI.keep (by decide) p13, RI.keep (by decide) p14, RI.keep (by decide) p15, RI.keep (by decide) p16, RI.keep (by decide) p17, RI.keep (by decide) p18, RI.keep (by decide) p19, RI.keep (by decide) p20, RI.keep (by decide) p21, RI.keep (by decide) p22, RI.keep (by decide) p23, RI.keep (by decide) p24, RI.keep (by decide) p25, RI.keep (by decide) p26, RI.keep (by decide) p27, RI.keep (by decide) p28, RI.keep (by decide) p29, RI.keep (by decide) p30, fun _ => rfl, RI.keep (by decide) p32, RI.keep (by decide) p33, RI.keep (by decide) p34, RI.keep (by decide) p35, RI.keep (by decide) p36⟩
      · have hd := hd _ rfl
        simp [Region.binds] at hd
        obtain rfl := p26 (by simp [hd])
        obtain rfl := p29 (by simp [hd])
        obtain rfl := p30 (by simp [hd])
        obtain rfl := p31 (by simp [hd])
        refine RI.wpOp_guard rfl rfl rfl ?_
        go_simp
        refine (KD.out _).mono ?_
        rintro e w1 ⟨rfl, hb1⟩
        exact ⟨u4, u13, u14, u15, u16, u17, u18, u19, u20, u21, u22, u23, u24, u25, u26, u27, u28, u29, u30, u31, u32, u33, u34, u35, u36, u37, u38, _, u40, u41, _, _, _, _, u46, u47, u48, rfl, S2_below hS hb1, Sp.CK_below hA hb1 hz, Nat.lt_of_lt_of_le hz hb1.size, Sp.CK_below hB hb1 hy, Nat.lt_of_lt_of_le hy hb1.size, RI.keep (by decide) p0, RI.keep (by decide) p1, RI.keep (by decide) p2, RI.keep (by decide) p3, RI.keep (by decide) p4, RI.keep (by decide) p5, RI.keep (by decide) p6, RI.keep (by decide) p7, RI.keep (by decide) p8, RI.keep (by decide) p9, RI.keep (by decide) p10, RI.keep (by decide) p11, RI.keep (by decide) p12, RI.keep (by decide) p13, RI.keep (by decide) p14, RI.keep (by decide) p15, RI.keep (by decide) p16, RI.keep (by decide) p17, RI.keep (by decide) p18, RI.keep (by decide) p19, RI.keep (by decide) p20, RI.keep (by decide) p21, RI.keep (by decide) p22, RI.keep (by decide) p23, RI.keep (by decide) p24, RI.keep (by decide) p25, RI.keep (by decide) p26, RI.keep (by decide) p27, RI.keep (by decide) p28, RI.keep (by decide) p29, RI.keep (by decide) p30, RI.keep (by decide) p31, fun _ => rfl, RI.keep (by decide) p33, RI.keep (by decide) p34, RI.keep (by decide) p35, RI.keep (by decide) p36⟩
      · have hd := hd _ rfl
        simp [Region.binds] at hd
        obtain rfl := p26 (by simp [hd])
        obtain rfl := p32 (by simp [hd])
        refine RI.wpOp_guard rfl rfl rfl ?_
        have r1 := R5.out
        go_simp
        exact ⟨u4, u13, u14, u15, u16, u17, u18, u19, u20, u21, u22, u23, u24, u25, u26, u27, u28, u29, u30, u31, u32, u33, u34, u35, u36, u37, u38, _, u40, u41, u42, u43, u44, _, _, u47, u48, rfl, hS, hA, hz, hB, hy, RI.keep (by decide) p0, RI.keep (by decide) p1, RI.keep (by decide) p2, RI.keep (by decide) p3, RI.keep (by decide) p4, RI.keep (by decide) p5, RI.keep (by decide) p6, RI.keep (by decide) p7, RI.keep (by decide) p8, RI.keep (by decide) p9, RI.keep (by decide) p10, RI.keep (by decide) p11, RI.keep (by decide) p12, RI.keep (by decide) p13, RI.keep (by decide) p14, RI.keep (by decide) p15, RI.keep (by decide) p16, RI.keep (by decide) p17, RI.keep (by decide) p18, RI.keep (by decide) p19, RI.keep (by decide) p20, RI.keep (by decide) p21, RI.keep (by decide) p22, RI.keep (by decide) p23, RI.keep (by decide) p24, RI.keep (by decide) p25, RI.keep (by decide) p26, RI.keep (by decide) p27, RI.keep (by decide) p28, RI.keep (by decide) p29, RI.keep (by decide) p30, RI.keep (by decide) p31, RI.keep (by decide) p32, fun _ => rfl, RI.keep (by decide) p34, RI.keep (by decide) p35, RI.keep (by decide) p36⟩
      · have hd := hd _ rfl
        simp [Region.binds] at hd
        obtain rfl := p26 (by simp [hd])
        obtain rfl := p29 (by simp [hd])
        obtain rfl := p33 (by simp [hd])
        refine RI.wpOp_guard rfl rfl rfl ?_
        go_simp
        exact ⟨u4, u13, u14, u15, u16, u17, u18, u19, u20, u21, u22, u23, u24, u25, u26, u27, u28, u29, u30, u31, u32, u33, u34, u35, u36, u37, u38, _, u40, u41, _, u43, u44, u45, _, _, u48, rfl, hS, hA, hz, hB, hy, RI.keep (by decide) p0, RI.keep (by decide) p1, RI.keep (by decide) p2, RI.keep (by decide) p3, RI.keep (by decide) p4, RI.keep (by decide) p5, RI.keep (by decide) p6, RI.keep (by decide) p7, RI.keep (by decide) p8, RI.keep (by decide) p9, RI.keep (by decide) p10, RI.keep (by decide) p11, RI.keep (by decide) p12, RI.keep (by decide) p13, RI.keep (by decide) p14, RI.keep (by decide) p15, RI.keep (by decide) p16, RI.keep (by decide) p17, RI.keep (by decide) p18, RI.keep (by decide) p19, RI.keep (by decide) p20, RI.keep (by decide) p21, RI.keep (by decide) p22, RI.keep (by decide) p23, RI.keep (by decide) p24, RI.keep (by decide) p25, RI.keep (by decide) p26, RI.keep (by decide) p27, RI.keep (by decide) p28, RI.keep (by decide) p29, RI.keep (by decide) p30, RI.keep (by decide) p31, RI.keep (by decide) p32, RI.keep (by decide) p33, fun _ => rfl, RI.keep (by decide) p35, RI.keep (by decide) p36⟩
      · have hd := hd _ rfl
        simp [Region.binds] at hd
        obtain rfl := p26 (by simp [hd])
        obtain rfl := p34 (by simp [hd])
        refine RI.wpOp_plain rfl rfl ?_
        go_simp
        exact ⟨u4, u13, u14, u15, u16, u17, u18, u19, u20, u21, u22, u23, u24, u25, u26, u27, u28, u29, u30, u31, u32, u33, u34, u35, u36, u37, u38, _, u40, u41, u42, u43, u44, u45, u46, _, _, rfl, hS, hA, hz, hB, hy, RI.keep (by decide) p0, RI.keep (by decide) p1, RI.keep (by decide) p2, RI.keep (by decide) p3, RI.keep (by decide) p4, RI.keep (by decide) p5, RI.keep (by decide) p6, RI.keep (by decide) p7, RI.keep (by decide) p8, RI.keep (by decide) p9, RI.keep (by decide) p10, RI.keep (by decide) p11, RI.keep (by decide) p12, RI.keep (by decide) p13, RI.keep (by decide) p14, RI.keep (by decide) p15, RI.keep (by decide) p16, RI.keep (by decide) p17, RI.keep (by decide) p18, RI.keep (by decide) p19, RI.keep (by decide) p20, RI.keep (by decide) p21, RI.keep (by decide) p22, RI.keep (by decide) p23, RI.keep (by decide) p24, RI.keep (by decide) p25, RI.keep (by decide) p26, RI.keep (by decide) p27, RI.keep (by decide) p28, RI.keep (by decide) p29, RI.keep (by decide) p30, RI.keep (by decide) p31, RI.keep (by decide) p32, RI.keep (by decide) p33, RI.keep (by decide) p34, fun _ => rfl, RI.keep (by decide) p36⟩
      · have hd := hd _ rfl
        simp [Region.binds] at hd
        obtain rfl := p0 (by simp [hd])
        obtain rfl := p1 (by simp [hd])
        obtain rfl := p2 (by simp [hd])
        obtain rfl := p3 (by simp [hd])
        obtain rfl := p4 (by simp [hd])
        obtain rfl := p5 (by simp [hd])
        obtain rfl := p6 (by simp [hd])
        obtain rfl := p7 (by simp [hd])
        obtain rfl := p8 (by simp [hd])
        obtain rfl := p9 (by simp [hd])
        obtain rfl := p10 (by simp [hd])
        obtain rfl := p11 (by simp [hd])
        obtain rfl := p12 (by simp [hd])
        obtain rfl := p13 (by simp [hd])
        obtain rfl := p14 (by simp [hd])
        obtain rfl := p15 (by simp [hd])
        obtain rfl := p16 (by simp [hd])
        obtain rfl := p17 (by simp [hd])
        obtain rfl := p18 (by simp [hd])
        obtain rfl := p19 (by simp [hd])
        obtain rfl := p20 (by simp [hd])
        obtain rfl := p21 (by simp [hd])
        obtain rfl := p22 (by simp [hd])
        obtain rfl := p23 (by simp [hd])
        obtain rfl := p24 (by simp [hd])
        obtain rfl := p25 (by simp [hd])
        obtain rfl := p26 (by simp [hd])
        obtain rfl := p27 (by simp [hd])
        obtain rfl := p28 (by simp [hd])
        obtain rfl := p29 (by simp [hd])
        obtain rfl := p30 (by simp [hd])
        obtain rfl := p31 (by simp [hd])
        obtain rfl := p32 (by simp [hd])
        obtain rfl := p33 (by simp [hd])
        obtain rfl := p34 (by simp [hd])
        obtain rfl := p35 (by simp [hd])
        refine RI.wpOp_plain rfl rfl ?_
        go_simp
        exact ⟨_, _, _, _, _, _, _, _, _, _, _, _, _, _, _, _, _, _, _, _, _, _, _, _, _, _, _, _, _, _, _, _, _, _, _, _, _, rfl, hS, hA, hz, hB, hy, RI.keep (by decide) p0, RI.keep (by decide) p1, RI.keep (by decide) p2, RI.keep (by decide) p3, RI.keep (by decide) p4, RI.keep (by decide) p5, RI.keep (by decide) p6, RI.keep (by decide) p7, RI.keep (by decide) p8, RI.keep (by decide) p9, RI.keep (by decide) p10, RI.keep (by decide) p11, RI.keep (by decide) p12, RI.keep (by decide) p13, RI.keep (by decide) p14, RI.keep (by decide) p15, RI.keep (by decide) p16, RI.keep (by decide) p17, RI.keep (by decide) p18, RI.keep (by decide) p19, RI.keep (by decide) p20, RI.keep (by decide) p21, RI.keep (by decide) p22, RI.keep (by decide) p23, RI.keep (by decide) p24, RI.keep (by decide) p25, RI.keep (by decide) p26, RI.keep (by decide) p27, RI.keep (by decide) p28, RI.keep (by decide) p29, RI.keep (by decide) p30, RI.keep (by decide) p31, RI.keep (by decide) p32, RI.keep (by decide) p33, RI.keep (by decide) p34, RI.keep (by decide) p35, fun _ => rfl⟩
    · clear hS C5 C6 z5 z6
      intro d x wx hI hd
      obtain ⟨u4, u13, u14, u15, u16, u17, u18, u19, u20, u21, u22, u23, u24, u25, u26, u27, u28, u29, u30, u31, u32, u33, u34, u35, u36, u37, u38, u39, u40, u41, u42, u43, u44, u45, u46, u47, u48, rfl, hS, hA, hz, hB, hy, p0, p1, p2, p3, p4, p5, p6, p7, p8, p9, p10, p11, p12, p13, p14, p15, p16, p17, p18, p19, p20, p21, p22, p23, p24, p25, p26, p27, p28, p29, p30, p31, p32, p33, p34, p35, p36⟩ := hI
      obtain rfl := p36 (hd 36 (by decide))
      have HB : Hid (Below w.heap.size w wx) := hS.bel
      clear p0 p1 p2 p3 p4 p5 p6 p7 p8 p9 p10 p11 p12 p13 p14 p15 p16 p17 p18 p19 p20 p21 p22 p23 p24 p25 p26 p27 p28 p29 p30 p31 p32 p33 p34 p35 p36 hS hA hB hy hz hd
      go_wp2_with fail
      go_ret
      exact ⟨rfl, HB.out⟩
end Go.Proofs.Ytcoljaogemgnnaa
