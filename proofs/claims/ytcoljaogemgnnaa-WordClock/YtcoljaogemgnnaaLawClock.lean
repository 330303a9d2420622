/- lampbearerkeep.WordClock: the rests by m are a ring of their own. -/
import Derived.Test.YtcoljaogemgnnaaAddMod
import Derived.Test.YtcoljaogemgnnaaAddRest
import Derived.Test.YtcoljaogemgnnaaAlive1
import Derived.Deep.Cut
namespace Go.Proofs.Ytcoljaogemgnnaa
open Go.RowKit Go.Shelf
attribute [local go_sem ↓] Go.wp_at_zero Go.wp_at_succ
theorem S4_al {w : World} {a b c d : Nat} {w1 : World} (h : S4 w a b c d w1) (o : Obj) : S4 w a b c d (w1.alloc o) := S4_below h ((Below.refl _ _).alloc (Nat.le_refl _) o)
theorem S4_o4 {w : World} {a b c d k y : Nat} {w1 : World} (h : S4 w a b c d w1) (hk : w.heap.size + 1 + 1 + 1 < k) : S4 w a b c d ((((w1.setCell ⟨k, 0, none⟩ (.int .u64 (dg y 0))).setCell ⟨k, 1, none⟩ (.int .u64 (dg y 1))).setCell ⟨k, 2, none⟩ (.int .u64 (dg y 2))).setCell ⟨k, 3, none⟩ (.int .u64 (dg y 3))) :=
  ⟨by simpa using h.hi, K_o4 h.c0 (by omega), K_o4 h.c1 (by omega), K_o4 h.c2 (by omega), K_o4 h.c3 (by omega), Bel_set4 h.bel (by omega)⟩
/-- What holds while s and p are reckoned. -/
def CKI (w : World) (a b c m Q X S P g9 : Nat) (d : Nat → Bool) (x : Act) (wx : World) : Prop :=
  ∃ (u11 u12 u21 u22 u23 u24 u25 u26 u27 u28 : Value) (g11 g12 : Nat) (F11 F12 : Nat → Int),
    x = { tmps := #[.agg #[.int .u64 (dg a 0), .int .u64 (dg a 1), .int .u64 (dg a 2), .int .u64 (dg a 3)], .agg #[.int .u64 (dg b 0), .int .u64 (dg b 1), .int .u64 (dg b 2), .int .u64 (dg b 3)], .agg #[.int .u64 (dg c 0), .int .u64 (dg c 1), .int .u64 (dg c 2), .int .u64 (dg c 3)], .agg #[.int .u64 (dg m 0), .int .u64 (dg m 1), .int .u64 (dg m 2), .int .u64 (dg m 3)], .pointer (some ⟨w.heap.size, 0, none⟩), .pointer (some ⟨w.heap.size + 1, 0, none⟩), .pointer (some ⟨w.heap.size + 1 + 1, 0, none⟩), .pointer (some ⟨w.heap.size + 1 + 1 + 1, 0, none⟩), .bool false, .pointer (some ⟨g9, 0, none⟩), .pointer (some ⟨(g9 + 1), 0, none⟩), u11, u12, .bool true, .bool false, .tuple #[.agg #[.int .u64 (dg Q 0), .int .u64 (dg Q 1), .int .u64 (dg Q 2), .int .u64 (dg Q 3)], .agg #[.int .u64 (dg X 0), .int .u64 (dg X 1), .int .u64 (dg X 2), .int .u64 (dg X 3)]], .agg #[.int .u64 (dg a 0), .int .u64 (dg a 1), .int .u64 (dg a 2), .int .u64 (dg a 3)], .agg #[.int .u64 (dg m 0), .int .u64 (dg m 1), .int .u64 (dg m 2), .int .u64 (dg m 3)], .tuple #[.agg #[.int .u64 (dg Q 0), .int .u64 (dg Q 1), .int .u64 (dg Q 2), .int .u64 (dg Q 3)], .agg #[.int .u64 (dg X 0), .int .u64 (dg X 1), .int .u64 (dg X 2), .int .u64 (dg X 3)]], .agg #[.int .u64 (dg Q 0), .int .u64 (dg Q 1), .int .u64 (dg Q 2), .int .u64 (dg Q 3)], .agg #[.int .u64 (dg X 0), .int .u64 (dg X 1), .int .u64 (dg X 2), .int .u64 (dg X 3)], u21, u22, u23, u24, u25, u26, u27, u28, undef, undef, undef, undef, undef, undef, undef, undef, undef, undef, undef, undef, undef, undef, undef, undef, undef, undef, undef, undef, undef, undef, undef, undef, undef, undef, undef, undef, undef, undef, undef, undef, undef, undef, undef, undef, undef, undef, undef, undef, undef, undef, undef, undef, undef, undef, undef, undef, undef, undef, undef, undef, undef, undef, undef, undef, undef, undef, undef, undef, undef, undef, undef, undef, undef, undef, undef, undef], defers := [] } ∧
    S4 w a b c m wx ∧ Vb w.heap.size (g9 + 1) 4 (dg X) wx ∧ g9 + 1 < wx.heap.size ∧
    (d 0 = true → u21 = Wd a) ∧ (d 1 = true → u22 = Wd b) ∧ (d 2 = true → u23 = Wd m) ∧ (d 3 = true → u24 = Wd S) ∧ (d 4 = true → u25 = Wd a) ∧ (d 5 = true → u26 = Wd b) ∧ (d 6 = true → u27 = Wd m) ∧ (d 7 = true → u28 = Wd P) ∧
    (d 8 = true → u11 = .pointer (some ⟨g11, 0, none⟩) ∧ Vb (g9 + 1 + 1) g11 4 F11 wx) ∧
    (d 9 = true → u12 = .pointer (some ⟨g12, 0, none⟩) ∧ Vb (g9 + 1 + 1) g12 4 F12 wx) ∧
    (d 8 = true → d 9 = true → g11 ≠ g12) ∧ (d 10 = true → d 8 = true ∧ F11 = dg S) ∧ (d 11 = true → d 9 = true ∧ F12 = dg P)
/-- The words that stand while the law's last test goes on. -/
structure K7 (w : World) (a b c m X S P g9 g11 g12 : Nat) (wx : World) : Prop where
  s : S4 w a b c m wx
  x : Vb w.heap.size (g9 + 1) 4 (dg X) wx
  y : Vb w.heap.size g11 4 (dg S) wx
  z : Vb w.heap.size g12 4 (dg P) wx
theorem K7_below {w : World} {a b c m X S P g9 g11 g12 : Nat} {w1 w2 : World} (h : K7 w a b c m X S P g9 g11 g12 w1) (k : Below w1.heap.size w1 w2) : K7 w a b c m X S P g9 g11 g12 w2 := ⟨S4_below h.s k, Vb_below h.x k, Vb_below h.y k, Vb_below h.z k⟩
theorem K7_drew {w : World} {a b c m X S P g9 g11 g12 : Nat} {w1 : World} (h : K7 w a b c m X S P g9 g11 g12 w1) : K7 w a b c m X S P g9 g11 g12 w1.drew := K7_below h (Below.refl _ _).drew
theorem md_lt (a m : Nat) (hm : m < 2 ^ 256) : md a m < 2 ^ 256 := by
  unfold md; split
  · decide
  · rename_i h; exact Nat.lt_trans (Nat.mod_lt _ (by omega)) hm
theorem md_lt' (a m : Nat) (h : m ≠ 0) : md a m < m := by unfold md; rw [if_neg h]; exact Nat.mod_lt _ (by omega)
theorem md_add1 (a b m : Nat) : md (md a m + b) m = md (a + b) m := by unfold md; split; rfl; rw [Nat.mod_add_mod]
theorem md_mul1 (a b m : Nat) : md (md a m * b) m = md (a * b) m := by unfold md; split; rfl; rw [Nat.mod_mul_mod]
theorem md_mul2 (a b m : Nat) : md (a * md b m) m = md (a * b) m := by rw [Nat.mul_comm, md_mul1, Nat.mul_comm]
theorem md_add2 (a b m : Nat) : md (a + md b m) m = md (a + b) m := by rw [Nat.add_comm, md_add1, Nat.add_comm]
theorem md_dist (a b c m : Nat) : md (md (c * a) m + md (c * b) m) m = md (c * md (a + b) m) m := by rw [md_add1, md_add2, md_mul2, Nat.mul_add]
theorem md_assoc (a b c m : Nat) : md (a * md (b * c) m) m = md (md (a * b) m * c) m := by rw [md_mul2, md_mul1, Nat.mul_assoc]
set_option maxHeartbeats 8000000 in
set_option maxRecDepth 100000 in
theorem law_clock (a b c m : Nat) (ha : a < 2 ^ 256) (hb : b < 2 ^ 256) (hc : c < 2 ^ 256) (hm : m < 2 ^ 256) (w : World) :
    Calls Try.prog 5 #[Wd a, Wd b, Wd c, Wd m] w fun e w' => e = .returned (.bool true) ∧ Below w.heap.size w w' := by
  obtain ⟨Q, hQ⟩ : ∃ Q, Q = a / m := ⟨_, rfl⟩
  obtain ⟨X, hX⟩ : ∃ X, X = md a m := ⟨_, rfl⟩
  obtain ⟨S, hS⟩ : ∃ X, X = md (a + b) m := ⟨_, rfl⟩
  obtain ⟨P, hP⟩ : ∃ X, X = md (a * b) m := ⟨_, rfl⟩
  obtain ⟨Y, hY⟩ : ∃ X, X = md (c * S) m := ⟨_, rfl⟩
  obtain ⟨Z, hZ⟩ : ∃ X, X = md (P * c) m := ⟨_, rfl⟩
  obtain ⟨U1, hU1⟩ : ∃ X, X = md (c * a) m := ⟨_, rfl⟩
  obtain ⟨U2, hU2⟩ : ∃ X, X = md (c * b) m := ⟨_, rfl⟩
  obtain ⟨U3, hU3⟩ : ∃ X, X = md (b * c) m := ⟨_, rfl⟩
  have lX := md_lt a m hm
  have lS := md_lt (a + b) m hm
  have lP := md_lt (a * b) m hm
  have lU1 := md_lt (c * a) m hm
  have lU2 := md_lt (c * b) m hm
  have lU3 := md_lt (b * c) m hm
  rw [← hX] at lX
  rw [← hS] at lS
  rw [← hP] at lP
  rw [← hU1] at lU1
  rw [← hU2] at lU2
  rw [← hU3] at lU3
  have K1 : Hid (∀ w : World, Calls Try.prog 22 #[Wd a, Wd m] w fun e w' => e = .returned (.tuple #[Wd Q, Wd X]) ∧ Below w.heap.size w w') := fun w => by rw [hQ, hX]; exact divmod_any a m ha hm w
  have KA : Hid (∀ w : World, Calls Try.prog 9 #[Wd a, Wd b, Wd m] w fun e w' => e = .returned (Wd S) ∧ Below w.heap.size w w') := fun w => by rw [hS]; exact addmod_any a b m ha hb hm w
  have KM : Hid (∀ w : World, Calls Try.prog 11 #[Wd a, Wd b, Wd m] w fun e w' => e = .returned (Wd P) ∧ Below w.heap.size w w') := fun w => by rw [hP]; exact mulmod_any a b m ha hb hm w
  have T1 : Hid (∀ w : World, Calls Try.prog 9 #[Wd X, Wd b, Wd m] w fun e w' => e = .returned (Wd S) ∧ Below w.heap.size w w') := fun w => by
    have k := addmod_any X b m lX hb hm w
    rw [hX, md_add1, ← hX, ← hS] at k; exact k
  have T2 : Hid (∀ w : World, Calls Try.prog 11 #[Wd X, Wd b, Wd m] w fun e w' => e = .returned (Wd P) ∧ Below w.heap.size w w') := fun w => by
    have k := mulmod_any X b m lX hb hm w
    rw [hX, md_mul1, ← hX, ← hP] at k; exact k
  have T3 : Hid (∀ w : World, Calls Try.prog 11 #[Wd b, Wd a, Wd m] w fun e w' => e = .returned (Wd P) ∧ Below w.heap.size w w') := fun w => by
    have k := mulmod_any b a m hb ha hm w
    rw [Nat.mul_comm b a, ← hP] at k; exact k
  have T4 : Hid (∀ w : World, Calls Try.prog 11 #[Wd c, Wd S, Wd m] w fun e w' => e = .returned (Wd Y) ∧ Below w.heap.size w w') := fun w => by rw [hY]; exact mulmod_any c S m hc lS hm w
  have T5 : Hid (∀ w : World, Calls Try.prog 11 #[Wd c, Wd a, Wd m] w fun e w' => e = .returned (Wd U1) ∧ Below w.heap.size w w') := fun w => by rw [hU1]; exact mulmod_any c a m hc ha hm w
  have T6 : Hid (∀ w : World, Calls Try.prog 11 #[Wd c, Wd b, Wd m] w fun e w' => e = .returned (Wd U2) ∧ Below w.heap.size w w') := fun w => by rw [hU2]; exact mulmod_any c b m hc hb hm w
  have T7 : Hid (∀ w : World, Calls Try.prog 9 #[Wd U1, Wd U2, Wd m] w fun e w' => e = .returned (Wd Y) ∧ Below w.heap.size w w') := fun w => by
    have k := addmod_any U1 U2 m lU1 lU2 hm w
    rw [show md (U1 + U2) m = Y by rw [hU1, hU2, hY, hS, md_dist]] at k; exact k
  have T8 : Hid (∀ w : World, Calls Try.prog 11 #[Wd P, Wd c, Wd m] w fun e w' => e = .returned (Wd Z) ∧ Below w.heap.size w w') := fun w => by rw [hZ]; exact mulmod_any P c m lP hc hm w
  have T9 : Hid (∀ w : World, Calls Try.prog 11 #[Wd b, Wd c, Wd m] w fun e w' => e = .returned (Wd U3) ∧ Below w.heap.size w w') := fun w => by rw [hU3]; exact mulmod_any b c m hb hc hm w
  have T10 : Hid (∀ w : World, Calls Try.prog 11 #[Wd a, Wd U3, Wd m] w fun e w' => e = .returned (Wd Z) ∧ Below w.heap.size w w') := fun w => by
    have k := mulmod_any a U3 m ha lU3 hm w
    rw [show md (a * U3) m = Z by rw [hU3, hZ, hP, md_assoc]] at k; exact k
  have J1 : Hid (∀ w : World, Calls Try.prog 14 #[Wd S, Wd m] w fun e w' => e = .returned (.int .i64 (cm (S : Int) (m : Int))) ∧ Below w.heap.size w w') := fun w => cmp_any S m lS hm w
  have J2 : Hid (∀ w : World, Calls Try.prog 14 #[Wd P, Wd m] w fun e w' => e = .returned (.int .i64 (cm (P : Int) (m : Int))) ∧ Below w.heap.size w w') := fun w => cmp_any P m lP hm w
  have J3 : Hid (m ≠ 0 → cm (S : Int) (m : Int) = -1 ∧ cm (P : Int) (m : Int) = -1) := fun h => by
    have s1 : S < m := by rw [hS]; exact md_lt' _ _ h
    have s2 : P < m := by rw [hP]; exact md_lt' _ _ h
    unfold cm
    rw [if_pos (by omega), if_pos (by omega)]
    exact ⟨rfl, rfl⟩
  have HM : Hid (m < 2 ^ 256) := hm
  clear ha hb hc hm hQ hX hS hP hY hZ hU1 hU2 hU3 lX lS lP lU1 lU2 lU3
  have k := S4_start w a b c m
  conv => arg 3; unfold Wd
  go_enter Try.func5, Try.ntmps5
  go_wp2_with fail
  refine (alive1_any _).mono ?_
  rintro e1 w1 ⟨rfl, hb1⟩
  replace k := S4_below k hb1
  clear hb1
  have c0 := k.c0
  have c3 := k.c3
  go_wp2_with fail
  refine (K1.out _).mono ?_
  rintro e1 w2 ⟨rfl, hb2⟩
  replace k := S4_below k hb2
  clear hb2 c0 c3 K1
  have vX : Vb w.heap.size (w2.heap.size + 1) 4 (dg X) ((w2.alloc (.cells #[.int .u64 (dg Q 0), .int .u64 (dg Q 1), .int .u64 (dg Q 2), .int .u64 (dg Q 3)] 24)).alloc (.cells #[.int .u64 (dg X 0), .int .u64 (dg X 1), .int .u64 (dg X 2), .int .u64 (dg X 3)] 24)) := Vb_new4e (by simp) (by have := k.hi; omega)
  have hG : w.heap.size + 1 + 1 + 1 < w2.heap.size := k.hi
  have hz : w2.heap.size + 1 < ((w2.alloc (.cells #[.int .u64 (dg Q 0), .int .u64 (dg Q 1), .int .u64 (dg Q 2), .int .u64 (dg Q 3)] 24)).alloc (.cells #[.int .u64 (dg X 0), .int .u64 (dg X 1), .int .u64 (dg X 2), .int .u64 (dg X 3)] 24)).heap.size := by simp
  replace k := S4_al (S4_al k (.cells #[.int .u64 (dg Q 0), .int .u64 (dg Q 1), .int .u64 (dg Q 2), .int .u64 (dg Q 3)] 24)) (.cells #[.int .u64 (dg X 0), .int .u64 (dg X 1), .int .u64 (dg X 2), .int .u64 (dg X 3)] 24)
  unfold Wd
  go_upto_region 4 with fail
  generalize (w2.alloc (.cells #[.int .u64 (dg Q 0), .int .u64 (dg Q 1), .int .u64 (dg Q 2), .int .u64 (dg Q 3)] 24)).alloc (.cells #[.int .u64 (dg X 0), .int .u64 (dg X 1), .int .u64 (dg X 2), .int .u64 (dg X 3)] 24) = W3 at vX k hz ⊢
  generalize w2.heap.size = g9 at vX hG hz ⊢
  refine RI.wp_region_inv (CKI w a b c m Q X S P g9) (by kernel_rfl) (by kernel_rfl) ?_ ?_ ?_
  · exact ⟨undef, undef, undef, undef, undef, undef, undef, undef, undef, undef, 0, 0, fun _ => 0, fun _ => 0, rfl, S4_drew k, Vb_drew vX, hz, nofun, nofun, nofun, nofun, nofun, nofun, nofun, nofun, nofun, nofun, nofun, nofun, nofun⟩
  · clear k vX hz
    intro d x wx i hI hi hm
    obtain ⟨u11, u12, u21, u22, u23, u24, u25, u26, u27, u28, g11, g12, F11, F12, rfl, hM, vX, hz, p0, p1, p2, p3, p4, p5, p6, p7, pa, pb, pab, ps, pt⟩ := hI
    have hi' : i = 0 ∨ i = 1 ∨ i = 2 ∨ i = 3 ∨ i = 4 ∨ i = 5 ∨ i = 6 ∨ i = 7 ∨ i = 8 ∨ i = 9 ∨ i = 10 ∨ i = 11 := by simp at hi; omega
    have hd := hm.2
    have hn := hm.1
    clear hm hi
    rcases hi' with rfl | rfl | rfl | rfl | rfl | rfl | rfl | rfl | rfl | rfl | rfl | rfl
    · refine RI.wpOp_plain rfl rfl ?_
      have c0 : ∀ o, o < 4 → wx.cell? ⟨w.heap.size, o, none⟩ = some (.int .u64 (dg a o)) := hM.c0
      go_simp
      exact ⟨u11, u12, _, u22, u23, u24, u25, u26, u27, u28, g11, g12, F11, F12, rfl, hM, vX, hz, fun _ => rfl, RI.keep (by decide) p1, RI.keep (by decide) p2, RI.keep (by decide) p3, RI.keep (by decide) p4, RI.keep (by decide) p5, RI.keep (by decide) p6, RI.keep (by decide) p7, RI.keep (by decide) pa, RI.keep (by decide) pb, RI.keep (by decide) fun h8 => RI.keep (by decide) fun h9 => pab h8 h9, RI.keep (by decide) fun h => ⟨by simp [RI.don, (ps h).1], (ps h).2⟩, RI.keep (by decide) fun h => ⟨by simp [RI.don, (pt h).1], (pt h).2⟩⟩
    · refine RI.wpOp_plain rfl rfl ?_
      have c0 : ∀ o, o < 4 → wx.cell? ⟨w.heap.size + 1, o, none⟩ = some (.int .u64 (dg b o)) := hM.c1
      go_simp
      exact ⟨u11, u12, u21, _, u23, u24, u25, u26, u27, u28, g11, g12, F11, F12, rfl, hM, vX, hz, RI.keep (by decide) p0, fun _ => rfl, RI.keep (by decide) p2, RI.keep (by decide) p3, RI.keep (by decide) p4, RI.keep (by decide) p5, RI.keep (by decide) p6, RI.keep (by decide) p7, RI.keep (by decide) pa, RI.keep (by decide) pb, RI.keep (by decide) fun h8 => RI.keep (by decide) fun h9 => pab h8 h9, RI.keep (by decide) fun h => ⟨by simp [RI.don, (ps h).1], (ps h).2⟩, RI.keep (by decide) fun h => ⟨by simp [RI.don, (pt h).1], (pt h).2⟩⟩
    · refine RI.wpOp_plain rfl rfl ?_
      have c0 : ∀ o, o < 4 → wx.cell? ⟨w.heap.size + 1 + 1 + 1, o, none⟩ = some (.int .u64 (dg m o)) := hM.c3
      go_simp
      exact ⟨u11, u12, u21, u22, _, u24, u25, u26, u27, u28, g11, g12, F11, F12, rfl, hM, vX, hz, RI.keep (by decide) p0, RI.keep (by decide) p1, fun _ => rfl, RI.keep (by decide) p3, RI.keep (by decide) p4, RI.keep (by decide) p5, RI.keep (by decide) p6, RI.keep (by decide) p7, RI.keep (by decide) pa, RI.keep (by decide) pb, RI.keep (by decide) fun h8 => RI.keep (by decide) fun h9 => pab h8 h9, RI.keep (by decide) fun h => ⟨by simp [RI.don, (ps h).1], (ps h).2⟩, RI.keep (by decide) fun h => ⟨by simp [RI.don, (pt h).1], (pt h).2⟩⟩
    · have hd := hd _ rfl
      simp [Region.binds] at hd
      refine RI.wpOp_plain rfl rfl ?_
      obtain rfl := p0 (by simp [hd])
      obtain rfl := p1 (by simp [hd])
      obtain rfl := p2 (by simp [hd])
      go_simp
      refine (KA.out _).mono ?_
      rintro e w1 ⟨rfl, hb1⟩
      exact ⟨u11, u12, _, _, _, _, u25, u26, u27, u28, g11, g12, F11, F12, rfl, S4_below hM hb1, Vb_below vX hb1, Nat.lt_of_lt_of_le hz hb1.size, RI.keep (by decide) p0, RI.keep (by decide) p1, RI.keep (by decide) p2, fun _ => rfl, RI.keep (by decide) p4, RI.keep (by decide) p5, RI.keep (by decide) p6, RI.keep (by decide) p7, RI.keep (by decide) (fun h => ⟨(pa h).1, Vb_below (pa h).2 hb1⟩), RI.keep (by decide) (fun h => ⟨(pb h).1, Vb_below (pb h).2 hb1⟩), RI.keep (by decide) fun h8 => RI.keep (by decide) fun h9 => pab h8 h9, RI.keep (by decide) fun h => ⟨by simp [RI.don, (ps h).1], (ps h).2⟩, RI.keep (by decide) fun h => ⟨by simp [RI.don, (pt h).1], (pt h).2⟩⟩
    · refine RI.wpOp_plain rfl rfl ?_
      have c0 : ∀ o, o < 4 → wx.cell? ⟨w.heap.size, o, none⟩ = some (.int .u64 (dg a o)) := hM.c0
      go_simp
      exact ⟨u11, u12, u21, u22, u23, u24, _, u26, u27, u28, g11, g12, F11, F12, rfl, hM, vX, hz, RI.keep (by decide) p0, RI.keep (by decide) p1, RI.keep (by decide) p2, RI.keep (by decide) p3, fun _ => rfl, RI.keep (by decide) p5, RI.keep (by decide) p6, RI.keep (by decide) p7, RI.keep (by decide) pa, RI.keep (by decide) pb, RI.keep (by decide) fun h8 => RI.keep (by decide) fun h9 => pab h8 h9, RI.keep (by decide) fun h => ⟨by simp [RI.don, (ps h).1], (ps h).2⟩, RI.keep (by decide) fun h => ⟨by simp [RI.don, (pt h).1], (pt h).2⟩⟩
    · refine RI.wpOp_plain rfl rfl ?_
      have c0 : ∀ o, o < 4 → wx.cell? ⟨w.heap.size + 1, o, none⟩ = some (.int .u64 (dg b o)) := hM.c1
      go_simp
      exact ⟨u11, u12, u21, u22, u23, u24, u25, _, u27, u28, g11, g12, F11, F12, rfl, hM, vX, hz, RI.keep (by decide) p0, RI.keep (by decide) p1, RI.keep (by decide) p2, RI.keep (by decide) p3, RI.keep (by decide) p4, fun _ => rfl, RI.keep (by decide) p6, RI.keep (by decide) p7, RI.keep (by decide) pa, RI.keep (by decide) pb, RI.keep (by decide) fun h8 => RI.keep (by decide) fun h9 => pab h8 h9, RI.keep (by decide) fun h => ⟨by simp [RI.don, (ps h).1], (ps h).2⟩, RI.keep (by decide) fun h => ⟨by simp [RI.don, (pt h).1], (pt h).2⟩⟩
    · refine RI.wpOp_plain rfl rfl ?_
      have c0 : ∀ o, o < 4 → wx.cell? ⟨w.heap.size + 1 + 1 + 1, o, none⟩ = some (.int .u64 (dg m o)) := hM.c3
      go_simp
      exact ⟨u11, u12, u21, u22, u23, u24, u25, u26, _, u28, g11, g12, F11, F12, rfl, hM, vX, hz, RI.keep (by decide) p0, RI.keep (by decide) p1, RI.keep (by decide) p2, RI.keep (by decide) p3, RI.keep (by decide) p4, RI.keep (by decide) p5, fun _ => rfl, RI.keep (by decide) p7, RI.keep (by decide) pa, RI.keep (by decide) pb, RI.keep (by decide) fun h8 => RI.keep (by decide) fun h9 => pab h8 h9, RI.keep (by decide) fun h => ⟨by simp [RI.don, (ps h).1], (ps h).2⟩, RI.keep (by decide) fun h => ⟨by simp [RI.don, (pt h).1], (pt h).2⟩⟩
    · have hd := hd _ rfl
      simp [Region.binds] at hd
      refine RI.wpOp_plain rfl rfl ?_
      obtain rfl := p3 (by simp [hd])
      obtain rfl := p4 (by simp [hd])
      obtain rfl := p5 (by simp [hd])
      obtain rfl := p6 (by simp [hd])
      go_simp
      refine (KM.out _).mono ?_
      rintro e w1 ⟨rfl, hb1⟩
      exact ⟨u11, u12, u21, u22, u23, _, _, _, _, _, g11, g12, F11, F12, rfl, S4_below hM hb1, Vb_below vX hb1, Nat.lt_of_lt_of_le hz hb1.size, RI.keep (by decide) p0, RI.keep (by decide) p1, RI.keep (by decide) p2, RI.keep (by decide) p3, RI.keep (by decide) p4, RI.keep (by decide) p5, RI.keep (by decide) p6, fun _ => rfl, RI.keep (by decide) (fun h => ⟨(pa h).1, Vb_below (pa h).2 hb1⟩), RI.keep (by decide) (fun h => ⟨(pb h).1, Vb_below (pb h).2 hb1⟩), RI.keep (by decide) fun h8 => RI.keep (by decide) fun h9 => pab h8 h9, RI.keep (by decide) fun h => ⟨by simp [RI.don, (ps h).1], (ps h).2⟩, RI.keep (by decide) fun h => ⟨by simp [RI.don, (pt h).1], (pt h).2⟩⟩
    · refine RI.wpOp_plain rfl rfl ?_
      go_simp
      exact ⟨_, u12, u21, u22, u23, u24, u25, u26, u27, u28, wx.heap.size, g12, dg 0, F12, rfl, S4_al hM _, Vb_al vX _, by simp; omega, RI.keep (by decide) p0, RI.keep (by decide) p1, RI.keep (by decide) p2, RI.keep (by decide) p3, RI.keep (by decide) p4, RI.keep (by decide) p5, RI.keep (by decide) p6, RI.keep (by decide) p7, fun _ => ⟨rfl, Vb_new0 _ wx _ hz⟩, RI.keep (by decide) fun h => ⟨(pb h).1, Vb_al (pb h).2 _⟩, fun _ => RI.keep (by decide) fun h9 => Nat.ne_of_gt (pb h9).2.hi, RI.keep (by decide) fun h => absurd (ps h).1 (by simp [hn]), RI.keep (by decide) fun h => ⟨by simp [RI.don, (pt h).1], (pt h).2⟩⟩
    · refine RI.wpOp_plain rfl rfl ?_
      go_simp
      exact ⟨u11, _, u21, u22, u23, u24, u25, u26, u27, u28, g11, wx.heap.size, F11, dg 0, rfl, S4_al hM _, Vb_al vX _, by simp; omega, RI.keep (by decide) p0, RI.keep (by decide) p1, RI.keep (by decide) p2, RI.keep (by decide) p3, RI.keep (by decide) p4, RI.keep (by decide) p5, RI.keep (by decide) p6, RI.keep (by decide) p7, RI.keep (by decide) fun h => ⟨(pa h).1, Vb_al (pa h).2 _⟩, fun _ => ⟨rfl, Vb_new0 _ wx _ hz⟩, RI.keep (by decide) fun h8 _ => Nat.ne_of_lt (pa h8).2.hi, RI.keep (by decide) fun h => ⟨by simp [RI.don, (ps h).1], (ps h).2⟩, RI.keep (by decide) fun h => absurd (pt h).1 (by simp [hn])⟩
    · have hd := hd _ rfl
      simp [Region.binds] at hd
      refine RI.wpOp_plain rfl rfl ?_
      obtain ⟨rfl, v7⟩ := pa (by simp [hd])
      obtain ⟨rfl, v8⟩ := pb (by simp [hd])
      obtain rfl := p0 (by simp [hd])
      obtain rfl := p1 (by simp [hd])
      obtain rfl := p2 (by simp [hd])
      obtain rfl := p3 (by simp [hd])
      obtain rfl := p7 (by simp [hd])
      have hne := pab (by simp [hd]) (by simp [hd])
      have c0 : ∀ o, o < 4 → wx.cell? ⟨g11, o, none⟩ = some (.int .u64 (F11 o)) := v7.c
      have f0 : ∀ o, wx.frozen? ⟨g11, o, none⟩ = false := v7.f
      have lo := v7.lo
      unfold Wd
      go_simp
      exact ⟨_, _, _, _, _, _, _, _, _, _, g11, g12, dg S, F12, rfl, S4_o4 hM (by omega), Vb_o4 vX (by omega), by simpa using hz, RI.keep (by decide) p0, RI.keep (by decide) p1, RI.keep (by decide) p2, RI.keep (by decide) p3, RI.keep (by decide) p4, RI.keep (by decide) p5, RI.keep (by decide) p6, RI.keep (by decide) p7, fun _ => ⟨rfl, Vb_set4 v7⟩, fun _ => ⟨rfl, Vb_o4 v8 hne⟩, fun _ _ => hne, fun _ => ⟨by simp [RI.don, hd], rfl⟩, RI.keep (by decide) fun h => ⟨by simp [RI.don, (pt h).1], (pt h).2⟩⟩
    · have hd := hd _ rfl
      simp [Region.binds] at hd
      refine RI.wpOp_plain rfl rfl ?_
      obtain ⟨rfl, v7⟩ := pa (by simp [hd])
      obtain ⟨rfl, v8⟩ := pb (by simp [hd])
      obtain rfl := p0 (by simp [hd])
      obtain rfl := p1 (by simp [hd])
      obtain rfl := p2 (by simp [hd])
      obtain rfl := p3 (by simp [hd])
      obtain rfl := p4 (by simp [hd])
      obtain rfl := p5 (by simp [hd])
      obtain rfl := p6 (by simp [hd])
      obtain rfl := p7 (by simp [hd])
      have hne := pab (by simp [hd]) (by simp [hd])
      have c0 : ∀ o, o < 4 → wx.cell? ⟨g12, o, none⟩ = some (.int .u64 (F12 o)) := v8.c
      have f0 : ∀ o, wx.frozen? ⟨g12, o, none⟩ = false := v8.f
      have lo := v8.lo
      unfold Wd
      go_simp
      exact ⟨_, _, _, _, _, _, _, _, _, _, g11, g12, F11, dg P, rfl, S4_o4 hM (by omega), Vb_o4 vX (by omega), by simpa using hz, RI.keep (by decide) p0, RI.keep (by decide) p1, RI.keep (by decide) p2, RI.keep (by decide) p3, RI.keep (by decide) p4, RI.keep (by decide) p5, RI.keep (by decide) p6, RI.keep (by decide) p7, fun _ => ⟨rfl, Vb_o4 v7 (Ne.symm hne)⟩, fun _ => ⟨rfl, Vb_set4 v8⟩, fun _ _ => hne, RI.keep (by decide) fun h => ⟨by simp [RI.don, (ps h).1], (ps h).2⟩, fun _ => ⟨by simp [RI.don, hd], rfl⟩⟩
  · clear k vX hz
    intro d x wx hI hd
    obtain ⟨u11, u12, u21, u22, u23, u24, u25, u26, u27, u28, g11, g12, F11, F12, rfl, hM, vX, hz, p0, p1, p2, p3, p4, p5, p6, p7, pa, pb, pab, ps, pt⟩ := hI
    obtain ⟨rfl, vS⟩ := pa (hd 8 (by decide))
    obtain ⟨rfl, vP⟩ := pb (hd 9 (by decide))
    obtain rfl := (ps (hd 10 (by decide))).2
    obtain rfl := (pt (hd 11 (by decide))).2
    clear p0 p1 p2 p3 p4 p5 p6 p7 pa pb pab ps pt hd
    have vS' : Vb w.heap.size g11 4 (dg S) wx := ⟨by have := vS.lo; omega, vS.hi, vS.c, vS.f⟩
    have vP' : Vb w.heap.size g12 4 (dg P) wx := ⟨by have := vP.lo; omega, vP.hi, vP.c, vP.f⟩
    clear vS vP hz KA KM
    have q1 := eq_guard2
    have eS : ∀ w, (binOp .eql 24 (.agg #[.int .u64 (dg S 0), .int .u64 (dg S 1), .int .u64 (dg S 2), .int .u64 (dg S 3)]) (Wd S)).run Try.prog w = .ok (.bool true) w := fun w => eq_self S w
    have qS : ∀ op x y w, (eqGuard op 24 x y (.agg #[.int .u64 (dg S 0), .int .u64 (dg S 1), .int .u64 (dg S 2), .int .u64 (dg S 3)]) (Wd S)).run Try.prog w = .ok () w := fun op x y w => eq_guard op x y S S w
    have eP : ∀ w, (binOp .eql 24 (.agg #[.int .u64 (dg P 0), .int .u64 (dg P 1), .int .u64 (dg P 2), .int .u64 (dg P 3)]) (Wd P)).run Try.prog w = .ok (.bool true) w := fun w => eq_self P w
    have qP : ∀ op x y w, (eqGuard op 24 x y (.agg #[.int .u64 (dg P 0), .int .u64 (dg P 1), .int .u64 (dg P 2), .int .u64 (dg P 3)]) (Wd P)).run Try.prog w = .ok () w := fun op x y w => eq_guard op x y P P w
    have eY := eq_self Y
    have qY := fun op x y => eq_guard op x y Y Y
    have eZ := eq_self Z
    have qZ := fun op x y => eq_guard op x y Z Z
    by_cases h0 : m = 0
    · have q2 : ∀ w, (binOp .neq 24 (.agg #[.int .u64 (dg m 0), .int .u64 (dg m 1), .int .u64 (dg m 2), .int .u64 (dg m 3)]) (.agg #[.int .u64 0, .int .u64 0, .int .u64 0, .int .u64 0])).run Try.prog w = .ok (.bool false) w := fun w => by rw [h0]; exact neq_of_eql (eq_nil0 w)
      have c3 : ∀ o, o < 4 → wx.cell? ⟨w.heap.size + 1 + 1 + 1, o, none⟩ = some (.int .u64 (dg m o)) := hM.c3
      clear h0
      go_upto_region 7 with fail
      clear c3 q2 J1 J2 J3
      have k7 : K7 w a b c m X S P g9 g11 g12 wx := ⟨hM, vX, vS', vP'⟩
      clear hM vX vS' vP'
      replace k7 := K7_drew k7
      go_region_held3 (fun w' => (∀ o, o < 4 → w'.cell? ⟨w.heap.size, o, none⟩ = some (.int .u64 (dg a o))) ∧ (∀ o, o < 4 → w'.cell? ⟨w.heap.size + 1, o, none⟩ = some (.int .u64 (dg b o))) ∧ (∀ o, o < 4 → w'.cell? ⟨w.heap.size + 1 + 1, o, none⟩ = some (.int .u64 (dg c o))) ∧ (∀ o, o < 4 → w'.cell? ⟨w.heap.size + 1 + 1 + 1, o, none⟩ = some (.int .u64 (dg m o))) ∧ (∀ o, o < 4 → w'.cell? ⟨g9 + 1, o, none⟩ = some (.int .u64 (dg X o))) ∧ (∀ o, o < 4 → w'.cell? ⟨g11, o, none⟩ = some (.int .u64 (dg S o))) ∧ (∀ o, o < 4 → w'.cell? ⟨g12, o, none⟩ = some (.int .u64 (dg P o)))) (exact ⟨k7.s.c0, k7.s.c1, k7.s.c2, k7.s.c3, k7.x.c, k7.y.c, k7.z.c⟩) (first | (go_at_call_of 9 (#[(.agg #[.int .u64 (dg X 0), .int .u64 (dg X 1), .int .u64 (dg X 2), .int .u64 (dg X 3)] : Value), .agg #[.int .u64 (dg b 0), .int .u64 (dg b 1), .int .u64 (dg b 2), .int .u64 (dg b 3)], .agg #[.int .u64 (dg m 0), .int .u64 (dg m 1), .int .u64 (dg m 2), .int .u64 (dg m 3)]] : Array Value); refine (T1.out _).mono ?_; rintro e w1 ⟨rfl, hb1⟩; replace k7 := K7_below k7 hb1; clear hb1) | (go_at_call_of 11 (#[(.agg #[.int .u64 (dg X 0), .int .u64 (dg X 1), .int .u64 (dg X 2), .int .u64 (dg X 3)] : Value), .agg #[.int .u64 (dg b 0), .int .u64 (dg b 1), .int .u64 (dg b 2), .int .u64 (dg b 3)], .agg #[.int .u64 (dg m 0), .int .u64 (dg m 1), .int .u64 (dg m 2), .int .u64 (dg m 3)]] : Array Value); refine (T2.out _).mono ?_; rintro e w1 ⟨rfl, hb1⟩; replace k7 := K7_below k7 hb1; clear hb1) | (go_at_call_of 11 (#[(.agg #[.int .u64 (dg b 0), .int .u64 (dg b 1), .int .u64 (dg b 2), .int .u64 (dg b 3)] : Value), .agg #[.int .u64 (dg a 0), .int .u64 (dg a 1), .int .u64 (dg a 2), .int .u64 (dg a 3)], .agg #[.int .u64 (dg m 0), .int .u64 (dg m 1), .int .u64 (dg m 2), .int .u64 (dg m 3)]] : Array Value); refine (T3.out _).mono ?_; rintro e w1 ⟨rfl, hb1⟩; replace k7 := K7_below k7 hb1; clear hb1) | (go_at_call_of 11 (#[(.agg #[.int .u64 (dg c 0), .int .u64 (dg c 1), .int .u64 (dg c 2), .int .u64 (dg c 3)] : Value), .agg #[.int .u64 (dg S 0), .int .u64 (dg S 1), .int .u64 (dg S 2), .int .u64 (dg S 3)], .agg #[.int .u64 (dg m 0), .int .u64 (dg m 1), .int .u64 (dg m 2), .int .u64 (dg m 3)]] : Array Value); refine (T4.out _).mono ?_; rintro e w1 ⟨rfl, hb1⟩; replace k7 := K7_below k7 hb1; clear hb1) | (go_at_call_of 11 (#[(.agg #[.int .u64 (dg c 0), .int .u64 (dg c 1), .int .u64 (dg c 2), .int .u64 (dg c 3)] : Value), .agg #[.int .u64 (dg a 0), .int .u64 (dg a 1), .int .u64 (dg a 2), .int .u64 (dg a 3)], .agg #[.int .u64 (dg m 0), .int .u64 (dg m 1), .int .u64 (dg m 2), .int .u64 (dg m 3)]] : Array Value); refine (T5.out _).mono ?_; rintro e w1 ⟨rfl, hb1⟩; replace k7 := K7_below k7 hb1; clear hb1) | (go_at_call_of 11 (#[(.agg #[.int .u64 (dg c 0), .int .u64 (dg c 1), .int .u64 (dg c 2), .int .u64 (dg c 3)] : Value), .agg #[.int .u64 (dg b 0), .int .u64 (dg b 1), .int .u64 (dg b 2), .int .u64 (dg b 3)], .agg #[.int .u64 (dg m 0), .int .u64 (dg m 1), .int .u64 (dg m 2), .int .u64 (dg m 3)]] : Array Value); refine (T6.out _).mono ?_; rintro e w1 ⟨rfl, hb1⟩; replace k7 := K7_below k7 hb1; clear hb1) | (go_at_call_of 9 (#[(Wd U1 : Value), Wd U2, .agg #[.int .u64 (dg m 0), .int .u64 (dg m 1), .int .u64 (dg m 2), .int .u64 (dg m 3)]] : Array Value); refine (T7.out _).mono ?_; rintro e w1 ⟨rfl, hb1⟩; replace k7 := K7_below k7 hb1; clear hb1) | (go_at_call_of 11 (#[(.agg #[.int .u64 (dg P 0), .int .u64 (dg P 1), .int .u64 (dg P 2), .int .u64 (dg P 3)] : Value), .agg #[.int .u64 (dg c 0), .int .u64 (dg c 1), .int .u64 (dg c 2), .int .u64 (dg c 3)], .agg #[.int .u64 (dg m 0), .int .u64 (dg m 1), .int .u64 (dg m 2), .int .u64 (dg m 3)]] : Array Value); refine (T8.out _).mono ?_; rintro e w1 ⟨rfl, hb1⟩; replace k7 := K7_below k7 hb1; clear hb1) | (go_at_call_of 11 (#[(.agg #[.int .u64 (dg b 0), .int .u64 (dg b 1), .int .u64 (dg b 2), .int .u64 (dg b 3)] : Value), .agg #[.int .u64 (dg c 0), .int .u64 (dg c 1), .int .u64 (dg c 2), .int .u64 (dg c 3)], .agg #[.int .u64 (dg m 0), .int .u64 (dg m 1), .int .u64 (dg m 2), .int .u64 (dg m 3)]] : Array Value); refine (T9.out _).mono ?_; rintro e w1 ⟨rfl, hb1⟩; replace k7 := K7_below k7 hb1; clear hb1) | (go_at_call_of 11 (#[(.agg #[.int .u64 (dg a 0), .int .u64 (dg a 1), .int .u64 (dg a 2), .int .u64 (dg a 3)] : Value), Wd U3, .agg #[.int .u64 (dg m 0), .int .u64 (dg m 1), .int .u64 (dg m 2), .int .u64 (dg m 3)]] : Array Value); refine (T10.out _).mono ?_; rintro e w1 ⟨rfl, hb1⟩; replace k7 := K7_below k7 hb1; clear hb1))
      all_goals
        go_wp2_with fail
        go_ret
        exact ⟨rfl, k7.s.bel⟩
    · have q2 := fun w => neq_of_eql (eq_no m HM.out h0 w)
      obtain ⟨j1, j2⟩ := J3.out h0
      rw [j1] at J1
      rw [j2] at J2
      clear J3 j1 j2 h0
      have c3 : ∀ o, o < 4 → wx.cell? ⟨w.heap.size + 1 + 1 + 1, o, none⟩ = some (.int .u64 (dg m o)) := hM.c3
      have c4 : ∀ o, o < 4 → wx.cell? ⟨g11, o, none⟩ = some (.int .u64 (dg S o)) := vS'.c
      go_wp2_with fail
      refine (J1.out _).mono ?_
      rintro e1 w5 ⟨rfl, hb5⟩
      replace hM := S4_below hM hb5
      replace vX := Vb_below vX hb5
      replace vS' := Vb_below vS' hb5
      replace vP' := Vb_below vP' hb5
      clear hb5 c3 c4
      have c3 : ∀ o, o < 4 → w5.cell? ⟨w.heap.size + 1 + 1 + 1, o, none⟩ = some (.int .u64 (dg m o)) := hM.c3
      have c4 : ∀ o, o < 4 → w5.cell? ⟨g12, o, none⟩ = some (.int .u64 (dg P o)) := vP'.c
      go_wp2_with fail
      refine (J2.out _).mono ?_
      rintro e1 w6 ⟨rfl, hb6⟩
      replace hM := S4_below hM hb6
      replace vX := Vb_below vX hb6
      replace vS' := Vb_below vS' hb6
      replace vP' := Vb_below vP' hb6
      clear hb6 c3 c4 q2 J1 J2
      go_upto_region 7 with fail
      have k7 : K7 w a b c m X S P g9 g11 g12 w6 := ⟨hM, vX, vS', vP'⟩
      clear hM vX vS' vP'
      replace k7 := K7_drew k7
      go_region_held3 (fun w' => (∀ o, o < 4 → w'.cell? ⟨w.heap.size, o, none⟩ = some (.int .u64 (dg a o))) ∧ (∀ o, o < 4 → w'.cell? ⟨w.heap.size + 1, o, none⟩ = some (.int .u64 (dg b o))) ∧ (∀ o, o < 4 → w'.cell? ⟨w.heap.size + 1 + 1, o, none⟩ = some (.int .u64 (dg c o))) ∧ (∀ o, o < 4 → w'.cell? ⟨w.heap.size + 1 + 1 + 1, o, none⟩ = some (.int .u64 (dg m o))) ∧ (∀ o, o < 4 → w'.cell? ⟨g9 + 1, o, none⟩ = some (.int .u64 (dg X o))) ∧ (∀ o, o < 4 → w'.cell? ⟨g11, o, none⟩ = some (.int .u64 (dg S o))) ∧ (∀ o, o < 4 → w'.cell? ⟨g12, o, none⟩ = some (.int .u64 (dg P o)))) (exact ⟨k7.s.c0, k7.s.c1, k7.s.c2, k7.s.c3, k7.x.c, k7.y.c, k7.z.c⟩) (first | (go_at_call_of 9 (#[(.agg #[.int .u64 (dg X 0), .int .u64 (dg X 1), .int .u64 (dg X 2), .int .u64 (dg X 3)] : Value), .agg #[.int .u64 (dg b 0), .int .u64 (dg b 1), .int .u64 (dg b 2), .int .u64 (dg b 3)], .agg #[.int .u64 (dg m 0), .int .u64 (dg m 1), .int .u64 (dg m 2), .int .u64 (dg m 3)]] : Array Value); refine (T1.out _).mono ?_; rintro e w1 ⟨rfl, hb1⟩; replace k7 := K7_below k7 hb1; clear hb1) | (go_at_call_of 11 (#[(.agg #[.int .u64 (dg X 0), .int .u64 (dg X 1), .int .u64 (dg X 2), .int .u64 (dg X 3)] : Value), .agg #[.int .u64 (dg b 0), .int .u64 (dg b 1), .int .u64 (dg b 2), .int .u64 (dg b 3)], .agg #[.int .u64 (dg m 0), .int .u64 (dg m 1), .int .u64 (dg m 2), .int .u64 (dg m 3)]] : Array Value); refine (T2.out _).mono ?_; rintro e w1 ⟨rfl, hb1⟩; replace k7 := K7_below k7 hb1; clear hb1) | (go_at_call_of 11 (#[(.agg #[.int .u64 (dg b 0), .int .u64 (dg b 1), .int .u64 (dg b 2), .int .u64 (dg b 3)] : Value), .agg #[.int .u64 (dg a 0), .int .u64 (dg a 1), .int .u64 (dg a 2), .int .u64 (dg a 3)], .agg #[.int .u64 (dg m 0), .int .u64 (dg m 1), .int .u64 (dg m 2), .int .u64 (dg m 3)]] : Array Value); refine (T3.out _).mono ?_; rintro e w1 ⟨rfl, hb1⟩; replace k7 := K7_below k7 hb1; clear hb1) | (go_at_call_of 11 (#[(.agg #[.int .u64 (dg c 0), .int .u64 (dg c 1), .int .u64 (dg c 2), .int .u64 (dg c 3)] : Value), .agg #[.int .u64 (dg S 0), .int .u64 (dg S 1), .int .u64 (dg S 2), .int .u64 (dg S 3)], .agg #[.int .u64 (dg m 0), .int .u64 (dg m 1), .int .u64 (dg m 2), .int .u64 (dg m 3)]] : Array Value); refine (T4.out _).mono ?_; rintro e w1 ⟨rfl, hb1⟩; replace k7 := K7_below k7 hb1; clear hb1) | (go_at_call_of 11 (#[(.agg #[.int .u64 (dg c 0), .int .u64 (dg c 1), .int .u64 (dg c 2), .int .u64 (dg c 3)] : Value), .agg #[.int .u64 (dg a 0), .int .u64 (dg a 1), .int .u64 (dg a 2), .int .u64 (dg a 3)], .agg #[.int .u64 (dg m 0), .int .u64 (dg m 1), .int .u64 (dg m 2), .int .u64 (dg m 3)]] : Array Value); refine (T5.out _).mono ?_; rintro e w1 ⟨rfl, hb1⟩; replace k7 := K7_below k7 hb1; clear hb1) | (go_at_call_of 11 (#[(.agg #[.int .u64 (dg c 0), .int .u64 (dg c 1), .int .u64 (dg c 2), .int .u64 (dg c 3)] : Value), .agg #[.int .u64 (dg b 0), .int .u64 (dg b 1), .int .u64 (dg b 2), .int .u64 (dg b 3)], .agg #[.int .u64 (dg m 0), .int .u64 (dg m 1), .int .u64 (dg m 2), .int .u64 (dg m 3)]] : Array Value); refine (T6.out _).mono ?_; rintro e w1 ⟨rfl, hb1⟩; replace k7 := K7_below k7 hb1; clear hb1) | (go_at_call_of 9 (#[(Wd U1 : Value), Wd U2, .agg #[.int .u64 (dg m 0), .int .u64 (dg m 1), .int .u64 (dg m 2), .int .u64 (dg m 3)]] : Array Value); refine (T7.out _).mono ?_; rintro e w1 ⟨rfl, hb1⟩; replace k7 := K7_below k7 hb1; clear hb1) | (go_at_call_of 11 (#[(.agg #[.int .u64 (dg P 0), .int .u64 (dg P 1), .int .u64 (dg P 2), .int .u64 (dg P 3)] : Value), .agg #[.int .u64 (dg c 0), .int .u64 (dg c 1), .int .u64 (dg c 2), .int .u64 (dg c 3)], .agg #[.int .u64 (dg m 0), .int .u64 (dg m 1), .int .u64 (dg m 2), .int .u64 (dg m 3)]] : Array Value); refine (T8.out _).mono ?_; rintro e w1 ⟨rfl, hb1⟩; replace k7 := K7_below k7 hb1; clear hb1) | (go_at_call_of 11 (#[(.agg #[.int .u64 (dg b 0), .int .u64 (dg b 1), .int .u64 (dg b 2), .int .u64 (dg b 3)] : Value), .agg #[.int .u64 (dg c 0), .int .u64 (dg c 1), .int .u64 (dg c 2), .int .u64 (dg c 3)], .agg #[.int .u64 (dg m 0), .int .u64 (dg m 1), .int .u64 (dg m 2), .int .u64 (dg m 3)]] : Array Value); refine (T9.out _).mono ?_; rintro e w1 ⟨rfl, hb1⟩; replace k7 := K7_below k7 hb1; clear hb1) | (go_at_call_of 11 (#[(.agg #[.int .u64 (dg a 0), .int .u64 (dg a 1), .int .u64 (dg a 2), .int .u64 (dg a 3)] : Value), Wd U3, .agg #[.int .u64 (dg m 0), .int .u64 (dg m 1), .int .u64 (dg m 2), .int .u64 (dg m 3)]] : Array Value); refine (T10.out _).mono ?_; rintro e w1 ⟨rfl, hb1⟩; replace k7 := K7_below k7 hb1; clear hb1))
      all_goals
        go_wp2_with fail
        go_ret
        exact ⟨rfl, k7.s.bel⟩
end Go.Proofs.Ytcoljaogemgnnaa
