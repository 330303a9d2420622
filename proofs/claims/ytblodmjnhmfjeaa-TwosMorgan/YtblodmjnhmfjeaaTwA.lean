/- twos.Neg, belowNought, size and the reference's TNeg, TBelow: words with a sign. -/
import Derived.Test.YtblodmjnhmfjeaaLawKit
import Derived.Test.YtblodmjnhmfjeaaWSub
import Derived.Test.YtblodmjnhmfjeaaWBit
import Derived.Test.YtblodmjnhmfjeaaSub
import Derived.Test.YtblodmjnhmfjeaaDivMod
import Derived.Test.YtblodmjnhmfjeaaRegInv
namespace Go.Proofs.Ytblodmjnhmfjeaa
open Go.RowKit Go.Shelf
theorem T_two {d : Nat → Bool} {i j k : Nat} {p : Prop} (hj : j ≠ i) (hk : k ≠ i) (h : d j = true → d k = true → p) : RI.don d i j = true → RI.don d i k = true → p := by
  rw [RI.don_other _ _ _ hj, RI.don_other _ _ _ hk]; exact h
theorem T_on {d : Nat → Bool} {i j k : Nat} {p : Prop} (hj : j ≠ i) (hk : k ≠ i) (h : d j = true → d k = true ∧ p) : RI.don d i j = true → RI.don d i k = true ∧ p := by
  rw [RI.don_other _ _ _ hj, RI.don_other _ _ _ hk]; exact h
theorem T_no {d : Nat → Bool} {i j : Nat} {p q : Prop} (hj : j ≠ i) (hf : d i = false) (h : d j = true → d i = true ∧ p) : RI.don d i j = true → q := by
  rw [RI.don_other _ _ _ hj]; intro k; have := (h k).1; rw [hf] at this; exact absurd this (by decide)
/-- 2^256 less a, rest 2^256. -/
def ng (a : Nat) : Nat := (2 ^ 256 - a) % 2 ^ 256
/-- Whether a word is below nought. -/
def sg (a : Nat) : Bool := decide (2 ^ 255 ≤ a)
/-- A word without its sign. -/
def sz (a : Nat) : Nat := if sg a = true then ng a else a
theorem ng_lt (a : Nat) : ng a < 2 ^ 256 := Nat.mod_lt _ (by decide)
theorem sz_lt (a : Nat) (h : a < 2 ^ 256) : sz a < 2 ^ 256 := by
  unfold sz
  split
  · exact ng_lt a
  · exact h
theorem ng_sub (a : Nat) : Wd (0 + 2 ^ 256 - a) = Wd (ng a) := by rw [Nat.zero_add, ← Wd_mod (2 ^ 256 - a)]; rfl
theorem sg_dg (a : Nat) (ha : a < 2 ^ 256) : decide ((9223372036854775808 : Int) ≤ dg a 3) = sg a := by
  unfold dg sg
  rw [decide_eq_decide]
  omega
theorem sg_wb (a : Nat) (ha : a < 2 ^ 256) : wb a 255 = sg a := by
  unfold wb sg
  rw [decide_eq_decide]
  omega
/-- Two words in a row: one handed in, one that goes out. -/
structure M2 (w : World) (x0 x1 : Nat) (wx : World) : Prop where
  v0 : Vb w.heap.size w.heap.size 4 (dg x0) wx
  v1 : Vb w.heap.size (w.heap.size + 1) 4 (dg x1) wx
  bel : Below w.heap.size w wx
theorem M2_below {w : World} {x0 x1 : Nat} {w1 w2 : World} (h : M2 w x0 x1 w1) (k : Below w1.heap.size w1 w2) : M2 w x0 x1 w2 := ⟨Vb_below h.v0 k, Vb_below h.v1 k, h.bel.trans (k.mono (Nat.le_of_lt h.v0.hi))⟩
theorem M2_drew {w : World} {x0 x1 : Nat} {w1 : World} (h : M2 w x0 x1 w1) : M2 w x0 x1 w1.drew := M2_below h (Below.refl _ _).drew
theorem M2_start (w : World) (a : Nat) : M2 w a 0 ((w.alloc (.cells #[.int .u64 (dg a 0), .int .u64 (dg a 1), .int .u64 (dg a 2), .int .u64 (dg a 3)] 24)).alloc (.cells #[.int .u64 0, .int .u64 0, .int .u64 0, .int .u64 0] 24)) := by
  have e1 : ∀ o, (w.alloc o).heap.size = w.heap.size + 1 := fun o => by simp
  refine ⟨Vb_al (Vb_new4 _ a w _ (Nat.le_refl _)) _, ?_, ((Below.refl _ _).alloc (Nat.le_refl _) _).alloc (by simp) _⟩
  have k := Vb_new0 w.heap.size (w.alloc (.cells #[.int .u64 (dg a 0), .int .u64 (dg a 1), .int .u64 (dg a 2), .int .u64 (dg a 3)] 24)) 24 (by simp)
  rw [e1] at k; exact k
theorem M2_set1 {w : World} {x0 x1 m : Nat} {w1 : World} (h : M2 w x0 x1 w1) : M2 w x0 m ((((w1.setCell ⟨w.heap.size + 1, 0, none⟩ (.int .u64 (dg m 0))).setCell ⟨w.heap.size + 1, 1, none⟩ (.int .u64 (dg m 1))).setCell ⟨w.heap.size + 1, 2, none⟩ (.int .u64 (dg m 2))).setCell ⟨w.heap.size + 1, 3, none⟩ (.int .u64 (dg m 3))) := ⟨Vb_o4 h.v0 (by omega), Vb_set4 h.v1, Bel_set4 h.bel (by omega)⟩
theorem resultTw (f : Func) (tm : Array Value) (W : World) (g y s : Nat) (hf : f.results = #[.cell s 24]) (h : tm.getD s undef = .pointer (some ⟨g, 0, none⟩)) (c : CF g 4 (dg y) W) : (results f tm).run Try.prog W = .ok (Wd y) W := by
  have c2 : ∀ o, o < 4 → W.cell? ⟨g, o, none⟩ = some (.int .u64 (dg y o)) := c
  simp at h
  simp [Wd, results, hf, go_sem, h, c2]
theorem neg_any (a : Nat) (ha : a < 2 ^ 256) (w : World) :
    Calls Try.prog 17 #[Wd a] w fun e w' => e = .returned (Wd (ng a)) ∧ Below w.heap.size w w' := by
  have K : Hid (∀ w : World, Calls Try.prog 24 #[Wd 0, Wd a] w fun e w' => e = .returned (Wd (ng a)) ∧ Below w.heap.size w w') := fun w => by
    have k := sub_any 0 a ha w
    rw [ng_sub] at k
    exact k
  rw [wd_zero] at K
  clear ha
  generalize ng a = n at *
  have m0 := M2_start w a
  conv => arg 3; unfold Wd
  go_enter Try.func17, Try.ntmps17
  go_wp2_with fail
  generalize (w.alloc (.cells #[.int .u64 (dg a 0), .int .u64 (dg a 1), .int .u64 (dg a 2), .int .u64 (dg a 3)] 24)).alloc (.cells #[.int .u64 0, .int .u64 0, .int .u64 0, .int .u64 0] 24) = W0 at m0 ⊢
  refine (K.out _).mono ?_
  rintro e w1 ⟨rfl, hb⟩
  have HM : Hid (M2 w a 0 w1) := M2_below m0 hb
  clear hb m0
  have c1 : ∀ o, o < 4 → w1.cell? ⟨w.heap.size + 1, o, none⟩ = some (.int .u64 (dg 0 o)) := HM.out.v1.c
  have f1 : ∀ o, w1.frozen? ⟨w.heap.size + 1, o, none⟩ = false := HM.out.v1.f
  have z1 := HM.out.v1.hi
  unfold Wd
  go_wp2_with fail
  have m1 := M2_set1 (m := n) HM.out
  exact bodyPost_ret (v := Wd n) (resultTw _ _ _ (w.heap.size + 1) n 2 rfl rfl m1.v1.c) rfl ⟨rfl, m1.bel⟩
theorem below_any (a : Nat) (ha : a < 2 ^ 256) (w : World) :
    Calls Try.prog 44 #[Wd a] w fun e w' => e = .returned (.bool (sg a)) ∧ Below w.heap.size w w' := by
  have r1 := sg_dg a ha
  clear ha
  generalize sg a = t at *
  conv => arg 3; unfold Wd
  go_enter Try.func44, Try.ntmps44
  go_wp2_with fail
  go_ret
  exact ⟨rfl, (Below.refl _ _).alloc (Nat.le_refl _) _⟩
theorem size_any (a : Nat) (ha : a < 2 ^ 256) (w : World) :
    Calls Try.prog 46 #[Wd a] w fun e w' => e = .returned (Wd (sz a)) ∧ Below w.heap.size w w' := by
  have K : Hid (∀ w : World, Calls Try.prog 44 #[Wd a] w fun e w' => e = .returned (.bool (sg a)) ∧ Below w.heap.size w w') := fun w => below_any a ha w
  have N : Hid (∀ w : World, Calls Try.prog 17 #[Wd a] w fun e w' => e = .returned (Wd (ng a)) ∧ Below w.heap.size w w') := fun w => neg_any a ha w
  have m0 := M2_start w a
  unfold sz
  clear ha
  conv => arg 3; unfold Wd
  generalize ng a = n at *
  generalize sg a = t at *
  cases t
  · rw [if_neg (by decide)]
    go_enter Try.func46, Try.ntmps46
    go_wp2_with fail
    generalize (w.alloc (.cells #[.int .u64 (dg a 0), .int .u64 (dg a 1), .int .u64 (dg a 2), .int .u64 (dg a 3)] 24)).alloc (.cells #[.int .u64 0, .int .u64 0, .int .u64 0, .int .u64 0] 24) = W0 at m0 ⊢
    refine (K.out _).mono ?_
    rintro e w1 ⟨rfl, hb⟩
    have HM : Hid (M2 w a 0 w1) := M2_below m0 hb
    clear hb m0
    have c0 : ∀ o, o < 4 → w1.cell? ⟨w.heap.size, o, none⟩ = some (.int .u64 (dg a o)) := HM.out.v0.c
    have c1 : ∀ o, o < 4 → w1.cell? ⟨w.heap.size + 1, o, none⟩ = some (.int .u64 (dg 0 o)) := HM.out.v1.c
    have f1 : ∀ o, w1.frozen? ⟨w.heap.size + 1, o, none⟩ = false := HM.out.v1.f
    have z1 := HM.out.v1.hi
    have z0 := HM.out.v0.hi
    go_wp2_with fail
    have m1 := M2_set1 (m := a) HM.out
    exact bodyPost_ret (v := Wd a) (resultTw _ _ _ (w.heap.size + 1) a 2 rfl rfl m1.v1.c) rfl ⟨rfl, m1.bel⟩
  · rw [if_pos rfl]
    go_enter Try.func46, Try.ntmps46
    go_wp2_with fail
    generalize (w.alloc (.cells #[.int .u64 (dg a 0), .int .u64 (dg a 1), .int .u64 (dg a 2), .int .u64 (dg a 3)] 24)).alloc (.cells #[.int .u64 0, .int .u64 0, .int .u64 0, .int .u64 0] 24) = W0 at m0 ⊢
    refine (K.out _).mono ?_
    rintro e w1 ⟨rfl, hb⟩
    replace m0 := M2_below m0 hb
    have c0 : ∀ o, o < 4 → w1.cell? ⟨w.heap.size, o, none⟩ = some (.int .u64 (dg a o)) := m0.v0.c
    clear hb
    go_wp2_with fail
    refine (N.out _).mono ?_
    rintro e w2 ⟨rfl, hb⟩
    have HM : Hid (M2 w a 0 w2) := M2_below m0 hb
    clear hb m0 c0
    have c1 : ∀ o, o < 4 → w2.cell? ⟨w.heap.size + 1, o, none⟩ = some (.int .u64 (dg 0 o)) := HM.out.v1.c
    have f1 : ∀ o, w2.frozen? ⟨w.heap.size + 1, o, none⟩ = false := HM.out.v1.f
    have z1 := HM.out.v1.hi
    unfold Wd
    go_wp2_with fail
    have m1 := M2_set1 (m := n) HM.out
    exact bodyPost_ret (v := Wd n) (resultTw _ _ _ (w.heap.size + 1) n 2 rfl rfl m1.v1.c) rfl ⟨rfl, m1.bel⟩
end Go.Proofs.Ytblodmjnhmfjeaa
