/- twos.And, Or, Xor, Not: the bits of words. -/
import Derived.Test.YtblodmjnhmfjeaaTwB
import Derived.Laws.BitsAllLaws
namespace Go.Proofs.Ytblodmjnhmfjeaa
open Go.RowKit Go.Shelf
/-- The bits that a word has not. -/
def nt (a : Nat) : Nat := 2 ^ 256 - 1 - a % 2 ^ 256
theorem nt_lt (a : Nat) : nt a < 2 ^ 256 := by unfold nt; omega
theorem dg_and (a b o : Nat) : bits .and .u64 (dg a o) (dg b o) = dg (a &&& b) o := by
  unfold dg
  rw [u64_and_nat _ _ (Nat.mod_lt _ (by decide)) (Nat.mod_lt _ (by decide))]
  congr 1
  rw [show (18446744073709551616 : Nat) = 2 ^ 64 from rfl, ← Nat.and_mod_two_pow, ← Nat.shiftRight_eq_div_pow, ← Nat.shiftRight_eq_div_pow, ← Nat.shiftRight_eq_div_pow, Nat.shiftRight_and_distrib]
theorem dg_or (a b o : Nat) : bits .or .u64 (dg a o) (dg b o) = dg (a ||| b) o := by
  unfold dg
  rw [u64_or_nat _ _ (Nat.mod_lt _ (by decide)) (Nat.mod_lt _ (by decide))]
  congr 1
  rw [show (18446744073709551616 : Nat) = 2 ^ 64 from rfl, ← Nat.or_mod_two_pow, ← Nat.shiftRight_eq_div_pow, ← Nat.shiftRight_eq_div_pow, ← Nat.shiftRight_eq_div_pow, Nat.shiftRight_or_distrib]
theorem dg_xor (a b o : Nat) : bits .xor .u64 (dg a o) (dg b o) = dg (a ^^^ b) o := by
  unfold dg
  rw [u64_xor_nat _ _ (Nat.mod_lt _ (by decide)) (Nat.mod_lt _ (by decide))]
  congr 1
  rw [show (18446744073709551616 : Nat) = 2 ^ 64 from rfl, ← Nat.xor_mod_two_pow, ← Nat.shiftRight_eq_div_pow, ← Nat.shiftRight_eq_div_pow, ← Nat.shiftRight_eq_div_pow, Nat.shiftRight_xor_distrib]
theorem xor_ones (x : Nat) (h : x < 2 ^ 64) : (2 ^ 64 - 1) ^^^ x = 2 ^ 64 - (x + 1) := by
  apply Nat.eq_of_testBit_eq
  intro i
  rw [Nat.testBit_xor, Nat.testBit_two_pow_sub_one, Nat.testBit_two_pow_sub_succ h]
  by_cases hi : i < 64
  · rw [decide_eq_true hi]; simp
  · rw [decide_eq_false hi, Nat.testBit_lt_two_pow (Nat.lt_of_lt_of_le h (Nat.pow_le_pow_right (by decide) (by omega)))]; rfl
theorem dg_not (a o : Nat) (ho : o < 4) : bits .xor .u64 IntKind.u64.max (dg a o) = dg (nt a) o := by
  have e : IntKind.u64.max = ((2 ^ 64 - 1 : Nat) : Int) := by decide
  rw [e]
  unfold dg
  rw [u64_xor_nat _ _ (by decide) (Nat.mod_lt _ (by decide)), xor_ones _ (Nat.mod_lt _ (by decide))]
  unfold nt
  have : o = 0 ∨ o = 1 ∨ o = 2 ∨ o = 3 := by omega
  rcases this with rfl | rfl | rfl | rfl <;> omega
theorem and_clo (x y : Int) (w : World) :
    Calls Try.prog 32 #[.int .u64 x, .int .u64 y] w fun e w' => e = .returned (.int .u64 (bits .and .u64 x y)) ∧ Below w.heap.size w w' := by
  go_enter Try.func32, Try.ntmps32
  go_wp2_with fail
  go_ret
  exact ⟨rfl, Below.refl _ _⟩
theorem and_any (a b : Nat) (w : World) :
    Calls Try.prog 11 #[Wd a, Wd b] w fun e w' => e = .returned (Wd (a &&& b)) ∧ Below w.heap.size w w' := by
  have K : Hid (∀ w : World, Calls Try.prog 30 #[Wd a, Wd b, .func (Fn.func 32) #[] #[]] w fun e w' => e = .returned (Wd (a &&& b)) ∧ Below w.heap.size w w') := fun w => pbp_and a b _ (bits .and .u64) (fun x y w => and_clo x y w) (fun o _ => dg_and a b o) w
  generalize a &&& b = n at *
  have v0 : Vb w.heap.size (w.heap.size + 1 + 1) 4 (dg 0) (((w.alloc (.cells #[.int .u64 (dg a 0), .int .u64 (dg a 1), .int .u64 (dg a 2), .int .u64 (dg a 3)] 24)).alloc (.cells #[.int .u64 (dg b 0), .int .u64 (dg b 1), .int .u64 (dg b 2), .int .u64 (dg b 3)] 24)).alloc (.cells #[.int .u64 0, .int .u64 0, .int .u64 0, .int .u64 0] 24)) := Vb_new0e (by simp) (by omega)
  have b0 : Below w.heap.size w (((w.alloc (.cells #[.int .u64 (dg a 0), .int .u64 (dg a 1), .int .u64 (dg a 2), .int .u64 (dg a 3)] 24)).alloc (.cells #[.int .u64 (dg b 0), .int .u64 (dg b 1), .int .u64 (dg b 2), .int .u64 (dg b 3)] 24)).alloc (.cells #[.int .u64 0, .int .u64 0, .int .u64 0, .int .u64 0] 24)) := (((Below.refl _ _).alloc (Nat.le_refl _) _).alloc (by simp) _).alloc (by simp <;> omega) _
  conv => arg 3; unfold Wd
  go_enter Try.func11, Try.ntmps11
  go_wp2_with fail
  generalize ((w.alloc (.cells #[.int .u64 (dg a 0), .int .u64 (dg a 1), .int .u64 (dg a 2), .int .u64 (dg a 3)] 24)).alloc (.cells #[.int .u64 (dg b 0), .int .u64 (dg b 1), .int .u64 (dg b 2), .int .u64 (dg b 3)] 24)).alloc (.cells #[.int .u64 0, .int .u64 0, .int .u64 0, .int .u64 0] 24) = W0 at v0 b0 ⊢
  refine (K.out _).mono ?_
  rintro e w1 ⟨rfl, hb⟩
  have v1 := Vb_below v0 hb
  have b1 := b0.trans (hb.mono (Nat.le_trans (by omega) (Nat.le_of_lt v0.hi)))
  clear hb v0 b0
  have c1 : ∀ o, o < 4 → w1.cell? ⟨w.heap.size + 1 + 1, o, none⟩ = some (.int .u64 (dg 0 o)) := v1.c
  have f1 : ∀ o, w1.frozen? ⟨w.heap.size + 1 + 1, o, none⟩ = false := v1.f
  have z1 := v1.hi
  have HV : Hid (Vb w.heap.size (w.heap.size + 1 + 1) 4 (dg n) _) := Vb_set4 v1
  have HB : Hid (Below w.heap.size w _) := Bel_set4 (h := w.heap.size + 1 + 1) (m := n) b1 (by omega)
  clear v1 b1
  unfold Wd
  go_wp2_with fail
  exact bodyPost_ret (v := Wd n) (resultTw _ _ _ (w.heap.size + 1 + 1) n 4 rfl rfl HV.out.c) rfl ⟨rfl, HB.out⟩
theorem or_clo (x y : Int) (w : World) :
    Calls Try.prog 33 #[.int .u64 x, .int .u64 y] w fun e w' => e = .returned (.int .u64 (bits .or .u64 x y)) ∧ Below w.heap.size w w' := by
  go_enter Try.func33, Try.ntmps33
  go_wp2_with fail
  go_ret
  exact ⟨rfl, Below.refl _ _⟩
theorem or_any (a b : Nat) (w : World) :
    Calls Try.prog 12 #[Wd a, Wd b] w fun e w' => e = .returned (Wd (a ||| b)) ∧ Below w.heap.size w w' := by
  have K : Hid (∀ w : World, Calls Try.prog 30 #[Wd a, Wd b, .func (Fn.func 33) #[] #[]] w fun e w' => e = .returned (Wd (a ||| b)) ∧ Below w.heap.size w w') := fun w => pbp_or a b _ (bits .or .u64) (fun x y w => or_clo x y w) (fun o _ => dg_or a b o) w
  generalize a ||| b = n at *
  have v0 : Vb w.heap.size (w.heap.size + 1 + 1) 4 (dg 0) (((w.alloc (.cells #[.int .u64 (dg a 0), .int .u64 (dg a 1), .int .u64 (dg a 2), .int .u64 (dg a 3)] 24)).alloc (.cells #[.int .u64 (dg b 0), .int .u64 (dg b 1), .int .u64 (dg b 2), .int .u64 (dg b 3)] 24)).alloc (.cells #[.int .u64 0, .int .u64 0, .int .u64 0, .int .u64 0] 24)) := Vb_new0e (by simp) (by omega)
  have b0 : Below w.heap.size w (((w.alloc (.cells #[.int .u64 (dg a 0), .int .u64 (dg a 1), .int .u64 (dg a 2), .int .u64 (dg a 3)] 24)).alloc (.cells #[.int .u64 (dg b 0), .int .u64 (dg b 1), .int .u64 (dg b 2), .int .u64 (dg b 3)] 24)).alloc (.cells #[.int .u64 0, .int .u64 0, .int .u64 0, .int .u64 0] 24)) := (((Below.refl _ _).alloc (Nat.le_refl _) _).alloc (by simp) _).alloc (by simp <;> omega) _
  conv => arg 3; unfold Wd
  go_enter Try.func12, Try.ntmps12
  go_wp2_with fail
  generalize ((w.alloc (.cells #[.int .u64 (dg a 0), .int .u64 (dg a 1), .int .u64 (dg a 2), .int .u64 (dg a 3)] 24)).alloc (.cells #[.int .u64 (dg b 0), .int .u64 (dg b 1), .int .u64 (dg b 2), .int .u64 (dg b 3)] 24)).alloc (.cells #[.int .u64 0, .int .u64 0, .int .u64 0, .int .u64 0] 24) = W0 at v0 b0 ⊢
  refine (K.out _).mono ?_
  rintro e w1 ⟨rfl, hb⟩
  have v1 := Vb_below v0 hb
  have b1 := b0.trans (hb.mono (Nat.le_trans (by omega) (Nat.le_of_lt v0.hi)))
  clear hb v0 b0
  have c1 : ∀ o, o < 4 → w1.cell? ⟨w.heap.size + 1 + 1, o, none⟩ = some (.int .u64 (dg 0 o)) := v1.c
  have f1 : ∀ o, w1.frozen? ⟨w.heap.size + 1 + 1, o, none⟩ = false := v1.f
  have z1 := v1.hi
  have HV : Hid (Vb w.heap.size (w.heap.size + 1 + 1) 4 (dg n) _) := Vb_set4 v1
  have HB : Hid (Below w.heap.size w _) := Bel_set4 (h := w.heap.size + 1 + 1) (m := n) b1 (by omega)
  clear v1 b1
  unfold Wd
  go_wp2_with fail
  exact bodyPost_ret (v := Wd n) (resultTw _ _ _ (w.heap.size + 1 + 1) n 4 rfl rfl HV.out.c) rfl ⟨rfl, HB.out⟩
theorem xor_clo (x y : Int) (w : World) :
    Calls Try.prog 34 #[.int .u64 x, .int .u64 y] w fun e w' => e = .returned (.int .u64 (bits .xor .u64 x y)) ∧ Below w.heap.size w w' := by
  go_enter Try.func34, Try.ntmps34
  go_wp2_with fail
  go_ret
  exact ⟨rfl, Below.refl _ _⟩
theorem xor_any (a b : Nat) (w : World) :
    Calls Try.prog 13 #[Wd a, Wd b] w fun e w' => e = .returned (Wd (a ^^^ b)) ∧ Below w.heap.size w w' := by
  have K : Hid (∀ w : World, Calls Try.prog 30 #[Wd a, Wd b, .func (Fn.func 34) #[] #[]] w fun e w' => e = .returned (Wd (a ^^^ b)) ∧ Below w.heap.size w w') := fun w => pbp_xor a b _ (bits .xor .u64) (fun x y w => xor_clo x y w) (fun o _ => dg_xor a b o) w
  generalize a ^^^ b = n at *
  have v0 : Vb w.heap.size (w.heap.size + 1 + 1) 4 (dg 0) (((w.alloc (.cells #[.int .u64 (dg a 0), .int .u64 (dg a 1), .int .u64 (dg a 2), .int .u64 (dg a 3)] 24)).alloc (.cells #[.int .u64 (dg b 0), .int .u64 (dg b 1), .int .u64 (dg b 2), .int .u64 (dg b 3)] 24)).alloc (.cells #[.int .u64 0, .int .u64 0, .int .u64 0, .int .u64 0] 24)) := Vb_new0e (by simp) (by omega)
  have b0 : Below w.heap.size w (((w.alloc (.cells #[.int .u64 (dg a 0), .int .u64 (dg a 1), .int .u64 (dg a 2), .int .u64 (dg a 3)] 24)).alloc (.cells #[.int .u64 (dg b 0), .int .u64 (dg b 1), .int .u64 (dg b 2), .int .u64 (dg b 3)] 24)).alloc (.cells #[.int .u64 0, .int .u64 0, .int .u64 0, .int .u64 0] 24)) := (((Below.refl _ _).alloc (Nat.le_refl _) _).alloc (by simp) _).alloc (by simp <;> omega) _
  conv => arg 3; unfold Wd
  go_enter Try.func13, Try.ntmps13
  go_wp2_with fail
  generalize ((w.alloc (.cells #[.int .u64 (dg a 0), .int .u64 (dg a 1), .int .u64 (dg a 2), .int .u64 (dg a 3)] 24)).alloc (.cells #[.int .u64 (dg b 0), .int .u64 (dg b 1), .int .u64 (dg b 2), .int .u64 (dg b 3)] 24)).alloc (.cells #[.int .u64 0, .int .u64 0, .int .u64 0, .int .u64 0] 24) = W0 at v0 b0 ⊢
  refine (K.out _).mono ?_
  rintro e w1 ⟨rfl, hb⟩
  have v1 := Vb_below v0 hb
  have b1 := b0.trans (hb.mono (Nat.le_trans (by omega) (Nat.le_of_lt v0.hi)))
  clear hb v0 b0
  have c1 : ∀ o, o < 4 → w1.cell? ⟨w.heap.size + 1 + 1, o, none⟩ = some (.int .u64 (dg 0 o)) := v1.c
  have f1 : ∀ o, w1.frozen? ⟨w.heap.size + 1 + 1, o, none⟩ = false := v1.f
  have z1 := v1.hi
  have HV : Hid (Vb w.heap.size (w.heap.size + 1 + 1) 4 (dg n) _) := Vb_set4 v1
  have HB : Hid (Below w.heap.size w _) := Bel_set4 (h := w.heap.size + 1 + 1) (m := n) b1 (by omega)
  clear v1 b1
  unfold Wd
  go_wp2_with fail
  exact bodyPost_ret (v := Wd n) (resultTw _ _ _ (w.heap.size + 1 + 1) n 4 rfl rfl HV.out.c) rfl ⟨rfl, HB.out⟩
theorem not_clo (x y : Int) (w : World) :
    Calls Try.prog 31 #[.int .u64 x, .int .u64 y] w fun e w' => e = .returned (.int .u64 (bits .xor .u64 IntKind.u64.max x)) ∧ Below w.heap.size w w' := by
  go_enter Try.func31, Try.ntmps31
  go_wp2_with fail
  go_ret
  exact ⟨rfl, Below.refl _ _⟩
theorem not_any (a : Nat) (w : World) :
    Calls Try.prog 10 #[Wd a] w fun e w' => e = .returned (Wd (nt a)) ∧ Below w.heap.size w w' := by
  have K : Hid (∀ w : World, Calls Try.prog 30 #[Wd a, Wd a, .func (Fn.func 31) #[] #[]] w fun e w' => e = .returned (Wd (nt a)) ∧ Below w.heap.size w w') := fun w => pbp_not a a _ (fun x _ => bits .xor .u64 IntKind.u64.max x) (fun x y w => not_clo x y w) (fun o ho => dg_not a o ho) w
  generalize nt a = n at *
  have m0 := M2_start w a
  conv => arg 3; unfold Wd
  go_enter Try.func10, Try.ntmps10
  go_wp2_with fail
  generalize (w.alloc (.cells #[.int .u64 (dg a 0), .int .u64 (dg a 1), .int .u64 (dg a 2), .int .u64 (dg a 3)] 24)).alloc (.cells #[.int .u64 0, .int .u64 0, .int .u64 0, .int .u64 0] 24) = W0 at m0 ⊢
  refine (K.out _).mono ?_
  rintro e w1 ⟨rfl, hb⟩
  have HM : Hid (M2 w a 0 w1) := M2_below m0 hb
  clear hb m0
  have c1 : ∀ o, o < 4 → w1.cell? ⟨w.heap.size + 1, o, none⟩ = some (.int .u64 (dg 0 o)) := HM.out.v1.c
  have f1 : ∀ o, w1.frozen? ⟨w.heap.size + 1, o, none⟩ = false := HM.out.v1.f
  have z1 := HM.out.v1.hi
  unfold Wd
  go_wp2_with fail
  have m1 := M2_set1 (m := n) HM.out
  exact bodyPost_ret (v := Wd n) (resultTw _ _ _ (w.heap.size + 1) n 2 rfl rfl m1.v1.c) rfl ⟨rfl, m1.bel⟩
end Go.Proofs.Ytblodmjnhmfjeaa
