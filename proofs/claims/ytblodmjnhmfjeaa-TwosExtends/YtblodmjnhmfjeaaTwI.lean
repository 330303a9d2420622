/- twos.Byte. -/
import Derived.Test.YtblodmjnhmfjeaaTwG
import Derived.Test.YtblodmjnhmfjeaaRWN
import Derived.Test.YtblodmjnhmfjeaaWBytes
namespace Go.Proofs.Ytblodmjnhmfjeaa
open Go.RowKit Go.Shelf
theorem RW.idx {K : Value → World → Prop} {a : Act} {o : Oper} {X I : Operand} {G : Nat → Int} {i : Nat} {w : World} (ho : o.op = .index 55 X I) (hx : a.eval X = Sp.Hv G) (hi : a.eval I = .int .u64 (i : Int)) (h : i < 32)
    (hK : K (.int .u8 (G i)) w) : RS.upv Try.prog K ((execOp a.eval o).run Try.prog w) := by
  obtain ⟨dst, op, ty, pos, after, guard⟩ := o
  simp only at ho
  subst ho
  generalize a.eval = ρ at *
  unfold Sp.Hv at hx
  have e1 : (Sp.h32 G).toArray[i]? = some (.int .u8 (G i)) := by simp [Sp.h32, h]
  generalize (Sp.h32 G).toArray = xs at *
  have hU : Try.prog.underlying 55 = some (.array 32 5) := by kernel_rfl
  have e3 : (Instr.index 55 (.agg xs) (.int .u64 (i : Int))).run Try.prog w = .ok (.int .u8 (G i)) w := by
    simp [Instr.index, run_underlying hU, asIntOf, h, go_sem, e1]
  go_simp
  exact hK
/-- Byte n of a word, as a number. -/
def byn (n a : Nat) : Nat := if n < 32 then a / 2 ^ (8 * (31 - n)) % 256 else 0
set_option maxHeartbeats 4000000 in
set_option maxRecDepth 100000 in
theorem byte_far (n a : Nat) (hn : n < 2 ^ 256) (h : 32 ≤ n) (w : World) :
    Calls Try.prog 29 #[Wd n, Wd a] w fun e w' => e = .returned (Wd 0) ∧ Below w.heap.size w w' := by
  have KA : Hid (∀ w : World, Calls Try.prog 47 #[Wd n, .int .u64 32] w fun e w' => e = .returned (.int .u64 32) ∧ Below w.heap.size w w') := fun w => by have := atmost_any n 32 hn (by decide) w; rwa [show min n 32 = 32 by omega] at this
  clear hn h
  obtain ⟨N, hN⟩ : ∃ N, N = 0 := ⟨_, rfl⟩
  rw [← hN]
  have m0 := Hm.new0 (g := w.heap.size + 1 + 1) (T := 24) (Hm.new4 (g := w.heap.size + 1) (n := a) (T := 24) (Hm.new4 (g := w.heap.size) (n := n) (T := 24) (Hm.start w) rfl) (by simp)) (by simp)
  have hne : ∀ b, b ∈ [Hm.W4 (w.heap.size + 1) a, Hm.W4 w.heap.size n] → w.heap.size + 1 + 1 ≠ b.g := by
    intro b hb
    simp only [List.mem_cons, List.not_mem_nil, or_false] at hb
    rcases hb with rfl | rfl <;> simp only [Hm.W4] <;> omega
  conv => arg 3; unfold Wd
  go_enter Try.func29, Try.ntmps29
  go_wp2_with fail
  generalize ((w.alloc (.cells #[.int .u64 (dg n 0), .int .u64 (dg n 1), .int .u64 (dg n 2), .int .u64 (dg n 3)] 24)).alloc (.cells #[.int .u64 (dg a 0), .int .u64 (dg a 1), .int .u64 (dg a 2), .int .u64 (dg a 3)] 24)).alloc (.cells #[.int .u64 0, .int .u64 0, .int .u64 0, .int .u64 0] 24) = W0 at m0 ⊢
  refine (KA.out _).mono ?_
  rintro e w1 ⟨rfl, hb⟩
  have m1 := Hm.below m0 hb
  clear hb m0
  have m2 := m1
  clear m1
  have c2 : ∀ o, o < 4 → w1.cell? ⟨w.heap.size + 1 + 1, o, none⟩ = some (.int .u64 (dg 0 o)) := (m2.ok _ (List.mem_cons_self ..)).c
  have f2 : ∀ o, w1.frozen? ⟨w.heap.size + 1 + 1, o, none⟩ = false := (m2.ok _ (List.mem_cons_self ..)).f
  have HV : Hid (Hm.Hd w [Hm.W4 (w.heap.size + 1 + 1) N, Hm.W4 (w.heap.size + 1) a, Hm.W4 w.heap.size n] _) := Hm.set4 m2 hne
  clear m2 hne
  subst hN
  go_wp2_with fail
  exact bodyPost_ret (v := Wd 0) (resultTw _ _ _ (w.heap.size + 1 + 1) 0 4 rfl rfl (HV.out.ok _ (List.mem_cons_self ..)).c) rfl ⟨rfl, HV.out.bel⟩
set_option maxHeartbeats 4000000 in
set_option maxRecDepth 100000 in
theorem byte_at (n a : Nat) (hn : n < 2 ^ 256) (h : n < 32) (w : World) :
    Calls Try.prog 29 #[Wd n, Wd a] w fun e w' => e = .returned (Wd (a / 2 ^ (8 * (31 - n)) % 256)) ∧ Below w.heap.size w w' := by
  obtain ⟨N, hN⟩ : ∃ N, N = a / 2 ^ (8 * (31 - n)) % 256 := ⟨_, rfl⟩
  have KA : Hid (∀ w : World, Calls Try.prog 47 #[Wd n, .int .u64 32] w fun e w' => e = .returned (.int .u64 (n : Int)) ∧ Below w.heap.size w w') := fun w => by have := atmost_any n 32 hn (by decide) w; rwa [show min n 32 = n by omega] at this
  have KB : Hid (∀ w : World, Calls Try.prog 48 #[Wd a] w fun e w' => e = .returned (Sp.Hv (bt a)) ∧ Below w.heap.size w w') := fun w => bytes_any a w
  have KI : Hid (∀ w : World, Calls Try.prog 16 #[.int .u64 (N : Int)] w fun e w' => e = .returned (Wd N) ∧ Below w.heap.size w w') := fun w => int_any N (by omega) w
  have eN : Hid (bt a n = (N : Int)) := (by rw [hN]; rfl : bt a n = (N : Int))
  have hn32 : Hid (n < 32) := h
  have eW : Hid (IntKind.u64.wrap (N : Int) = N) := (by rw [IntKind.wrap_u64]; omega : IntKind.u64.wrap (N : Int) = N)
  rw [← hN]
  clear hn hN
  have m0 := Hm.new0 (g := w.heap.size + 1 + 1) (T := 24) (Hm.new4 (g := w.heap.size + 1) (n := a) (T := 24) (Hm.new4 (g := w.heap.size) (n := n) (T := 24) (Hm.start w) rfl) (by simp)) (by simp)
  have hne : ∀ b, b ∈ [Hm.W4 (w.heap.size + 1) a, Hm.W4 w.heap.size n] → w.heap.size + 1 + 1 ≠ b.g := by
    intro b hb
    simp only [List.mem_cons, List.not_mem_nil, or_false] at hb
    rcases hb with rfl | rfl <;> simp only [Hm.W4] <;> omega
  conv => arg 3; unfold Wd
  go_enter Try.func29, Try.ntmps29
  go_wp2_with fail
  generalize ((w.alloc (.cells #[.int .u64 (dg n 0), .int .u64 (dg n 1), .int .u64 (dg n 2), .int .u64 (dg n 3)] 24)).alloc (.cells #[.int .u64 (dg a 0), .int .u64 (dg a 1), .int .u64 (dg a 2), .int .u64 (dg a 3)] 24)).alloc (.cells #[.int .u64 0, .int .u64 0, .int .u64 0, .int .u64 0] 24) = W0 at m0 ⊢
  refine (KA.out _).mono ?_
  rintro e w1 ⟨rfl, hb⟩
  have m1 := Hm.below m0 hb
  clear hb m0
  go_upto_region 4 with fail
  refine RS.wp_region_flat (Hm.Hd w [⟨w.heap.size + 1 + 1, 4, fun o => .int .u64 (dg 0 o)⟩, Hm.W4 (w.heap.size + 1) a, Hm.W4 w.heap.size n]) 6 (by kernel_rfl) (m1) ?_
  simp only [List.take_succ_cons, List.take_zero, List.drop_succ_cons, List.drop_zero]
  refine RS.go1 (v := ?_) (a' := ?_) rfl ?_ ?_ ?_
  rotate_left 2
  · intro K wx hS hK
    refine RW.ld rfl rfl (hS.ok (Hm.W4 (w.heap.size + 1) (a)) (by simp)).c ?_
    exact hK _ hS
  · simp only [Act.put, List.setIfInBounds_toArray, List.set_cons_succ, List.set_cons_zero]
    rfl
  refine RS.go1 (v := ?_) (a' := ?_) rfl ?_ ?_ ?_
  rotate_left 2
  · intro K wx hS hK
    go_simp
    refine (KB.out _).mono (fun e w2 he => ?_)
    refine ⟨_, he.1, ?_⟩
    exact hK _ (Hm.below hS he.2)
  · simp only [Act.put, List.setIfInBounds_toArray, List.set_cons_succ, List.set_cons_zero]
    rfl
  refine RS.go1 (v := ?_) (a' := ?_) rfl ?_ ?_ ?_
  rotate_left 2
  · intro K wx hS hK
    go_simp
    exact hK _ hS
  · simp only [Act.put, List.setIfInBounds_toArray, List.set_cons_succ, List.set_cons_zero]
    rfl
  refine RS.go1 (v := ?_) (a' := ?_) rfl ?_ ?_ ?_
  rotate_left 2
  · intro K wx hS hK
    refine RW.idx rfl rfl rfl hn32.out ?_
    rw [eN.out]
    exact hK _ hS
  · simp only [Act.put, List.setIfInBounds_toArray, List.set_cons_succ, List.set_cons_zero]
    rfl
  refine RS.go1 (v := ?_) (a' := ?_) rfl ?_ ?_ ?_
  rotate_left 2
  · intro K wx hS hK
    have e := eW.out
    go_simp
    exact hK _ hS
  · simp only [Act.put, List.setIfInBounds_toArray, List.set_cons_succ, List.set_cons_zero]
    rfl
  refine RS.go1 (v := ?_) (a' := ?_) rfl ?_ ?_ ?_
  rotate_left 2
  · intro K wx hS hK
    go_simp
    refine (KI.out _).mono (fun e w2 he => ?_)
    refine ⟨_, he.1, ?_⟩
    exact hK _ (Hm.below hS he.2)
  · simp only [Act.put, List.setIfInBounds_toArray, List.set_cons_succ, List.set_cons_zero]
    rfl
  refine RS.go_end ?_
  intro w2 m2
  clear m1
  have c2 : ∀ o, o < 4 → w2.cell? ⟨w.heap.size + 1 + 1, o, none⟩ = some (.int .u64 (dg 0 o)) := (m2.ok _ (List.mem_cons_self ..)).c
  have f2 : ∀ o, w2.frozen? ⟨w.heap.size + 1 + 1, o, none⟩ = false := (m2.ok _ (List.mem_cons_self ..)).f
  have HV : Hid (Hm.Hd w [Hm.W4 (w.heap.size + 1 + 1) N, Hm.W4 (w.heap.size + 1) a, Hm.W4 w.heap.size n] _) := Hm.set4 m2 hne
  clear m2 hne
  unfold Wd
  go_wp2_with fail
  exact bodyPost_ret (v := Wd N) (resultTw _ _ _ (w.heap.size + 1 + 1) N 4 rfl rfl (HV.out.ok _ (List.mem_cons_self ..)).c) rfl ⟨rfl, HV.out.bel⟩
theorem byte_any (n a : Nat) (hn : n < 2 ^ 256) (w : World) :
    Calls Try.prog 29 #[Wd n, Wd a] w fun e w' => e = .returned (Wd (byn n a)) ∧ Below w.heap.size w w' := by
  unfold byn
  by_cases h : n < 32
  · rw [if_pos h]; exact byte_at n a hn h w
  · rw [if_neg h]; exact byte_far n a hn (by omega) w
end Go.Proofs.Ytblodmjnhmfjeaa
