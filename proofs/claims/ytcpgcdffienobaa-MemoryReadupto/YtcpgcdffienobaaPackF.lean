/- lampbearerkeep.MemoryRead: read_1b. -/
import Derived.Test.YtcpgcdffienobaaPackE
namespace Go.Proofs.Ytcpgcdffienobaa
namespace Mm
open Go.RowKit Pk
set_option maxHeartbeats 4000000 in
set_option maxRecDepth 100000 in
theorem read_1b (l : List Mo) (xs : List OV) (n k1 k2 k3 k4 a x y : Nat) (hxs : Hid (xs.map (·.1) = l)) (hl : Hid (∀ x, x ∈ l → Wf x)) (hn : Hid (n = l.length ∧ k1 = n + 1 ∧ k2 = n + 2 ∧ k3 = n + 3 ∧ k4 = n + 4 ∧ k4 ≤ 1048576)) (hw : Hid (a < 2 ^ 256 ∧ x < 2 ^ 256 ∧ y < 2 ^ 256)) (e0 e3 c0 c1 c3 : Int) (V V1 V3 : Nat) (q1 q2 q3 : Int) (D : Nat) (KC1 : Hid (∀ W : World, Calls Try.prog 16 #[Wd a, Wd y] W fun e w' => e = .returned (.int .i64 q1) ∧ Below W.heap.size W w')) (KS1 : Hid (∀ W : World, Calls Try.prog 17 #[Wd a, Wd y] W fun e w' => e = .returned (Wd D) ∧ Below W.heap.size W w')) (KI : Hid (∀ W : World, Calls Try.prog 18 #[.int .u64 32] W fun e w' => e = .returned (Wd 32) ∧ Below W.heap.size W w')) (KC2 : Hid (∀ W : World, Calls Try.prog 16 #[Wd D, Wd 32] W fun e w' => e = .returned (.int .i64 q2) ∧ Below W.heap.size W w')) (KC3 : Hid (∀ W : World, Calls Try.prog 16 #[Wd y, Wd a] W fun e w' => e = .returned (.int .i64 q3) ∧ Below W.heap.size W w')) (t1 : (0 : Int) < q1) (t2 : decide ((0 : Int) ≤ q2) = false) (t3 : decide ((0 : Int) < q3) = false) (hA : Hid (an (Lr l a x y) n = (e0, V, c0) ∧ an (Lr l a x y) k1 = (0, V1, c1) ∧ an (Lr l a x y) k2 = (0, x, 0) ∧ an (Lr l a x y) k3 = (e3, V3, c3)))
    (ao : Option Addr) (cap : Nat) (w : World) (hv : Hid (VO xs (.slice ao n cap) w ∧ ∀ x, x ∈ xs → Tr.Bs (· < w.heap.size) x.1.d x.2 w)) :
    Calls Try.prog 4 #[.slice ao n cap, Wd a, Wd x, Wd y] w fun e w' => e = .returned (.bool true) ∧ Below w.heap.size w w' := by
  have HX : Hid (xs.length = n) := by
    show _ = _
    rw [hn.out.1, ← hxs.out, List.length_map]
  have KC : Hid (∀ W : World, Below w.heap.size w W → Calls Try.prog 15 #[.slice ao n cap] W fun e w' => ∃ z, e = .returned z ∧ Oo W.heap.size xs z w' ∧ Below W.heap.size W w') := fun W hb => clone_op xs _ W (VO_below hv.out.1 hb) (fun x hx => Bs_isSl (hv.out.2 x hx)) (by have := hn.out; have := HX.out; omega)
  have KP : Hid (∀ (W : World) (Bs : Nat) (v : Value), Below w.heap.size w W → Oo Bs (xs ++ [(oL y, .slice none 0 0), (oS a x, .slice none 0 0), (oL a, .slice none 0 0), (oL y, .slice none 0 0)]) v W → Calls Try.prog 9 #[v] W fun e w' => ∃ ga u, e = .returned (.tuple #[.slice (some ⟨ga, 0, none⟩) k4 k4, u]) ∧ Rp W.heap.size ga (Lr l a x y) u w' ∧ Below W.heap.size W w') := fun W Bs v hb1 ho => by
    have hM := Oo_in ho (fun z hz => by
      rcases List.mem_append.1 hz with h | h
      · exact Bs_in (hv.out.2 z h) hb1
      · simp only [List.mem_cons, List.not_mem_nil, or_false] at h
        rcases h with rfl | rfl | rfl | rfl <;> exact Tr.Bs_nil _ _)
    rw [List.map_append, hxs.out] at hM
    have hM : Mr (· < W.heap.size) (Lr l a x y) v W := hM
    have hlen : (Lr l a x y).length = k4 := by unfold Lr; rw [List.length_append, ← hn.out.1, hn.out.2.2.2.2.1]; rfl
    have wf1 : ∀ q, q < 2 ^ 256 → Wf (oL q) := fun q hq => ⟨hq, by show 0 < 2 ^ 256; decide, by show 0 < 2 ^ 256; decide, by show 0 ≤ _; omega⟩
    have wf2 : Wf (oS a x) := ⟨hw.out.1, by show 0 < 2 ^ 256; decide, by show 0 < 2 ^ 256; decide, by show 0 ≤ _; omega⟩
    have k := play_any (Lr l a x y) (wf_in _ (fun q hq => by
      rcases List.mem_append.1 hq with h | h
      · exact hl.out q h
      · simp only [List.mem_cons, List.not_mem_nil, or_false] at h
        rcases h with rfl | rfl | rfl | rfl
        · exact wf1 y hw.out.2.2
        · exact wf2
        · exact wf1 a hw.out.1
        · exact wf1 y hw.out.2.2)) (by rw [hlen]; exact hn.out.2.2.2.2.2) v W hM
    rw [hlen] at k
    exact k
  conv => arg 3; unfold Wd
  go_enter Try.func4, Try.ntmps4
  go_upto_region 1 with fail
  have m0 : Hm.Hd w [Hm.W4 (w.heap.size + 1 + 1) y, Hm.W4 (w.heap.size + 1) x, Hm.W4 w.heap.size a] (((w.alloc (.cells #[.int .u64 (dg a 0), .int .u64 (dg a 1), .int .u64 (dg a 2), .int .u64 (dg a 3)] 32)).alloc (.cells #[.int .u64 (dg x 0), .int .u64 (dg x 1), .int .u64 (dg x 2), .int .u64 (dg x 3)] 32)).alloc (.cells #[.int .u64 (dg y 0), .int .u64 (dg y 1), .int .u64 (dg y 2), .int .u64 (dg y 3)] 32)) := by
    have q1 := Hm.new4 (n := a) (T := 32) (Hm.start w) rfl
    have q2 := Hm.new4 (n := x) (T := 32) (g := w.heap.size + 1) q1 (by simp)
    exact Hm.new4 (n := y) (T := 32) (g := w.heap.size + 1 + 1) q2 (by simp)
  generalize ((w.alloc (.cells #[.int .u64 (dg a 0), .int .u64 (dg a 1), .int .u64 (dg a 2), .int .u64 (dg a 3)] 32)).alloc (.cells #[.int .u64 (dg x 0), .int .u64 (dg x 1), .int .u64 (dg x 2), .int .u64 (dg x 3)] 32)).alloc (.cells #[.int .u64 (dg y 0), .int .u64 (dg y 1), .int .u64 (dg y 2), .int .u64 (dg y 3)] 32) = w0 at m0 ⊢
  have M0 : Hid _ := m0
  clear m0
  go_wp2_with fail
  refine (alive_any w0).mono ?_
  rintro e w1 ⟨rfl, b1⟩
  have M1 : Hid (Hm.Hd w [Hm.W4 (w.heap.size + 1 + 1) y, Hm.W4 (w.heap.size + 1) x, Hm.W4 w.heap.size a] w1) := Hm.below M0.out b1
  clear b1 M0
  go_upto_region 3 with fail
  refine RS.wp_region_flat (Hm.Hd w [Hm.W4 (w.heap.size + 1 + 1) y, Hm.W4 (w.heap.size + 1) x, Hm.W4 w.heap.size a]) 3 (by kernel_rfl) (M1.out) ?_
  simp only [List.take_succ_cons, List.take_zero, List.drop_succ_cons, List.drop_zero]
  refine RS.go1 (v := ?_) (a' := ?_) rfl ?_ ?_ ?_
  rotate_left 2
  · intro K wx hS hK
    refine RW.ld rfl rfl (hS.ok (Hm.W4 (w.heap.size) (a)) (by simp)).c ?_
    exact hK _ hS
  · simp only [Act.put, List.setIfInBounds_toArray, List.set_cons_succ, List.set_cons_zero]
    rfl
  refine RS.go1 (v := ?_) (a' := ?_) rfl ?_ ?_ ?_
  rotate_left 2
  · intro K wx hS hK
    refine RW.ld rfl rfl (hS.ok (Hm.W4 (w.heap.size + 1) (x)) (by simp)).c ?_
    exact hK _ hS
  · simp only [Act.put, List.setIfInBounds_toArray, List.set_cons_succ, List.set_cons_zero]
    rfl
  refine RS.go1 (v := ?_) (a' := ?_) rfl ?_ ?_ ?_
  rotate_left 2
  · intro K wx hS hK
    unfold Wd
    go_simp
    exact hK _ hS
  · simp only [Act.put, List.setIfInBounds_toArray, List.set_cons_succ, List.set_cons_zero]
    rfl
  refine RS.go_end ?_
  intro wq h9
  have Nq : Hid _ := h9
  clear h9 M1
  refine RF.go (by kernel_rfl) ?_
  refine alO rfl ?_
  have Nz : Hid _ := newZ Nq.out
  have ne : Hid (∀ b, b ∈ [Hm.W4 (w.heap.size + 1 + 1) y, Hm.W4 (w.heap.size + 1) x, Hm.W4 w.heap.size a] → wq.heap.size ≠ b.g) := fun b hb => Nat.ne_of_gt (Nq.out.ok b hb).hi
  clear Nq
  generalize wq.alloc (.cells zO 38) = wz at Nz ⊢
  generalize wq.heap.size = g1 at Nz ne ⊢
  simp only [Act.put, List.setIfInBounds_toArray, List.set_cons_succ, List.set_cons_zero]
  refine stO ⟨2, a, 0, 0, x, []⟩ none 0 0 rfl rfl rfl (eS a x) Nz.out ne.out (fun w3 h9 => ?_)
  have Mw3 : Hid _ := h9
  clear h9 Nz ne
  refine wpList_nil ?_
  dsimp only [Act.put]
  generalize (Value.agg #[.int .i64 2, .int .u64 (dg a 0), .int .u64 (dg a 1), .int .u64 (dg a 2), .int .u64 (dg a 3), .int .u64 0, .int .u64 0, .int .u64 0, .int .u64 0, .int .u64 0, .int .u64 0, .int .u64 0, .int .u64 0, .int .u64 (dg x 0), .int .u64 (dg x 1), .int .u64 (dg x 2), .int .u64 (dg x 3), .slice none 0 0]) = Jg1
  go_upto_region 4 with fail
  refine RS.wp_region_flat (Hm.Hd w (⟨g1, 18, oc 2 a 0 0 x (.slice none 0 0)⟩ :: [Hm.W4 (w.heap.size + 1 + 1) y, Hm.W4 (w.heap.size + 1) x, Hm.W4 w.heap.size a])) 2 (by kernel_rfl) (Mw3.out) ?_
  simp only [List.take_succ_cons, List.take_zero, List.drop_succ_cons, List.drop_zero]
  refine RS.go1 (v := ?_) (a' := ?_) rfl ?_ ?_ ?_
  rotate_left 2
  · intro K wx hS hK
    refine RW.ld rfl rfl (hS.ok (Hm.W4 (w.heap.size) (a)) (by simp)).c ?_
    exact hK _ hS
  · simp only [Act.put, List.setIfInBounds_toArray, List.set_cons_succ, List.set_cons_zero]
    rfl
  refine RS.go1 (v := ?_) (a' := ?_) rfl ?_ ?_ ?_
  rotate_left 2
  · intro K wx hS hK
    unfold Wd
    go_simp
    exact hK _ hS
  · simp only [Act.put, List.setIfInBounds_toArray, List.set_cons_succ, List.set_cons_zero]
    rfl
  refine RS.go_end ?_
  intro wq h9
  have Nq : Hid _ := h9
  clear h9 Mw3
  refine RF.go (by kernel_rfl) ?_
  refine alO rfl ?_
  have Nz : Hid _ := newZ Nq.out
  have ne : Hid (∀ b, b ∈ (⟨g1, 18, oc 2 a 0 0 x (.slice none 0 0)⟩ :: [Hm.W4 (w.heap.size + 1 + 1) y, Hm.W4 (w.heap.size + 1) x, Hm.W4 w.heap.size a]) → wq.heap.size ≠ b.g) := fun b hb => Nat.ne_of_gt (Nq.out.ok b hb).hi
  clear Nq
  generalize wq.alloc (.cells zO 38) = wz at Nz ⊢
  generalize wq.heap.size = g2 at Nz ne ⊢
  simp only [Act.put, List.setIfInBounds_toArray, List.set_cons_succ, List.set_cons_zero]
  refine stO ⟨1, a, 0, 0, 0, []⟩ none 0 0 rfl rfl rfl (eL a) Nz.out ne.out (fun w4 h9 => ?_)
  have Mw4 : Hid _ := h9
  clear h9 Nz ne
  refine wpList_nil ?_
  dsimp only [Act.put]
  generalize (Value.agg #[.int .i64 1, .int .u64 (dg a 0), .int .u64 (dg a 1), .int .u64 (dg a 2), .int .u64 (dg a 3), .int .u64 0, .int .u64 0, .int .u64 0, .int .u64 0, .int .u64 0, .int .u64 0, .int .u64 0, .int .u64 0, .int .u64 0, .int .u64 0, .int .u64 0, .int .u64 0, .slice none 0 0]) = Jg2
  go_upto_region 5 with fail
  refine RS.wp_region_flat (Hm.Hd w (⟨g2, 18, oc 1 a 0 0 0 (.slice none 0 0)⟩ :: (⟨g1, 18, oc 2 a 0 0 x (.slice none 0 0)⟩ :: [Hm.W4 (w.heap.size + 1 + 1) y, Hm.W4 (w.heap.size + 1) x, Hm.W4 w.heap.size a]))) 2 (by kernel_rfl) (Mw4.out) ?_
  simp only [List.take_succ_cons, List.take_zero, List.drop_succ_cons, List.drop_zero]
  refine RS.go1 (v := ?_) (a' := ?_) rfl ?_ ?_ ?_
  rotate_left 2
  · intro K wx hS hK
    refine RW.ld rfl rfl (hS.ok (Hm.W4 (w.heap.size + 1 + 1) (y)) (by simp)).c ?_
    exact hK _ hS
  · simp only [Act.put, List.setIfInBounds_toArray, List.set_cons_succ, List.set_cons_zero]
    rfl
  refine RS.go1 (v := ?_) (a' := ?_) rfl ?_ ?_ ?_
  rotate_left 2
  · intro K wx hS hK
    unfold Wd
    go_simp
    exact hK _ hS
  · simp only [Act.put, List.setIfInBounds_toArray, List.set_cons_succ, List.set_cons_zero]
    rfl
  refine RS.go_end ?_
  intro wq h9
  have Nq : Hid _ := h9
  clear h9 Mw4
  refine RF.go (by kernel_rfl) ?_
  refine alO rfl ?_
  have Nz : Hid _ := newZ Nq.out
  have ne : Hid (∀ b, b ∈ (⟨g2, 18, oc 1 a 0 0 0 (.slice none 0 0)⟩ :: (⟨g1, 18, oc 2 a 0 0 x (.slice none 0 0)⟩ :: [Hm.W4 (w.heap.size + 1 + 1) y, Hm.W4 (w.heap.size + 1) x, Hm.W4 w.heap.size a])) → wq.heap.size ≠ b.g) := fun b hb => Nat.ne_of_gt (Nq.out.ok b hb).hi
  clear Nq
  generalize wq.alloc (.cells zO 38) = wz at Nz ⊢
  generalize wq.heap.size = g3 at Nz ne ⊢
  simp only [Act.put, List.setIfInBounds_toArray, List.set_cons_succ, List.set_cons_zero]
  refine stO ⟨1, y, 0, 0, 0, []⟩ none 0 0 rfl rfl rfl (eL y) Nz.out ne.out (fun w5 h9 => ?_)
  have Mw5 : Hid _ := h9
  clear h9 Nz ne
  refine wpList_nil ?_
  dsimp only [Act.put]
  generalize (Value.agg #[.int .i64 1, .int .u64 (dg y 0), .int .u64 (dg y 1), .int .u64 (dg y 2), .int .u64 (dg y 3), .int .u64 0, .int .u64 0, .int .u64 0, .int .u64 0, .int .u64 0, .int .u64 0, .int .u64 0, .int .u64 0, .int .u64 0, .int .u64 0, .int .u64 0, .int .u64 0, .slice none 0 0]) = Jg3
  go_upto_region 6 with fail
  generalize (Value.agg #[.int .u64 (dg a 0), .int .u64 (dg a 1), .int .u64 (dg a 2), .int .u64 (dg a 3)]) = Ja
  generalize (Value.agg #[.int .u64 (dg x 0), .int .u64 (dg x 1), .int .u64 (dg x 2), .int .u64 (dg x 3)]) = Jx
  generalize (Value.agg #[.int .u64 (dg y 0), .int .u64 (dg y 1), .int .u64 (dg y 2), .int .u64 (dg y 3)]) = Jy
  generalize Wd a = Ja2
  generalize Wd x = Jx2
  generalize Wd y = Jy2
  have G5 : Hid (∀ b, b ∈ (⟨g3, 18, oc 1 y 0 0 0 (.slice none 0 0)⟩ :: (⟨g2, 18, oc 1 a 0 0 0 (.slice none 0 0)⟩ :: (⟨g1, 18, oc 2 a 0 0 x (.slice none 0 0)⟩ :: [Hm.W4 (w.heap.size + 1 + 1) y, Hm.W4 (w.heap.size + 1) x, Hm.W4 w.heap.size a]))) → b.g < w5.heap.size ∧ ∀ o, o < b.n → w5.cell? ⟨b.g, o, none⟩ = some (b.F o)) := fun b hb => ⟨(Mw5.out.ok b hb).hi, (Mw5.out.ok b hb).c⟩
  have g3mem : (⟨g3, 18, oc 1 y 0 0 0 (.slice none 0 0)⟩ : Hm.Bk) ∈ (⟨g3, 18, oc 1 y 0 0 0 (.slice none 0 0)⟩ :: (⟨g2, 18, oc 1 a 0 0 0 (.slice none 0 0)⟩ :: (⟨g1, 18, oc 2 a 0 0 x (.slice none 0 0)⟩ :: [Hm.W4 (w.heap.size + 1 + 1) y, Hm.W4 (w.heap.size + 1) x, Hm.W4 w.heap.size a]))) := by simp
  have g2mem : (⟨g2, 18, oc 1 a 0 0 0 (.slice none 0 0)⟩ : Hm.Bk) ∈ (⟨g3, 18, oc 1 y 0 0 0 (.slice none 0 0)⟩ :: (⟨g2, 18, oc 1 a 0 0 0 (.slice none 0 0)⟩ :: (⟨g1, 18, oc 2 a 0 0 x (.slice none 0 0)⟩ :: [Hm.W4 (w.heap.size + 1 + 1) y, Hm.W4 (w.heap.size + 1) x, Hm.W4 w.heap.size a]))) := by simp
  have g1mem : (⟨g1, 18, oc 2 a 0 0 x (.slice none 0 0)⟩ : Hm.Bk) ∈ (⟨g3, 18, oc 1 y 0 0 0 (.slice none 0 0)⟩ :: (⟨g2, 18, oc 1 a 0 0 0 (.slice none 0 0)⟩ :: (⟨g1, 18, oc 2 a 0 0 x (.slice none 0 0)⟩ :: [Hm.W4 (w.heap.size + 1 + 1) y, Hm.W4 (w.heap.size + 1) x, Hm.W4 w.heap.size a]))) := by simp
  have KC5 : Hid (∀ W : World, Below w5.heap.size w5 W → Calls Try.prog 15 #[.slice ao n cap] W fun e w' => ∃ z, e = .returned z ∧ Oo W.heap.size xs z w' ∧ Below W.heap.size W w') := fun W hb => KC.out W (Mw5.out.bel.trans (hb.mono Mw5.out.bel.size))
  have LR : Hid _ := litR a x y
  have M5b : Hid (Below w.heap.size w w5) := Mw5.out.bel
  refine RH.wp_region_genI (I6 w5 xs [(oL y, .slice none 0 0), (oS a x, .slice none 0 0), (oL a, .slice none 0 0), (oL y, .slice none 0 0)] (fun ga u wx => ∃ B, Rp B ga (Lr l a x y) u wx) k4) [0, 1, 0, 0, 0, 0, 1, 1, 1, 1, 1, 1, 1, 2] (by kernel_rfl) (by kernel_rfl) (I6.i6s) ?_
  dsimp only [List.toList_toArray]
  refine RH.goD (v := ?_) (f' := ?_) rfl ?_ ?_ ?_
  rotate_left 2
  · intro U K d wx hI hmay hK
    go_simp
    exact hK _ hI.i6k0
  · intro U
    simp only [Act.put, List.setIfInBounds_toArray, List.set_cons_succ, List.set_cons_zero]
    rfl
  refine RH.goN (f' := ?_) rfl ?_ ?_ ?_
  rotate_left 1
  · intro U K d wx hI hmay hK
    have h1 := hmay.1
    go_simp
    refine (KC5.out _ hI.b).mono (fun e w2 he => ?_)
    obtain ⟨z, rfl, q1, q2⟩ := he
    refine ⟨_, rfl, ?_⟩
    exact hK _ _ (hI.i6c h1 q1 q2)
  · intro U
    simp only [Act.put, List.setIfInBounds_toArray, List.set_cons_succ, List.set_cons_zero]
    rfl
  refine RH.goD (v := ?_) (f' := ?_) rfl ?_ ?_ ?_
  rotate_left 2
  · intro U K d wx hI hmay hK
    refine ldOu (k := 1) (a := y) (f := 0) (l := 0) (x := 0) (v := .slice none 0 0) rfl rfl (fun o ho => (hI.b.cell (p := ⟨g3, o, none⟩) (G5.out _ (g3mem)).1).trans ((G5.out _ (g3mem)).2 o ho)) ?_
    exact hK _ hI.i6k2
  · intro U
    simp only [Act.put, List.setIfInBounds_toArray, List.set_cons_succ, List.set_cons_zero]
    rfl
  refine RH.goD (v := ?_) (f' := ?_) rfl ?_ ?_ ?_
  rotate_left 2
  · intro U K d wx hI hmay hK
    refine ldOu (k := 2) (a := a) (f := 0) (l := 0) (x := x) (v := .slice none 0 0) rfl rfl (fun o ho => (hI.b.cell (p := ⟨g1, o, none⟩) (G5.out _ (g1mem)).1).trans ((G5.out _ (g1mem)).2 o ho)) ?_
    exact hK _ hI.i6k3
  · intro U
    simp only [Act.put, List.setIfInBounds_toArray, List.set_cons_succ, List.set_cons_zero]
    rfl
  refine RH.goD (v := ?_) (f' := ?_) rfl ?_ ?_ ?_
  rotate_left 2
  · intro U K d wx hI hmay hK
    refine ldOu (k := 1) (a := a) (f := 0) (l := 0) (x := 0) (v := .slice none 0 0) rfl rfl (fun o ho => (hI.b.cell (p := ⟨g2, o, none⟩) (G5.out _ (g2mem)).1).trans ((G5.out _ (g2mem)).2 o ho)) ?_
    exact hK _ hI.i6k4
  · intro U
    simp only [Act.put, List.setIfInBounds_toArray, List.set_cons_succ, List.set_cons_zero]
    rfl
  refine RH.goD (v := ?_) (f' := ?_) rfl ?_ ?_ ?_
  rotate_left 2
  · intro U K d wx hI hmay hK
    refine ldOu (k := 1) (a := y) (f := 0) (l := 0) (x := 0) (v := .slice none 0 0) rfl rfl (fun o ho => (hI.b.cell (p := ⟨g3, o, none⟩) (G5.out _ (g3mem)).1).trans ((G5.out _ (g3mem)).2 o ho)) ?_
    exact hK _ hI.i6k5
  · intro U
    simp only [Act.put, List.setIfInBounds_toArray, List.set_cons_succ, List.set_cons_zero]
    rfl
  refine RH.goN (f' := ?_) rfl ?_ ?_ ?_
  rotate_left 1
  · intro U K d wx hI hmay hK
    have h1 := hmay.1
    unfold od
    rw [dgz3.1, dgz3.2.1, dgz3.2.2.1, dgz3.2.2.2]
    go_simp
    exact hK _ _ (hI.i6l h1 (lit_VO _ _ LR.out.symm _ _ wx 4 rfl) ((Below.refl _ _).alloc (Nat.le_refl _) _))
  · intro U
    simp only [Act.put, List.setIfInBounds_toArray, List.set_cons_succ, List.set_cons_zero]
    rfl
  refine RH.goN (f' := ?_) rfl ?_ ?_ ?_
  rotate_left 1
  · intro U K d wx hI hmay hK
    have h7 := hmay.1
    have hd := hmay.2 _ rfl
    simp [Region.binds] at hd
    obtain ⟨B6, hB1, hB2, O6⟩ := hI.c (by simp [hd]) h7
    have V6 := hI.e (by simp [hd]) h7
    obtain ⟨v7, w7, hap, o7, g7⟩ := app_op 22 O6 V6 (fun z hz => by
      simp only [List.mem_cons, List.not_mem_nil, or_false] at hz
      rcases hz with rfl | rfl | rfl | rfl <;> exact ⟨_, _, _, rfl⟩) hB2 (by have := hn.out; have := HX.out; show xs.length + 4 ≤ _; omega)
    have r7 : Below w5.heap.size w5 w7 := hI.b.trans ((Below.refl _ _).grown g7 hI.b.size (fun k hk => Nat.le_trans hB1 (Sp.own_lo O6 k hk).1))
    refine ap_upv rfl rfl rfl hap ?_
    exact hK _ _ (hI.i6a h7 (by simp [hd]) (by simp [hd]) o7 r7)
  · intro U
    simp only [Act.put, List.setIfInBounds_toArray, List.set_cons_succ, List.set_cons_zero]
    rfl
  refine RH.goN (f' := ?_) rfl ?_ ?_ ?_
  rotate_left 1
  · intro U K d wx hI hmay hK
    have h8 := hmay.1
    have hd := hmay.2 _ rfl
    simp [Region.binds] at hd
    obtain ⟨B7, O7⟩ := hI.a (by simp [hd]) h8
    go_simp
    refine (KP.out wx B7 _ (M5b.out.trans (hI.b.mono M5b.out.size)) O7).mono (fun e w2 he => ?_)
    obtain ⟨ga, u, rfl, q1, q2⟩ := he
    refine ⟨_, rfl, ?_⟩
    exact hK _ _ (hI.i6p h8 (by simp [hd]) rfl ⟨_, q1⟩ q2)
  · intro U
    simp only [Act.put, List.setIfInBounds_toArray, List.set_cons_succ, List.set_cons_zero]
    rfl
  refine RH.goN (f' := ?_) rfl ?_ ?_ ?_
  rotate_left 1
  · intro U K d wx hI hmay hK
    have hd := hmay.2 _ rfl
    simp [Region.binds] at hd
    have hK2 := hK _ _ (hI.i6m (by simp [hd]))
    go_simp
    exact hK2
  · intro U
    simp only [Act.put, List.setIfInBounds_toArray, List.set_cons_succ, List.set_cons_zero]
    rfl
  refine RH.goN (f' := ?_) rfl ?_ ?_ ?_
  rotate_left 1
  · intro U K d wx hI hmay hK
    have hd := hmay.2 _ rfl
    simp [Region.binds] at hd
    obtain ⟨ga, u, e1, e2, e3, e4, e5⟩ := hI.p (hI.q9 (by simp [hd]))
    have e9 := e3 (by simp [hd])
    have hK2 := hK _ _ (hI.i6x (by simp [hd]) e9)
    clear e1 e2 e3 e4 e5
    go_simp
    exact hK2
  · intro U
    simp only [Act.put, List.setIfInBounds_toArray, List.set_cons_succ, List.set_cons_zero]
    rfl
  refine RH.goN (f' := ?_) rfl ?_ ?_ ?_
  rotate_left 1
  · intro U K d wx hI hmay hK
    have hd := hmay.2 _ rfl
    simp [Region.binds] at hd
    obtain ⟨ga, u, e1, e2, e3, e4, e5⟩ := hI.p (hI.q9 (by simp [hd]))
    have e9 := e3 (by simp [hd])
    have hK2 := hK _ _ (hI.i6y (by simp [hd]) e9)
    clear e1 e2 e3 e4 e5
    go_simp
    exact hK2
  · intro U
    simp only [Act.put, List.setIfInBounds_toArray, List.set_cons_succ, List.set_cons_zero]
    rfl
  refine RH.goN (f' := ?_) rfl ?_ ?_ ?_
  rotate_left 1
  · intro U K d wx hI hmay hK
    have hd := hmay.2 _ rfl
    simp [Region.binds] at hd
    have hK2 := hK _ _ (hI.i6z (by simp [hd]))
    go_simp
    exact hK2
  · intro U
    simp only [Act.put, List.setIfInBounds_toArray, List.set_cons_succ, List.set_cons_zero]
    rfl
  refine RH.goT ?_
  refine RH.go_end ?_
  intro d6 U w8 h6 hall
  simp +decide only [RH.tl, if_true, if_false]
  obtain ⟨ga, u, e8, ⟨B8, r8⟩, e9, e10, e11, e12⟩ := h6.p (hall 8 (by decide))
  have e10 := e10 (hall 10 (by decide))
  have e11 := e11 (hall 11 (by decide))
  have e12 := e12 (hall 12 (by decide))
  have R8 : Below w5.heap.size w5 w8 := h6.b
  rw [e10, e11, e12]
  clear e8 e9 e10 e11 e12 hall h6 KC5 LR g1mem g2mem g3mem G5 KC KP M5b
  generalize U 1 = U1
  generalize U 6 = U6
  generalize U 7 = U7
  generalize U 8 = U8
  generalize U 9 = U9
  have S8 : Hid (Sr w [Hm.W4 (w.heap.size + 1 + 1) y, Hm.W4 (w.heap.size + 1) x, Hm.W4 w.heap.size a] ga n k1 k2 k3 (e0, V, c0) (0, V1, c1) (0, x, 0) (e3, V3, c3) w8) := by
    have hlen : (Lr l a x y).length = k4 := by unfold Lr; rw [List.length_append, ← hn.out.1, hn.out.2.2.2.2.1]; rfl
    obtain ⟨e0, e1, e2, e3⟩ := hA.out
    have hh := hn.out
    refine ⟨Hm.below (Hm.sub Mw5.out (fun b hb => List.mem_cons_of_mem _ (List.mem_cons_of_mem _ (List.mem_cons_of_mem _ hb)))) R8, r8.hi, fun o ho => ?_, fun o ho => ?_, fun o ho => ?_, fun o ho => ?_⟩
    · rw [r8.c n (by omega) o ho, e0]
    · rw [r8.c k1 (by omega) o ho, e1]
    · rw [r8.c k2 (by omega) o ho, e2]
    · rw [r8.c k3 (by omega) o ho, e3]
  clear r8 R8 Mw5 hA
  obtain ⟨wn4, wn1, i1, j1, -⟩ := fxR n k1 k2 k3 k4 _ hn.out
  have x1 : w8.cell? ⟨ga, k1 * 6, none⟩ = some (.int .i64 0) := S8.out.c1 0 (by decide)
  obtain ⟨-, -, -, -, wi1, wi2, wi3, wn2, wn3, i0, j0, i2, j2, i3, j3⟩ := fxR n k1 k2 k3 k4 _ hn.out
  go_upto_region 12 with fail
  refine RS.wp_region_flat (Sr w [Hm.W4 (w.heap.size + 1 + 1) y, Hm.W4 (w.heap.size + 1) x, Hm.W4 w.heap.size a] ga n k1 k2 k3 (e0, V, c0) (0, V1, c1) (0, x, 0) (e3, V3, c3)) 27 (by kernel_rfl) (S8.out) ?_
  simp only [List.take_succ_cons, List.take_zero, List.drop_succ_cons, List.drop_zero]
  refine RS.go1 (v := ?_) (a' := ?_) rfl ?_ ?_ ?_
  rotate_left 2
  · intro K wx hS hK
    refine RW.ld rfl rfl (hS.hd.ok (Hm.W4 (w.heap.size) (a)) (by simp)).c ?_
    exact hK _ hS
  · simp only [Act.put, List.setIfInBounds_toArray, List.set_cons_succ, List.set_cons_zero]
    rfl
  refine RS.go1 (v := ?_) (a' := ?_) rfl ?_ ?_ ?_
  rotate_left 2
  · intro K wx hS hK
    refine RW.ld rfl rfl (hS.hd.ok (Hm.W4 (w.heap.size + 1 + 1) (y)) (by simp)).c ?_
    exact hK _ hS
  · simp only [Act.put, List.setIfInBounds_toArray, List.set_cons_succ, List.set_cons_zero]
    rfl
  refine RS.go1 (v := ?_) (a' := ?_) rfl ?_ ?_ ?_
  rotate_left 2
  · intro K wx hS hK
    go_simp
    refine (KC1.out wx).mono (fun e w2 he => ?_)
    refine ⟨_, he.1, ?_⟩
    exact hK _ (Sr_below hS he.2)
  · simp only [Act.put, List.setIfInBounds_toArray, List.set_cons_succ, List.set_cons_zero]
    rfl
  refine RS.go1 (v := ?_) (a' := ?_) rfl ?_ ?_ ?_
  rotate_left 2
  · intro K wx hS hK
    go_simp
    exact hK _ hS
  · simp only [Act.put, List.setIfInBounds_toArray, List.set_cons_succ, List.set_cons_zero]
    rfl
  refine RS.go1 (v := ?_) (a' := ?_) rfl ?_ ?_ ?_
  rotate_left 2
  · intro K wx hS hK
    go_simp
    exact hK _ hS
  · simp only [Act.put, List.setIfInBounds_toArray, List.set_cons_succ, List.set_cons_zero]
    rfl
  refine RS.go1g (v := ?_) (a' := ?_) (by kernel_rfl) ?_ ?_ ?_
  rotate_left 2
  · intro K wx hS hK
    refine RW.ld rfl rfl (hS.hd.ok (Hm.W4 (w.heap.size) (a)) (by simp)).c ?_
    exact hK _ hS
  · simp only [Act.put, List.setIfInBounds_toArray, List.set_cons_succ, List.set_cons_zero]
    rfl
  refine RS.go1g (v := ?_) (a' := ?_) (by kernel_rfl) ?_ ?_ ?_
  rotate_left 2
  · intro K wx hS hK
    refine RW.ld rfl rfl (hS.hd.ok (Hm.W4 (w.heap.size + 1 + 1) (y)) (by simp)).c ?_
    exact hK _ hS
  · simp only [Act.put, List.setIfInBounds_toArray, List.set_cons_succ, List.set_cons_zero]
    rfl
  refine RS.go1g (v := ?_) (a' := ?_) (by kernel_rfl) ?_ ?_ ?_
  rotate_left 2
  · intro K wx hS hK
    go_simp
    refine (KS1.out wx).mono (fun e w2 he => ?_)
    refine ⟨_, he.1, ?_⟩
    exact hK _ (Sr_below hS he.2)
  · simp only [Act.put, List.setIfInBounds_toArray, List.set_cons_succ, List.set_cons_zero]
    rfl
  refine RS.go1g (v := ?_) (a' := ?_) (by kernel_rfl) ?_ ?_ ?_
  rotate_left 2
  · intro K wx hS hK
    go_simp
    refine (KI.out wx).mono (fun e w2 he => ?_)
    refine ⟨_, he.1, ?_⟩
    exact hK _ (Sr_below hS he.2)
  · simp only [Act.put, List.setIfInBounds_toArray, List.set_cons_succ, List.set_cons_zero]
    rfl
  refine RS.go1g (v := ?_) (a' := ?_) (by kernel_rfl) ?_ ?_ ?_
  rotate_left 2
  · intro K wx hS hK
    go_simp
    refine (KC2.out wx).mono (fun e w2 he => ?_)
    refine ⟨_, he.1, ?_⟩
    exact hK _ (Sr_below hS he.2)
  · simp only [Act.put, List.setIfInBounds_toArray, List.set_cons_succ, List.set_cons_zero]
    rfl
  refine RS.go1g (v := ?_) (a' := ?_) (by kernel_rfl) ?_ ?_ ?_
  rotate_left 2
  · intro K wx hS hK
    go_simp
    exact hK _ hS
  · simp only [Act.put, List.setIfInBounds_toArray, List.set_cons_succ, List.set_cons_zero]
    rfl
  refine RS.go1 (v := ?_) (a' := ?_) rfl ?_ ?_ ?_
  rotate_left 2
  · intro K wx hS hK
    go_simp
    exact hK _ hS
  · simp only [Act.put, List.setIfInBounds_toArray, List.set_cons_succ, List.set_cons_zero]
    rfl
  refine RS.go1 (v := ?_) (a' := ?_) rfl ?_ ?_ ?_
  rotate_left 2
  · intro K wx hS hK
    go_simp
    exact hK _ hS
  · simp only [Act.put, List.setIfInBounds_toArray, List.set_cons_succ, List.set_cons_zero]
    rfl
  refine RS.go1g (v := ?_) (a' := ?_) (by kernel_rfl) ?_ ?_ ?_
  rotate_left 2
  · intro K wx hS hK
    refine RW.ld rfl rfl (hS.hd.ok (Hm.W4 (w.heap.size + 1 + 1) (y)) (by simp)).c ?_
    exact hK _ hS
  · simp only [Act.put, List.setIfInBounds_toArray, List.set_cons_succ, List.set_cons_zero]
    rfl
  refine RS.go1g (v := ?_) (a' := ?_) (by kernel_rfl) ?_ ?_ ?_
  rotate_left 2
  · intro K wx hS hK
    refine RW.ld rfl rfl (hS.hd.ok (Hm.W4 (w.heap.size) (a)) (by simp)).c ?_
    exact hK _ hS
  · simp only [Act.put, List.setIfInBounds_toArray, List.set_cons_succ, List.set_cons_zero]
    rfl
  refine RS.go1g (v := ?_) (a' := ?_) (by kernel_rfl) ?_ ?_ ?_
  rotate_left 2
  · intro K wx hS hK
    go_simp
    refine (KC3.out wx).mono (fun e w2 he => ?_)
    refine ⟨_, he.1, ?_⟩
    exact hK _ (Sr_below hS he.2)
  · simp only [Act.put, List.setIfInBounds_toArray, List.set_cons_succ, List.set_cons_zero]
    rfl
  refine RS.go1g (v := ?_) (a' := ?_) (by kernel_rfl) ?_ ?_ ?_
  rotate_left 2
  · intro K wx hS hK
    go_simp
    exact hK _ hS
  · simp only [Act.put, List.setIfInBounds_toArray, List.set_cons_succ, List.set_cons_zero]
    rfl
  refine RS.go1g (v := ?_) (a' := ?_) (by kernel_rfl) ?_ ?_ ?_
  rotate_left 2
  · intro K wx hS hK
    go_simp
    exact hK _ hS
  · simp only [Act.put, List.setIfInBounds_toArray, List.set_cons_succ, List.set_cons_zero]
    rfl
  refine RS.go0 (a' := ?_) (by kernel_rfl) ?_ ?_
  rotate_left 1
  · simp only [Act.put, List.setIfInBounds_toArray, List.set_cons_succ, List.set_cons_zero]
    rfl
  refine RS.go0 (a' := ?_) (by kernel_rfl) ?_ ?_
  rotate_left 1
  · simp only [Act.put, List.setIfInBounds_toArray, List.set_cons_succ, List.set_cons_zero]
    rfl
  refine RS.go0 (a' := ?_) (by kernel_rfl) ?_ ?_
  rotate_left 1
  · simp only [Act.put, List.setIfInBounds_toArray, List.set_cons_succ, List.set_cons_zero]
    rfl
  refine RS.go0 (a' := ?_) (by kernel_rfl) ?_ ?_
  rotate_left 1
  · simp only [Act.put, List.setIfInBounds_toArray, List.set_cons_succ, List.set_cons_zero]
    rfl
  refine RS.go0 (a' := ?_) (by kernel_rfl) ?_ ?_
  rotate_left 1
  · simp only [Act.put, List.setIfInBounds_toArray, List.set_cons_succ, List.set_cons_zero]
    rfl
  refine RS.go0 (a' := ?_) (by kernel_rfl) ?_ ?_
  rotate_left 1
  · simp only [Act.put, List.setIfInBounds_toArray, List.set_cons_succ, List.set_cons_zero]
    rfl
  refine RS.go1g (v := ?_) (a' := ?_) (by kernel_rfl) ?_ ?_ ?_
  rotate_left 2
  · intro K wx hS hK
    go_simp
    exact hK _ hS
  · simp only [Act.put, List.setIfInBounds_toArray, List.set_cons_succ, List.set_cons_zero]
    rfl
  refine RS.go1 (v := ?_) (a' := ?_) rfl ?_ ?_ ?_
  rotate_left 2
  · intro K wx hS hK
    go_simp
    exact hK _ hS
  · simp only [Act.put, List.setIfInBounds_toArray, List.set_cons_succ, List.set_cons_zero]
    rfl
  refine RS.go1 (v := ?_) (a' := ?_) rfl ?_ ?_ ?_
  rotate_left 2
  · intro K wx hS hK
    go_simp
    exact hK _ hS
  · simp only [Act.put, List.setIfInBounds_toArray, List.set_cons_succ, List.set_cons_zero]
    rfl
  refine RS.go_end ?_
  intro w10 h10
  have S10 : Hid _ := h10
  clear h10 S8
  generalize Wd a = Jb
  generalize Wd y = Jc
  go_upto_region 13 with fail
  refine RS.wp_region_one (Sr w [Hm.W4 (w.heap.size + 1 + 1) y, Hm.W4 (w.heap.size + 1) x, Hm.W4 w.heap.size a] ga n k1 k2 k3 (e0, V, c0) (0, V1, c1) (0, x, 0) (e3, V3, c3)) (by kernel_rfl) (by kernel_rfl) (Sr_below S10.out (Below.refl _ _).drew) ?_
  dsimp only [List.toList_toArray]
  refine RS.go1 (v := ?_) (a' := ?_) rfl ?_ ?_ ?_
  rotate_left 2
  · intro K wx hS hK
    go_simp
    exact hK _ hS
  · simp only [Act.put, List.setIfInBounds_toArray, List.set_cons_succ, List.set_cons_zero]
    rfl
  refine RS.go1 (v := ?_) (a' := ?_) rfl ?_ ?_ ?_
  rotate_left 2
  · intro K wx hS hK
    go_simp
    exact hK _ hS
  · simp only [Act.put, List.setIfInBounds_toArray, List.set_cons_succ, List.set_cons_zero]
    rfl
  refine RS.go1 (v := ?_) (a' := ?_) rfl ?_ ?_ ?_
  rotate_left 2
  · intro K wx hS hK
    go_simp
    exact hK _ hS
  · simp only [Act.put, List.setIfInBounds_toArray, List.set_cons_succ, List.set_cons_zero]
    rfl
  refine RS.go1 (v := ?_) (a' := ?_) rfl ?_ ?_ ?_
  rotate_left 2
  · intro K wx hS hK
    go_simp
    exact hK _ hS
  · simp only [Act.put, List.setIfInBounds_toArray, List.set_cons_succ, List.set_cons_zero]
    rfl
  refine RS.go1 (v := ?_) (a' := ?_) rfl ?_ ?_ ?_
  rotate_left 2
  · intro K wx hS hK
    refine ldA (x := (0, x, 0)) (b := k2 * 6) rfl rfl hS.c2 ?_
    exact hK _ hS
  · simp only [Act.put, List.setIfInBounds_toArray, List.set_cons_succ, List.set_cons_zero]
    rfl
  refine RS.go1 (v := ?_) (a' := ?_) rfl ?_ ?_ ?_
  rotate_left 2
  · intro K wx hS hK
    refine RW.ld rfl rfl (hS.hd.ok (Hm.W4 (w.heap.size + 1) (x)) (by simp)).c ?_
    exact hK _ hS
  · simp only [Act.put, List.setIfInBounds_toArray, List.set_cons_succ, List.set_cons_zero]
    rfl
  refine RS.go1 (v := ?_) (a' := ?_) rfl ?_ ?_ ?_
  rotate_left 2
  · intro K wx hS hK
    unfold Wd
    go_simp
    exact hK _ hS
  · simp only [Act.put, List.setIfInBounds_toArray, List.set_cons_succ, List.set_cons_zero]
    rfl
  refine RS.go1 (v := ?_) (a' := ?_) rfl ?_ ?_ ?_
  rotate_left 2
  · intro K wx hS hK
    refine eqAo (x := (0, x, 0)) (y := (0, x, 0)) (b := true) rfl rfl rfl (by simp [sa]) ?_
    exact hK _ hS
  · simp only [Act.put, List.setIfInBounds_toArray, List.set_cons_succ, List.set_cons_zero]
    rfl
  refine RS.go1 (v := ?_) (a' := ?_) rfl ?_ ?_ ?_
  rotate_left 2
  · intro K wx hS hK
    go_simp
    exact hK _ hS
  · simp only [Act.put, List.setIfInBounds_toArray, List.set_cons_succ, List.set_cons_zero]
    rfl
  refine RS.go1g (v := ?_) (a' := ?_) (by kernel_rfl) ?_ ?_ ?_
  rotate_left 2
  · intro K wx hS hK
    go_simp
    exact hK _ hS
  · simp only [Act.put, List.setIfInBounds_toArray, List.set_cons_succ, List.set_cons_zero]
    rfl
  refine RS.go1g (v := ?_) (a' := ?_) (by kernel_rfl) ?_ ?_ ?_
  rotate_left 2
  · intro K wx hS hK
    go_simp
    exact hK _ hS
  · simp only [Act.put, List.setIfInBounds_toArray, List.set_cons_succ, List.set_cons_zero]
    rfl
  refine RS.go1g (v := ?_) (a' := ?_) (by kernel_rfl) ?_ ?_ ?_
  rotate_left 2
  · intro K wx hS hK
    go_simp
    exact hK _ hS
  · simp only [Act.put, List.setIfInBounds_toArray, List.set_cons_succ, List.set_cons_zero]
    rfl
  refine RS.go0 (a' := ?_) (by kernel_rfl) ?_ ?_
  rotate_left 1
  · simp only [Act.put, List.setIfInBounds_toArray, List.set_cons_succ, List.set_cons_zero]
    rfl
  refine RS.go0 (a' := ?_) (by kernel_rfl) ?_ ?_
  rotate_left 1
  · simp only [Act.put, List.setIfInBounds_toArray, List.set_cons_succ, List.set_cons_zero]
    rfl
  refine RS.go0 (a' := ?_) (by kernel_rfl) ?_ ?_
  rotate_left 1
  · simp only [Act.put, List.setIfInBounds_toArray, List.set_cons_succ, List.set_cons_zero]
    rfl
  refine RS.go0 (a' := ?_) (by kernel_rfl) ?_ ?_
  rotate_left 1
  · simp only [Act.put, List.setIfInBounds_toArray, List.set_cons_succ, List.set_cons_zero]
    rfl
  refine RS.go0 (a' := ?_) (by kernel_rfl) ?_ ?_
  rotate_left 1
  · simp only [Act.put, List.setIfInBounds_toArray, List.set_cons_succ, List.set_cons_zero]
    rfl
  refine RS.go0 (a' := ?_) (by kernel_rfl) ?_ ?_
  rotate_left 1
  · simp only [Act.put, List.setIfInBounds_toArray, List.set_cons_succ, List.set_cons_zero]
    rfl
  refine RS.go0 (a' := ?_) (by kernel_rfl) ?_ ?_
  rotate_left 1
  · simp only [Act.put, List.setIfInBounds_toArray, List.set_cons_succ, List.set_cons_zero]
    rfl
  refine RS.go0 (a' := ?_) (by kernel_rfl) ?_ ?_
  rotate_left 1
  · simp only [Act.put, List.setIfInBounds_toArray, List.set_cons_succ, List.set_cons_zero]
    rfl
  refine RS.go0 (a' := ?_) (by kernel_rfl) ?_ ?_
  rotate_left 1
  · simp only [Act.put, List.setIfInBounds_toArray, List.set_cons_succ, List.set_cons_zero]
    rfl
  refine RS.go0 (a' := ?_) (by kernel_rfl) ?_ ?_
  rotate_left 1
  · simp only [Act.put, List.setIfInBounds_toArray, List.set_cons_succ, List.set_cons_zero]
    rfl
  refine RS.go0 (a' := ?_) (by kernel_rfl) ?_ ?_
  rotate_left 1
  · simp only [Act.put, List.setIfInBounds_toArray, List.set_cons_succ, List.set_cons_zero]
    rfl
  refine RS.go0 (a' := ?_) (by kernel_rfl) ?_ ?_
  rotate_left 1
  · simp only [Act.put, List.setIfInBounds_toArray, List.set_cons_succ, List.set_cons_zero]
    rfl
  refine RS.go1g (v := ?_) (a' := ?_) (by kernel_rfl) ?_ ?_ ?_
  rotate_left 2
  · intro K wx hS hK
    go_simp
    exact hK _ hS
  · simp only [Act.put, List.setIfInBounds_toArray, List.set_cons_succ, List.set_cons_zero]
    rfl
  refine RS.go1 (v := ?_) (a' := ?_) rfl ?_ ?_ ?_
  rotate_left 2
  · intro K wx hS hK
    go_simp
    exact hK _ hS
  · simp only [Act.put, List.setIfInBounds_toArray, List.set_cons_succ, List.set_cons_zero]
    rfl
  refine RS.go1 (v := ?_) (a' := ?_) rfl ?_ ?_ ?_
  rotate_left 2
  · intro K wx hS hK
    go_simp
    exact hK _ hS
  · simp only [Act.put, List.setIfInBounds_toArray, List.set_cons_succ, List.set_cons_zero]
    rfl
  refine RS.go_end ?_
  intro w9 h9
  have H9 : Hid (Below w.heap.size w w9) := h9.hd.bel
  clear h9
  go_wp2
  go_ret
  exact ⟨rfl, H9.out⟩
end Mm
end Go.Proofs.Ytcpgcdffienobaa
/- lampbearerkeep.MemoryRead: read_2a. -/
namespace Go.Proofs.Ytcpgcdffienobaa
namespace Mm
open Go.RowKit Pk
set_option maxHeartbeats 4000000 in
set_option maxRecDepth 100000 in
theorem read_2a (l : List Mo) (xs : List OV) (n k1 k2 k3 k4 a x y : Nat) (hxs : Hid (xs.map (·.1) = l)) (hl : Hid (∀ x, x ∈ l → Wf x)) (hn : Hid (n = l.length ∧ k1 = n + 1 ∧ k2 = n + 2 ∧ k3 = n + 3 ∧ k4 = n + 4 ∧ k4 ≤ 1048576)) (hw : Hid (a < 2 ^ 256 ∧ x < 2 ^ 256 ∧ y < 2 ^ 256)) (e0 e3 c0 c1 c3 : Int) (V V1 : Nat) (q1 q2 q3 : Int) (D : Nat) (KC1 : Hid (∀ W : World, Calls Try.prog 16 #[Wd a, Wd y] W fun e w' => e = .returned (.int .i64 q1) ∧ Below W.heap.size W w')) (KC3 : Hid (∀ W : World, Calls Try.prog 16 #[Wd y, Wd a] W fun e w' => e = .returned (.int .i64 q3) ∧ Below W.heap.size W w')) (KS3 : Hid (∀ W : World, Calls Try.prog 17 #[Wd y, Wd a] W fun e w' => e = .returned (Wd D) ∧ Below W.heap.size W w')) (KI : Hid (∀ W : World, Calls Try.prog 18 #[.int .u64 32] W fun e w' => e = .returned (Wd 32) ∧ Below W.heap.size W w')) (KC2 : Hid (∀ W : World, Calls Try.prog 16 #[Wd D, Wd 32] W fun e w' => e = .returned (.int .i64 q2) ∧ Below W.heap.size W w')) (t1 : decide ((0 : Int) < q1) = false) (t3 : (0 : Int) < q3) (t2 : (0 : Int) ≤ q2) (hA : Hid (an (Lr l a x y) n = (e0, V, c0) ∧ an (Lr l a x y) k1 = (0, V1, c1) ∧ an (Lr l a x y) k2 = (0, x, 0) ∧ an (Lr l a x y) k3 = (e3, V, c3)))
    (ao : Option Addr) (cap : Nat) (w : World) (hv : Hid (VO xs (.slice ao n cap) w ∧ ∀ x, x ∈ xs → Tr.Bs (· < w.heap.size) x.1.d x.2 w)) :
    Calls Try.prog 4 #[.slice ao n cap, Wd a, Wd x, Wd y] w fun e w' => e = .returned (.bool true) ∧ Below w.heap.size w w' := by
  have HX : Hid (xs.length = n) := by
    show _ = _
    rw [hn.out.1, ← hxs.out, List.length_map]
  have KC : Hid (∀ W : World, Below w.heap.size w W → Calls Try.prog 15 #[.slice ao n cap] W fun e w' => ∃ z, e = .returned z ∧ Oo W.heap.size xs z w' ∧ Below W.heap.size W w') := fun W hb => clone_op xs _ W (VO_below hv.out.1 hb) (fun x hx => Bs_isSl (hv.out.2 x hx)) (by have := hn.out; have := HX.out; omega)
  have KP : Hid (∀ (W : World) (Bs : Nat) (v : Value), Below w.heap.size w W → Oo Bs (xs ++ [(oL y, .slice none 0 0), (oS a x, .slice none 0 0), (oL a, .slice none 0 0), (oL y, .slice none 0 0)]) v W → Calls Try.prog 9 #[v] W fun e w' => ∃ ga u, e = .returned (.tuple #[.slice (some ⟨ga, 0, none⟩) k4 k4, u]) ∧ Rp W.heap.size ga (Lr l a x y) u w' ∧ Below W.heap.size W w') := fun W Bs v hb1 ho => by
    have hM := Oo_in ho (fun z hz => by
      rcases List.mem_append.1 hz with h | h
      · exact Bs_in (hv.out.2 z h) hb1
      · simp only [List.mem_cons, List.not_mem_nil, or_false] at h
        rcases h with rfl | rfl | rfl | rfl <;> exact Tr.Bs_nil _ _)
    rw [List.map_append, hxs.out] at hM
    have hM : Mr (· < W.heap.size) (Lr l a x y) v W := hM
    have hlen : (Lr l a x y).length = k4 := by unfold Lr; rw [List.length_append, ← hn.out.1, hn.out.2.2.2.2.1]; rfl
    have wf1 : ∀ q, q < 2 ^ 256 → Wf (oL q) := fun q hq => ⟨hq, by show 0 < 2 ^ 256; decide, by show 0 < 2 ^ 256; decide, by show 0 ≤ _; omega⟩
    have wf2 : Wf (oS a x) := ⟨hw.out.1, by show 0 < 2 ^ 256; decide, by show 0 < 2 ^ 256; decide, by show 0 ≤ _; omega⟩
    have k := play_any (Lr l a x y) (wf_in _ (fun q hq => by
      rcases List.mem_append.1 hq with h | h
      · exact hl.out q h
      · simp only [List.mem_cons, List.not_mem_nil, or_false] at h
        rcases h with rfl | rfl | rfl | rfl
        · exact wf1 y hw.out.2.2
        · exact wf2
        · exact wf1 a hw.out.1
        · exact wf1 y hw.out.2.2)) (by rw [hlen]; exact hn.out.2.2.2.2.2) v W hM
    rw [hlen] at k
    exact k
  conv => arg 3; unfold Wd
  go_enter Try.func4, Try.ntmps4
  go_upto_region 1 with fail
  have m0 : Hm.Hd w [Hm.W4 (w.heap.size + 1 + 1) y, Hm.W4 (w.heap.size + 1) x, Hm.W4 w.heap.size a] (((w.alloc (.cells #[.int .u64 (dg a 0), .int .u64 (dg a 1), .int .u64 (dg a 2), .int .u64 (dg a 3)] 32)).alloc (.cells #[.int .u64 (dg x 0), .int .u64 (dg x 1), .int .u64 (dg x 2), .int .u64 (dg x 3)] 32)).alloc (.cells #[.int .u64 (dg y 0), .int .u64 (dg y 1), .int .u64 (dg y 2), .int .u64 (dg y 3)] 32)) := by
    have q1 := Hm.new4 (n := a) (T := 32) (Hm.start w) rfl
    have q2 := Hm.new4 (n := x) (T := 32) (g := w.heap.size + 1) q1 (by simp)
    exact Hm.new4 (n := y) (T := 32) (g := w.heap.size + 1 + 1) q2 (by simp)
  generalize ((w.alloc (.cells #[.int .u64 (dg a 0), .int .u64 (dg a 1), .int .u64 (dg a 2), .int .u64 (dg a 3)] 32)).alloc (.cells #[.int .u64 (dg x 0), .int .u64 (dg x 1), .int .u64 (dg x 2), .int .u64 (dg x 3)] 32)).alloc (.cells #[.int .u64 (dg y 0), .int .u64 (dg y 1), .int .u64 (dg y 2), .int .u64 (dg y 3)] 32) = w0 at m0 ⊢
  have M0 : Hid _ := m0
  clear m0
  go_wp2_with fail
  refine (alive_any w0).mono ?_
  rintro e w1 ⟨rfl, b1⟩
  have M1 : Hid (Hm.Hd w [Hm.W4 (w.heap.size + 1 + 1) y, Hm.W4 (w.heap.size + 1) x, Hm.W4 w.heap.size a] w1) := Hm.below M0.out b1
  clear b1 M0
  go_upto_region 3 with fail
  refine RS.wp_region_flat (Hm.Hd w [Hm.W4 (w.heap.size + 1 + 1) y, Hm.W4 (w.heap.size + 1) x, Hm.W4 w.heap.size a]) 3 (by kernel_rfl) (M1.out) ?_
  simp only [List.take_succ_cons, List.take_zero, List.drop_succ_cons, List.drop_zero]
  refine RS.go1 (v := ?_) (a' := ?_) rfl ?_ ?_ ?_
  rotate_left 2
  · intro K wx hS hK
    refine RW.ld rfl rfl (hS.ok (Hm.W4 (w.heap.size) (a)) (by simp)).c ?_
    exact hK _ hS
  · simp only [Act.put, List.setIfInBounds_toArray, List.set_cons_succ, List.set_cons_zero]
    rfl
  refine RS.go1 (v := ?_) (a' := ?_) rfl ?_ ?_ ?_
  rotate_left 2
  · intro K wx hS hK
    refine RW.ld rfl rfl (hS.ok (Hm.W4 (w.heap.size + 1) (x)) (by simp)).c ?_
    exact hK _ hS
  · simp only [Act.put, List.setIfInBounds_toArray, List.set_cons_succ, List.set_cons_zero]
    rfl
  refine RS.go1 (v := ?_) (a' := ?_) rfl ?_ ?_ ?_
  rotate_left 2
  · intro K wx hS hK
    unfold Wd
    go_simp
    exact hK _ hS
  · simp only [Act.put, List.setIfInBounds_toArray, List.set_cons_succ, List.set_cons_zero]
    rfl
  refine RS.go_end ?_
  intro wq h9
  have Nq : Hid _ := h9
  clear h9 M1
  refine RF.go (by kernel_rfl) ?_
  refine alO rfl ?_
  have Nz : Hid _ := newZ Nq.out
  have ne : Hid (∀ b, b ∈ [Hm.W4 (w.heap.size + 1 + 1) y, Hm.W4 (w.heap.size + 1) x, Hm.W4 w.heap.size a] → wq.heap.size ≠ b.g) := fun b hb => Nat.ne_of_gt (Nq.out.ok b hb).hi
  clear Nq
  generalize wq.alloc (.cells zO 38) = wz at Nz ⊢
  generalize wq.heap.size = g1 at Nz ne ⊢
  simp only [Act.put, List.setIfInBounds_toArray, List.set_cons_succ, List.set_cons_zero]
  refine stO ⟨2, a, 0, 0, x, []⟩ none 0 0 rfl rfl rfl (eS a x) Nz.out ne.out (fun w3 h9 => ?_)
  have Mw3 : Hid _ := h9
  clear h9 Nz ne
  refine wpList_nil ?_
  dsimp only [Act.put]
  generalize (Value.agg #[.int .i64 2, .int .u64 (dg a 0), .int .u64 (dg a 1), .int .u64 (dg a 2), .int .u64 (dg a 3), .int .u64 0, .int .u64 0, .int .u64 0, .int .u64 0, .int .u64 0, .int .u64 0, .int .u64 0, .int .u64 0, .int .u64 (dg x 0), .int .u64 (dg x 1), .int .u64 (dg x 2), .int .u64 (dg x 3), .slice none 0 0]) = Jg1
  go_upto_region 4 with fail
  refine RS.wp_region_flat (Hm.Hd w (⟨g1, 18, oc 2 a 0 0 x (.slice none 0 0)⟩ :: [Hm.W4 (w.heap.size + 1 + 1) y, Hm.W4 (w.heap.size + 1) x, Hm.W4 w.heap.size a])) 2 (by kernel_rfl) (Mw3.out) ?_
  simp only [List.take_succ_cons, List.take_zero, List.drop_succ_cons, List.drop_zero]
  refine RS.go1 (v := ?_) (a' := ?_) rfl ?_ ?_ ?_
  rotate_left 2
  · intro K wx hS hK
    refine RW.ld rfl rfl (hS.ok (Hm.W4 (w.heap.size) (a)) (by simp)).c ?_
    exact hK _ hS
  · simp only [Act.put, List.setIfInBounds_toArray, List.set_cons_succ, List.set_cons_zero]
    rfl
  refine RS.go1 (v := ?_) (a' := ?_) rfl ?_ ?_ ?_
  rotate_left 2
  · intro K wx hS hK
    unfold Wd
    go_simp
    exact hK _ hS
  · simp only [Act.put, List.setIfInBounds_toArray, List.set_cons_succ, List.set_cons_zero]
    rfl
  refine RS.go_end ?_
  intro wq h9
  have Nq : Hid _ := h9
  clear h9 Mw3
  refine RF.go (by kernel_rfl) ?_
  refine alO rfl ?_
  have Nz : Hid _ := newZ Nq.out
  have ne : Hid (∀ b, b ∈ (⟨g1, 18, oc 2 a 0 0 x (.slice none 0 0)⟩ :: [Hm.W4 (w.heap.size + 1 + 1) y, Hm.W4 (w.heap.size + 1) x, Hm.W4 w.heap.size a]) → wq.heap.size ≠ b.g) := fun b hb => Nat.ne_of_gt (Nq.out.ok b hb).hi
  clear Nq
  generalize wq.alloc (.cells zO 38) = wz at Nz ⊢
  generalize wq.heap.size = g2 at Nz ne ⊢
  simp only [Act.put, List.setIfInBounds_toArray, List.set_cons_succ, List.set_cons_zero]
  refine stO ⟨1, a, 0, 0, 0, []⟩ none 0 0 rfl rfl rfl (eL a) Nz.out ne.out (fun w4 h9 => ?_)
  have Mw4 : Hid _ := h9
  clear h9 Nz ne
  refine wpList_nil ?_
  dsimp only [Act.put]
  generalize (Value.agg #[.int .i64 1, .int .u64 (dg a 0), .int .u64 (dg a 1), .int .u64 (dg a 2), .int .u64 (dg a 3), .int .u64 0, .int .u64 0, .int .u64 0, .int .u64 0, .int .u64 0, .int .u64 0, .int .u64 0, .int .u64 0, .int .u64 0, .int .u64 0, .int .u64 0, .int .u64 0, .slice none 0 0]) = Jg2
  go_upto_region 5 with fail
  refine RS.wp_region_flat (Hm.Hd w (⟨g2, 18, oc 1 a 0 0 0 (.slice none 0 0)⟩ :: (⟨g1, 18, oc 2 a 0 0 x (.slice none 0 0)⟩ :: [Hm.W4 (w.heap.size + 1 + 1) y, Hm.W4 (w.heap.size + 1) x, Hm.W4 w.heap.size a]))) 2 (by kernel_rfl) (Mw4.out) ?_
  simp only [List.take_succ_cons, List.take_zero, List.drop_succ_cons, List.drop_zero]
  refine RS.go1 (v := ?_) (a' := ?_) rfl ?_ ?_ ?_
  rotate_left 2
  · intro K wx hS hK
    refine RW.ld rfl rfl (hS.ok (Hm.W4 (w.heap.size + 1 + 1) (y)) (by simp)).c ?_
    exact hK _ hS
  · simp only [Act.put, List.setIfInBounds_toArray, List.set_cons_succ, List.set_cons_zero]
    rfl
  refine RS.go1 (v := ?_) (a' := ?_) rfl ?_ ?_ ?_
  rotate_left 2
  · intro K wx hS hK
    unfold Wd
    go_simp
    exact hK _ hS
  · simp only [Act.put, List.setIfInBounds_toArray, List.set_cons_succ, List.set_cons_zero]
    rfl
  refine RS.go_end ?_
  intro wq h9
  have Nq : Hid _ := h9
  clear h9 Mw4
  refine RF.go (by kernel_rfl) ?_
  refine alO rfl ?_
  have Nz : Hid _ := newZ Nq.out
  have ne : Hid (∀ b, b ∈ (⟨g2, 18, oc 1 a 0 0 0 (.slice none 0 0)⟩ :: (⟨g1, 18, oc 2 a 0 0 x (.slice none 0 0)⟩ :: [Hm.W4 (w.heap.size + 1 + 1) y, Hm.W4 (w.heap.size + 1) x, Hm.W4 w.heap.size a])) → wq.heap.size ≠ b.g) := fun b hb => Nat.ne_of_gt (Nq.out.ok b hb).hi
  clear Nq
  generalize wq.alloc (.cells zO 38) = wz at Nz ⊢
  generalize wq.heap.size = g3 at Nz ne ⊢
  simp only [Act.put, List.setIfInBounds_toArray, List.set_cons_succ, List.set_cons_zero]
  refine stO ⟨1, y, 0, 0, 0, []⟩ none 0 0 rfl rfl rfl (eL y) Nz.out ne.out (fun w5 h9 => ?_)
  have Mw5 : Hid _ := h9
  clear h9 Nz ne
  refine wpList_nil ?_
  dsimp only [Act.put]
  generalize (Value.agg #[.int .i64 1, .int .u64 (dg y 0), .int .u64 (dg y 1), .int .u64 (dg y 2), .int .u64 (dg y 3), .int .u64 0, .int .u64 0, .int .u64 0, .int .u64 0, .int .u64 0, .int .u64 0, .int .u64 0, .int .u64 0, .int .u64 0, .int .u64 0, .int .u64 0, .int .u64 0, .slice none 0 0]) = Jg3
  go_upto_region 6 with fail
  generalize (Value.agg #[.int .u64 (dg a 0), .int .u64 (dg a 1), .int .u64 (dg a 2), .int .u64 (dg a 3)]) = Ja
  generalize (Value.agg #[.int .u64 (dg x 0), .int .u64 (dg x 1), .int .u64 (dg x 2), .int .u64 (dg x 3)]) = Jx
  generalize (Value.agg #[.int .u64 (dg y 0), .int .u64 (dg y 1), .int .u64 (dg y 2), .int .u64 (dg y 3)]) = Jy
  generalize Wd a = Ja2
  generalize Wd x = Jx2
  generalize Wd y = Jy2
  have G5 : Hid (∀ b, b ∈ (⟨g3, 18, oc 1 y 0 0 0 (.slice none 0 0)⟩ :: (⟨g2, 18, oc 1 a 0 0 0 (.slice none 0 0)⟩ :: (⟨g1, 18, oc 2 a 0 0 x (.slice none 0 0)⟩ :: [Hm.W4 (w.heap.size + 1 + 1) y, Hm.W4 (w.heap.size + 1) x, Hm.W4 w.heap.size a]))) → b.g < w5.heap.size ∧ ∀ o, o < b.n → w5.cell? ⟨b.g, o, none⟩ = some (b.F o)) := fun b hb => ⟨(Mw5.out.ok b hb).hi, (Mw5.out.ok b hb).c⟩
  have g3mem : (⟨g3, 18, oc 1 y 0 0 0 (.slice none 0 0)⟩ : Hm.Bk) ∈ (⟨g3, 18, oc 1 y 0 0 0 (.slice none 0 0)⟩ :: (⟨g2, 18, oc 1 a 0 0 0 (.slice none 0 0)⟩ :: (⟨g1, 18, oc 2 a 0 0 x (.slice none 0 0)⟩ :: [Hm.W4 (w.heap.size + 1 + 1) y, Hm.W4 (w.heap.size + 1) x, Hm.W4 w.heap.size a]))) := by simp
  have g2mem : (⟨g2, 18, oc 1 a 0 0 0 (.slice none 0 0)⟩ : Hm.Bk) ∈ (⟨g3, 18, oc 1 y 0 0 0 (.slice none 0 0)⟩ :: (⟨g2, 18, oc 1 a 0 0 0 (.slice none 0 0)⟩ :: (⟨g1, 18, oc 2 a 0 0 x (.slice none 0 0)⟩ :: [Hm.W4 (w.heap.size + 1 + 1) y, Hm.W4 (w.heap.size + 1) x, Hm.W4 w.heap.size a]))) := by simp
  have g1mem : (⟨g1, 18, oc 2 a 0 0 x (.slice none 0 0)⟩ : Hm.Bk) ∈ (⟨g3, 18, oc 1 y 0 0 0 (.slice none 0 0)⟩ :: (⟨g2, 18, oc 1 a 0 0 0 (.slice none 0 0)⟩ :: (⟨g1, 18, oc 2 a 0 0 x (.slice none 0 0)⟩ :: [Hm.W4 (w.heap.size + 1 + 1) y, Hm.W4 (w.heap.size + 1) x, Hm.W4 w.heap.size a]))) := by simp
  have KC5 : Hid (∀ W : World, Below w5.heap.size w5 W → Calls Try.prog 15 #[.slice ao n cap] W fun e w' => ∃ z, e = .returned z ∧ Oo W.heap.size xs z w' ∧ Below W.heap.size W w') := fun W hb => KC.out W (Mw5.out.bel.trans (hb.mono Mw5.out.bel.size))
  have LR : Hid _ := litR a x y
  have M5b : Hid (Below w.heap.size w w5) := Mw5.out.bel
  refine RH.wp_region_genI (I6 w5 xs [(oL y, .slice none 0 0), (oS a x, .slice none 0 0), (oL a, .slice none 0 0), (oL y, .slice none 0 0)] (fun ga u wx => ∃ B, Rp B ga (Lr l a x y) u wx) k4) [0, 1, 0, 0, 0, 0, 1, 1, 1, 1, 1, 1, 1, 2] (by kernel_rfl) (by kernel_rfl) (I6.i6s) ?_
  dsimp only [List.toList_toArray]
  refine RH.goD (v := ?_) (f' := ?_) rfl ?_ ?_ ?_
  rotate_left 2
  · intro U K d wx hI hmay hK
    go_simp
    exact hK _ hI.i6k0
  · intro U
    simp only [Act.put, List.setIfInBounds_toArray, List.set_cons_succ, List.set_cons_zero]
    rfl
  refine RH.goN (f' := ?_) rfl ?_ ?_ ?_
  rotate_left 1
  · intro U K d wx hI hmay hK
    have h1 := hmay.1
    go_simp
    refine (KC5.out _ hI.b).mono (fun e w2 he => ?_)
    obtain ⟨z, rfl, q1, q2⟩ := he
    refine ⟨_, rfl, ?_⟩
    exact hK _ _ (hI.i6c h1 q1 q2)
  · intro U
    simp only [Act.put, List.setIfInBounds_toArray, List.set_cons_succ, List.set_cons_zero]
    rfl
  refine RH.goD (v := ?_) (f' := ?_) rfl ?_ ?_ ?_
  rotate_left 2
  · intro U K d wx hI hmay hK
    refine ldOu (k := 1) (a := y) (f := 0) (l := 0) (x := 0) (v := .slice none 0 0) rfl rfl (fun o ho => (hI.b.cell (p := ⟨g3, o, none⟩) (G5.out _ (g3mem)).1).trans ((G5.out _ (g3mem)).2 o ho)) ?_
    exact hK _ hI.i6k2
  · intro U
    simp only [Act.put, List.setIfInBounds_toArray, List.set_cons_succ, List.set_cons_zero]
    rfl
  refine RH.goD (v := ?_) (f' := ?_) rfl ?_ ?_ ?_
  rotate_left 2
  · intro U K d wx hI hmay hK
    refine ldOu (k := 2) (a := a) (f := 0) (l := 0) (x := x) (v := .slice none 0 0) rfl rfl (fun o ho => (hI.b.cell (p := ⟨g1, o, none⟩) (G5.out _ (g1mem)).1).trans ((G5.out _ (g1mem)).2 o ho)) ?_
    exact hK _ hI.i6k3
  · intro U
    simp only [Act.put, List.setIfInBounds_toArray, List.set_cons_succ, List.set_cons_zero]
    rfl
  refine RH.goD (v := ?_) (f' := ?_) rfl ?_ ?_ ?_
  rotate_left 2
  · intro U K d wx hI hmay hK
    refine ldOu (k := 1) (a := a) (f := 0) (l := 0) (x := 0) (v := .slice none 0 0) rfl rfl (fun o ho => (hI.b.cell (p := ⟨g2, o, none⟩) (G5.out _ (g2mem)).1).trans ((G5.out _ (g2mem)).2 o ho)) ?_
    exact hK _ hI.i6k4
  · intro U
    simp only [Act.put, List.setIfInBounds_toArray, List.set_cons_succ, List.set_cons_zero]
    rfl
  refine RH.goD (v := ?_) (f' := ?_) rfl ?_ ?_ ?_
  rotate_left 2
  · intro U K d wx hI hmay hK
    refine ldOu (k := 1) (a := y) (f := 0) (l := 0) (x := 0) (v := .slice none 0 0) rfl rfl (fun o ho => (hI.b.cell (p := ⟨g3, o, none⟩) (G5.out _ (g3mem)).1).trans ((G5.out _ (g3mem)).2 o ho)) ?_
    exact hK _ hI.i6k5
  · intro U
    simp only [Act.put, List.setIfInBounds_toArray, List.set_cons_succ, List.set_cons_zero]
    rfl
  refine RH.goN (f' := ?_) rfl ?_ ?_ ?_
  rotate_left 1
  · intro U K d wx hI hmay hK
    have h1 := hmay.1
    unfold od
    rw [dgz3.1, dgz3.2.1, dgz3.2.2.1, dgz3.2.2.2]
    go_simp
    exact hK _ _ (hI.i6l h1 (lit_VO _ _ LR.out.symm _ _ wx 4 rfl) ((Below.refl _ _).alloc (Nat.le_refl _) _))
  · intro U
    simp only [Act.put, List.setIfInBounds_toArray, List.set_cons_succ, List.set_cons_zero]
    rfl
  refine RH.goN (f' := ?_) rfl ?_ ?_ ?_
  rotate_left 1
  · intro U K d wx hI hmay hK
    have h7 := hmay.1
    have hd := hmay.2 _ rfl
    simp [Region.binds] at hd
    obtain ⟨B6, hB1, hB2, O6⟩ := hI.c (by simp [hd]) h7
    have V6 := hI.e (by simp [hd]) h7
    obtain ⟨v7, w7, hap, o7, g7⟩ := app_op 22 O6 V6 (fun z hz => by
      simp only [List.mem_cons, List.not_mem_nil, or_false] at hz
      rcases hz with rfl | rfl | rfl | rfl <;> exact ⟨_, _, _, rfl⟩) hB2 (by have := hn.out; have := HX.out; show xs.length + 4 ≤ _; omega)
    have r7 : Below w5.heap.size w5 w7 := hI.b.trans ((Below.refl _ _).grown g7 hI.b.size (fun k hk => Nat.le_trans hB1 (Sp.own_lo O6 k hk).1))
    refine ap_upv rfl rfl rfl hap ?_
    exact hK _ _ (hI.i6a h7 (by simp [hd]) (by simp [hd]) o7 r7)
  · intro U
    simp only [Act.put, List.setIfInBounds_toArray, List.set_cons_succ, List.set_cons_zero]
    rfl
  refine RH.goN (f' := ?_) rfl ?_ ?_ ?_
  rotate_left 1
  · intro U K d wx hI hmay hK
    have h8 := hmay.1
    have hd := hmay.2 _ rfl
    simp [Region.binds] at hd
    obtain ⟨B7, O7⟩ := hI.a (by simp [hd]) h8
    go_simp
    refine (KP.out wx B7 _ (M5b.out.trans (hI.b.mono M5b.out.size)) O7).mono (fun e w2 he => ?_)
    obtain ⟨ga, u, rfl, q1, q2⟩ := he
    refine ⟨_, rfl, ?_⟩
    exact hK _ _ (hI.i6p h8 (by simp [hd]) rfl ⟨_, q1⟩ q2)
  · intro U
    simp only [Act.put, List.setIfInBounds_toArray, List.set_cons_succ, List.set_cons_zero]
    rfl
  refine RH.goN (f' := ?_) rfl ?_ ?_ ?_
  rotate_left 1
  · intro U K d wx hI hmay hK
    have hd := hmay.2 _ rfl
    simp [Region.binds] at hd
    have hK2 := hK _ _ (hI.i6m (by simp [hd]))
    go_simp
    exact hK2
  · intro U
    simp only [Act.put, List.setIfInBounds_toArray, List.set_cons_succ, List.set_cons_zero]
    rfl
  refine RH.goN (f' := ?_) rfl ?_ ?_ ?_
  rotate_left 1
  · intro U K d wx hI hmay hK
    have hd := hmay.2 _ rfl
    simp [Region.binds] at hd
    obtain ⟨ga, u, e1, e2, e3, e4, e5⟩ := hI.p (hI.q9 (by simp [hd]))
    have e9 := e3 (by simp [hd])
    have hK2 := hK _ _ (hI.i6x (by simp [hd]) e9)
    clear e1 e2 e3 e4 e5
    go_simp
    exact hK2
  · intro U
    simp only [Act.put, List.setIfInBounds_toArray, List.set_cons_succ, List.set_cons_zero]
    rfl
  refine RH.goN (f' := ?_) rfl ?_ ?_ ?_
  rotate_left 1
  · intro U K d wx hI hmay hK
    have hd := hmay.2 _ rfl
    simp [Region.binds] at hd
    obtain ⟨ga, u, e1, e2, e3, e4, e5⟩ := hI.p (hI.q9 (by simp [hd]))
    have e9 := e3 (by simp [hd])
    have hK2 := hK _ _ (hI.i6y (by simp [hd]) e9)
    clear e1 e2 e3 e4 e5
    go_simp
    exact hK2
  · intro U
    simp only [Act.put, List.setIfInBounds_toArray, List.set_cons_succ, List.set_cons_zero]
    rfl
  refine RH.goN (f' := ?_) rfl ?_ ?_ ?_
  rotate_left 1
  · intro U K d wx hI hmay hK
    have hd := hmay.2 _ rfl
    simp [Region.binds] at hd
    have hK2 := hK _ _ (hI.i6z (by simp [hd]))
    go_simp
    exact hK2
  · intro U
    simp only [Act.put, List.setIfInBounds_toArray, List.set_cons_succ, List.set_cons_zero]
    rfl
  refine RH.goT ?_
  refine RH.go_end ?_
  intro d6 U w8 h6 hall
  simp +decide only [RH.tl, if_true, if_false]
  obtain ⟨ga, u, e8, ⟨B8, r8⟩, e9, e10, e11, e12⟩ := h6.p (hall 8 (by decide))
  have e10 := e10 (hall 10 (by decide))
  have e11 := e11 (hall 11 (by decide))
  have e12 := e12 (hall 12 (by decide))
  have R8 : Below w5.heap.size w5 w8 := h6.b
  rw [e10, e11, e12]
  clear e8 e9 e10 e11 e12 hall h6 KC5 LR g1mem g2mem g3mem G5 KC KP M5b
  generalize U 1 = U1
  generalize U 6 = U6
  generalize U 7 = U7
  generalize U 8 = U8
  generalize U 9 = U9
  have S8 : Hid (Sr w [Hm.W4 (w.heap.size + 1 + 1) y, Hm.W4 (w.heap.size + 1) x, Hm.W4 w.heap.size a] ga n k1 k2 k3 (e0, V, c0) (0, V1, c1) (0, x, 0) (e3, V, c3) w8) := by
    have hlen : (Lr l a x y).length = k4 := by unfold Lr; rw [List.length_append, ← hn.out.1, hn.out.2.2.2.2.1]; rfl
    obtain ⟨e0, e1, e2, e3⟩ := hA.out
    have hh := hn.out
    refine ⟨Hm.below (Hm.sub Mw5.out (fun b hb => List.mem_cons_of_mem _ (List.mem_cons_of_mem _ (List.mem_cons_of_mem _ hb)))) R8, r8.hi, fun o ho => ?_, fun o ho => ?_, fun o ho => ?_, fun o ho => ?_⟩
    · rw [r8.c n (by omega) o ho, e0]
    · rw [r8.c k1 (by omega) o ho, e1]
    · rw [r8.c k2 (by omega) o ho, e2]
    · rw [r8.c k3 (by omega) o ho, e3]
  clear r8 R8 Mw5 hA
  obtain ⟨wn4, wn1, i1, j1, -⟩ := fxR n k1 k2 k3 k4 _ hn.out
  have x1 : w8.cell? ⟨ga, k1 * 6, none⟩ = some (.int .i64 0) := S8.out.c1 0 (by decide)
  obtain ⟨-, -, -, -, wi1, wi2, wi3, wn2, wn3, i0, j0, i2, j2, i3, j3⟩ := fxR n k1 k2 k3 k4 _ hn.out
  go_upto_region 12 with fail
  refine RS.wp_region_flat (Sr w [Hm.W4 (w.heap.size + 1 + 1) y, Hm.W4 (w.heap.size + 1) x, Hm.W4 w.heap.size a] ga n k1 k2 k3 (e0, V, c0) (0, V1, c1) (0, x, 0) (e3, V, c3)) 27 (by kernel_rfl) (S8.out) ?_
  simp only [List.take_succ_cons, List.take_zero, List.drop_succ_cons, List.drop_zero]
  refine RS.go1 (v := ?_) (a' := ?_) rfl ?_ ?_ ?_
  rotate_left 2
  · intro K wx hS hK
    refine RW.ld rfl rfl (hS.hd.ok (Hm.W4 (w.heap.size) (a)) (by simp)).c ?_
    exact hK _ hS
  · simp only [Act.put, List.setIfInBounds_toArray, List.set_cons_succ, List.set_cons_zero]
    rfl
  refine RS.go1 (v := ?_) (a' := ?_) rfl ?_ ?_ ?_
  rotate_left 2
  · intro K wx hS hK
    refine RW.ld rfl rfl (hS.hd.ok (Hm.W4 (w.heap.size + 1 + 1) (y)) (by simp)).c ?_
    exact hK _ hS
  · simp only [Act.put, List.setIfInBounds_toArray, List.set_cons_succ, List.set_cons_zero]
    rfl
  refine RS.go1 (v := ?_) (a' := ?_) rfl ?_ ?_ ?_
  rotate_left 2
  · intro K wx hS hK
    go_simp
    refine (KC1.out wx).mono (fun e w2 he => ?_)
    refine ⟨_, he.1, ?_⟩
    exact hK _ (Sr_below hS he.2)
  · simp only [Act.put, List.setIfInBounds_toArray, List.set_cons_succ, List.set_cons_zero]
    rfl
  refine RS.go1 (v := ?_) (a' := ?_) rfl ?_ ?_ ?_
  rotate_left 2
  · intro K wx hS hK
    go_simp
    exact hK _ hS
  · simp only [Act.put, List.setIfInBounds_toArray, List.set_cons_succ, List.set_cons_zero]
    rfl
  refine RS.go1 (v := ?_) (a' := ?_) rfl ?_ ?_ ?_
  rotate_left 2
  · intro K wx hS hK
    go_simp
    exact hK _ hS
  · simp only [Act.put, List.setIfInBounds_toArray, List.set_cons_succ, List.set_cons_zero]
    rfl
  refine RS.go0 (a' := ?_) (by kernel_rfl) ?_ ?_
  rotate_left 1
  · simp only [Act.put, List.setIfInBounds_toArray, List.set_cons_succ, List.set_cons_zero]
    rfl
  refine RS.go0 (a' := ?_) (by kernel_rfl) ?_ ?_
  rotate_left 1
  · simp only [Act.put, List.setIfInBounds_toArray, List.set_cons_succ, List.set_cons_zero]
    rfl
  refine RS.go0 (a' := ?_) (by kernel_rfl) ?_ ?_
  rotate_left 1
  · simp only [Act.put, List.setIfInBounds_toArray, List.set_cons_succ, List.set_cons_zero]
    rfl
  refine RS.go0 (a' := ?_) (by kernel_rfl) ?_ ?_
  rotate_left 1
  · simp only [Act.put, List.setIfInBounds_toArray, List.set_cons_succ, List.set_cons_zero]
    rfl
  refine RS.go0 (a' := ?_) (by kernel_rfl) ?_ ?_
  rotate_left 1
  · simp only [Act.put, List.setIfInBounds_toArray, List.set_cons_succ, List.set_cons_zero]
    rfl
  refine RS.go0 (a' := ?_) (by kernel_rfl) ?_ ?_
  rotate_left 1
  · simp only [Act.put, List.setIfInBounds_toArray, List.set_cons_succ, List.set_cons_zero]
    rfl
  refine RS.go1 (v := ?_) (a' := ?_) rfl ?_ ?_ ?_
  rotate_left 2
  · intro K wx hS hK
    go_simp
    exact hK _ hS
  · simp only [Act.put, List.setIfInBounds_toArray, List.set_cons_succ, List.set_cons_zero]
    rfl
  refine RS.go1 (v := ?_) (a' := ?_) rfl ?_ ?_ ?_
  rotate_left 2
  · intro K wx hS hK
    go_simp
    exact hK _ hS
  · simp only [Act.put, List.setIfInBounds_toArray, List.set_cons_succ, List.set_cons_zero]
    rfl
  refine RS.go1g (v := ?_) (a' := ?_) (by kernel_rfl) ?_ ?_ ?_
  rotate_left 2
  · intro K wx hS hK
    refine RW.ld rfl rfl (hS.hd.ok (Hm.W4 (w.heap.size + 1 + 1) (y)) (by simp)).c ?_
    exact hK _ hS
  · simp only [Act.put, List.setIfInBounds_toArray, List.set_cons_succ, List.set_cons_zero]
    rfl
  refine RS.go1g (v := ?_) (a' := ?_) (by kernel_rfl) ?_ ?_ ?_
  rotate_left 2
  · intro K wx hS hK
    refine RW.ld rfl rfl (hS.hd.ok (Hm.W4 (w.heap.size) (a)) (by simp)).c ?_
    exact hK _ hS
  · simp only [Act.put, List.setIfInBounds_toArray, List.set_cons_succ, List.set_cons_zero]
    rfl
  refine RS.go1g (v := ?_) (a' := ?_) (by kernel_rfl) ?_ ?_ ?_
  rotate_left 2
  · intro K wx hS hK
    go_simp
    refine (KC3.out wx).mono (fun e w2 he => ?_)
    refine ⟨_, he.1, ?_⟩
    exact hK _ (Sr_below hS he.2)
  · simp only [Act.put, List.setIfInBounds_toArray, List.set_cons_succ, List.set_cons_zero]
    rfl
  refine RS.go1g (v := ?_) (a' := ?_) (by kernel_rfl) ?_ ?_ ?_
  rotate_left 2
  · intro K wx hS hK
    go_simp
    exact hK _ hS
  · simp only [Act.put, List.setIfInBounds_toArray, List.set_cons_succ, List.set_cons_zero]
    rfl
  refine RS.go1g (v := ?_) (a' := ?_) (by kernel_rfl) ?_ ?_ ?_
  rotate_left 2
  · intro K wx hS hK
    go_simp
    exact hK _ hS
  · simp only [Act.put, List.setIfInBounds_toArray, List.set_cons_succ, List.set_cons_zero]
    rfl
  refine RS.go1g (v := ?_) (a' := ?_) (by kernel_rfl) ?_ ?_ ?_
  rotate_left 2
  · intro K wx hS hK
    refine RW.ld rfl rfl (hS.hd.ok (Hm.W4 (w.heap.size + 1 + 1) (y)) (by simp)).c ?_
    exact hK _ hS
  · simp only [Act.put, List.setIfInBounds_toArray, List.set_cons_succ, List.set_cons_zero]
    rfl
  refine RS.go1g (v := ?_) (a' := ?_) (by kernel_rfl) ?_ ?_ ?_
  rotate_left 2
  · intro K wx hS hK
    refine RW.ld rfl rfl (hS.hd.ok (Hm.W4 (w.heap.size) (a)) (by simp)).c ?_
    exact hK _ hS
  · simp only [Act.put, List.setIfInBounds_toArray, List.set_cons_succ, List.set_cons_zero]
    rfl
  refine RS.go1g (v := ?_) (a' := ?_) (by kernel_rfl) ?_ ?_ ?_
  rotate_left 2
  · intro K wx hS hK
    go_simp
    refine (KS3.out wx).mono (fun e w2 he => ?_)
    refine ⟨_, he.1, ?_⟩
    exact hK _ (Sr_below hS he.2)
  · simp only [Act.put, List.setIfInBounds_toArray, List.set_cons_succ, List.set_cons_zero]
    rfl
  refine RS.go1g (v := ?_) (a' := ?_) (by kernel_rfl) ?_ ?_ ?_
  rotate_left 2
  · intro K wx hS hK
    go_simp
    refine (KI.out wx).mono (fun e w2 he => ?_)
    refine ⟨_, he.1, ?_⟩
    exact hK _ (Sr_below hS he.2)
  · simp only [Act.put, List.setIfInBounds_toArray, List.set_cons_succ, List.set_cons_zero]
    rfl
  refine RS.go1g (v := ?_) (a' := ?_) (by kernel_rfl) ?_ ?_ ?_
  rotate_left 2
  · intro K wx hS hK
    go_simp
    refine (KC2.out wx).mono (fun e w2 he => ?_)
    refine ⟨_, he.1, ?_⟩
    exact hK _ (Sr_below hS he.2)
  · simp only [Act.put, List.setIfInBounds_toArray, List.set_cons_succ, List.set_cons_zero]
    rfl
  refine RS.go1g (v := ?_) (a' := ?_) (by kernel_rfl) ?_ ?_ ?_
  rotate_left 2
  · intro K wx hS hK
    go_simp
    exact hK _ hS
  · simp only [Act.put, List.setIfInBounds_toArray, List.set_cons_succ, List.set_cons_zero]
    rfl
  refine RS.go1g (v := ?_) (a' := ?_) (by kernel_rfl) ?_ ?_ ?_
  rotate_left 2
  · intro K wx hS hK
    go_simp
    exact hK _ hS
  · simp only [Act.put, List.setIfInBounds_toArray, List.set_cons_succ, List.set_cons_zero]
    rfl
  refine RS.go1 (v := ?_) (a' := ?_) rfl ?_ ?_ ?_
  rotate_left 2
  · intro K wx hS hK
    go_simp
    exact hK _ hS
  · simp only [Act.put, List.setIfInBounds_toArray, List.set_cons_succ, List.set_cons_zero]
    rfl
  refine RS.go1 (v := ?_) (a' := ?_) rfl ?_ ?_ ?_
  rotate_left 2
  · intro K wx hS hK
    go_simp
    exact hK _ hS
  · simp only [Act.put, List.setIfInBounds_toArray, List.set_cons_succ, List.set_cons_zero]
    rfl
  refine RS.go_end ?_
  intro w10 h10
  have S10 : Hid _ := h10
  clear h10 S8
  generalize Wd a = Jb
  generalize Wd y = Jc
  go_upto_region 13 with fail
  refine RS.wp_region_one (Sr w [Hm.W4 (w.heap.size + 1 + 1) y, Hm.W4 (w.heap.size + 1) x, Hm.W4 w.heap.size a] ga n k1 k2 k3 (e0, V, c0) (0, V1, c1) (0, x, 0) (e3, V, c3)) (by kernel_rfl) (by kernel_rfl) (Sr_below S10.out (Below.refl _ _).drew) ?_
  dsimp only [List.toList_toArray]
  refine RS.go1 (v := ?_) (a' := ?_) rfl ?_ ?_ ?_
  rotate_left 2
  · intro K wx hS hK
    go_simp
    exact hK _ hS
  · simp only [Act.put, List.setIfInBounds_toArray, List.set_cons_succ, List.set_cons_zero]
    rfl
  refine RS.go1 (v := ?_) (a' := ?_) rfl ?_ ?_ ?_
  rotate_left 2
  · intro K wx hS hK
    go_simp
    exact hK _ hS
  · simp only [Act.put, List.setIfInBounds_toArray, List.set_cons_succ, List.set_cons_zero]
    rfl
  refine RS.go1 (v := ?_) (a' := ?_) rfl ?_ ?_ ?_
  rotate_left 2
  · intro K wx hS hK
    go_simp
    exact hK _ hS
  · simp only [Act.put, List.setIfInBounds_toArray, List.set_cons_succ, List.set_cons_zero]
    rfl
  refine RS.go1 (v := ?_) (a' := ?_) rfl ?_ ?_ ?_
  rotate_left 2
  · intro K wx hS hK
    go_simp
    exact hK _ hS
  · simp only [Act.put, List.setIfInBounds_toArray, List.set_cons_succ, List.set_cons_zero]
    rfl
  refine RS.go1 (v := ?_) (a' := ?_) rfl ?_ ?_ ?_
  rotate_left 2
  · intro K wx hS hK
    refine ldA (x := (0, x, 0)) (b := k2 * 6) rfl rfl hS.c2 ?_
    exact hK _ hS
  · simp only [Act.put, List.setIfInBounds_toArray, List.set_cons_succ, List.set_cons_zero]
    rfl
  refine RS.go1 (v := ?_) (a' := ?_) rfl ?_ ?_ ?_
  rotate_left 2
  · intro K wx hS hK
    refine RW.ld rfl rfl (hS.hd.ok (Hm.W4 (w.heap.size + 1) (x)) (by simp)).c ?_
    exact hK _ hS
  · simp only [Act.put, List.setIfInBounds_toArray, List.set_cons_succ, List.set_cons_zero]
    rfl
  refine RS.go1 (v := ?_) (a' := ?_) rfl ?_ ?_ ?_
  rotate_left 2
  · intro K wx hS hK
    unfold Wd
    go_simp
    exact hK _ hS
  · simp only [Act.put, List.setIfInBounds_toArray, List.set_cons_succ, List.set_cons_zero]
    rfl
  refine RS.go1 (v := ?_) (a' := ?_) rfl ?_ ?_ ?_
  rotate_left 2
  · intro K wx hS hK
    refine eqAo (x := (0, x, 0)) (y := (0, x, 0)) (b := true) rfl rfl rfl (by simp [sa]) ?_
    exact hK _ hS
  · simp only [Act.put, List.setIfInBounds_toArray, List.set_cons_succ, List.set_cons_zero]
    rfl
  refine RS.go1 (v := ?_) (a' := ?_) rfl ?_ ?_ ?_
  rotate_left 2
  · intro K wx hS hK
    go_simp
    exact hK _ hS
  · simp only [Act.put, List.setIfInBounds_toArray, List.set_cons_succ, List.set_cons_zero]
    rfl
  refine RS.go1g (v := ?_) (a' := ?_) (by kernel_rfl) ?_ ?_ ?_
  rotate_left 2
  · intro K wx hS hK
    go_simp
    exact hK _ hS
  · simp only [Act.put, List.setIfInBounds_toArray, List.set_cons_succ, List.set_cons_zero]
    rfl
  refine RS.go1g (v := ?_) (a' := ?_) (by kernel_rfl) ?_ ?_ ?_
  rotate_left 2
  · intro K wx hS hK
    go_simp
    exact hK _ hS
  · simp only [Act.put, List.setIfInBounds_toArray, List.set_cons_succ, List.set_cons_zero]
    rfl
  refine RS.go1g (v := ?_) (a' := ?_) (by kernel_rfl) ?_ ?_ ?_
  rotate_left 2
  · intro K wx hS hK
    go_simp
    exact hK _ hS
  · simp only [Act.put, List.setIfInBounds_toArray, List.set_cons_succ, List.set_cons_zero]
    rfl
  refine RS.go1g (v := ?_) (a' := ?_) (by kernel_rfl) ?_ ?_ ?_
  rotate_left 2
  · intro K wx hS hK
    go_simp
    exact hK _ hS
  · simp only [Act.put, List.setIfInBounds_toArray, List.set_cons_succ, List.set_cons_zero]
    rfl
  refine RS.go1g (v := ?_) (a' := ?_) (by kernel_rfl) ?_ ?_ ?_
  rotate_left 2
  · intro K wx hS hK
    go_simp
    exact hK _ hS
  · simp only [Act.put, List.setIfInBounds_toArray, List.set_cons_succ, List.set_cons_zero]
    rfl
  refine RS.go1g (v := ?_) (a' := ?_) (by kernel_rfl) ?_ ?_ ?_
  rotate_left 2
  · intro K wx hS hK
    go_simp
    exact hK _ hS
  · simp only [Act.put, List.setIfInBounds_toArray, List.set_cons_succ, List.set_cons_zero]
    rfl
  refine RS.go1g (v := ?_) (a' := ?_) (by kernel_rfl) ?_ ?_ ?_
  rotate_left 2
  · intro K wx hS hK
    go_simp
    exact hK _ hS
  · simp only [Act.put, List.setIfInBounds_toArray, List.set_cons_succ, List.set_cons_zero]
    rfl
  refine RS.go1g (v := ?_) (a' := ?_) (by kernel_rfl) ?_ ?_ ?_
  rotate_left 2
  · intro K wx hS hK
    go_simp
    exact hK _ hS
  · simp only [Act.put, List.setIfInBounds_toArray, List.set_cons_succ, List.set_cons_zero]
    rfl
  refine RS.go1g (v := ?_) (a' := ?_) (by kernel_rfl) ?_ ?_ ?_
  rotate_left 2
  · intro K wx hS hK
    refine ldAw (x := (e3, V, c3)) (b := k3 * 6) rfl rfl hS.c3 ?_
    exact hK _ hS
  · simp only [Act.put, List.setIfInBounds_toArray, List.set_cons_succ, List.set_cons_zero]
    rfl
  refine RS.go1g (v := ?_) (a' := ?_) (by kernel_rfl) ?_ ?_ ?_
  rotate_left 2
  · intro K wx hS hK
    go_simp
    exact hK _ hS
  · simp only [Act.put, List.setIfInBounds_toArray, List.set_cons_succ, List.set_cons_zero]
    rfl
  refine RS.go1g (v := ?_) (a' := ?_) (by kernel_rfl) ?_ ?_ ?_
  rotate_left 2
  · intro K wx hS hK
    go_simp
    exact hK _ hS
  · simp only [Act.put, List.setIfInBounds_toArray, List.set_cons_succ, List.set_cons_zero]
    rfl
  refine RS.go1g (v := ?_) (a' := ?_) (by kernel_rfl) ?_ ?_ ?_
  rotate_left 2
  · intro K wx hS hK
    go_simp
    exact hK _ hS
  · simp only [Act.put, List.setIfInBounds_toArray, List.set_cons_succ, List.set_cons_zero]
    rfl
  refine RS.go1g (v := ?_) (a' := ?_) (by kernel_rfl) ?_ ?_ ?_
  rotate_left 2
  · intro K wx hS hK
    go_simp
    exact hK _ hS
  · simp only [Act.put, List.setIfInBounds_toArray, List.set_cons_succ, List.set_cons_zero]
    rfl
  refine RS.go1g (v := ?_) (a' := ?_) (by kernel_rfl) ?_ ?_ ?_
  rotate_left 2
  · intro K wx hS hK
    refine ldAw (x := (e0, V, c0)) (b := n * 6) rfl rfl hS.c0 ?_
    exact hK _ hS
  · simp only [Act.put, List.setIfInBounds_toArray, List.set_cons_succ, List.set_cons_zero]
    rfl
  refine RS.go1g (v := ?_) (a' := ?_) (by kernel_rfl) ?_ ?_ ?_
  rotate_left 2
  · intro K wx hS hK
    refine RW.eq (x := V) (y := V) (b := true) rfl rfl rfl (by simp) ?_
    exact hK _ hS
  · simp only [Act.put, List.setIfInBounds_toArray, List.set_cons_succ, List.set_cons_zero]
    rfl
  refine RS.go1g (v := ?_) (a' := ?_) (by kernel_rfl) ?_ ?_ ?_
  rotate_left 2
  · intro K wx hS hK
    go_simp
    exact hK _ hS
  · simp only [Act.put, List.setIfInBounds_toArray, List.set_cons_succ, List.set_cons_zero]
    rfl
  refine RS.go1 (v := ?_) (a' := ?_) rfl ?_ ?_ ?_
  rotate_left 2
  · intro K wx hS hK
    go_simp
    exact hK _ hS
  · simp only [Act.put, List.setIfInBounds_toArray, List.set_cons_succ, List.set_cons_zero]
    rfl
  refine RS.go1 (v := ?_) (a' := ?_) rfl ?_ ?_ ?_
  rotate_left 2
  · intro K wx hS hK
    go_simp
    exact hK _ hS
  · simp only [Act.put, List.setIfInBounds_toArray, List.set_cons_succ, List.set_cons_zero]
    rfl
  refine RS.go_end ?_
  intro w9 h9
  have H9 : Hid (Below w.heap.size w w9) := h9.hd.bel
  clear h9
  go_wp2
  go_ret
  exact ⟨rfl, H9.out⟩
end Mm
end Go.Proofs.Ytcpgcdffienobaa
/- lampbearerkeep.MemoryRead: read_2b. -/
namespace Go.Proofs.Ytcpgcdffienobaa
namespace Mm
open Go.RowKit Pk
set_option maxHeartbeats 4000000 in
set_option maxRecDepth 100000 in
theorem read_2b (l : List Mo) (xs : List OV) (n k1 k2 k3 k4 a x y : Nat) (hxs : Hid (xs.map (·.1) = l)) (hl : Hid (∀ x, x ∈ l → Wf x)) (hn : Hid (n = l.length ∧ k1 = n + 1 ∧ k2 = n + 2 ∧ k3 = n + 3 ∧ k4 = n + 4 ∧ k4 ≤ 1048576)) (hw : Hid (a < 2 ^ 256 ∧ x < 2 ^ 256 ∧ y < 2 ^ 256)) (e0 e3 c0 c1 c3 : Int) (V V1 V3 : Nat) (q1 q2 q3 : Int) (D : Nat) (KC1 : Hid (∀ W : World, Calls Try.prog 16 #[Wd a, Wd y] W fun e w' => e = .returned (.int .i64 q1) ∧ Below W.heap.size W w')) (KC3 : Hid (∀ W : World, Calls Try.prog 16 #[Wd y, Wd a] W fun e w' => e = .returned (.int .i64 q3) ∧ Below W.heap.size W w')) (KS3 : Hid (∀ W : World, Calls Try.prog 17 #[Wd y, Wd a] W fun e w' => e = .returned (Wd D) ∧ Below W.heap.size W w')) (KI : Hid (∀ W : World, Calls Try.prog 18 #[.int .u64 32] W fun e w' => e = .returned (Wd 32) ∧ Below W.heap.size W w')) (KC2 : Hid (∀ W : World, Calls Try.prog 16 #[Wd D, Wd 32] W fun e w' => e = .returned (.int .i64 q2) ∧ Below W.heap.size W w')) (t1 : decide ((0 : Int) < q1) = false) (t3 : (0 : Int) < q3) (t2 : decide ((0 : Int) ≤ q2) = false) (hA : Hid (an (Lr l a x y) n = (e0, V, c0) ∧ an (Lr l a x y) k1 = (0, V1, c1) ∧ an (Lr l a x y) k2 = (0, x, 0) ∧ an (Lr l a x y) k3 = (e3, V3, c3)))
    (ao : Option Addr) (cap : Nat) (w : World) (hv : Hid (VO xs (.slice ao n cap) w ∧ ∀ x, x ∈ xs → Tr.Bs (· < w.heap.size) x.1.d x.2 w)) :
    Calls Try.prog 4 #[.slice ao n cap, Wd a, Wd x, Wd y] w fun e w' => e = .returned (.bool true) ∧ Below w.heap.size w w' := by
  have HX : Hid (xs.length = n) := by
    show _ = _
    rw [hn.out.1, ← hxs.out, List.length_map]
  have KC : Hid (∀ W : World, Below w.heap.size w W → Calls Try.prog 15 #[.slice ao n cap] W fun e w' => ∃ z, e = .returned z ∧ Oo W.heap.size xs z w' ∧ Below W.heap.size W w') := fun W hb => clone_op xs _ W (VO_below hv.out.1 hb) (fun x hx => Bs_isSl (hv.out.2 x hx)) (by have := hn.out; have := HX.out; omega)
  have KP : Hid (∀ (W : World) (Bs : Nat) (v : Value), Below w.heap.size w W → Oo Bs (xs ++ [(oL y, .slice none 0 0), (oS a x, .slice none 0 0), (oL a, .slice none 0 0), (oL y, .slice none 0 0)]) v W → Calls Try.prog 9 #[v] W fun e w' => ∃ ga u, e = .returned (.tuple #[.slice (some ⟨ga, 0, none⟩) k4 k4, u]) ∧ Rp W.heap.size ga (Lr l a x y) u w' ∧ Below W.heap.size W w') := fun W Bs v hb1 ho => by
    have hM := Oo_in ho (fun z hz => by
      rcases List.mem_append.1 hz with h | h
      · exact Bs_in (hv.out.2 z h) hb1
      · simp only [List.mem_cons, List.not_mem_nil, or_false] at h
        rcases h with rfl | rfl | rfl | rfl <;> exact Tr.Bs_nil _ _)
    rw [List.map_append, hxs.out] at hM
    have hM : Mr (· < W.heap.size) (Lr l a x y) v W := hM
    have hlen : (Lr l a x y).length = k4 := by unfold Lr; rw [List.length_append, ← hn.out.1, hn.out.2.2.2.2.1]; rfl
    have wf1 : ∀ q, q < 2 ^ 256 → Wf (oL q) := fun q hq => ⟨hq, by show 0 < 2 ^ 256; decide, by show 0 < 2 ^ 256; decide, by show 0 ≤ _; omega⟩
    have wf2 : Wf (oS a x) := ⟨hw.out.1, by show 0 < 2 ^ 256; decide, by show 0 < 2 ^ 256; decide, by show 0 ≤ _; omega⟩
    have k := play_any (Lr l a x y) (wf_in _ (fun q hq => by
      rcases List.mem_append.1 hq with h | h
      · exact hl.out q h
      · simp only [List.mem_cons, List.not_mem_nil, or_false] at h
        rcases h with rfl | rfl | rfl | rfl
        · exact wf1 y hw.out.2.2
        · exact wf2
        · exact wf1 a hw.out.1
        · exact wf1 y hw.out.2.2)) (by rw [hlen]; exact hn.out.2.2.2.2.2) v W hM
    rw [hlen] at k
    exact k
  conv => arg 3; unfold Wd
  go_enter Try.func4, Try.ntmps4
  go_upto_region 1 with fail
  have m0 : Hm.Hd w [Hm.W4 (w.heap.size + 1 + 1) y, Hm.W4 (w.heap.size + 1) x, Hm.W4 w.heap.size a] (((w.alloc (.cells #[.int .u64 (dg a 0), .int .u64 (dg a 1), .int .u64 (dg a 2), .int .u64 (dg a 3)] 32)).alloc (.cells #[.int .u64 (dg x 0), .int .u64 (dg x 1), .int .u64 (dg x 2), .int .u64 (dg x 3)] 32)).alloc (.cells #[.int .u64 (dg y 0), .int .u64 (dg y 1), .int .u64 (dg y 2), .int .u64 (dg y 3)] 32)) := by
    have q1 := Hm.new4 (n := a) (T := 32) (Hm.start w) rfl
    have q2 := Hm.new4 (n := x) (T := 32) (g := w.heap.size + 1) q1 (by simp)
    exact Hm.new4 (n := y) (T := 32) (g := w.heap.size + 1 + 1) q2 (by simp)
  generalize ((w.alloc (.cells #[.int .u64 (dg a 0), .int .u64 (dg a 1), .int .u64 (dg a 2), .int .u64 (dg a 3)] 32)).alloc (.cells #[.int .u64 (dg x 0), .int .u64 (dg x 1), .int .u64 (dg x 2), .int .u64 (dg x 3)] 32)).alloc (.cells #[.int .u64 (dg y 0), .int .u64 (dg y 1), .int .u64 (dg y 2), .int .u64 (dg y 3)] 32) = w0 at m0 ⊢
  have M0 : Hid _ := m0
  clear m0
  go_wp2_with fail
  refine (alive_any w0).mono ?_
  rintro e w1 ⟨rfl, b1⟩
  have M1 : Hid (Hm.Hd w [Hm.W4 (w.heap.size + 1 + 1) y, Hm.W4 (w.heap.size + 1) x, Hm.W4 w.heap.size a] w1) := Hm.below M0.out b1
  clear b1 M0
  go_upto_region 3 with fail
  refine RS.wp_region_flat (Hm.Hd w [Hm.W4 (w.heap.size + 1 + 1) y, Hm.W4 (w.heap.size + 1) x, Hm.W4 w.heap.size a]) 3 (by kernel_rfl) (M1.out) ?_
  simp only [List.take_succ_cons, List.take_zero, List.drop_succ_cons, List.drop_zero]
  refine RS.go1 (v := ?_) (a' := ?_) rfl ?_ ?_ ?_
  rotate_left 2
  · intro K wx hS hK
    refine RW.ld rfl rfl (hS.ok (Hm.W4 (w.heap.size) (a)) (by simp)).c ?_
    exact hK _ hS
  · simp only [Act.put, List.setIfInBounds_toArray, List.set_cons_succ, List.set_cons_zero]
    rfl
  refine RS.go1 (v := ?_) (a' := ?_) rfl ?_ ?_ ?_
  rotate_left 2
  · intro K wx hS hK
    refine RW.ld rfl rfl (hS.ok (Hm.W4 (w.heap.size + 1) (x)) (by simp)).c ?_
    exact hK _ hS
  · simp only [Act.put, List.setIfInBounds_toArray, List.set_cons_succ, List.set_cons_zero]
    rfl
  refine RS.go1 (v := ?_) (a' := ?_) rfl ?_ ?_ ?_
  rotate_left 2
  · intro K wx hS hK
    unfold Wd
    go_simp
    exact hK _ hS
  · simp only [Act.put, List.setIfInBounds_toArray, List.set_cons_succ, List.set_cons_zero]
    rfl
  refine RS.go_end ?_
  intro wq h9
  have Nq : Hid _ := h9
  clear h9 M1
  refine RF.go (by kernel_rfl) ?_
  refine alO rfl ?_
  have Nz : Hid _ := newZ Nq.out
  have ne : Hid (∀ b, b ∈ [Hm.W4 (w.heap.size + 1 + 1) y, Hm.W4 (w.heap.size + 1) x, Hm.W4 w.heap.size a] → wq.heap.size ≠ b.g) := fun b hb => Nat.ne_of_gt (Nq.out.ok b hb).hi
  clear Nq
  generalize wq.alloc (.cells zO 38) = wz at Nz ⊢
  generalize wq.heap.size = g1 at Nz ne ⊢
  simp only [Act.put, List.setIfInBounds_toArray, List.set_cons_succ, List.set_cons_zero]
  refine stO ⟨2, a, 0, 0, x, []⟩ none 0 0 rfl rfl rfl (eS a x) Nz.out ne.out (fun w3 h9 => ?_)
  have Mw3 : Hid _ := h9
  clear h9 Nz ne
  refine wpList_nil ?_
  dsimp only [Act.put]
  generalize (Value.agg #[.int .i64 2, .int .u64 (dg a 0), .int .u64 (dg a 1), .int .u64 (dg a 2), .int .u64 (dg a 3), .int .u64 0, .int .u64 0, .int .u64 0, .int .u64 0, .int .u64 0, .int .u64 0, .int .u64 0, .int .u64 0, .int .u64 (dg x 0), .int .u64 (dg x 1), .int .u64 (dg x 2), .int .u64 (dg x 3), .slice none 0 0]) = Jg1
  go_upto_region 4 with fail
  refine RS.wp_region_flat (Hm.Hd w (⟨g1, 18, oc 2 a 0 0 x (.slice none 0 0)⟩ :: [Hm.W4 (w.heap.size + 1 + 1) y, Hm.W4 (w.heap.size + 1) x, Hm.W4 w.heap.size a])) 2 (by kernel_rfl) (Mw3.out) ?_
  simp only [List.take_succ_cons, List.take_zero, List.drop_succ_cons, List.drop_zero]
  refine RS.go1 (v := ?_) (a' := ?_) rfl ?_ ?_ ?_
  rotate_left 2
  · intro K wx hS hK
    refine RW.ld rfl rfl (hS.ok (Hm.W4 (w.heap.size) (a)) (by simp)).c ?_
    exact hK _ hS
  · simp only [Act.put, List.setIfInBounds_toArray, List.set_cons_succ, List.set_cons_zero]
    rfl
  refine RS.go1 (v := ?_) (a' := ?_) rfl ?_ ?_ ?_
  rotate_left 2
  · intro K wx hS hK
    unfold Wd
    go_simp
    exact hK _ hS
  · simp only [Act.put, List.setIfInBounds_toArray, List.set_cons_succ, List.set_cons_zero]
    rfl
  refine RS.go_end ?_
  intro wq h9
  have Nq : Hid _ := h9
  clear h9 Mw3
  refine RF.go (by kernel_rfl) ?_
  refine alO rfl ?_
  have Nz : Hid _ := newZ Nq.out
  have ne : Hid (∀ b, b ∈ (⟨g1, 18, oc 2 a 0 0 x (.slice none 0 0)⟩ :: [Hm.W4 (w.heap.size + 1 + 1) y, Hm.W4 (w.heap.size + 1) x, Hm.W4 w.heap.size a]) → wq.heap.size ≠ b.g) := fun b hb => Nat.ne_of_gt (Nq.out.ok b hb).hi
  clear Nq
  generalize wq.alloc (.cells zO 38) = wz at Nz ⊢
  generalize wq.heap.size = g2 at Nz ne ⊢
  simp only [Act.put, List.setIfInBounds_toArray, List.set_cons_succ, List.set_cons_zero]
  refine stO ⟨1, a, 0, 0, 0, []⟩ none 0 0 rfl rfl rfl (eL a) Nz.out ne.out (fun w4 h9 => ?_)
  have Mw4 : Hid _ := h9
  clear h9 Nz ne
  refine wpList_nil ?_
  dsimp only [Act.put]
  generalize (Value.agg #[.int .i64 1, .int .u64 (dg a 0), .int .u64 (dg a 1), .int .u64 (dg a 2), .int .u64 (dg a 3), .int .u64 0, .int .u64 0, .int .u64 0, .int .u64 0, .int .u64 0, .int .u64 0, .int .u64 0, .int .u64 0, .int .u64 0, .int .u64 0, .int .u64 0, .int .u64 0, .slice none 0 0]) = Jg2
  go_upto_region 5 with fail
  refine RS.wp_region_flat (Hm.Hd w (⟨g2, 18, oc 1 a 0 0 0 (.slice none 0 0)⟩ :: (⟨g1, 18, oc 2 a 0 0 x (.slice none 0 0)⟩ :: [Hm.W4 (w.heap.size + 1 + 1) y, Hm.W4 (w.heap.size + 1) x, Hm.W4 w.heap.size a]))) 2 (by kernel_rfl) (Mw4.out) ?_
  simp only [List.take_succ_cons, List.take_zero, List.drop_succ_cons, List.drop_zero]
  refine RS.go1 (v := ?_) (a' := ?_) rfl ?_ ?_ ?_
  rotate_left 2
  · intro K wx hS hK
    refine RW.ld rfl rfl (hS.ok (Hm.W4 (w.heap.size + 1 + 1) (y)) (by simp)).c ?_
    exact hK _ hS
  · simp only [Act.put, List.setIfInBounds_toArray, List.set_cons_succ, List.set_cons_zero]
    rfl
  refine RS.go1 (v := ?_) (a' := ?_) rfl ?_ ?_ ?_
  rotate_left 2
  · intro K wx hS hK
    unfold Wd
    go_simp
    exact hK _ hS
  · simp only [Act.put, List.setIfInBounds_toArray, List.set_cons_succ, List.set_cons_zero]
    rfl
  refine RS.go_end ?_
  intro wq h9
  have Nq : Hid _ := h9
  clear h9 Mw4
  refine RF.go (by kernel_rfl) ?_
  refine alO rfl ?_
  have Nz : Hid _ := newZ Nq.out
  have ne : Hid (∀ b, b ∈ (⟨g2, 18, oc 1 a 0 0 0 (.slice none 0 0)⟩ :: (⟨g1, 18, oc 2 a 0 0 x (.slice none 0 0)⟩ :: [Hm.W4 (w.heap.size + 1 + 1) y, Hm.W4 (w.heap.size + 1) x, Hm.W4 w.heap.size a])) → wq.heap.size ≠ b.g) := fun b hb => Nat.ne_of_gt (Nq.out.ok b hb).hi
  clear Nq
  generalize wq.alloc (.cells zO 38) = wz at Nz ⊢
  generalize wq.heap.size = g3 at Nz ne ⊢
  simp only [Act.put, List.setIfInBounds_toArray, List.set_cons_succ, List.set_cons_zero]
  refine stO ⟨1, y, 0, 0, 0, []⟩ none 0 0 rfl rfl rfl (eL y) Nz.out ne.out (fun w5 h9 => ?_)
  have Mw5 : Hid _ := h9
  clear h9 Nz ne
  refine wpList_nil ?_
  dsimp only [Act.put]
  generalize (Value.agg #[.int .i64 1, .int .u64 (dg y 0), .int .u64 (dg y 1), .int .u64 (dg y 2), .int .u64 (dg y 3), .int .u64 0, .int .u64 0, .int .u64 0, .int .u64 0, .int .u64 0, .int .u64 0, .int .u64 0, .int .u64 0, .int .u64 0, .int .u64 0, .int .u64 0, .int .u64 0, .slice none 0 0]) = Jg3
  go_upto_region 6 with fail
  generalize (Value.agg #[.int .u64 (dg a 0), .int .u64 (dg a 1), .int .u64 (dg a 2), .int .u64 (dg a 3)]) = Ja
  generalize (Value.agg #[.int .u64 (dg x 0), .int .u64 (dg x 1), .int .u64 (dg x 2), .int .u64 (dg x 3)]) = Jx
  generalize (Value.agg #[.int .u64 (dg y 0), .int .u64 (dg y 1), .int .u64 (dg y 2), .int .u64 (dg y 3)]) = Jy
  generalize Wd a = Ja2
  generalize Wd x = Jx2
  generalize Wd y = Jy2
  have G5 : Hid (∀ b, b ∈ (⟨g3, 18, oc 1 y 0 0 0 (.slice none 0 0)⟩ :: (⟨g2, 18, oc 1 a 0 0 0 (.slice none 0 0)⟩ :: (⟨g1, 18, oc 2 a 0 0 x (.slice none 0 0)⟩ :: [Hm.W4 (w.heap.size + 1 + 1) y, Hm.W4 (w.heap.size + 1) x, Hm.W4 w.heap.size a]))) → b.g < w5.heap.size ∧ ∀ o, o < b.n → w5.cell? ⟨b.g, o, none⟩ = some (b.F o)) := fun b hb => ⟨(Mw5.out.ok b hb).hi, (Mw5.out.ok b hb).c⟩
  have g3mem : (⟨g3, 18, oc 1 y 0 0 0 (.slice none 0 0)⟩ : Hm.Bk) ∈ (⟨g3, 18, oc 1 y 0 0 0 (.slice none 0 0)⟩ :: (⟨g2, 18, oc 1 a 0 0 0 (.slice none 0 0)⟩ :: (⟨g1, 18, oc 2 a 0 0 x (.slice none 0 0)⟩ :: [Hm.W4 (w.heap.size + 1 + 1) y, Hm.W4 (w.heap.size + 1) x, Hm.W4 w.heap.size a]))) := by simp
  have g2mem : (⟨g2, 18, oc 1 a 0 0 0 (.slice none 0 0)⟩ : Hm.Bk) ∈ (⟨g3, 18, oc 1 y 0 0 0 (.slice none 0 0)⟩ :: (⟨g2, 18, oc 1 a 0 0 0 (.slice none 0 0)⟩ :: (⟨g1, 18, oc 2 a 0 0 x (.slice none 0 0)⟩ :: [Hm.W4 (w.heap.size + 1 + 1) y, Hm.W4 (w.heap.size + 1) x, Hm.W4 w.heap.size a]))) := by simp
  have g1mem : (⟨g1, 18, oc 2 a 0 0 x (.slice none 0 0)⟩ : Hm.Bk) ∈ (⟨g3, 18, oc 1 y 0 0 0 (.slice none 0 0)⟩ :: (⟨g2, 18, oc 1 a 0 0 0 (.slice none 0 0)⟩ :: (⟨g1, 18, oc 2 a 0 0 x (.slice none 0 0)⟩ :: [Hm.W4 (w.heap.size + 1 + 1) y, Hm.W4 (w.heap.size + 1) x, Hm.W4 w.heap.size a]))) := by simp
  have KC5 : Hid (∀ W : World, Below w5.heap.size w5 W → Calls Try.prog 15 #[.slice ao n cap] W fun e w' => ∃ z, e = .returned z ∧ Oo W.heap.size xs z w' ∧ Below W.heap.size W w') := fun W hb => KC.out W (Mw5.out.bel.trans (hb.mono Mw5.out.bel.size))
  have LR : Hid _ := litR a x y
  have M5b : Hid (Below w.heap.size w w5) := Mw5.out.bel
  refine RH.wp_region_genI (I6 w5 xs [(oL y, .slice none 0 0), (oS a x, .slice none 0 0), (oL a, .slice none 0 0), (oL y, .slice none 0 0)] (fun ga u wx => ∃ B, Rp B ga (Lr l a x y) u wx) k4) [0, 1, 0, 0, 0, 0, 1, 1, 1, 1, 1, 1, 1, 2] (by kernel_rfl) (by kernel_rfl) (I6.i6s) ?_
  dsimp only [List.toList_toArray]
  refine RH.goD (v := ?_) (f' := ?_) rfl ?_ ?_ ?_
  rotate_left 2
  · intro U K d wx hI hmay hK
    go_simp
    exact hK _ hI.i6k0
  · intro U
    simp only [Act.put, List.setIfInBounds_toArray, List.set_cons_succ, List.set_cons_zero]
    rfl
  refine RH.goN (f' := ?_) rfl ?_ ?_ ?_
  rotate_left 1
  · intro U K d wx hI hmay hK
    have h1 := hmay.1
    go_simp
    refine (KC5.out _ hI.b).mono (fun e w2 he => ?_)
    obtain ⟨z, rfl, q1, q2⟩ := he
    refine ⟨_, rfl, ?_⟩
    exact hK _ _ (hI.i6c h1 q1 q2)
  · intro U
    simp only [Act.put, List.setIfInBounds_toArray, List.set_cons_succ, List.set_cons_zero]
    rfl
  refine RH.goD (v := ?_) (f' := ?_) rfl ?_ ?_ ?_
  rotate_left 2
  · intro U K d wx hI hmay hK
    refine ldOu (k := 1) (a := y) (f := 0) (l := 0) (x := 0) (v := .slice none 0 0) rfl rfl (fun o ho => (hI.b.cell (p := ⟨g3, o, none⟩) (G5.out _ (g3mem)).1).trans ((G5.out _ (g3mem)).2 o ho)) ?_
    exact hK _ hI.i6k2
  · intro U
    simp only [Act.put, List.setIfInBounds_toArray, List.set_cons_succ, List.set_cons_zero]
    rfl
  refine RH.goD (v := ?_) (f' := ?_) rfl ?_ ?_ ?_
  rotate_left 2
  · intro U K d wx hI hmay hK
    refine ldOu (k := 2) (a := a) (f := 0) (l := 0) (x := x) (v := .slice none 0 0) rfl rfl (fun o ho => (hI.b.cell (p := ⟨g1, o, none⟩) (G5.out _ (g1mem)).1).trans ((G5.out _ (g1mem)).2 o ho)) ?_
    exact hK _ hI.i6k3
  · intro U
    simp only [Act.put, List.setIfInBounds_toArray, List.set_cons_succ, List.set_cons_zero]
    rfl
  refine RH.goD (v := ?_) (f' := ?_) rfl ?_ ?_ ?_
  rotate_left 2
  · intro U K d wx hI hmay hK
    refine ldOu (k := 1) (a := a) (f := 0) (l := 0) (x := 0) (v := .slice none 0 0) rfl rfl (fun o ho => (hI.b.cell (p := ⟨g2, o, none⟩) (G5.out _ (g2mem)).1).trans ((G5.out _ (g2mem)).2 o ho)) ?_
    exact hK _ hI.i6k4
  · intro U
    simp only [Act.put, List.setIfInBounds_toArray, List.set_cons_succ, List.set_cons_zero]
    rfl
  refine RH.goD (v := ?_) (f' := ?_) rfl ?_ ?_ ?_
  rotate_left 2
  · intro U K d wx hI hmay hK
    refine ldOu (k := 1) (a := y) (f := 0) (l := 0) (x := 0) (v := .slice none 0 0) rfl rfl (fun o ho => (hI.b.cell (p := ⟨g3, o, none⟩) (G5.out _ (g3mem)).1).trans ((G5.out _ (g3mem)).2 o ho)) ?_
    exact hK _ hI.i6k5
  · intro U
    simp only [Act.put, List.setIfInBounds_toArray, List.set_cons_succ, List.set_cons_zero]
    rfl
  refine RH.goN (f' := ?_) rfl ?_ ?_ ?_
  rotate_left 1
  · intro U K d wx hI hmay hK
    have h1 := hmay.1
    unfold od
    rw [dgz3.1, dgz3.2.1, dgz3.2.2.1, dgz3.2.2.2]
    go_simp
    exact hK _ _ (hI.i6l h1 (lit_VO _ _ LR.out.symm _ _ wx 4 rfl) ((Below.refl _ _).alloc (Nat.le_refl _) _))
  · intro U
    simp only [Act.put, List.setIfInBounds_toArray, List.set_cons_succ, List.set_cons_zero]
    rfl
  refine RH.goN (f' := ?_) rfl ?_ ?_ ?_
  rotate_left 1
  · intro U K d wx hI hmay hK
    have h7 := hmay.1
    have hd := hmay.2 _ rfl
    simp [Region.binds] at hd
    obtain ⟨B6, hB1, hB2, O6⟩ := hI.c (by simp [hd]) h7
    have V6 := hI.e (by simp [hd]) h7
    obtain ⟨v7, w7, hap, o7, g7⟩ := app_op 22 O6 V6 (fun z hz => by
      simp only [List.mem_cons, List.not_mem_nil, or_false] at hz
      rcases hz with rfl | rfl | rfl | rfl <;> exact ⟨_, _, _, rfl⟩) hB2 (by have := hn.out; have := HX.out; show xs.length + 4 ≤ _; omega)
    have r7 : Below w5.heap.size w5 w7 := hI.b.trans ((Below.refl _ _).grown g7 hI.b.size (fun k hk => Nat.le_trans hB1 (Sp.own_lo O6 k hk).1))
    refine ap_upv rfl rfl rfl hap ?_
    exact hK _ _ (hI.i6a h7 (by simp [hd]) (by simp [hd]) o7 r7)
  · intro U
    simp only [Act.put, List.setIfInBounds_toArray, List.set_cons_succ, List.set_cons_zero]
    rfl
  refine RH.goN (f' := ?_) rfl ?_ ?_ ?_
  rotate_left 1
  · intro U K d wx hI hmay hK
    have h8 := hmay.1
    have hd := hmay.2 _ rfl
    simp [Region.binds] at hd
    obtain ⟨B7, O7⟩ := hI.a (by simp [hd]) h8
    go_simp
    refine (KP.out wx B7 _ (M5b.out.trans (hI.b.mono M5b.out.size)) O7).mono (fun e w2 he => ?_)
    obtain ⟨ga, u, rfl, q1, q2⟩ := he
    refine ⟨_, rfl, ?_⟩
    exact hK _ _ (hI.i6p h8 (by simp [hd]) rfl ⟨_, q1⟩ q2)
  · intro U
    simp only [Act.put, List.setIfInBounds_toArray, List.set_cons_succ, List.set_cons_zero]
    rfl
  refine RH.goN (f' := ?_) rfl ?_ ?_ ?_
  rotate_left 1
  · intro U K d wx hI hmay hK
    have hd := hmay.2 _ rfl
    simp [Region.binds] at hd
    have hK2 := hK _ _ (hI.i6m (by simp [hd]))
    go_simp
    exact hK2
  · intro U
    simp only [Act.put, List.setIfInBounds_toArray, List.set_cons_succ, List.set_cons_zero]
    rfl
  refine RH.goN (f' := ?_) rfl ?_ ?_ ?_
  rotate_left 1
  · intro U K d wx hI hmay hK
    have hd := hmay.2 _ rfl
    simp [Region.binds] at hd
    obtain ⟨ga, u, e1, e2, e3, e4, e5⟩ := hI.p (hI.q9 (by simp [hd]))
    have e9 := e3 (by simp [hd])
    have hK2 := hK _ _ (hI.i6x (by simp [hd]) e9)
    clear e1 e2 e3 e4 e5
    go_simp
    exact hK2
  · intro U
    simp only [Act.put, List.setIfInBounds_toArray, List.set_cons_succ, List.set_cons_zero]
    rfl
  refine RH.goN (f' := ?_) rfl ?_ ?_ ?_
  rotate_left 1
  · intro U K d wx hI hmay hK
    have hd := hmay.2 _ rfl
    simp [Region.binds] at hd
    obtain ⟨ga, u, e1, e2, e3, e4, e5⟩ := hI.p (hI.q9 (by simp [hd]))
    have e9 := e3 (by simp [hd])
    have hK2 := hK _ _ (hI.i6y (by simp [hd]) e9)
    clear e1 e2 e3 e4 e5
    go_simp
    exact hK2
  · intro U
    simp only [Act.put, List.setIfInBounds_toArray, List.set_cons_succ, List.set_cons_zero]
    rfl
  refine RH.goN (f' := ?_) rfl ?_ ?_ ?_
  rotate_left 1
  · intro U K d wx hI hmay hK
    have hd := hmay.2 _ rfl
    simp [Region.binds] at hd
    have hK2 := hK _ _ (hI.i6z (by simp [hd]))
    go_simp
    exact hK2
  · intro U
    simp only [Act.put, List.setIfInBounds_toArray, List.set_cons_succ, List.set_cons_zero]
    rfl
  refine RH.goT ?_
  refine RH.go_end ?_
  intro d6 U w8 h6 hall
  simp +decide only [RH.tl, if_true, if_false]
  obtain ⟨ga, u, e8, ⟨B8, r8⟩, e9, e10, e11, e12⟩ := h6.p (hall 8 (by decide))
  have e10 := e10 (hall 10 (by decide))
  have e11 := e11 (hall 11 (by decide))
  have e12 := e12 (hall 12 (by decide))
  have R8 : Below w5.heap.size w5 w8 := h6.b
  rw [e10, e11, e12]
  clear e8 e9 e10 e11 e12 hall h6 KC5 LR g1mem g2mem g3mem G5 KC KP M5b
  generalize U 1 = U1
  generalize U 6 = U6
  generalize U 7 = U7
  generalize U 8 = U8
  generalize U 9 = U9
  have S8 : Hid (Sr w [Hm.W4 (w.heap.size + 1 + 1) y, Hm.W4 (w.heap.size + 1) x, Hm.W4 w.heap.size a] ga n k1 k2 k3 (e0, V, c0) (0, V1, c1) (0, x, 0) (e3, V3, c3) w8) := by
    have hlen : (Lr l a x y).length = k4 := by unfold Lr; rw [List.length_append, ← hn.out.1, hn.out.2.2.2.2.1]; rfl
    obtain ⟨e0, e1, e2, e3⟩ := hA.out
    have hh := hn.out
    refine ⟨Hm.below (Hm.sub Mw5.out (fun b hb => List.mem_cons_of_mem _ (List.mem_cons_of_mem _ (List.mem_cons_of_mem _ hb)))) R8, r8.hi, fun o ho => ?_, fun o ho => ?_, fun o ho => ?_, fun o ho => ?_⟩
    · rw [r8.c n (by omega) o ho, e0]
    · rw [r8.c k1 (by omega) o ho, e1]
    · rw [r8.c k2 (by omega) o ho, e2]
    · rw [r8.c k3 (by omega) o ho, e3]
  clear r8 R8 Mw5 hA
  obtain ⟨wn4, wn1, i1, j1, -⟩ := fxR n k1 k2 k3 k4 _ hn.out
  have x1 : w8.cell? ⟨ga, k1 * 6, none⟩ = some (.int .i64 0) := S8.out.c1 0 (by decide)
  obtain ⟨-, -, -, -, wi1, wi2, wi3, wn2, wn3, i0, j0, i2, j2, i3, j3⟩ := fxR n k1 k2 k3 k4 _ hn.out
  go_upto_region 12 with fail
  refine RS.wp_region_flat (Sr w [Hm.W4 (w.heap.size + 1 + 1) y, Hm.W4 (w.heap.size + 1) x, Hm.W4 w.heap.size a] ga n k1 k2 k3 (e0, V, c0) (0, V1, c1) (0, x, 0) (e3, V3, c3)) 27 (by kernel_rfl) (S8.out) ?_
  simp only [List.take_succ_cons, List.take_zero, List.drop_succ_cons, List.drop_zero]
  refine RS.go1 (v := ?_) (a' := ?_) rfl ?_ ?_ ?_
  rotate_left 2
  · intro K wx hS hK
    refine RW.ld rfl rfl (hS.hd.ok (Hm.W4 (w.heap.size) (a)) (by simp)).c ?_
    exact hK _ hS
  · simp only [Act.put, List.setIfInBounds_toArray, List.set_cons_succ, List.set_cons_zero]
    rfl
  refine RS.go1 (v := ?_) (a' := ?_) rfl ?_ ?_ ?_
  rotate_left 2
  · intro K wx hS hK
    refine RW.ld rfl rfl (hS.hd.ok (Hm.W4 (w.heap.size + 1 + 1) (y)) (by simp)).c ?_
    exact hK _ hS
  · simp only [Act.put, List.setIfInBounds_toArray, List.set_cons_succ, List.set_cons_zero]
    rfl
  refine RS.go1 (v := ?_) (a' := ?_) rfl ?_ ?_ ?_
  rotate_left 2
  · intro K wx hS hK
    go_simp
    refine (KC1.out wx).mono (fun e w2 he => ?_)
    refine ⟨_, he.1, ?_⟩
    exact hK _ (Sr_below hS he.2)
  · simp only [Act.put, List.setIfInBounds_toArray, List.set_cons_succ, List.set_cons_zero]
    rfl
  refine RS.go1 (v := ?_) (a' := ?_) rfl ?_ ?_ ?_
  rotate_left 2
  · intro K wx hS hK
    go_simp
    exact hK _ hS
  · simp only [Act.put, List.setIfInBounds_toArray, List.set_cons_succ, List.set_cons_zero]
    rfl
  refine RS.go1 (v := ?_) (a' := ?_) rfl ?_ ?_ ?_
  rotate_left 2
  · intro K wx hS hK
    go_simp
    exact hK _ hS
  · simp only [Act.put, List.setIfInBounds_toArray, List.set_cons_succ, List.set_cons_zero]
    rfl
  refine RS.go0 (a' := ?_) (by kernel_rfl) ?_ ?_
  rotate_left 1
  · simp only [Act.put, List.setIfInBounds_toArray, List.set_cons_succ, List.set_cons_zero]
    rfl
  refine RS.go0 (a' := ?_) (by kernel_rfl) ?_ ?_
  rotate_left 1
  · simp only [Act.put, List.setIfInBounds_toArray, List.set_cons_succ, List.set_cons_zero]
    rfl
  refine RS.go0 (a' := ?_) (by kernel_rfl) ?_ ?_
  rotate_left 1
  · simp only [Act.put, List.setIfInBounds_toArray, List.set_cons_succ, List.set_cons_zero]
    rfl
  refine RS.go0 (a' := ?_) (by kernel_rfl) ?_ ?_
  rotate_left 1
  · simp only [Act.put, List.setIfInBounds_toArray, List.set_cons_succ, List.set_cons_zero]
    rfl
  refine RS.go0 (a' := ?_) (by kernel_rfl) ?_ ?_
  rotate_left 1
  · simp only [Act.put, List.setIfInBounds_toArray, List.set_cons_succ, List.set_cons_zero]
    rfl
  refine RS.go0 (a' := ?_) (by kernel_rfl) ?_ ?_
  rotate_left 1
  · simp only [Act.put, List.setIfInBounds_toArray, List.set_cons_succ, List.set_cons_zero]
    rfl
  refine RS.go1 (v := ?_) (a' := ?_) rfl ?_ ?_ ?_
  rotate_left 2
  · intro K wx hS hK
    go_simp
    exact hK _ hS
  · simp only [Act.put, List.setIfInBounds_toArray, List.set_cons_succ, List.set_cons_zero]
    rfl
  refine RS.go1 (v := ?_) (a' := ?_) rfl ?_ ?_ ?_
  rotate_left 2
  · intro K wx hS hK
    go_simp
    exact hK _ hS
  · simp only [Act.put, List.setIfInBounds_toArray, List.set_cons_succ, List.set_cons_zero]
    rfl
  refine RS.go1g (v := ?_) (a' := ?_) (by kernel_rfl) ?_ ?_ ?_
  rotate_left 2
  · intro K wx hS hK
    refine RW.ld rfl rfl (hS.hd.ok (Hm.W4 (w.heap.size + 1 + 1) (y)) (by simp)).c ?_
    exact hK _ hS
  · simp only [Act.put, List.setIfInBounds_toArray, List.set_cons_succ, List.set_cons_zero]
    rfl
  refine RS.go1g (v := ?_) (a' := ?_) (by kernel_rfl) ?_ ?_ ?_
  rotate_left 2
  · intro K wx hS hK
    refine RW.ld rfl rfl (hS.hd.ok (Hm.W4 (w.heap.size) (a)) (by simp)).c ?_
    exact hK _ hS
  · simp only [Act.put, List.setIfInBounds_toArray, List.set_cons_succ, List.set_cons_zero]
    rfl
  refine RS.go1g (v := ?_) (a' := ?_) (by kernel_rfl) ?_ ?_ ?_
  rotate_left 2
  · intro K wx hS hK
    go_simp
    refine (KC3.out wx).mono (fun e w2 he => ?_)
    refine ⟨_, he.1, ?_⟩
    exact hK _ (Sr_below hS he.2)
  · simp only [Act.put, List.setIfInBounds_toArray, List.set_cons_succ, List.set_cons_zero]
    rfl
  refine RS.go1g (v := ?_) (a' := ?_) (by kernel_rfl) ?_ ?_ ?_
  rotate_left 2
  · intro K wx hS hK
    go_simp
    exact hK _ hS
  · simp only [Act.put, List.setIfInBounds_toArray, List.set_cons_succ, List.set_cons_zero]
    rfl
  refine RS.go1g (v := ?_) (a' := ?_) (by kernel_rfl) ?_ ?_ ?_
  rotate_left 2
  · intro K wx hS hK
    go_simp
    exact hK _ hS
  · simp only [Act.put, List.setIfInBounds_toArray, List.set_cons_succ, List.set_cons_zero]
    rfl
  refine RS.go1g (v := ?_) (a' := ?_) (by kernel_rfl) ?_ ?_ ?_
  rotate_left 2
  · intro K wx hS hK
    refine RW.ld rfl rfl (hS.hd.ok (Hm.W4 (w.heap.size + 1 + 1) (y)) (by simp)).c ?_
    exact hK _ hS
  · simp only [Act.put, List.setIfInBounds_toArray, List.set_cons_succ, List.set_cons_zero]
    rfl
  refine RS.go1g (v := ?_) (a' := ?_) (by kernel_rfl) ?_ ?_ ?_
  rotate_left 2
  · intro K wx hS hK
    refine RW.ld rfl rfl (hS.hd.ok (Hm.W4 (w.heap.size) (a)) (by simp)).c ?_
    exact hK _ hS
  · simp only [Act.put, List.setIfInBounds_toArray, List.set_cons_succ, List.set_cons_zero]
    rfl
  refine RS.go1g (v := ?_) (a' := ?_) (by kernel_rfl) ?_ ?_ ?_
  rotate_left 2
  · intro K wx hS hK
    go_simp
    refine (KS3.out wx).mono (fun e w2 he => ?_)
    refine ⟨_, he.1, ?_⟩
    exact hK _ (Sr_below hS he.2)
  · simp only [Act.put, List.setIfInBounds_toArray, List.set_cons_succ, List.set_cons_zero]
    rfl
  refine RS.go1g (v := ?_) (a' := ?_) (by kernel_rfl) ?_ ?_ ?_
  rotate_left 2
  · intro K wx hS hK
    go_simp
    refine (KI.out wx).mono (fun e w2 he => ?_)
    refine ⟨_, he.1, ?_⟩
    exact hK _ (Sr_below hS he.2)
  · simp only [Act.put, List.setIfInBounds_toArray, List.set_cons_succ, List.set_cons_zero]
    rfl
  refine RS.go1g (v := ?_) (a' := ?_) (by kernel_rfl) ?_ ?_ ?_
  rotate_left 2
  · intro K wx hS hK
    go_simp
    refine (KC2.out wx).mono (fun e w2 he => ?_)
    refine ⟨_, he.1, ?_⟩
    exact hK _ (Sr_below hS he.2)
  · simp only [Act.put, List.setIfInBounds_toArray, List.set_cons_succ, List.set_cons_zero]
    rfl
  refine RS.go1g (v := ?_) (a' := ?_) (by kernel_rfl) ?_ ?_ ?_
  rotate_left 2
  · intro K wx hS hK
    go_simp
    exact hK _ hS
  · simp only [Act.put, List.setIfInBounds_toArray, List.set_cons_succ, List.set_cons_zero]
    rfl
  refine RS.go1g (v := ?_) (a' := ?_) (by kernel_rfl) ?_ ?_ ?_
  rotate_left 2
  · intro K wx hS hK
    go_simp
    exact hK _ hS
  · simp only [Act.put, List.setIfInBounds_toArray, List.set_cons_succ, List.set_cons_zero]
    rfl
  refine RS.go1 (v := ?_) (a' := ?_) rfl ?_ ?_ ?_
  rotate_left 2
  · intro K wx hS hK
    go_simp
    exact hK _ hS
  · simp only [Act.put, List.setIfInBounds_toArray, List.set_cons_succ, List.set_cons_zero]
    rfl
  refine RS.go1 (v := ?_) (a' := ?_) rfl ?_ ?_ ?_
  rotate_left 2
  · intro K wx hS hK
    go_simp
    exact hK _ hS
  · simp only [Act.put, List.setIfInBounds_toArray, List.set_cons_succ, List.set_cons_zero]
    rfl
  refine RS.go_end ?_
  intro w10 h10
  have S10 : Hid _ := h10
  clear h10 S8
  generalize Wd a = Jb
  generalize Wd y = Jc
  go_upto_region 13 with fail
  refine RS.wp_region_one (Sr w [Hm.W4 (w.heap.size + 1 + 1) y, Hm.W4 (w.heap.size + 1) x, Hm.W4 w.heap.size a] ga n k1 k2 k3 (e0, V, c0) (0, V1, c1) (0, x, 0) (e3, V3, c3)) (by kernel_rfl) (by kernel_rfl) (Sr_below S10.out (Below.refl _ _).drew) ?_
  dsimp only [List.toList_toArray]
  refine RS.go1 (v := ?_) (a' := ?_) rfl ?_ ?_ ?_
  rotate_left 2
  · intro K wx hS hK
    go_simp
    exact hK _ hS
  · simp only [Act.put, List.setIfInBounds_toArray, List.set_cons_succ, List.set_cons_zero]
    rfl
  refine RS.go1 (v := ?_) (a' := ?_) rfl ?_ ?_ ?_
  rotate_left 2
  · intro K wx hS hK
    go_simp
    exact hK _ hS
  · simp only [Act.put, List.setIfInBounds_toArray, List.set_cons_succ, List.set_cons_zero]
    rfl
  refine RS.go1 (v := ?_) (a' := ?_) rfl ?_ ?_ ?_
  rotate_left 2
  · intro K wx hS hK
    go_simp
    exact hK _ hS
  · simp only [Act.put, List.setIfInBounds_toArray, List.set_cons_succ, List.set_cons_zero]
    rfl
  refine RS.go1 (v := ?_) (a' := ?_) rfl ?_ ?_ ?_
  rotate_left 2
  · intro K wx hS hK
    go_simp
    exact hK _ hS
  · simp only [Act.put, List.setIfInBounds_toArray, List.set_cons_succ, List.set_cons_zero]
    rfl
  refine RS.go1 (v := ?_) (a' := ?_) rfl ?_ ?_ ?_
  rotate_left 2
  · intro K wx hS hK
    refine ldA (x := (0, x, 0)) (b := k2 * 6) rfl rfl hS.c2 ?_
    exact hK _ hS
  · simp only [Act.put, List.setIfInBounds_toArray, List.set_cons_succ, List.set_cons_zero]
    rfl
  refine RS.go1 (v := ?_) (a' := ?_) rfl ?_ ?_ ?_
  rotate_left 2
  · intro K wx hS hK
    refine RW.ld rfl rfl (hS.hd.ok (Hm.W4 (w.heap.size + 1) (x)) (by simp)).c ?_
    exact hK _ hS
  · simp only [Act.put, List.setIfInBounds_toArray, List.set_cons_succ, List.set_cons_zero]
    rfl
  refine RS.go1 (v := ?_) (a' := ?_) rfl ?_ ?_ ?_
  rotate_left 2
  · intro K wx hS hK
    unfold Wd
    go_simp
    exact hK _ hS
  · simp only [Act.put, List.setIfInBounds_toArray, List.set_cons_succ, List.set_cons_zero]
    rfl
  refine RS.go1 (v := ?_) (a' := ?_) rfl ?_ ?_ ?_
  rotate_left 2
  · intro K wx hS hK
    refine eqAo (x := (0, x, 0)) (y := (0, x, 0)) (b := true) rfl rfl rfl (by simp [sa]) ?_
    exact hK _ hS
  · simp only [Act.put, List.setIfInBounds_toArray, List.set_cons_succ, List.set_cons_zero]
    rfl
  refine RS.go1 (v := ?_) (a' := ?_) rfl ?_ ?_ ?_
  rotate_left 2
  · intro K wx hS hK
    go_simp
    exact hK _ hS
  · simp only [Act.put, List.setIfInBounds_toArray, List.set_cons_succ, List.set_cons_zero]
    rfl
  refine RS.go1g (v := ?_) (a' := ?_) (by kernel_rfl) ?_ ?_ ?_
  rotate_left 2
  · intro K wx hS hK
    go_simp
    exact hK _ hS
  · simp only [Act.put, List.setIfInBounds_toArray, List.set_cons_succ, List.set_cons_zero]
    rfl
  refine RS.go1g (v := ?_) (a' := ?_) (by kernel_rfl) ?_ ?_ ?_
  rotate_left 2
  · intro K wx hS hK
    go_simp
    exact hK _ hS
  · simp only [Act.put, List.setIfInBounds_toArray, List.set_cons_succ, List.set_cons_zero]
    rfl
  refine RS.go1g (v := ?_) (a' := ?_) (by kernel_rfl) ?_ ?_ ?_
  rotate_left 2
  · intro K wx hS hK
    go_simp
    exact hK _ hS
  · simp only [Act.put, List.setIfInBounds_toArray, List.set_cons_succ, List.set_cons_zero]
    rfl
  refine RS.go0 (a' := ?_) (by kernel_rfl) ?_ ?_
  rotate_left 1
  · simp only [Act.put, List.setIfInBounds_toArray, List.set_cons_succ, List.set_cons_zero]
    rfl
  refine RS.go0 (a' := ?_) (by kernel_rfl) ?_ ?_
  rotate_left 1
  · simp only [Act.put, List.setIfInBounds_toArray, List.set_cons_succ, List.set_cons_zero]
    rfl
  refine RS.go0 (a' := ?_) (by kernel_rfl) ?_ ?_
  rotate_left 1
  · simp only [Act.put, List.setIfInBounds_toArray, List.set_cons_succ, List.set_cons_zero]
    rfl
  refine RS.go0 (a' := ?_) (by kernel_rfl) ?_ ?_
  rotate_left 1
  · simp only [Act.put, List.setIfInBounds_toArray, List.set_cons_succ, List.set_cons_zero]
    rfl
  refine RS.go0 (a' := ?_) (by kernel_rfl) ?_ ?_
  rotate_left 1
  · simp only [Act.put, List.setIfInBounds_toArray, List.set_cons_succ, List.set_cons_zero]
    rfl
  refine RS.go0 (a' := ?_) (by kernel_rfl) ?_ ?_
  rotate_left 1
  · simp only [Act.put, List.setIfInBounds_toArray, List.set_cons_succ, List.set_cons_zero]
    rfl
  refine RS.go0 (a' := ?_) (by kernel_rfl) ?_ ?_
  rotate_left 1
  · simp only [Act.put, List.setIfInBounds_toArray, List.set_cons_succ, List.set_cons_zero]
    rfl
  refine RS.go0 (a' := ?_) (by kernel_rfl) ?_ ?_
  rotate_left 1
  · simp only [Act.put, List.setIfInBounds_toArray, List.set_cons_succ, List.set_cons_zero]
    rfl
  refine RS.go0 (a' := ?_) (by kernel_rfl) ?_ ?_
  rotate_left 1
  · simp only [Act.put, List.setIfInBounds_toArray, List.set_cons_succ, List.set_cons_zero]
    rfl
  refine RS.go0 (a' := ?_) (by kernel_rfl) ?_ ?_
  rotate_left 1
  · simp only [Act.put, List.setIfInBounds_toArray, List.set_cons_succ, List.set_cons_zero]
    rfl
  refine RS.go0 (a' := ?_) (by kernel_rfl) ?_ ?_
  rotate_left 1
  · simp only [Act.put, List.setIfInBounds_toArray, List.set_cons_succ, List.set_cons_zero]
    rfl
  refine RS.go0 (a' := ?_) (by kernel_rfl) ?_ ?_
  rotate_left 1
  · simp only [Act.put, List.setIfInBounds_toArray, List.set_cons_succ, List.set_cons_zero]
    rfl
  refine RS.go1g (v := ?_) (a' := ?_) (by kernel_rfl) ?_ ?_ ?_
  rotate_left 2
  · intro K wx hS hK
    go_simp
    exact hK _ hS
  · simp only [Act.put, List.setIfInBounds_toArray, List.set_cons_succ, List.set_cons_zero]
    rfl
  refine RS.go1 (v := ?_) (a' := ?_) rfl ?_ ?_ ?_
  rotate_left 2
  · intro K wx hS hK
    go_simp
    exact hK _ hS
  · simp only [Act.put, List.setIfInBounds_toArray, List.set_cons_succ, List.set_cons_zero]
    rfl
  refine RS.go1 (v := ?_) (a' := ?_) rfl ?_ ?_ ?_
  rotate_left 2
  · intro K wx hS hK
    go_simp
    exact hK _ hS
  · simp only [Act.put, List.setIfInBounds_toArray, List.set_cons_succ, List.set_cons_zero]
    rfl
  refine RS.go_end ?_
  intro w9 h9
  have H9 : Hid (Below w.heap.size w w9) := h9.hd.bel
  clear h9
  go_wp2
  go_ret
  exact ⟨rfl, H9.out⟩
end Mm
end Go.Proofs.Ytcpgcdffienobaa
/- lampbearerkeep.MemoryRead: read_2c. -/
namespace Go.Proofs.Ytcpgcdffienobaa
namespace Mm
open Go.RowKit Pk
set_option maxHeartbeats 4000000 in
set_option maxRecDepth 100000 in
theorem read_2c (l : List Mo) (xs : List OV) (n k1 k2 k3 k4 a x y : Nat) (hxs : Hid (xs.map (·.1) = l)) (hl : Hid (∀ x, x ∈ l → Wf x)) (hn : Hid (n = l.length ∧ k1 = n + 1 ∧ k2 = n + 2 ∧ k3 = n + 3 ∧ k4 = n + 4 ∧ k4 ≤ 1048576)) (hw : Hid (a < 2 ^ 256 ∧ x < 2 ^ 256 ∧ y < 2 ^ 256)) (e0 e3 c0 c1 c3 : Int) (V V1 V3 : Nat) (q1 q3 : Int) (KC1 : Hid (∀ W : World, Calls Try.prog 16 #[Wd a, Wd y] W fun e w' => e = .returned (.int .i64 q1) ∧ Below W.heap.size W w')) (KC3 : Hid (∀ W : World, Calls Try.prog 16 #[Wd y, Wd a] W fun e w' => e = .returned (.int .i64 q3) ∧ Below W.heap.size W w')) (t1 : decide ((0 : Int) < q1) = false) (t3 : decide ((0 : Int) < q3) = false) (hA : Hid (an (Lr l a x y) n = (e0, V, c0) ∧ an (Lr l a x y) k1 = (0, V1, c1) ∧ an (Lr l a x y) k2 = (0, x, 0) ∧ an (Lr l a x y) k3 = (e3, V3, c3)))
    (ao : Option Addr) (cap : Nat) (w : World) (hv : Hid (VO xs (.slice ao n cap) w ∧ ∀ x, x ∈ xs → Tr.Bs (· < w.heap.size) x.1.d x.2 w)) :
    Calls Try.prog 4 #[.slice ao n cap, Wd a, Wd x, Wd y] w fun e w' => e = .returned (.bool true) ∧ Below w.heap.size w w' := by
  have HX : Hid (xs.length = n) := by
    show _ = _
    rw [hn.out.1, ← hxs.out, List.length_map]
  have KC : Hid (∀ W : World, Below w.heap.size w W → Calls Try.prog 15 #[.slice ao n cap] W fun e w' => ∃ z, e = .returned z ∧ Oo W.heap.size xs z w' ∧ Below W.heap.size W w') := fun W hb => clone_op xs _ W (VO_below hv.out.1 hb) (fun x hx => Bs_isSl (hv.out.2 x hx)) (by have := hn.out; have := HX.out; omega)
  have KP : Hid (∀ (W : World) (Bs : Nat) (v : Value), Below w.heap.size w W → Oo Bs (xs ++ [(oL y, .slice none 0 0), (oS a x, .slice none 0 0), (oL a, .slice none 0 0), (oL y, .slice none 0 0)]) v W → Calls Try.prog 9 #[v] W fun e w' => ∃ ga u, e = .returned (.tuple #[.slice (some ⟨ga, 0, none⟩) k4 k4, u]) ∧ Rp W.heap.size ga (Lr l a x y) u w' ∧ Below W.heap.size W w') := fun W Bs v hb1 ho => by
    have hM := Oo_in ho (fun z hz => by
      rcases List.mem_append.1 hz with h | h
      · exact Bs_in (hv.out.2 z h) hb1
      · simp only [List.mem_cons, List.not_mem_nil, or_false] at h
        rcases h with rfl | rfl | rfl | rfl <;> exact Tr.Bs_nil _ _)
    rw [List.map_append, hxs.out] at hM
    have hM : Mr (· < W.heap.size) (Lr l a x y) v W := hM
    have hlen : (Lr l a x y).length = k4 := by unfold Lr; rw [List.length_append, ← hn.out.1, hn.out.2.2.2.2.1]; rfl
    have wf1 : ∀ q, q < 2 ^ 256 → Wf (oL q) := fun q hq => ⟨hq, by show 0 < 2 ^ 256; decide, by show 0 < 2 ^ 256; decide, by show 0 ≤ _; omega⟩
    have wf2 : Wf (oS a x) := ⟨hw.out.1, by show 0 < 2 ^ 256; decide, by show 0 < 2 ^ 256; decide, by show 0 ≤ _; omega⟩
    have k := play_any (Lr l a x y) (wf_in _ (fun q hq => by
      rcases List.mem_append.1 hq with h | h
      · exact hl.out q h
      · simp only [List.mem_cons, List.not_mem_nil, or_false] at h
        rcases h with rfl | rfl | rfl | rfl
        · exact wf1 y hw.out.2.2
        · exact wf2
        · exact wf1 a hw.out.1
        · exact wf1 y hw.out.2.2)) (by rw [hlen]; exact hn.out.2.2.2.2.2) v W hM
    rw [hlen] at k
    exact k
  conv => arg 3; unfold Wd
  go_enter Try.func4, Try.ntmps4
  go_upto_region 1 with fail
  have m0 : Hm.Hd w [Hm.W4 (w.heap.size + 1 + 1) y, Hm.W4 (w.heap.size + 1) x, Hm.W4 w.heap.size a] (((w.alloc (.cells #[.int .u64 (dg a 0), .int .u64 (dg a 1), .int .u64 (dg a 2), .int .u64 (dg a 3)] 32)).alloc (.cells #[.int .u64 (dg x 0), .int .u64 (dg x 1), .int .u64 (dg x 2), .int .u64 (dg x 3)] 32)).alloc (.cells #[.int .u64 (dg y 0), .int .u64 (dg y 1), .int .u64 (dg y 2), .int .u64 (dg y 3)] 32)) := by
    have q1 := Hm.new4 (n := a) (T := 32) (Hm.start w) rfl
    have q2 := Hm.new4 (n := x) (T := 32) (g := w.heap.size + 1) q1 (by simp)
    exact Hm.new4 (n := y) (T := 32) (g := w.heap.size + 1 + 1) q2 (by simp)
  generalize ((w.alloc (.cells #[.int .u64 (dg a 0), .int .u64 (dg a 1), .int .u64 (dg a 2), .int .u64 (dg a 3)] 32)).alloc (.cells #[.int .u64 (dg x 0), .int .u64 (dg x 1), .int .u64 (dg x 2), .int .u64 (dg x 3)] 32)).alloc (.cells #[.int .u64 (dg y 0), .int .u64 (dg y 1), .int .u64 (dg y 2), .int .u64 (dg y 3)] 32) = w0 at m0 ⊢
  have M0 : Hid _ := m0
  clear m0
  go_wp2_with fail
  refine (alive_any w0).mono ?_
  rintro e w1 ⟨rfl, b1⟩
  have M1 : Hid (Hm.Hd w [Hm.W4 (w.heap.size + 1 + 1) y, Hm.W4 (w.heap.size + 1) x, Hm.W4 w.heap.size a] w1) := Hm.below M0.out b1
  clear b1 M0
  go_upto_region 3 with fail
  refine RS.wp_region_flat (Hm.Hd w [Hm.W4 (w.heap.size + 1 + 1) y, Hm.W4 (w.heap.size + 1) x, Hm.W4 w.heap.size a]) 3 (by kernel_rfl) (M1.out) ?_
  simp only [List.take_succ_cons, List.take_zero, List.drop_succ_cons, List.drop_zero]
  refine RS.go1 (v := ?_) (a' := ?_) rfl ?_ ?_ ?_
  rotate_left 2
  · intro K wx hS hK
    refine RW.ld rfl rfl (hS.ok (Hm.W4 (w.heap.size) (a)) (by simp)).c ?_
    exact hK _ hS
  · simp only [Act.put, List.setIfInBounds_toArray, List.set_cons_succ, List.set_cons_zero]
    rfl
  refine RS.go1 (v := ?_) (a' := ?_) rfl ?_ ?_ ?_
  rotate_left 2
  · intro K wx hS hK
    refine RW.ld rfl rfl (hS.ok (Hm.W4 (w.heap.size + 1) (x)) (by simp)).c ?_
    exact hK _ hS
  · simp only [Act.put, List.setIfInBounds_toArray, List.set_cons_succ, List.set_cons_zero]
    rfl
  refine RS.go1 (v := ?_) (a' := ?_) rfl ?_ ?_ ?_
  rotate_left 2
  · intro K wx hS hK
    unfold Wd
    go_simp
    exact hK _ hS
  · simp only [Act.put, List.setIfInBounds_toArray, List.set_cons_succ, List.set_cons_zero]
    rfl
  refine RS.go_end ?_
  intro wq h9
  have Nq : Hid _ := h9
  clear h9 M1
  refine RF.go (by kernel_rfl) ?_
  refine alO rfl ?_
  have Nz : Hid _ := newZ Nq.out
  have ne : Hid (∀ b, b ∈ [Hm.W4 (w.heap.size + 1 + 1) y, Hm.W4 (w.heap.size + 1) x, Hm.W4 w.heap.size a] → wq.heap.size ≠ b.g) := fun b hb => Nat.ne_of_gt (Nq.out.ok b hb).hi
  clear Nq
  generalize wq.alloc (.cells zO 38) = wz at Nz ⊢
  generalize wq.heap.size = g1 at Nz ne ⊢
  simp only [Act.put, List.setIfInBounds_toArray, List.set_cons_succ, List.set_cons_zero]
  refine stO ⟨2, a, 0, 0, x, []⟩ none 0 0 rfl rfl rfl (eS a x) Nz.out ne.out (fun w3 h9 => ?_)
  have Mw3 : Hid _ := h9
  clear h9 Nz ne
  refine wpList_nil ?_
  dsimp only [Act.put]
  generalize (Value.agg #[.int .i64 2, .int .u64 (dg a 0), .int .u64 (dg a 1), .int .u64 (dg a 2), .int .u64 (dg a 3), .int .u64 0, .int .u64 0, .int .u64 0, .int .u64 0, .int .u64 0, .int .u64 0, .int .u64 0, .int .u64 0, .int .u64 (dg x 0), .int .u64 (dg x 1), .int .u64 (dg x 2), .int .u64 (dg x 3), .slice none 0 0]) = Jg1
  go_upto_region 4 with fail
  refine RS.wp_region_flat (Hm.Hd w (⟨g1, 18, oc 2 a 0 0 x (.slice none 0 0)⟩ :: [Hm.W4 (w.heap.size + 1 + 1) y, Hm.W4 (w.heap.size + 1) x, Hm.W4 w.heap.size a])) 2 (by kernel_rfl) (Mw3.out) ?_
  simp only [List.take_succ_cons, List.take_zero, List.drop_succ_cons, List.drop_zero]
  refine RS.go1 (v := ?_) (a' := ?_) rfl ?_ ?_ ?_
  rotate_left 2
  · intro K wx hS hK
    refine RW.ld rfl rfl (hS.ok (Hm.W4 (w.heap.size) (a)) (by simp)).c ?_
    exact hK _ hS
  · simp only [Act.put, List.setIfInBounds_toArray, List.set_cons_succ, List.set_cons_zero]
    rfl
  refine RS.go1 (v := ?_) (a' := ?_) rfl ?_ ?_ ?_
  rotate_left 2
  · intro K wx hS hK
    unfold Wd
    go_simp
    exact hK _ hS
  · simp only [Act.put, List.setIfInBounds_toArray, List.set_cons_succ, List.set_cons_zero]
    rfl
  refine RS.go_end ?_
  intro wq h9
  have Nq : Hid _ := h9
  clear h9 Mw3
  refine RF.go (by kernel_rfl) ?_
  refine alO rfl ?_
  have Nz : Hid _ := newZ Nq.out
  have ne : Hid (∀ b, b ∈ (⟨g1, 18, oc 2 a 0 0 x (.slice none 0 0)⟩ :: [Hm.W4 (w.heap.size + 1 + 1) y, Hm.W4 (w.heap.size + 1) x, Hm.W4 w.heap.size a]) → wq.heap.size ≠ b.g) := fun b hb => Nat.ne_of_gt (Nq.out.ok b hb).hi
  clear Nq
  generalize wq.alloc (.cells zO 38) = wz at Nz ⊢
  generalize wq.heap.size = g2 at Nz ne ⊢
  simp only [Act.put, List.setIfInBounds_toArray, List.set_cons_succ, List.set_cons_zero]
  refine stO ⟨1, a, 0, 0, 0, []⟩ none 0 0 rfl rfl rfl (eL a) Nz.out ne.out (fun w4 h9 => ?_)
  have Mw4 : Hid _ := h9
  clear h9 Nz ne
  refine wpList_nil ?_
  dsimp only [Act.put]
  generalize (Value.agg #[.int .i64 1, .int .u64 (dg a 0), .int .u64 (dg a 1), .int .u64 (dg a 2), .int .u64 (dg a 3), .int .u64 0, .int .u64 0, .int .u64 0, .int .u64 0, .int .u64 0, .int .u64 0, .int .u64 0, .int .u64 0, .int .u64 0, .int .u64 0, .int .u64 0, .int .u64 0, .slice none 0 0]) = Jg2
  go_upto_region 5 with fail
  refine RS.wp_region_flat (Hm.Hd w (⟨g2, 18, oc 1 a 0 0 0 (.slice none 0 0)⟩ :: (⟨g1, 18, oc 2 a 0 0 x (.slice none 0 0)⟩ :: [Hm.W4 (w.heap.size + 1 + 1) y, Hm.W4 (w.heap.size + 1) x, Hm.W4 w.heap.size a]))) 2 (by kernel_rfl) (Mw4.out) ?_
  simp only [List.take_succ_cons, List.take_zero, List.drop_succ_cons, List.drop_zero]
  refine RS.go1 (v := ?_) (a' := ?_) rfl ?_ ?_ ?_
  rotate_left 2
  · intro K wx hS hK
    refine RW.ld rfl rfl (hS.ok (Hm.W4 (w.heap.size + 1 + 1) (y)) (by simp)).c ?_
    exact hK _ hS
  · simp only [Act.put, List.setIfInBounds_toArray, List.set_cons_succ, List.set_cons_zero]
    rfl
  refine RS.go1 (v := ?_) (a' := ?_) rfl ?_ ?_ ?_
  rotate_left 2
  · intro K wx hS hK
    unfold Wd
    go_simp
    exact hK _ hS
  · simp only [Act.put, List.setIfInBounds_toArray, List.set_cons_succ, List.set_cons_zero]
    rfl
  refine RS.go_end ?_
  intro wq h9
  have Nq : Hid _ := h9
  clear h9 Mw4
  refine RF.go (by kernel_rfl) ?_
  refine alO rfl ?_
  have Nz : Hid _ := newZ Nq.out
  have ne : Hid (∀ b, b ∈ (⟨g2, 18, oc 1 a 0 0 0 (.slice none 0 0)⟩ :: (⟨g1, 18, oc 2 a 0 0 x (.slice none 0 0)⟩ :: [Hm.W4 (w.heap.size + 1 + 1) y, Hm.W4 (w.heap.size + 1) x, Hm.W4 w.heap.size a])) → wq.heap.size ≠ b.g) := fun b hb => Nat.ne_of_gt (Nq.out.ok b hb).hi
  clear Nq
  generalize wq.alloc (.cells zO 38) = wz at Nz ⊢
  generalize wq.heap.size = g3 at Nz ne ⊢
  simp only [Act.put, List.setIfInBounds_toArray, List.set_cons_succ, List.set_cons_zero]
  refine stO ⟨1, y, 0, 0, 0, []⟩ none 0 0 rfl rfl rfl (eL y) Nz.out ne.out (fun w5 h9 => ?_)
  have Mw5 : Hid _ := h9
  clear h9 Nz ne
  refine wpList_nil ?_
  dsimp only [Act.put]
  generalize (Value.agg #[.int .i64 1, .int .u64 (dg y 0), .int .u64 (dg y 1), .int .u64 (dg y 2), .int .u64 (dg y 3), .int .u64 0, .int .u64 0, .int .u64 0, .int .u64 0, .int .u64 0, .int .u64 0, .int .u64 0, .int .u64 0, .int .u64 0, .int .u64 0, .int .u64 0, .int .u64 0, .slice none 0 0]) = Jg3
  go_upto_region 6 with fail
  generalize (Value.agg #[.int .u64 (dg a 0), .int .u64 (dg a 1), .int .u64 (dg a 2), .int .u64 (dg a 3)]) = Ja
  generalize (Value.agg #[.int .u64 (dg x 0), .int .u64 (dg x 1), .int .u64 (dg x 2), .int .u64 (dg x 3)]) = Jx
  generalize (Value.agg #[.int .u64 (dg y 0), .int .u64 (dg y 1), .int .u64 (dg y 2), .int .u64 (dg y 3)]) = Jy
  generalize Wd a = Ja2
  generalize Wd x = Jx2
  generalize Wd y = Jy2
  have G5 : Hid (∀ b, b ∈ (⟨g3, 18, oc 1 y 0 0 0 (.slice none 0 0)⟩ :: (⟨g2, 18, oc 1 a 0 0 0 (.slice none 0 0)⟩ :: (⟨g1, 18, oc 2 a 0 0 x (.slice none 0 0)⟩ :: [Hm.W4 (w.heap.size + 1 + 1) y, Hm.W4 (w.heap.size + 1) x, Hm.W4 w.heap.size a]))) → b.g < w5.heap.size ∧ ∀ o, o < b.n → w5.cell? ⟨b.g, o, none⟩ = some (b.F o)) := fun b hb => ⟨(Mw5.out.ok b hb).hi, (Mw5.out.ok b hb).c⟩
  have g3mem : (⟨g3, 18, oc 1 y 0 0 0 (.slice none 0 0)⟩ : Hm.Bk) ∈ (⟨g3, 18, oc 1 y 0 0 0 (.slice none 0 0)⟩ :: (⟨g2, 18, oc 1 a 0 0 0 (.slice none 0 0)⟩ :: (⟨g1, 18, oc 2 a 0 0 x (.slice none 0 0)⟩ :: [Hm.W4 (w.heap.size + 1 + 1) y, Hm.W4 (w.heap.size + 1) x, Hm.W4 w.heap.size a]))) := by simp
  have g2mem : (⟨g2, 18, oc 1 a 0 0 0 (.slice none 0 0)⟩ : Hm.Bk) ∈ (⟨g3, 18, oc 1 y 0 0 0 (.slice none 0 0)⟩ :: (⟨g2, 18, oc 1 a 0 0 0 (.slice none 0 0)⟩ :: (⟨g1, 18, oc 2 a 0 0 x (.slice none 0 0)⟩ :: [Hm.W4 (w.heap.size + 1 + 1) y, Hm.W4 (w.heap.size + 1) x, Hm.W4 w.heap.size a]))) := by simp
  have g1mem : (⟨g1, 18, oc 2 a 0 0 x (.slice none 0 0)⟩ : Hm.Bk) ∈ (⟨g3, 18, oc 1 y 0 0 0 (.slice none 0 0)⟩ :: (⟨g2, 18, oc 1 a 0 0 0 (.slice none 0 0)⟩ :: (⟨g1, 18, oc 2 a 0 0 x (.slice none 0 0)⟩ :: [Hm.W4 (w.heap.size + 1 + 1) y, Hm.W4 (w.heap.size + 1) x, Hm.W4 w.heap.size a]))) := by simp
  have KC5 : Hid (∀ W : World, Below w5.heap.size w5 W → Calls Try.prog 15 #[.slice ao n cap] W fun e w' => ∃ z, e = .returned z ∧ Oo W.heap.size xs z w' ∧ Below W.heap.size W w') := fun W hb => KC.out W (Mw5.out.bel.trans (hb.mono Mw5.out.bel.size))
  have LR : Hid _ := litR a x y
  have M5b : Hid (Below w.heap.size w w5) := Mw5.out.bel
  refine RH.wp_region_genI (I6 w5 xs [(oL y, .slice none 0 0), (oS a x, .slice none 0 0), (oL a, .slice none 0 0), (oL y, .slice none 0 0)] (fun ga u wx => ∃ B, Rp B ga (Lr l a x y) u wx) k4) [0, 1, 0, 0, 0, 0, 1, 1, 1, 1, 1, 1, 1, 2] (by kernel_rfl) (by kernel_rfl) (I6.i6s) ?_
  dsimp only [List.toList_toArray]
  refine RH.goD (v := ?_) (f' := ?_) rfl ?_ ?_ ?_
  rotate_left 2
  · intro U K d wx hI hmay hK
    go_simp
    exact hK _ hI.i6k0
  · intro U
    simp only [Act.put, List.setIfInBounds_toArray, List.set_cons_succ, List.set_cons_zero]
    rfl
  refine RH.goN (f' := ?_) rfl ?_ ?_ ?_
  rotate_left 1
  · intro U K d wx hI hmay hK
    have h1 := hmay.1
    go_simp
    refine (KC5.out _ hI.b).mono (fun e w2 he => ?_)
    obtain ⟨z, rfl, q1, q2⟩ := he
    refine ⟨_, rfl, ?_⟩
    exact hK _ _ (hI.i6c h1 q1 q2)
  · intro U
    simp only [Act.put, List.setIfInBounds_toArray, List.set_cons_succ, List.set_cons_zero]
    rfl
  refine RH.goD (v := ?_) (f' := ?_) rfl ?_ ?_ ?_
  rotate_left 2
  · intro U K d wx hI hmay hK
    refine ldOu (k := 1) (a := y) (f := 0) (l := 0) (x := 0) (v := .slice none 0 0) rfl rfl (fun o ho => (hI.b.cell (p := ⟨g3, o, none⟩) (G5.out _ (g3mem)).1).trans ((G5.out _ (g3mem)).2 o ho)) ?_
    exact hK _ hI.i6k2
  · intro U
    simp only [Act.put, List.setIfInBounds_toArray, List.set_cons_succ, List.set_cons_zero]
    rfl
  refine RH.goD (v := ?_) (f' := ?_) rfl ?_ ?_ ?_
  rotate_left 2
  · intro U K d wx hI hmay hK
    refine ldOu (k := 2) (a := a) (f := 0) (l := 0) (x := x) (v := .slice none 0 0) rfl rfl (fun o ho => (hI.b.cell (p := ⟨g1, o, none⟩) (G5.out _ (g1mem)).1).trans ((G5.out _ (g1mem)).2 o ho)) ?_
    exact hK _ hI.i6k3
  · intro U
    simp only [Act.put, List.setIfInBounds_toArray, List.set_cons_succ, List.set_cons_zero]
    rfl
  refine RH.goD (v := ?_) (f' := ?_) rfl ?_ ?_ ?_
  rotate_left 2
  · intro U K d wx hI hmay hK
    refine ldOu (k := 1) (a := a) (f := 0) (l := 0) (x := 0) (v := .slice none 0 0) rfl rfl (fun o ho => (hI.b.cell (p := ⟨g2, o, none⟩) (G5.out _ (g2mem)).1).trans ((G5.out _ (g2mem)).2 o ho)) ?_
    exact hK _ hI.i6k4
  · intro U
    simp only [Act.put, List.setIfInBounds_toArray, List.set_cons_succ, List.set_cons_zero]
    rfl
  refine RH.goD (v := ?_) (f' := ?_) rfl ?_ ?_ ?_
  rotate_left 2
  · intro U K d wx hI hmay hK
    refine ldOu (k := 1) (a := y) (f := 0) (l := 0) (x := 0) (v := .slice none 0 0) rfl rfl (fun o ho => (hI.b.cell (p := ⟨g3, o, none⟩) (G5.out _ (g3mem)).1).trans ((G5.out _ (g3mem)).2 o ho)) ?_
    exact hK _ hI.i6k5
  · intro U
    simp only [Act.put, List.setIfInBounds_toArray, List.set_cons_succ, List.set_cons_zero]
    rfl
  refine RH.goN (f' := ?_) rfl ?_ ?_ ?_
  rotate_left 1
  · intro U K d wx hI hmay hK
    have h1 := hmay.1
    unfold od
    rw [dgz3.1, dgz3.2.1, dgz3.2.2.1, dgz3.2.2.2]
    go_simp
    exact hK _ _ (hI.i6l h1 (lit_VO _ _ LR.out.symm _ _ wx 4 rfl) ((Below.refl _ _).alloc (Nat.le_refl _) _))
  · intro U
    simp only [Act.put, List.setIfInBounds_toArray, List.set_cons_succ, List.set_cons_zero]
    rfl
  refine RH.goN (f' := ?_) rfl ?_ ?_ ?_
  rotate_left 1
  · intro U K d wx hI hmay hK
    have h7 := hmay.1
    have hd := hmay.2 _ rfl
    simp [Region.binds] at hd
    obtain ⟨B6, hB1, hB2, O6⟩ := hI.c (by simp [hd]) h7
    have V6 := hI.e (by simp [hd]) h7
    obtain ⟨v7, w7, hap, o7, g7⟩ := app_op 22 O6 V6 (fun z hz => by
      simp only [List.mem_cons, List.not_mem_nil, or_false] at hz
      rcases hz with rfl | rfl | rfl | rfl <;> exact ⟨_, _, _, rfl⟩) hB2 (by have := hn.out; have := HX.out; show xs.length + 4 ≤ _; omega)
    have r7 : Below w5.heap.size w5 w7 := hI.b.trans ((Below.refl _ _).grown g7 hI.b.size (fun k hk => Nat.le_trans hB1 (Sp.own_lo O6 k hk).1))
    refine ap_upv rfl rfl rfl hap ?_
    exact hK _ _ (hI.i6a h7 (by simp [hd]) (by simp [hd]) o7 r7)
  · intro U
    simp only [Act.put, List.setIfInBounds_toArray, List.set_cons_succ, List.set_cons_zero]
    rfl
  refine RH.goN (f' := ?_) rfl ?_ ?_ ?_
  rotate_left 1
  · intro U K d wx hI hmay hK
    have h8 := hmay.1
    have hd := hmay.2 _ rfl
    simp [Region.binds] at hd
    obtain ⟨B7, O7⟩ := hI.a (by simp [hd]) h8
    go_simp
    refine (KP.out wx B7 _ (M5b.out.trans (hI.b.mono M5b.out.size)) O7).mono (fun e w2 he => ?_)
    obtain ⟨ga, u, rfl, q1, q2⟩ := he
    refine ⟨_, rfl, ?_⟩
    exact hK _ _ (hI.i6p h8 (by simp [hd]) rfl ⟨_, q1⟩ q2)
  · intro U
    simp only [Act.put, List.setIfInBounds_toArray, List.set_cons_succ, List.set_cons_zero]
    rfl
  refine RH.goN (f' := ?_) rfl ?_ ?_ ?_
  rotate_left 1
  · intro U K d wx hI hmay hK
    have hd := hmay.2 _ rfl
    simp [Region.binds] at hd
    have hK2 := hK _ _ (hI.i6m (by simp [hd]))
    go_simp
    exact hK2
  · intro U
    simp only [Act.put, List.setIfInBounds_toArray, List.set_cons_succ, List.set_cons_zero]
    rfl
  refine RH.goN (f' := ?_) rfl ?_ ?_ ?_
  rotate_left 1
  · intro U K d wx hI hmay hK
    have hd := hmay.2 _ rfl
    simp [Region.binds] at hd
    obtain ⟨ga, u, e1, e2, e3, e4, e5⟩ := hI.p (hI.q9 (by simp [hd]))
    have e9 := e3 (by simp [hd])
    have hK2 := hK _ _ (hI.i6x (by simp [hd]) e9)
    clear e1 e2 e3 e4 e5
    go_simp
    exact hK2
  · intro U
    simp only [Act.put, List.setIfInBounds_toArray, List.set_cons_succ, List.set_cons_zero]
    rfl
  refine RH.goN (f' := ?_) rfl ?_ ?_ ?_
  rotate_left 1
  · intro U K d wx hI hmay hK
    have hd := hmay.2 _ rfl
    simp [Region.binds] at hd
    obtain ⟨ga, u, e1, e2, e3, e4, e5⟩ := hI.p (hI.q9 (by simp [hd]))
    have e9 := e3 (by simp [hd])
    have hK2 := hK _ _ (hI.i6y (by simp [hd]) e9)
    clear e1 e2 e3 e4 e5
    go_simp
    exact hK2
  · intro U
    simp only [Act.put, List.setIfInBounds_toArray, List.set_cons_succ, List.set_cons_zero]
    rfl
  refine RH.goN (f' := ?_) rfl ?_ ?_ ?_
  rotate_left 1
  · intro U K d wx hI hmay hK
    have hd := hmay.2 _ rfl
    simp [Region.binds] at hd
    have hK2 := hK _ _ (hI.i6z (by simp [hd]))
    go_simp
    exact hK2
  · intro U
    simp only [Act.put, List.setIfInBounds_toArray, List.set_cons_succ, List.set_cons_zero]
    rfl
  refine RH.goT ?_
  refine RH.go_end ?_
  intro d6 U w8 h6 hall
  simp +decide only [RH.tl, if_true, if_false]
  obtain ⟨ga, u, e8, ⟨B8, r8⟩, e9, e10, e11, e12⟩ := h6.p (hall 8 (by decide))
  have e10 := e10 (hall 10 (by decide))
  have e11 := e11 (hall 11 (by decide))
  have e12 := e12 (hall 12 (by decide))
  have R8 : Below w5.heap.size w5 w8 := h6.b
  rw [e10, e11, e12]
  clear e8 e9 e10 e11 e12 hall h6 KC5 LR g1mem g2mem g3mem G5 KC KP M5b
  generalize U 1 = U1
  generalize U 6 = U6
  generalize U 7 = U7
  generalize U 8 = U8
  generalize U 9 = U9
  have S8 : Hid (Sr w [Hm.W4 (w.heap.size + 1 + 1) y, Hm.W4 (w.heap.size + 1) x, Hm.W4 w.heap.size a] ga n k1 k2 k3 (e0, V, c0) (0, V1, c1) (0, x, 0) (e3, V3, c3) w8) := by
    have hlen : (Lr l a x y).length = k4 := by unfold Lr; rw [List.length_append, ← hn.out.1, hn.out.2.2.2.2.1]; rfl
    obtain ⟨e0, e1, e2, e3⟩ := hA.out
    have hh := hn.out
    refine ⟨Hm.below (Hm.sub Mw5.out (fun b hb => List.mem_cons_of_mem _ (List.mem_cons_of_mem _ (List.mem_cons_of_mem _ hb)))) R8, r8.hi, fun o ho => ?_, fun o ho => ?_, fun o ho => ?_, fun o ho => ?_⟩
    · rw [r8.c n (by omega) o ho, e0]
    · rw [r8.c k1 (by omega) o ho, e1]
    · rw [r8.c k2 (by omega) o ho, e2]
    · rw [r8.c k3 (by omega) o ho, e3]
  clear r8 R8 Mw5 hA
  obtain ⟨wn4, wn1, i1, j1, -⟩ := fxR n k1 k2 k3 k4 _ hn.out
  have x1 : w8.cell? ⟨ga, k1 * 6, none⟩ = some (.int .i64 0) := S8.out.c1 0 (by decide)
  obtain ⟨-, -, -, -, wi1, wi2, wi3, wn2, wn3, i0, j0, i2, j2, i3, j3⟩ := fxR n k1 k2 k3 k4 _ hn.out
  go_upto_region 12 with fail
  refine RS.wp_region_flat (Sr w [Hm.W4 (w.heap.size + 1 + 1) y, Hm.W4 (w.heap.size + 1) x, Hm.W4 w.heap.size a] ga n k1 k2 k3 (e0, V, c0) (0, V1, c1) (0, x, 0) (e3, V3, c3)) 27 (by kernel_rfl) (S8.out) ?_
  simp only [List.take_succ_cons, List.take_zero, List.drop_succ_cons, List.drop_zero]
  refine RS.go1 (v := ?_) (a' := ?_) rfl ?_ ?_ ?_
  rotate_left 2
  · intro K wx hS hK
    refine RW.ld rfl rfl (hS.hd.ok (Hm.W4 (w.heap.size) (a)) (by simp)).c ?_
    exact hK _ hS
  · simp only [Act.put, List.setIfInBounds_toArray, List.set_cons_succ, List.set_cons_zero]
    rfl
  refine RS.go1 (v := ?_) (a' := ?_) rfl ?_ ?_ ?_
  rotate_left 2
  · intro K wx hS hK
    refine RW.ld rfl rfl (hS.hd.ok (Hm.W4 (w.heap.size + 1 + 1) (y)) (by simp)).c ?_
    exact hK _ hS
  · simp only [Act.put, List.setIfInBounds_toArray, List.set_cons_succ, List.set_cons_zero]
    rfl
  refine RS.go1 (v := ?_) (a' := ?_) rfl ?_ ?_ ?_
  rotate_left 2
  · intro K wx hS hK
    go_simp
    refine (KC1.out wx).mono (fun e w2 he => ?_)
    refine ⟨_, he.1, ?_⟩
    exact hK _ (Sr_below hS he.2)
  · simp only [Act.put, List.setIfInBounds_toArray, List.set_cons_succ, List.set_cons_zero]
    rfl
  refine RS.go1 (v := ?_) (a' := ?_) rfl ?_ ?_ ?_
  rotate_left 2
  · intro K wx hS hK
    go_simp
    exact hK _ hS
  · simp only [Act.put, List.setIfInBounds_toArray, List.set_cons_succ, List.set_cons_zero]
    rfl
  refine RS.go1 (v := ?_) (a' := ?_) rfl ?_ ?_ ?_
  rotate_left 2
  · intro K wx hS hK
    go_simp
    exact hK _ hS
  · simp only [Act.put, List.setIfInBounds_toArray, List.set_cons_succ, List.set_cons_zero]
    rfl
  refine RS.go0 (a' := ?_) (by kernel_rfl) ?_ ?_
  rotate_left 1
  · simp only [Act.put, List.setIfInBounds_toArray, List.set_cons_succ, List.set_cons_zero]
    rfl
  refine RS.go0 (a' := ?_) (by kernel_rfl) ?_ ?_
  rotate_left 1
  · simp only [Act.put, List.setIfInBounds_toArray, List.set_cons_succ, List.set_cons_zero]
    rfl
  refine RS.go0 (a' := ?_) (by kernel_rfl) ?_ ?_
  rotate_left 1
  · simp only [Act.put, List.setIfInBounds_toArray, List.set_cons_succ, List.set_cons_zero]
    rfl
  refine RS.go0 (a' := ?_) (by kernel_rfl) ?_ ?_
  rotate_left 1
  · simp only [Act.put, List.setIfInBounds_toArray, List.set_cons_succ, List.set_cons_zero]
    rfl
  refine RS.go0 (a' := ?_) (by kernel_rfl) ?_ ?_
  rotate_left 1
  · simp only [Act.put, List.setIfInBounds_toArray, List.set_cons_succ, List.set_cons_zero]
    rfl
  refine RS.go0 (a' := ?_) (by kernel_rfl) ?_ ?_
  rotate_left 1
  · simp only [Act.put, List.setIfInBounds_toArray, List.set_cons_succ, List.set_cons_zero]
    rfl
  refine RS.go1 (v := ?_) (a' := ?_) rfl ?_ ?_ ?_
  rotate_left 2
  · intro K wx hS hK
    go_simp
    exact hK _ hS
  · simp only [Act.put, List.setIfInBounds_toArray, List.set_cons_succ, List.set_cons_zero]
    rfl
  refine RS.go1 (v := ?_) (a' := ?_) rfl ?_ ?_ ?_
  rotate_left 2
  · intro K wx hS hK
    go_simp
    exact hK _ hS
  · simp only [Act.put, List.setIfInBounds_toArray, List.set_cons_succ, List.set_cons_zero]
    rfl
  refine RS.go1g (v := ?_) (a' := ?_) (by kernel_rfl) ?_ ?_ ?_
  rotate_left 2
  · intro K wx hS hK
    refine RW.ld rfl rfl (hS.hd.ok (Hm.W4 (w.heap.size + 1 + 1) (y)) (by simp)).c ?_
    exact hK _ hS
  · simp only [Act.put, List.setIfInBounds_toArray, List.set_cons_succ, List.set_cons_zero]
    rfl
  refine RS.go1g (v := ?_) (a' := ?_) (by kernel_rfl) ?_ ?_ ?_
  rotate_left 2
  · intro K wx hS hK
    refine RW.ld rfl rfl (hS.hd.ok (Hm.W4 (w.heap.size) (a)) (by simp)).c ?_
    exact hK _ hS
  · simp only [Act.put, List.setIfInBounds_toArray, List.set_cons_succ, List.set_cons_zero]
    rfl
  refine RS.go1g (v := ?_) (a' := ?_) (by kernel_rfl) ?_ ?_ ?_
  rotate_left 2
  · intro K wx hS hK
    go_simp
    refine (KC3.out wx).mono (fun e w2 he => ?_)
    refine ⟨_, he.1, ?_⟩
    exact hK _ (Sr_below hS he.2)
  · simp only [Act.put, List.setIfInBounds_toArray, List.set_cons_succ, List.set_cons_zero]
    rfl
  refine RS.go1g (v := ?_) (a' := ?_) (by kernel_rfl) ?_ ?_ ?_
  rotate_left 2
  · intro K wx hS hK
    go_simp
    exact hK _ hS
  · simp only [Act.put, List.setIfInBounds_toArray, List.set_cons_succ, List.set_cons_zero]
    rfl
  refine RS.go1g (v := ?_) (a' := ?_) (by kernel_rfl) ?_ ?_ ?_
  rotate_left 2
  · intro K wx hS hK
    go_simp
    exact hK _ hS
  · simp only [Act.put, List.setIfInBounds_toArray, List.set_cons_succ, List.set_cons_zero]
    rfl
  refine RS.go0 (a' := ?_) (by kernel_rfl) ?_ ?_
  rotate_left 1
  · simp only [Act.put, List.setIfInBounds_toArray, List.set_cons_succ, List.set_cons_zero]
    rfl
  refine RS.go0 (a' := ?_) (by kernel_rfl) ?_ ?_
  rotate_left 1
  · simp only [Act.put, List.setIfInBounds_toArray, List.set_cons_succ, List.set_cons_zero]
    rfl
  refine RS.go0 (a' := ?_) (by kernel_rfl) ?_ ?_
  rotate_left 1
  · simp only [Act.put, List.setIfInBounds_toArray, List.set_cons_succ, List.set_cons_zero]
    rfl
  refine RS.go0 (a' := ?_) (by kernel_rfl) ?_ ?_
  rotate_left 1
  · simp only [Act.put, List.setIfInBounds_toArray, List.set_cons_succ, List.set_cons_zero]
    rfl
  refine RS.go0 (a' := ?_) (by kernel_rfl) ?_ ?_
  rotate_left 1
  · simp only [Act.put, List.setIfInBounds_toArray, List.set_cons_succ, List.set_cons_zero]
    rfl
  refine RS.go0 (a' := ?_) (by kernel_rfl) ?_ ?_
  rotate_left 1
  · simp only [Act.put, List.setIfInBounds_toArray, List.set_cons_succ, List.set_cons_zero]
    rfl
  refine RS.go1g (v := ?_) (a' := ?_) (by kernel_rfl) ?_ ?_ ?_
  rotate_left 2
  · intro K wx hS hK
    go_simp
    exact hK _ hS
  · simp only [Act.put, List.setIfInBounds_toArray, List.set_cons_succ, List.set_cons_zero]
    rfl
  refine RS.go1 (v := ?_) (a' := ?_) rfl ?_ ?_ ?_
  rotate_left 2
  · intro K wx hS hK
    go_simp
    exact hK _ hS
  · simp only [Act.put, List.setIfInBounds_toArray, List.set_cons_succ, List.set_cons_zero]
    rfl
  refine RS.go1 (v := ?_) (a' := ?_) rfl ?_ ?_ ?_
  rotate_left 2
  · intro K wx hS hK
    go_simp
    exact hK _ hS
  · simp only [Act.put, List.setIfInBounds_toArray, List.set_cons_succ, List.set_cons_zero]
    rfl
  refine RS.go_end ?_
  intro w10 h10
  have S10 : Hid _ := h10
  clear h10 S8
  generalize Wd a = Jb
  generalize Wd y = Jc
  go_upto_region 13 with fail
  refine RS.wp_region_one (Sr w [Hm.W4 (w.heap.size + 1 + 1) y, Hm.W4 (w.heap.size + 1) x, Hm.W4 w.heap.size a] ga n k1 k2 k3 (e0, V, c0) (0, V1, c1) (0, x, 0) (e3, V3, c3)) (by kernel_rfl) (by kernel_rfl) (Sr_below S10.out (Below.refl _ _).drew) ?_
  dsimp only [List.toList_toArray]
  refine RS.go1 (v := ?_) (a' := ?_) rfl ?_ ?_ ?_
  rotate_left 2
  · intro K wx hS hK
    go_simp
    exact hK _ hS
  · simp only [Act.put, List.setIfInBounds_toArray, List.set_cons_succ, List.set_cons_zero]
    rfl
  refine RS.go1 (v := ?_) (a' := ?_) rfl ?_ ?_ ?_
  rotate_left 2
  · intro K wx hS hK
    go_simp
    exact hK _ hS
  · simp only [Act.put, List.setIfInBounds_toArray, List.set_cons_succ, List.set_cons_zero]
    rfl
  refine RS.go1 (v := ?_) (a' := ?_) rfl ?_ ?_ ?_
  rotate_left 2
  · intro K wx hS hK
    go_simp
    exact hK _ hS
  · simp only [Act.put, List.setIfInBounds_toArray, List.set_cons_succ, List.set_cons_zero]
    rfl
  refine RS.go1 (v := ?_) (a' := ?_) rfl ?_ ?_ ?_
  rotate_left 2
  · intro K wx hS hK
    go_simp
    exact hK _ hS
  · simp only [Act.put, List.setIfInBounds_toArray, List.set_cons_succ, List.set_cons_zero]
    rfl
  refine RS.go1 (v := ?_) (a' := ?_) rfl ?_ ?_ ?_
  rotate_left 2
  · intro K wx hS hK
    refine ldA (x := (0, x, 0)) (b := k2 * 6) rfl rfl hS.c2 ?_
    exact hK _ hS
  · simp only [Act.put, List.setIfInBounds_toArray, List.set_cons_succ, List.set_cons_zero]
    rfl
  refine RS.go1 (v := ?_) (a' := ?_) rfl ?_ ?_ ?_
  rotate_left 2
  · intro K wx hS hK
    refine RW.ld rfl rfl (hS.hd.ok (Hm.W4 (w.heap.size + 1) (x)) (by simp)).c ?_
    exact hK _ hS
  · simp only [Act.put, List.setIfInBounds_toArray, List.set_cons_succ, List.set_cons_zero]
    rfl
  refine RS.go1 (v := ?_) (a' := ?_) rfl ?_ ?_ ?_
  rotate_left 2
  · intro K wx hS hK
    unfold Wd
    go_simp
    exact hK _ hS
  · simp only [Act.put, List.setIfInBounds_toArray, List.set_cons_succ, List.set_cons_zero]
    rfl
  refine RS.go1 (v := ?_) (a' := ?_) rfl ?_ ?_ ?_
  rotate_left 2
  · intro K wx hS hK
    refine eqAo (x := (0, x, 0)) (y := (0, x, 0)) (b := true) rfl rfl rfl (by simp [sa]) ?_
    exact hK _ hS
  · simp only [Act.put, List.setIfInBounds_toArray, List.set_cons_succ, List.set_cons_zero]
    rfl
  refine RS.go1 (v := ?_) (a' := ?_) rfl ?_ ?_ ?_
  rotate_left 2
  · intro K wx hS hK
    go_simp
    exact hK _ hS
  · simp only [Act.put, List.setIfInBounds_toArray, List.set_cons_succ, List.set_cons_zero]
    rfl
  refine RS.go1g (v := ?_) (a' := ?_) (by kernel_rfl) ?_ ?_ ?_
  rotate_left 2
  · intro K wx hS hK
    go_simp
    exact hK _ hS
  · simp only [Act.put, List.setIfInBounds_toArray, List.set_cons_succ, List.set_cons_zero]
    rfl
  refine RS.go1g (v := ?_) (a' := ?_) (by kernel_rfl) ?_ ?_ ?_
  rotate_left 2
  · intro K wx hS hK
    go_simp
    exact hK _ hS
  · simp only [Act.put, List.setIfInBounds_toArray, List.set_cons_succ, List.set_cons_zero]
    rfl
  refine RS.go1g (v := ?_) (a' := ?_) (by kernel_rfl) ?_ ?_ ?_
  rotate_left 2
  · intro K wx hS hK
    go_simp
    exact hK _ hS
  · simp only [Act.put, List.setIfInBounds_toArray, List.set_cons_succ, List.set_cons_zero]
    rfl
  refine RS.go0 (a' := ?_) (by kernel_rfl) ?_ ?_
  rotate_left 1
  · simp only [Act.put, List.setIfInBounds_toArray, List.set_cons_succ, List.set_cons_zero]
    rfl
  refine RS.go0 (a' := ?_) (by kernel_rfl) ?_ ?_
  rotate_left 1
  · simp only [Act.put, List.setIfInBounds_toArray, List.set_cons_succ, List.set_cons_zero]
    rfl
  refine RS.go0 (a' := ?_) (by kernel_rfl) ?_ ?_
  rotate_left 1
  · simp only [Act.put, List.setIfInBounds_toArray, List.set_cons_succ, List.set_cons_zero]
    rfl
  refine RS.go0 (a' := ?_) (by kernel_rfl) ?_ ?_
  rotate_left 1
  · simp only [Act.put, List.setIfInBounds_toArray, List.set_cons_succ, List.set_cons_zero]
    rfl
  refine RS.go0 (a' := ?_) (by kernel_rfl) ?_ ?_
  rotate_left 1
  · simp only [Act.put, List.setIfInBounds_toArray, List.set_cons_succ, List.set_cons_zero]
    rfl
  refine RS.go0 (a' := ?_) (by kernel_rfl) ?_ ?_
  rotate_left 1
  · simp only [Act.put, List.setIfInBounds_toArray, List.set_cons_succ, List.set_cons_zero]
    rfl
  refine RS.go0 (a' := ?_) (by kernel_rfl) ?_ ?_
  rotate_left 1
  · simp only [Act.put, List.setIfInBounds_toArray, List.set_cons_succ, List.set_cons_zero]
    rfl
  refine RS.go0 (a' := ?_) (by kernel_rfl) ?_ ?_
  rotate_left 1
  · simp only [Act.put, List.setIfInBounds_toArray, List.set_cons_succ, List.set_cons_zero]
    rfl
  refine RS.go0 (a' := ?_) (by kernel_rfl) ?_ ?_
  rotate_left 1
  · simp only [Act.put, List.setIfInBounds_toArray, List.set_cons_succ, List.set_cons_zero]
    rfl
  refine RS.go0 (a' := ?_) (by kernel_rfl) ?_ ?_
  rotate_left 1
  · simp only [Act.put, List.setIfInBounds_toArray, List.set_cons_succ, List.set_cons_zero]
    rfl
  refine RS.go0 (a' := ?_) (by kernel_rfl) ?_ ?_
  rotate_left 1
  · simp only [Act.put, List.setIfInBounds_toArray, List.set_cons_succ, List.set_cons_zero]
    rfl
  refine RS.go0 (a' := ?_) (by kernel_rfl) ?_ ?_
  rotate_left 1
  · simp only [Act.put, List.setIfInBounds_toArray, List.set_cons_succ, List.set_cons_zero]
    rfl
  refine RS.go1g (v := ?_) (a' := ?_) (by kernel_rfl) ?_ ?_ ?_
  rotate_left 2
  · intro K wx hS hK
    go_simp
    exact hK _ hS
  · simp only [Act.put, List.setIfInBounds_toArray, List.set_cons_succ, List.set_cons_zero]
    rfl
  refine RS.go1 (v := ?_) (a' := ?_) rfl ?_ ?_ ?_
  rotate_left 2
  · intro K wx hS hK
    go_simp
    exact hK _ hS
  · simp only [Act.put, List.setIfInBounds_toArray, List.set_cons_succ, List.set_cons_zero]
    rfl
  refine RS.go1 (v := ?_) (a' := ?_) rfl ?_ ?_ ?_
  rotate_left 2
  · intro K wx hS hK
    go_simp
    exact hK _ hS
  · simp only [Act.put, List.setIfInBounds_toArray, List.set_cons_succ, List.set_cons_zero]
    rfl
  refine RS.go_end ?_
  intro w9 h9
  have H9 : Hid (Below w.heap.size w w9) := h9.hd.bel
  clear h9
  go_wp2
  go_ret
  exact ⟨rfl, H9.out⟩
end Mm
end Go.Proofs.Ytcpgcdffienobaa
/- lampbearerkeep.MemoryRead, at every argument. -/
namespace Go.Proofs.Ytcpgcdffienobaa
namespace Mm
open Go.RowKit Pk
theorem etaA (z : An) : z = (z.1, z.2.1, z.2.2) := rfl
theorem eta1 {z : An} {k : Int} (h : z.1 = k) : z = (k, z.2.1, z.2.2) := by subst h; rfl
theorem eta3 {z : An} {V : Nat} (h : z.2.1 = V) : z = (z.1, V, z.2.2) := by subst h; rfl
theorem sub_le (a y : Nat) (hy : y < 2 ^ 256) (h : y ≤ a) (W : World) : Calls Try.prog 17 #[Wd a, Wd y] W fun e w' => e = .returned (Wd (a - y)) ∧ Below W.heap.size W w' := by
  have k := sub_any a y hy W
  rw [← Wd_mod (a + 2 ^ 256 - y), show (a + 2 ^ 256 - y) = (a - y) + 2 ^ 256 by omega, Nat.add_mod_right, Wd_mod] at k
  exact k
theorem law_read (l : List Mo) (hl : ∀ j, j < l.length → Wf (l.getD j no)) (hz : l.length + 4 ≤ 1048576) (v : Value) (a x y : Nat) (ha : a < 2 ^ 256) (hx : x < 2 ^ 256) (hy : y < 2 ^ 256) (w : World) (hm : Mr (· < w.heap.size) l v w) :
    Calls Try.prog 4 #[v, Wd a, Wd x, Wd y] w fun e w' => e = .returned (.bool true) ∧ Below w.heap.size w w' := by
  obtain ⟨xs, e1, e2, e3⟩ := Mr_VO hm
  have hm2 := hm
  obtain ⟨ds, ao, cap, _, rfl, _, _⟩ := hm2
  have hn : Hid (l.length = l.length ∧ l.length + 1 = l.length + 1 ∧ l.length + 2 = l.length + 2 ∧ l.length + 3 = l.length + 3 ∧ l.length + 4 = l.length + 4 ∧ l.length + 4 ≤ 1048576) := ⟨rfl, rfl, rfl, rfl, rfl, hz⟩
  have hw : Hid (a < 2 ^ 256 ∧ x < 2 ^ 256 ∧ y < 2 ^ 256) := ⟨ha, hx, hy⟩
  by_cases h : a + 32 ≤ 4096
  · obtain ⟨p1, p2, p3⟩ := read_in l a x y hx h
    have KC1 : Hid (∀ W : World, Calls Try.prog 16 #[Wd a, Wd y] W fun e w' => e = .returned (.int .i64 (cm (a : Int) (y : Int))) ∧ Below W.heap.size W w') := fun W => cmp_any a y ha hy W
    have KC3 : Hid (∀ W : World, Calls Try.prog 16 #[Wd y, Wd a] W fun e w' => e = .returned (.int .i64 (cm (y : Int) (a : Int))) ∧ Below W.heap.size W w') := fun W => cmp_any y a hy ha W
    have KI : Hid (∀ W : World, Calls Try.prog 18 #[.int .u64 32] W fun e w' => e = .returned (Wd 32) ∧ Below W.heap.size W w') := fun W => int_any 32 (by omega) W
    have q1 : an (Lr l a x y) (l.length + 1) = (0, (an (Lr l a x y) (l.length + 1)).2.1, (an (Lr l a x y) (l.length + 1)).2.2) := eta1 p1
    rcases Nat.lt_trichotomy y a with hc | hc | hc
    · have KS1 : Hid (∀ W : World, Calls Try.prog 17 #[Wd a, Wd y] W fun e w' => e = .returned (Wd (a - y)) ∧ Below W.heap.size W w') := fun W => sub_le a y hy (by omega) W
      have KC2 : Hid (∀ W : World, Calls Try.prog 16 #[Wd (a - y), Wd 32] W fun e w' => e = .returned (.int .i64 (cm ((a - y : Nat) : Int) ((32 : Nat) : Int))) ∧ Below W.heap.size W w') := fun W => cmp_any (a - y) 32 (by omega) (by omega) W
      have t1 : (0 : Int) < cm (a : Int) (y : Int) := by unfold cm; rw [if_neg (by omega), if_pos (by omega)]; decide
      by_cases hd : 32 ≤ a - y
      · have t2 : (0 : Int) ≤ cm ((a - y : Nat) : Int) ((32 : Nat) : Int) := by unfold cm; rw [if_neg (by omega)]; split <;> decide
        exact read_1a l xs l.length _ _ _ _ a x y e1 (wf_mem hl) hn hw _ _ _ _ (an (Lr l a x y) (l.length + 3)).2.2 _ _ _ _ _ KC1 KS1 KI KC2 t1 t2 ⟨etaA _, q1, p2, eta3 (p3 (.inl (by omega)))⟩ ao cap w ⟨e2, e3⟩
      · have t2 : decide ((0 : Int) ≤ cm ((a - y : Nat) : Int) ((32 : Nat) : Int)) = false := by unfold cm; rw [if_pos (by omega)]; decide
        have t3 : decide ((0 : Int) < cm (y : Int) (a : Int)) = false := by unfold cm; rw [if_pos (by omega)]; decide
        exact read_1b l xs l.length _ _ _ _ a x y e1 (wf_mem hl) hn hw _ _ _ _ _ _ _ _ _ _ _ _ KC1 KS1 KI KC2 KC3 t1 t2 t3 ⟨etaA _, q1, p2, etaA _⟩ ao cap w ⟨e2, e3⟩
    · have t1 : decide ((0 : Int) < cm (a : Int) (y : Int)) = false := by unfold cm; rw [if_neg (by omega), if_neg (by omega)]; decide
      have t3 : decide ((0 : Int) < cm (y : Int) (a : Int)) = false := by unfold cm; rw [if_neg (by omega), if_neg (by omega)]; decide
      exact read_2c l xs l.length _ _ _ _ a x y e1 (wf_mem hl) hn hw _ _ _ _ _ _ _ _ _ _ KC1 KC3 t1 t3 ⟨etaA _, q1, p2, etaA _⟩ ao cap w ⟨e2, e3⟩
    · have KS3 : Hid (∀ W : World, Calls Try.prog 17 #[Wd y, Wd a] W fun e w' => e = .returned (Wd (y - a)) ∧ Below W.heap.size W w') := fun W => sub_le y a ha (by omega) W
      have KC2 : Hid (∀ W : World, Calls Try.prog 16 #[Wd (y - a), Wd 32] W fun e w' => e = .returned (.int .i64 (cm ((y - a : Nat) : Int) ((32 : Nat) : Int))) ∧ Below W.heap.size W w') := fun W => cmp_any (y - a) 32 (by omega) (by omega) W
      have t1 : decide ((0 : Int) < cm (a : Int) (y : Int)) = false := by unfold cm; rw [if_pos (by omega)]; decide
      have t3 : (0 : Int) < cm (y : Int) (a : Int) := by unfold cm; rw [if_neg (by omega), if_pos (by omega)]; decide
      by_cases hd : 32 ≤ y - a
      · have t2 : (0 : Int) ≤ cm ((y - a : Nat) : Int) ((32 : Nat) : Int) := by unfold cm; rw [if_neg (by omega)]; split <;> decide
        exact read_2a l xs l.length _ _ _ _ a x y e1 (wf_mem hl) hn hw _ _ _ _ (an (Lr l a x y) (l.length + 3)).2.2 _ _ _ _ _ _ KC1 KC3 KS3 KI KC2 t1 t3 t2 ⟨etaA _, q1, p2, eta3 (p3 (.inr (by omega)))⟩ ao cap w ⟨e2, e3⟩
      · have t2 : decide ((0 : Int) ≤ cm ((y - a : Nat) : Int) ((32 : Nat) : Int)) = false := by unfold cm; rw [if_pos (by omega)]; decide
        exact read_2b l xs l.length _ _ _ _ a x y e1 (wf_mem hl) hn hw _ _ _ _ _ _ _ _ _ _ _ _ KC1 KC3 KS3 KI KC2 t1 t3 t2 ⟨etaA _, q1, p2, etaA _⟩ ao cap w ⟨e2, e3⟩
  · obtain ⟨p1, p2⟩ := read_far l a x y h
    exact read_e l xs l.length _ _ _ _ a x y e1 (wf_mem hl) hn hw _ _ _ _ _ _ (an (Lr l a x y) (l.length + 3)).2.2 _ _ _ ⟨etaA _, eta1 p1, etaA _, eta3 p2⟩ ao cap w ⟨e2, e3⟩
end Mm
end Go.Proofs.Ytcpgcdffienobaa
