import Derived.Test.YtlbdaccmnpcccaaPackI
import Derived.Test.YtlbdaccmnpcccaaPackC
import Derived.Test.YtlbdaccmnpcccaaPackA
namespace Go.Proofs.Ytlbdaccmnpcccaa
namespace Pf
open Rs Go.RowKit Sp
set_option maxHeartbeats 2000000 in
set_option maxRecDepth 100000 in
theorem sd_end1much (F : Nat → Int) (left : Bs) (first : Bool) (cc : Nat) (w : World) (m gp off : Nat) (hm : Hid (0 < m)) (c : Bs) (r : List Bs) (bo : Option Addr) (bc : Nat) (HP : Hid (w.cell? ⟨gp, off, none⟩ = some (.slice bo c.length bc) ∧ gp < w.heap.size)) (KS0 : Hid (∀ wx, Below w.heap.size w wx → Calls Try.prog 15 #[.slice bo c.length bc] wx fun e w' => e = .returned (Hv (sumf c)) ∧ Below wx.heap.size wx w')) (HQ : Hid (same 32 (sumf c) F = true)) (s : Shp) (z : Int) (KR : Hid (∀ wx, Below w.heap.size w wx → Calls Try.prog 16 #[.slice bo c.length bc] wx (PR wx s z))) (hz : Hid (z = 0)) (hf : Hid (first = true)) (HW : Hid (wk s left = none)) (hm1 : Hid (1 < m)) (HS : Hid (sd (c :: r) first F left = ([], 6))) :
  Calls Try.prog 10 #[Hv F, .string (Tr.st left), .slice (some ⟨gp, off, none⟩) m cc, .bool first] w (SDP (c :: r) first F left w) := by
 obtain rfl := hf.out; have t0 : ((m : Int) == 0) = false := by rw [beq_eq_false_iff_ne]; have := hm.out; omega
 have t1 : ¬ m = 0 := by have := hm.out; omega
 have L1 : Hid ((0 : Int) < (m : Int)) := by have := hm.out; show _ < _; omega
 go_enter Try.func10, Try.ntmps10
 go_upto_region 1 with fail
 dsimp only [Hv]; have k0 := box_ck F w 23; have b0 : Below w.heap.size w (w.alloc (.cells (h32 F).toArray 23)) := (Below.refl _ _).alloc (Nat.le_refl _) _; have z0 : w.heap.size < (w.alloc (.cells (h32 F).toArray 23)).heap.size := by simp
 generalize w.alloc (.cells (h32 F).toArray 23) = W0 at k0 b0 z0 ⊢; generalize (h32 F).toArray = hF; have LB : Hid (Below w.heap.size w W0) := b0; obtain ⟨h, eh⟩ : ∃ h, h = w.heap.size := ⟨_, rfl⟩; rw [← eh] at k0 z0 ⊢; have CH : Hid (Sp.CK .u8 h 32 F W0 ∧ h < W0.heap.size) := ⟨k0, z0⟩; clear k0 b0 z0 eh; have CC : Hid (W0.cell? ⟨gp, off, none⟩ = some (.slice bo c.length bc) ∧ gp < W0.heap.size) := ⟨(LB.out.cell (p := ⟨gp, off, none⟩) HP.out.2).trans HP.out.1, Nat.lt_of_lt_of_le HP.out.2 LB.out.size⟩; have KS : Hid (∀ wx, Below W0.heap.size W0 wx → Calls Try.prog 15 #[.slice bo c.length bc] wx fun e w' => e = .returned (Hv (sumf c)) ∧ Below wx.heap.size wx w') := fun wx hb => KS0.out wx (LB.out.trans (hb.mono LB.out.size))
 go_upto_region 3 with fail
 refine RS.wp_region_one (fun wx => Below W0.heap.size W0 wx) (by kernel_rfl) (by kernel_rfl) ((Below.refl _ _).drew) ?_
 dsimp only [List.toList_toArray]; refine RS.go1 (v := ?_) (a' := ?_) rfl ?_ ?_ ?_; rotate_left 2
 ·intro K wx hS hK; go_simp; exact hK _ hS
 ·simp only [Act.put, zA, zB, zC]; rfl
 refine RS.go1 (v := ?_) (a' := ?_) rfl ?_ ?_ ?_; rotate_left 2
 ·intro K wx hS hK; have d1 := L1.out; have d2 := hm.out; go_simp; exact hK _ hS
 ·simp only [Act.put, zA, zB, zC]; rfl
 refine RS.go1 (v := ?_) (a' := ?_) rfl ?_ ?_ ?_; rotate_left 2
 ·intro K wx hS hK; have z2 := (hS.cell (p := ⟨gp, off, none⟩) CC.out.2).trans CC.out.1; go_simp; exact hK _ hS
 ·simp only [Act.put, zA, zB, zC]; rfl
 refine RS.go1 (v := ?_) (a' := ?_) rfl ?_ ?_ ?_; rotate_left 2
 ·intro K wx hS hK; go_simp; refine (KS.out wx hS).mono (fun e w2 he => ?_)
  refine ⟨_, he.1, ?_⟩; exact hK _ (RSb hS he.2)
 ·simp only [Act.put, zA, zB, zC]; rfl
 refine RS.go1 (v := ?_) (a' := ?_) rfl ?_ ?_ ?_; rotate_left 2
 ·intro K wx hS hK; refine Hh.ld rfl rfl (Sp.CK_below CH.out.1 hS CH.out.2) ?_; exact hK _ hS
 ·simp only [Act.put, zA, zB, zC]; rfl
 refine RS.go1 (v := ?_) (a' := ?_) rfl ?_ ?_ ?_; rotate_left 2
 ·intro K wx hS hK; refine Hh.neq (b := false) rfl rfl rfl (by rw [HQ.out]; rfl) ?_
  exact hK _ hS
 ·simp only [Act.put, zA, zB, zC]; rfl
 refine RS.go_end ?_; intro w3 m3; have LB3 : Hid (Below w.heap.size w w3) := LB.out.trans (m3.mono LB.out.size); have y0 := (m3.cell (p := ⟨gp, off, none⟩) CC.out.2).trans CC.out.1; have y1 := L1.out; have y2 := hm.out; clear m3 KS CH; go_wp2_with fail
 refine (KR.out _ LB3.out).mono ?_; rintro e w4 ⟨v, rfl, sh, b4, ⟨k, f1, f2, f3, f4, f5, f6, f7, f8, f9, rfl⟩⟩; have LB4 := LB3.out.trans (b4.mono LB3.out.size); have bB : Below w4.heap.size w4 (w4.alloc (.cells #[.int .i64 k, .slice f1 f2 f3, .slice f4 f5 f6, .slice f7 f8 f9] 34)) := (Below.refl _ _).alloc (Nat.le_refl _) _; have HB := heap_alloc_new w4 (.cells #[.int .i64 k, .slice f1 f2 f3, .slice f4 f5 f6, .slice f7 f8 f9] 34); have s0 : (w4.alloc (.cells #[.int .i64 k, .slice f1 f2 f3, .slice f4 f5 f6, .slice f7 f8 f9] 34)).cell? ⟨w4.heap.size, 0, none⟩ = some (.int .i64 k) := by simp only [World.cell?, HB]; rfl
 have s1 : (w4.alloc (.cells #[.int .i64 k, .slice f1 f2 f3, .slice f4 f5 f6, .slice f7 f8 f9] 34)).cell? ⟨w4.heap.size, 1, none⟩ = some (.slice f1 f2 f3) := by simp only [World.cell?, HB]; rfl
 have s2 : (w4.alloc (.cells #[.int .i64 k, .slice f1 f2 f3, .slice f4 f5 f6, .slice f7 f8 f9] 34)).cell? ⟨w4.heap.size, 2, none⟩ = some (.slice f4 f5 f6) := by simp only [World.cell?, HB]; rfl
 have s3 : (w4.alloc (.cells #[.int .i64 k, .slice f1 f2 f3, .slice f4 f5 f6, .slice f7 f8 f9] 34)).cell? ⟨w4.heap.size, 3, none⟩ = some (.slice f7 f8 f9) := by simp only [World.cell?, HB]; rfl
 have g7h : w4.heap.size < (w4.alloc (.cells #[.int .i64 k, .slice f1 f2 f3, .slice f4 f5 f6, .slice f7 f8 f9] 34)).heap.size := by simp
 have LB5 : Hid (Below w.heap.size w (w4.alloc (.cells #[.int .i64 k, .slice f1 f2 f3, .slice f4 f5 f6, .slice f7 f8 f9] 34))) := LB4.trans (bB.mono LB4.size); have H5 : Hid (Sh s (.int .i64 k, .slice f1 f2 f3, .slice f4 f5 f6, .slice f7 f8 f9) (w4.alloc (.cells #[.int .i64 k, .slice f1 f2 f3, .slice f4 f5 f6, .slice f7 f8 f9] 34))) := Sh_below sh bB; have ek : Hid (k = s.1) := by have := sh.1; injection this
 clear sh b4 LB4 bB HB LB3 KR y0; dsimp only [v4]; go_upto_region 6 with fail
 generalize w4.alloc (.cells #[.int .i64 k, .slice f1 f2 f3, .slice f4 f5 f6, .slice f7 f8 f9] 34) = W5 at s0 s1 s2 s3 LB5 H5 g7h ⊢; generalize w4.heap.size = g7 at s0 s1 s2 s3 g7h ⊢; obtain rfl : z = 0 := hz.out; refine RS.wp_region_flat (fun wx => Below W5.heap.size W5 wx) 11 (by kernel_rfl) (Below.refl _ _) ?_
 simp only [List.take_succ_cons, List.take_zero, List.drop_succ_cons, List.drop_zero]
 iterate 3
  refine RS.go1 (v := ?_) (a' := ?_) rfl ?_ ?_ ?_; rotate_left 2
  ·intro K wx hS hK; go_simp; exact hK _ hS
  ·simp only [Act.put, zA, zB, zC]; rfl
 iterate 3
  refine RS.go1g (v := ?_) (a' := ?_) (by kernel_rfl) ?_ ?_ ?_; rotate_left 2
  ·intro K wx hS hK; go_simp; exact hK _ hS
  ·simp only [Act.put, zA, zB, zC]; rfl
 iterate 3
  refine RS.go0 (a' := ?_) (by kernel_rfl) ?_ ?_; rotate_left 1
  ·simp only [Act.put, zA, zB, zC]; rfl
 refine RS.go1g (v := ?_) (a' := ?_) (by kernel_rfl) ?_ ?_ ?_; rotate_left 2
 ·intro K wx hS hK; go_simp; exact hK _ hS
 ·simp only [Act.put, zA, zB, zC]; rfl
 refine RS.go1 (v := ?_) (a' := ?_) rfl ?_ ?_ ?_; rotate_left 2
 ·intro K wx hS hK; go_simp; exact hK _ hS
 ·simp only [Act.put, zA, zB, zC]; rfl
 refine RS.go_end ?_; intro w6 m6; have v0 := (m6.cell (p := ⟨g7, 0, none⟩) g7h).trans s0; have v1 := (m6.cell (p := ⟨g7, 1, none⟩) g7h).trans s1; have v2 := (m6.cell (p := ⟨g7, 2, none⟩) g7h).trans s2; have v3 := (m6.cell (p := ⟨g7, 3, none⟩) g7h).trans s3; have g6h := Nat.lt_of_lt_of_le g7h m6.size; have LB6 : Hid (Below w.heap.size w w6) := LB5.out.trans (m6.mono LB5.out.size); have H6 : Hid (Sh s (.int .i64 k, .slice f1 f2 f3, .slice f4 f5 f6, .slice f7 f8 f9) w6) := Sh_below H5.out m6; have KY : Hid (Calls Try.prog 17 #[.int .i64 k, .slice f1 f2 f3, .string (Tr.st left)] w6 (WA s left w6)) := by
  have := way_any s left f1 f2 f3 w6 H6.out.2.1; rwa [← ek.out] at this
 clear m6 s0 s1 s2 s3 LB5 H5 g7h; go_wp2_with fail
 refine KY.out.mono ?_; rintro e w7 ⟨j, rest, b, rfl, b7, hw⟩; have q0 := (b7.cell (p := ⟨g7, 0, none⟩) g6h).trans v0; have q2 := (b7.cell (p := ⟨g7, 2, none⟩) g6h).trans v2; have q3 := (b7.cell (p := ⟨g7, 3, none⟩) g6h).trans v3; have g7h := Nat.lt_of_lt_of_le g6h b7.size; have LB7 : Hid (Below w.heap.size w w7) := LB6.out.trans (b7.mono LB6.out.size); have H7 : Hid (Sh s (.int .i64 k, .slice f1 f2 f3, .slice f4 f5 f6, .slice f7 f8 f9) w7) := Sh_below H6.out b7; clear b7 v0 v1 v2 v3 g6h LB6 H6 KY; rw [HW.out] at hw; obtain ⟨rfl, rfl⟩ := hw; go_upto_region 9 with fail
 refine RS.wp_region_flat (fun wx => Below w7.heap.size w7 wx) 11 (by kernel_rfl) (Below.refl _ _) ?_
 simp only [List.take_succ_cons, List.take_zero, List.drop_succ_cons, List.drop_zero]
 iterate 3
  refine RS.go1 (v := ?_) (a' := ?_) rfl ?_ ?_ ?_; rotate_left 2
  ·intro K wx hS hK; go_simp; exact hK _ hS
  ·simp only [Act.put, zA, zB, zC]; rfl
 iterate 7
  refine RS.go0 (a' := ?_) (by kernel_rfl) ?_ ?_; rotate_left 1
  ·simp only [Act.put, zA, zB, zC]; rfl
 refine RS.go1 (v := ?_) (a' := ?_) rfl ?_ ?_ ?_; rotate_left 2
 ·intro K wx hS hK; go_simp; exact hK _ hS
 ·simp only [Act.put, zA, zB, zC]; rfl
 refine RS.go_end ?_; intro w8 m8; have u2 := (m8.cell (p := ⟨g7, 2, none⟩) g7h).trans q2; have LB8 : Hid (Below w.heap.size w w8) := LB7.out.trans (m8.mono LB7.out.size); have H8 : Hid (Sh s (.int .i64 k, .slice f1 f2 f3, .slice f4 f5 f6, .slice f7 f8 f9) w8) := Sh_below H7.out m8; clear m8 q0 q2 q3 LB7 H7 g7h; have d9 : (1 : Int) < (m : Int) := by have := hm1.out; omega
 have d8 : 1 < m := hm1.out; have HR : Hid (SDP (c :: r) true F left w (.returned (.tuple #[.slice none 0 0, .int .i64 6])) w8) := sdp_bad HS.out LB8.out; clear LB8 H8 u2; generalize here s left = hb at *; go_wp2_with fail
 go_ret2
 exact HR.out
set_option maxHeartbeats 2000000 in
set_option maxRecDepth 100000 in
theorem sd_end1yes (F : Nat → Int) (left : Bs) (first : Bool) (cc : Nat) (w : World) (m gp off : Nat) (hm : Hid (0 < m)) (c : Bs) (r : List Bs) (bo : Option Addr) (bc : Nat) (HP : Hid (w.cell? ⟨gp, off, none⟩ = some (.slice bo c.length bc) ∧ gp < w.heap.size)) (KS0 : Hid (∀ wx, Below w.heap.size w wx → Calls Try.prog 15 #[.slice bo c.length bc] wx fun e w' => e = .returned (Hv (sumf c)) ∧ Below wx.heap.size wx w')) (HQ : Hid (same 32 (sumf c) F = true)) (s : Shp) (z : Int) (KR : Hid (∀ wx, Below w.heap.size w wx → Calls Try.prog 16 #[.slice bo c.length bc] wx (PR wx s z))) (hz : Hid (z = 0)) (hf : Hid (first = true)) (HW : Hid (wk s left = none)) (hm1 : Hid (m = 1)) (hh : Hid (here s left = true)) (HS : Hid (sd (c :: r) first F left = (s.2.2.1, 0))) :
  Calls Try.prog 10 #[Hv F, .string (Tr.st left), .slice (some ⟨gp, off, none⟩) m cc, .bool first] w (SDP (c :: r) first F left w) := by
 obtain rfl := hf.out; have t0 : ((m : Int) == 0) = false := by rw [beq_eq_false_iff_ne]; have := hm.out; omega
 have t1 : ¬ m = 0 := by have := hm.out; omega
 have L1 : Hid ((0 : Int) < (m : Int)) := by have := hm.out; show _ < _; omega
 go_enter Try.func10, Try.ntmps10
 go_upto_region 1 with fail
 dsimp only [Hv]; have k0 := box_ck F w 23; have b0 : Below w.heap.size w (w.alloc (.cells (h32 F).toArray 23)) := (Below.refl _ _).alloc (Nat.le_refl _) _; have z0 : w.heap.size < (w.alloc (.cells (h32 F).toArray 23)).heap.size := by simp
 generalize w.alloc (.cells (h32 F).toArray 23) = W0 at k0 b0 z0 ⊢; generalize (h32 F).toArray = hF; have LB : Hid (Below w.heap.size w W0) := b0; obtain ⟨h, eh⟩ : ∃ h, h = w.heap.size := ⟨_, rfl⟩; rw [← eh] at k0 z0 ⊢; have CH : Hid (Sp.CK .u8 h 32 F W0 ∧ h < W0.heap.size) := ⟨k0, z0⟩; clear k0 b0 z0 eh; have CC : Hid (W0.cell? ⟨gp, off, none⟩ = some (.slice bo c.length bc) ∧ gp < W0.heap.size) := ⟨(LB.out.cell (p := ⟨gp, off, none⟩) HP.out.2).trans HP.out.1, Nat.lt_of_lt_of_le HP.out.2 LB.out.size⟩; have KS : Hid (∀ wx, Below W0.heap.size W0 wx → Calls Try.prog 15 #[.slice bo c.length bc] wx fun e w' => e = .returned (Hv (sumf c)) ∧ Below wx.heap.size wx w') := fun wx hb => KS0.out wx (LB.out.trans (hb.mono LB.out.size))
 go_upto_region 3 with fail
 refine RS.wp_region_one (fun wx => Below W0.heap.size W0 wx) (by kernel_rfl) (by kernel_rfl) ((Below.refl _ _).drew) ?_
 dsimp only [List.toList_toArray]; refine RS.go1 (v := ?_) (a' := ?_) rfl ?_ ?_ ?_; rotate_left 2
 ·intro K wx hS hK; go_simp; exact hK _ hS
 ·simp only [Act.put, zA, zB, zC]; rfl
 refine RS.go1 (v := ?_) (a' := ?_) rfl ?_ ?_ ?_; rotate_left 2
 ·intro K wx hS hK; have d1 := L1.out; have d2 := hm.out; go_simp; exact hK _ hS
 ·simp only [Act.put, zA, zB, zC]; rfl
 refine RS.go1 (v := ?_) (a' := ?_) rfl ?_ ?_ ?_; rotate_left 2
 ·intro K wx hS hK; have z2 := (hS.cell (p := ⟨gp, off, none⟩) CC.out.2).trans CC.out.1; go_simp; exact hK _ hS
 ·simp only [Act.put, zA, zB, zC]; rfl
 refine RS.go1 (v := ?_) (a' := ?_) rfl ?_ ?_ ?_; rotate_left 2
 ·intro K wx hS hK; go_simp; refine (KS.out wx hS).mono (fun e w2 he => ?_)
  refine ⟨_, he.1, ?_⟩; exact hK _ (RSb hS he.2)
 ·simp only [Act.put, zA, zB, zC]; rfl
 refine RS.go1 (v := ?_) (a' := ?_) rfl ?_ ?_ ?_; rotate_left 2
 ·intro K wx hS hK; refine Hh.ld rfl rfl (Sp.CK_below CH.out.1 hS CH.out.2) ?_; exact hK _ hS
 ·simp only [Act.put, zA, zB, zC]; rfl
 refine RS.go1 (v := ?_) (a' := ?_) rfl ?_ ?_ ?_; rotate_left 2
 ·intro K wx hS hK; refine Hh.neq (b := false) rfl rfl rfl (by rw [HQ.out]; rfl) ?_
  exact hK _ hS
 ·simp only [Act.put, zA, zB, zC]; rfl
 refine RS.go_end ?_; intro w3 m3; have LB3 : Hid (Below w.heap.size w w3) := LB.out.trans (m3.mono LB.out.size); have y0 := (m3.cell (p := ⟨gp, off, none⟩) CC.out.2).trans CC.out.1; have y1 := L1.out; have y2 := hm.out; clear m3 KS CH; go_wp2_with fail
 refine (KR.out _ LB3.out).mono ?_; rintro e w4 ⟨v, rfl, sh, b4, ⟨k, f1, f2, f3, f4, f5, f6, f7, f8, f9, rfl⟩⟩; have LB4 := LB3.out.trans (b4.mono LB3.out.size); have bB : Below w4.heap.size w4 (w4.alloc (.cells #[.int .i64 k, .slice f1 f2 f3, .slice f4 f5 f6, .slice f7 f8 f9] 34)) := (Below.refl _ _).alloc (Nat.le_refl _) _; have HB := heap_alloc_new w4 (.cells #[.int .i64 k, .slice f1 f2 f3, .slice f4 f5 f6, .slice f7 f8 f9] 34); have s0 : (w4.alloc (.cells #[.int .i64 k, .slice f1 f2 f3, .slice f4 f5 f6, .slice f7 f8 f9] 34)).cell? ⟨w4.heap.size, 0, none⟩ = some (.int .i64 k) := by simp only [World.cell?, HB]; rfl
 have s1 : (w4.alloc (.cells #[.int .i64 k, .slice f1 f2 f3, .slice f4 f5 f6, .slice f7 f8 f9] 34)).cell? ⟨w4.heap.size, 1, none⟩ = some (.slice f1 f2 f3) := by simp only [World.cell?, HB]; rfl
 have s2 : (w4.alloc (.cells #[.int .i64 k, .slice f1 f2 f3, .slice f4 f5 f6, .slice f7 f8 f9] 34)).cell? ⟨w4.heap.size, 2, none⟩ = some (.slice f4 f5 f6) := by simp only [World.cell?, HB]; rfl
 have s3 : (w4.alloc (.cells #[.int .i64 k, .slice f1 f2 f3, .slice f4 f5 f6, .slice f7 f8 f9] 34)).cell? ⟨w4.heap.size, 3, none⟩ = some (.slice f7 f8 f9) := by simp only [World.cell?, HB]; rfl
 have g7h : w4.heap.size < (w4.alloc (.cells #[.int .i64 k, .slice f1 f2 f3, .slice f4 f5 f6, .slice f7 f8 f9] 34)).heap.size := by simp
 have LB5 : Hid (Below w.heap.size w (w4.alloc (.cells #[.int .i64 k, .slice f1 f2 f3, .slice f4 f5 f6, .slice f7 f8 f9] 34))) := LB4.trans (bB.mono LB4.size); have H5 : Hid (Sh s (.int .i64 k, .slice f1 f2 f3, .slice f4 f5 f6, .slice f7 f8 f9) (w4.alloc (.cells #[.int .i64 k, .slice f1 f2 f3, .slice f4 f5 f6, .slice f7 f8 f9] 34))) := Sh_below sh bB; have ek : Hid (k = s.1) := by have := sh.1; injection this
 clear sh b4 LB4 bB HB LB3 KR y0; dsimp only [v4]; go_upto_region 6 with fail
 generalize w4.alloc (.cells #[.int .i64 k, .slice f1 f2 f3, .slice f4 f5 f6, .slice f7 f8 f9] 34) = W5 at s0 s1 s2 s3 LB5 H5 g7h ⊢; generalize w4.heap.size = g7 at s0 s1 s2 s3 g7h ⊢; obtain rfl : z = 0 := hz.out; refine RS.wp_region_flat (fun wx => Below W5.heap.size W5 wx) 11 (by kernel_rfl) (Below.refl _ _) ?_
 simp only [List.take_succ_cons, List.take_zero, List.drop_succ_cons, List.drop_zero]
 iterate 3
  refine RS.go1 (v := ?_) (a' := ?_) rfl ?_ ?_ ?_; rotate_left 2
  ·intro K wx hS hK; go_simp; exact hK _ hS
  ·simp only [Act.put, zA, zB, zC]; rfl
 iterate 3
  refine RS.go1g (v := ?_) (a' := ?_) (by kernel_rfl) ?_ ?_ ?_; rotate_left 2
  ·intro K wx hS hK; go_simp; exact hK _ hS
  ·simp only [Act.put, zA, zB, zC]; rfl
 iterate 3
  refine RS.go0 (a' := ?_) (by kernel_rfl) ?_ ?_; rotate_left 1
  ·simp only [Act.put, zA, zB, zC]; rfl
 refine RS.go1g (v := ?_) (a' := ?_) (by kernel_rfl) ?_ ?_ ?_; rotate_left 2
 ·intro K wx hS hK; go_simp; exact hK _ hS
 ·simp only [Act.put, zA, zB, zC]; rfl
 refine RS.go1 (v := ?_) (a' := ?_) rfl ?_ ?_ ?_; rotate_left 2
 ·intro K wx hS hK; go_simp; exact hK _ hS
 ·simp only [Act.put, zA, zB, zC]; rfl
 refine RS.go_end ?_; intro w6 m6; have v0 := (m6.cell (p := ⟨g7, 0, none⟩) g7h).trans s0; have v1 := (m6.cell (p := ⟨g7, 1, none⟩) g7h).trans s1; have v2 := (m6.cell (p := ⟨g7, 2, none⟩) g7h).trans s2; have v3 := (m6.cell (p := ⟨g7, 3, none⟩) g7h).trans s3; have g6h := Nat.lt_of_lt_of_le g7h m6.size; have LB6 : Hid (Below w.heap.size w w6) := LB5.out.trans (m6.mono LB5.out.size); have H6 : Hid (Sh s (.int .i64 k, .slice f1 f2 f3, .slice f4 f5 f6, .slice f7 f8 f9) w6) := Sh_below H5.out m6; have KY : Hid (Calls Try.prog 17 #[.int .i64 k, .slice f1 f2 f3, .string (Tr.st left)] w6 (WA s left w6)) := by
  have := way_any s left f1 f2 f3 w6 H6.out.2.1; rwa [← ek.out] at this
 clear m6 s0 s1 s2 s3 LB5 H5 g7h; go_wp2_with fail
 refine KY.out.mono ?_; rintro e w7 ⟨j, rest, b, rfl, b7, hw⟩; have q0 := (b7.cell (p := ⟨g7, 0, none⟩) g6h).trans v0; have q2 := (b7.cell (p := ⟨g7, 2, none⟩) g6h).trans v2; have q3 := (b7.cell (p := ⟨g7, 3, none⟩) g6h).trans v3; have g7h := Nat.lt_of_lt_of_le g6h b7.size; have LB7 : Hid (Below w.heap.size w w7) := LB6.out.trans (b7.mono LB6.out.size); have H7 : Hid (Sh s (.int .i64 k, .slice f1 f2 f3, .slice f4 f5 f6, .slice f7 f8 f9) w7) := Sh_below H6.out b7; clear b7 v0 v1 v2 v3 g6h LB6 H6 KY; rw [HW.out] at hw; obtain ⟨rfl, rfl⟩ := hw; go_upto_region 9 with fail
 refine RS.wp_region_flat (fun wx => Below w7.heap.size w7 wx) 11 (by kernel_rfl) (Below.refl _ _) ?_
 simp only [List.take_succ_cons, List.take_zero, List.drop_succ_cons, List.drop_zero]
 iterate 3
  refine RS.go1 (v := ?_) (a' := ?_) rfl ?_ ?_ ?_; rotate_left 2
  ·intro K wx hS hK; go_simp; exact hK _ hS
  ·simp only [Act.put, zA, zB, zC]; rfl
 iterate 7
  refine RS.go0 (a' := ?_) (by kernel_rfl) ?_ ?_; rotate_left 1
  ·simp only [Act.put, zA, zB, zC]; rfl
 refine RS.go1 (v := ?_) (a' := ?_) rfl ?_ ?_ ?_; rotate_left 2
 ·intro K wx hS hK; go_simp; exact hK _ hS
 ·simp only [Act.put, zA, zB, zC]; rfl
 refine RS.go_end ?_; intro w8 m8; have u2 := (m8.cell (p := ⟨g7, 2, none⟩) g7h).trans q2; have LB8 : Hid (Below w.heap.size w w8) := LB7.out.trans (m8.mono LB7.out.size); have H8 : Hid (Sh s (.int .i64 k, .slice f1 f2 f3, .slice f4 f5 f6, .slice f7 f8 f9) w8) := Sh_below H7.out m8; clear m8 q0 q2 q3 LB7 H7 g7h; obtain rfl : m = 1 := hm1.out; have HR : Hid (SDP (c :: r) true F left w (.returned (.tuple #[.slice f4 f5 f6, .int .i64 0])) w8) := ⟨_, by rw [HS.out], by rw [HS.out]; exact H8.out.2.2.1, LB8.out⟩
 rw [hh.out]; clear LB8 H8; go_wp2_with fail
 go_ret2
 exact HR.out
set_option maxHeartbeats 2000000 in
set_option maxRecDepth 100000 in
theorem sd_end1no (F : Nat → Int) (left : Bs) (first : Bool) (cc : Nat) (w : World) (m gp off : Nat) (hm : Hid (0 < m)) (c : Bs) (r : List Bs) (bo : Option Addr) (bc : Nat) (HP : Hid (w.cell? ⟨gp, off, none⟩ = some (.slice bo c.length bc) ∧ gp < w.heap.size)) (KS0 : Hid (∀ wx, Below w.heap.size w wx → Calls Try.prog 15 #[.slice bo c.length bc] wx fun e w' => e = .returned (Hv (sumf c)) ∧ Below wx.heap.size wx w')) (HQ : Hid (same 32 (sumf c) F = true)) (s : Shp) (z : Int) (KR : Hid (∀ wx, Below w.heap.size w wx → Calls Try.prog 16 #[.slice bo c.length bc] wx (PR wx s z))) (hz : Hid (z = 0)) (hf : Hid (first = true)) (HW : Hid (wk s left = none)) (hm1 : Hid (m = 1)) (hh : Hid (here s left = false)) (HS : Hid (sd (c :: r) first F left = ([], 0))) :
  Calls Try.prog 10 #[Hv F, .string (Tr.st left), .slice (some ⟨gp, off, none⟩) m cc, .bool first] w (SDP (c :: r) first F left w) := by
 obtain rfl := hf.out; have t0 : ((m : Int) == 0) = false := by rw [beq_eq_false_iff_ne]; have := hm.out; omega
 have t1 : ¬ m = 0 := by have := hm.out; omega
 have L1 : Hid ((0 : Int) < (m : Int)) := by have := hm.out; show _ < _; omega
 go_enter Try.func10, Try.ntmps10
 go_upto_region 1 with fail
 dsimp only [Hv]; have k0 := box_ck F w 23; have b0 : Below w.heap.size w (w.alloc (.cells (h32 F).toArray 23)) := (Below.refl _ _).alloc (Nat.le_refl _) _; have z0 : w.heap.size < (w.alloc (.cells (h32 F).toArray 23)).heap.size := by simp
 generalize w.alloc (.cells (h32 F).toArray 23) = W0 at k0 b0 z0 ⊢; generalize (h32 F).toArray = hF; have LB : Hid (Below w.heap.size w W0) := b0; obtain ⟨h, eh⟩ : ∃ h, h = w.heap.size := ⟨_, rfl⟩; rw [← eh] at k0 z0 ⊢; have CH : Hid (Sp.CK .u8 h 32 F W0 ∧ h < W0.heap.size) := ⟨k0, z0⟩; clear k0 b0 z0 eh; have CC : Hid (W0.cell? ⟨gp, off, none⟩ = some (.slice bo c.length bc) ∧ gp < W0.heap.size) := ⟨(LB.out.cell (p := ⟨gp, off, none⟩) HP.out.2).trans HP.out.1, Nat.lt_of_lt_of_le HP.out.2 LB.out.size⟩; have KS : Hid (∀ wx, Below W0.heap.size W0 wx → Calls Try.prog 15 #[.slice bo c.length bc] wx fun e w' => e = .returned (Hv (sumf c)) ∧ Below wx.heap.size wx w') := fun wx hb => KS0.out wx (LB.out.trans (hb.mono LB.out.size))
 go_upto_region 3 with fail
 refine RS.wp_region_one (fun wx => Below W0.heap.size W0 wx) (by kernel_rfl) (by kernel_rfl) ((Below.refl _ _).drew) ?_
 dsimp only [List.toList_toArray]; refine RS.go1 (v := ?_) (a' := ?_) rfl ?_ ?_ ?_; rotate_left 2
 ·intro K wx hS hK; go_simp; exact hK _ hS
 ·simp only [Act.put, zA, zB, zC]; rfl
 refine RS.go1 (v := ?_) (a' := ?_) rfl ?_ ?_ ?_; rotate_left 2
 ·intro K wx hS hK; have d1 := L1.out; have d2 := hm.out; go_simp; exact hK _ hS
 ·simp only [Act.put, zA, zB, zC]; rfl
 refine RS.go1 (v := ?_) (a' := ?_) rfl ?_ ?_ ?_; rotate_left 2
 ·intro K wx hS hK; have z2 := (hS.cell (p := ⟨gp, off, none⟩) CC.out.2).trans CC.out.1; go_simp; exact hK _ hS
 ·simp only [Act.put, zA, zB, zC]; rfl
 refine RS.go1 (v := ?_) (a' := ?_) rfl ?_ ?_ ?_; rotate_left 2
 ·intro K wx hS hK; go_simp; refine (KS.out wx hS).mono (fun e w2 he => ?_)
  refine ⟨_, he.1, ?_⟩; exact hK _ (RSb hS he.2)
 ·simp only [Act.put, zA, zB, zC]; rfl
 refine RS.go1 (v := ?_) (a' := ?_) rfl ?_ ?_ ?_; rotate_left 2
 ·intro K wx hS hK; refine Hh.ld rfl rfl (Sp.CK_below CH.out.1 hS CH.out.2) ?_; exact hK _ hS
 ·simp only [Act.put, zA, zB, zC]; rfl
 refine RS.go1 (v := ?_) (a' := ?_) rfl ?_ ?_ ?_; rotate_left 2
 ·intro K wx hS hK; refine Hh.neq (b := false) rfl rfl rfl (by rw [HQ.out]; rfl) ?_
  exact hK _ hS
 ·simp only [Act.put, zA, zB, zC]; rfl
 refine RS.go_end ?_; intro w3 m3; have LB3 : Hid (Below w.heap.size w w3) := LB.out.trans (m3.mono LB.out.size); have y0 := (m3.cell (p := ⟨gp, off, none⟩) CC.out.2).trans CC.out.1; have y1 := L1.out; have y2 := hm.out; clear m3 KS CH; go_wp2_with fail
 refine (KR.out _ LB3.out).mono ?_; rintro e w4 ⟨v, rfl, sh, b4, ⟨k, f1, f2, f3, f4, f5, f6, f7, f8, f9, rfl⟩⟩; have LB4 := LB3.out.trans (b4.mono LB3.out.size); have bB : Below w4.heap.size w4 (w4.alloc (.cells #[.int .i64 k, .slice f1 f2 f3, .slice f4 f5 f6, .slice f7 f8 f9] 34)) := (Below.refl _ _).alloc (Nat.le_refl _) _; have HB := heap_alloc_new w4 (.cells #[.int .i64 k, .slice f1 f2 f3, .slice f4 f5 f6, .slice f7 f8 f9] 34); have s0 : (w4.alloc (.cells #[.int .i64 k, .slice f1 f2 f3, .slice f4 f5 f6, .slice f7 f8 f9] 34)).cell? ⟨w4.heap.size, 0, none⟩ = some (.int .i64 k) := by simp only [World.cell?, HB]; rfl
 have s1 : (w4.alloc (.cells #[.int .i64 k, .slice f1 f2 f3, .slice f4 f5 f6, .slice f7 f8 f9] 34)).cell? ⟨w4.heap.size, 1, none⟩ = some (.slice f1 f2 f3) := by simp only [World.cell?, HB]; rfl
 have s2 : (w4.alloc (.cells #[.int .i64 k, .slice f1 f2 f3, .slice f4 f5 f6, .slice f7 f8 f9] 34)).cell? ⟨w4.heap.size, 2, none⟩ = some (.slice f4 f5 f6) := by simp only [World.cell?, HB]; rfl
 have s3 : (w4.alloc (.cells #[.int .i64 k, .slice f1 f2 f3, .slice f4 f5 f6, .slice f7 f8 f9] 34)).cell? ⟨w4.heap.size, 3, none⟩ = some (.slice f7 f8 f9) := by simp only [World.cell?, HB]; rfl
 have g7h : w4.heap.size < (w4.alloc (.cells #[.int .i64 k, .slice f1 f2 f3, .slice f4 f5 f6, .slice f7 f8 f9] 34)).heap.size := by simp
 have LB5 : Hid (Below w.heap.size w (w4.alloc (.cells #[.int .i64 k, .slice f1 f2 f3, .slice f4 f5 f6, .slice f7 f8 f9] 34))) := LB4.trans (bB.mono LB4.size); have H5 : Hid (Sh s (.int .i64 k, .slice f1 f2 f3, .slice f4 f5 f6, .slice f7 f8 f9) (w4.alloc (.cells #[.int .i64 k, .slice f1 f2 f3, .slice f4 f5 f6, .slice f7 f8 f9] 34))) := Sh_below sh bB; have ek : Hid (k = s.1) := by have := sh.1; injection this
 clear sh b4 LB4 bB HB LB3 KR y0; dsimp only [v4]; go_upto_region 6 with fail
 generalize w4.alloc (.cells #[.int .i64 k, .slice f1 f2 f3, .slice f4 f5 f6, .slice f7 f8 f9] 34) = W5 at s0 s1 s2 s3 LB5 H5 g7h ⊢; generalize w4.heap.size = g7 at s0 s1 s2 s3 g7h ⊢; obtain rfl : z = 0 := hz.out; refine RS.wp_region_flat (fun wx => Below W5.heap.size W5 wx) 11 (by kernel_rfl) (Below.refl _ _) ?_
 simp only [List.take_succ_cons, List.take_zero, List.drop_succ_cons, List.drop_zero]
 iterate 3
  refine RS.go1 (v := ?_) (a' := ?_) rfl ?_ ?_ ?_; rotate_left 2
  ·intro K wx hS hK; go_simp; exact hK _ hS
  ·simp only [Act.put, zA, zB, zC]; rfl
 iterate 3
  refine RS.go1g (v := ?_) (a' := ?_) (by kernel_rfl) ?_ ?_ ?_; rotate_left 2
  ·intro K wx hS hK; go_simp; exact hK _ hS
  ·simp only [Act.put, zA, zB, zC]; rfl
 iterate 3
  refine RS.go0 (a' := ?_) (by kernel_rfl) ?_ ?_; rotate_left 1
  ·simp only [Act.put, zA, zB, zC]; rfl
 refine RS.go1g (v := ?_) (a' := ?_) (by kernel_rfl) ?_ ?_ ?_; rotate_left 2
 ·intro K wx hS hK; go_simp; exact hK _ hS
 ·simp only [Act.put, zA, zB, zC]; rfl
 refine RS.go1 (v := ?_) (a' := ?_) rfl ?_ ?_ ?_; rotate_left 2
 ·intro K wx hS hK; go_simp; exact hK _ hS
 ·simp only [Act.put, zA, zB, zC]; rfl
 refine RS.go_end ?_; intro w6 m6; have v0 := (m6.cell (p := ⟨g7, 0, none⟩) g7h).trans s0; have v1 := (m6.cell (p := ⟨g7, 1, none⟩) g7h).trans s1; have v2 := (m6.cell (p := ⟨g7, 2, none⟩) g7h).trans s2; have v3 := (m6.cell (p := ⟨g7, 3, none⟩) g7h).trans s3; have g6h := Nat.lt_of_lt_of_le g7h m6.size; have LB6 : Hid (Below w.heap.size w w6) := LB5.out.trans (m6.mono LB5.out.size); have H6 : Hid (Sh s (.int .i64 k, .slice f1 f2 f3, .slice f4 f5 f6, .slice f7 f8 f9) w6) := Sh_below H5.out m6; have KY : Hid (Calls Try.prog 17 #[.int .i64 k, .slice f1 f2 f3, .string (Tr.st left)] w6 (WA s left w6)) := by
  have := way_any s left f1 f2 f3 w6 H6.out.2.1; rwa [← ek.out] at this
 clear m6 s0 s1 s2 s3 LB5 H5 g7h; go_wp2_with fail
 refine KY.out.mono ?_; rintro e w7 ⟨j, rest, b, rfl, b7, hw⟩; have q0 := (b7.cell (p := ⟨g7, 0, none⟩) g6h).trans v0; have q2 := (b7.cell (p := ⟨g7, 2, none⟩) g6h).trans v2; have q3 := (b7.cell (p := ⟨g7, 3, none⟩) g6h).trans v3; have g7h := Nat.lt_of_lt_of_le g6h b7.size; have LB7 : Hid (Below w.heap.size w w7) := LB6.out.trans (b7.mono LB6.out.size); have H7 : Hid (Sh s (.int .i64 k, .slice f1 f2 f3, .slice f4 f5 f6, .slice f7 f8 f9) w7) := Sh_below H6.out b7; clear b7 v0 v1 v2 v3 g6h LB6 H6 KY; rw [HW.out] at hw; obtain ⟨rfl, rfl⟩ := hw; go_upto_region 9 with fail
 refine RS.wp_region_flat (fun wx => Below w7.heap.size w7 wx) 11 (by kernel_rfl) (Below.refl _ _) ?_
 simp only [List.take_succ_cons, List.take_zero, List.drop_succ_cons, List.drop_zero]
 iterate 3
  refine RS.go1 (v := ?_) (a' := ?_) rfl ?_ ?_ ?_; rotate_left 2
  ·intro K wx hS hK; go_simp; exact hK _ hS
  ·simp only [Act.put, zA, zB, zC]; rfl
 iterate 7
  refine RS.go0 (a' := ?_) (by kernel_rfl) ?_ ?_; rotate_left 1
  ·simp only [Act.put, zA, zB, zC]; rfl
 refine RS.go1 (v := ?_) (a' := ?_) rfl ?_ ?_ ?_; rotate_left 2
 ·intro K wx hS hK; go_simp; exact hK _ hS
 ·simp only [Act.put, zA, zB, zC]; rfl
 refine RS.go_end ?_; intro w8 m8; have u2 := (m8.cell (p := ⟨g7, 2, none⟩) g7h).trans q2; have LB8 : Hid (Below w.heap.size w w8) := LB7.out.trans (m8.mono LB7.out.size); have H8 : Hid (Sh s (.int .i64 k, .slice f1 f2 f3, .slice f4 f5 f6, .slice f7 f8 f9) w8) := Sh_below H7.out m8; clear m8 q0 q2 q3 LB7 H7 g7h; obtain rfl : m = 1 := hm1.out; have HR : Hid (SDP (c :: r) true F left w (.returned (.tuple #[.slice none 0 0, .int .i64 0])) w8) := ⟨_, by rw [HS.out], by rw [HS.out]; exact Pk.Sl_nil _, LB8.out⟩
 rw [hh.out]; clear LB8 H8; go_wp2_with fail
 go_ret2
 exact HR.out
set_option maxHeartbeats 2000000 in
set_option maxRecDepth 100000 in
theorem sd_end2much (F : Nat → Int) (left : Bs) (first : Bool) (cc : Nat) (w : World) (m gp off : Nat) (hm : Hid (0 < m)) (c : Bs) (r : List Bs) (bo : Option Addr) (bc : Nat) (HP : Hid (w.cell? ⟨gp, off, none⟩ = some (.slice bo c.length bc) ∧ gp < w.heap.size)) (KS0 : Hid (∀ wx, Below w.heap.size w wx → Calls Try.prog 15 #[.slice bo c.length bc] wx fun e w' => e = .returned (Hv (sumf c)) ∧ Below wx.heap.size wx w')) (HQ : Hid (same 32 (sumf c) F = true)) (s : Shp) (z : Int) (KR : Hid (∀ wx, Below w.heap.size w wx → Calls Try.prog 16 #[.slice bo c.length bc] wx (PR wx s z))) (hz : Hid (z = 0)) (hf : Hid (first = false)) (hk : Hid (s.1 ≠ 0)) (HW : Hid (wk s left = none)) (hm1 : Hid (1 < m)) (HS : Hid (sd (c :: r) first F left = ([], 6))) :
  Calls Try.prog 10 #[Hv F, .string (Tr.st left), .slice (some ⟨gp, off, none⟩) m cc, .bool first] w (SDP (c :: r) first F left w) := by
 obtain rfl := hf.out; have t0 : ((m : Int) == 0) = false := by rw [beq_eq_false_iff_ne]; have := hm.out; omega
 have t1 : ¬ m = 0 := by have := hm.out; omega
 have L1 : Hid ((0 : Int) < (m : Int)) := by have := hm.out; show _ < _; omega
 go_enter Try.func10, Try.ntmps10
 go_upto_region 1 with fail
 dsimp only [Hv]; have k0 := box_ck F w 23; have b0 : Below w.heap.size w (w.alloc (.cells (h32 F).toArray 23)) := (Below.refl _ _).alloc (Nat.le_refl _) _; have z0 : w.heap.size < (w.alloc (.cells (h32 F).toArray 23)).heap.size := by simp
 generalize w.alloc (.cells (h32 F).toArray 23) = W0 at k0 b0 z0 ⊢; generalize (h32 F).toArray = hF; have LB : Hid (Below w.heap.size w W0) := b0; obtain ⟨h, eh⟩ : ∃ h, h = w.heap.size := ⟨_, rfl⟩; rw [← eh] at k0 z0 ⊢; have CH : Hid (Sp.CK .u8 h 32 F W0 ∧ h < W0.heap.size) := ⟨k0, z0⟩; clear k0 b0 z0 eh; have CC : Hid (W0.cell? ⟨gp, off, none⟩ = some (.slice bo c.length bc) ∧ gp < W0.heap.size) := ⟨(LB.out.cell (p := ⟨gp, off, none⟩) HP.out.2).trans HP.out.1, Nat.lt_of_lt_of_le HP.out.2 LB.out.size⟩; have KS : Hid (∀ wx, Below W0.heap.size W0 wx → Calls Try.prog 15 #[.slice bo c.length bc] wx fun e w' => e = .returned (Hv (sumf c)) ∧ Below wx.heap.size wx w') := fun wx hb => KS0.out wx (LB.out.trans (hb.mono LB.out.size))
 go_upto_region 3 with fail
 refine RS.wp_region_one (fun wx => Below W0.heap.size W0 wx) (by kernel_rfl) (by kernel_rfl) ((Below.refl _ _).drew) ?_
 dsimp only [List.toList_toArray]; refine RS.go1 (v := ?_) (a' := ?_) rfl ?_ ?_ ?_; rotate_left 2
 ·intro K wx hS hK; go_simp; exact hK _ hS
 ·simp only [Act.put, zA, zB, zC]; rfl
 refine RS.go1 (v := ?_) (a' := ?_) rfl ?_ ?_ ?_; rotate_left 2
 ·intro K wx hS hK; have d1 := L1.out; have d2 := hm.out; go_simp; exact hK _ hS
 ·simp only [Act.put, zA, zB, zC]; rfl
 refine RS.go1 (v := ?_) (a' := ?_) rfl ?_ ?_ ?_; rotate_left 2
 ·intro K wx hS hK; have z2 := (hS.cell (p := ⟨gp, off, none⟩) CC.out.2).trans CC.out.1; go_simp; exact hK _ hS
 ·simp only [Act.put, zA, zB, zC]; rfl
 refine RS.go1 (v := ?_) (a' := ?_) rfl ?_ ?_ ?_; rotate_left 2
 ·intro K wx hS hK; go_simp; refine (KS.out wx hS).mono (fun e w2 he => ?_)
  refine ⟨_, he.1, ?_⟩; exact hK _ (RSb hS he.2)
 ·simp only [Act.put, zA, zB, zC]; rfl
 refine RS.go1 (v := ?_) (a' := ?_) rfl ?_ ?_ ?_; rotate_left 2
 ·intro K wx hS hK; refine Hh.ld rfl rfl (Sp.CK_below CH.out.1 hS CH.out.2) ?_; exact hK _ hS
 ·simp only [Act.put, zA, zB, zC]; rfl
 refine RS.go1 (v := ?_) (a' := ?_) rfl ?_ ?_ ?_; rotate_left 2
 ·intro K wx hS hK; refine Hh.neq (b := false) rfl rfl rfl (by rw [HQ.out]; rfl) ?_
  exact hK _ hS
 ·simp only [Act.put, zA, zB, zC]; rfl
 refine RS.go_end ?_; intro w3 m3; have LB3 : Hid (Below w.heap.size w w3) := LB.out.trans (m3.mono LB.out.size); have y0 := (m3.cell (p := ⟨gp, off, none⟩) CC.out.2).trans CC.out.1; have y1 := L1.out; have y2 := hm.out; clear m3 KS CH; go_wp2_with fail
 refine (KR.out _ LB3.out).mono ?_; rintro e w4 ⟨v, rfl, sh, b4, ⟨k, f1, f2, f3, f4, f5, f6, f7, f8, f9, rfl⟩⟩; have LB4 := LB3.out.trans (b4.mono LB3.out.size); have bB : Below w4.heap.size w4 (w4.alloc (.cells #[.int .i64 k, .slice f1 f2 f3, .slice f4 f5 f6, .slice f7 f8 f9] 34)) := (Below.refl _ _).alloc (Nat.le_refl _) _; have HB := heap_alloc_new w4 (.cells #[.int .i64 k, .slice f1 f2 f3, .slice f4 f5 f6, .slice f7 f8 f9] 34); have s0 : (w4.alloc (.cells #[.int .i64 k, .slice f1 f2 f3, .slice f4 f5 f6, .slice f7 f8 f9] 34)).cell? ⟨w4.heap.size, 0, none⟩ = some (.int .i64 k) := by simp only [World.cell?, HB]; rfl
 have s1 : (w4.alloc (.cells #[.int .i64 k, .slice f1 f2 f3, .slice f4 f5 f6, .slice f7 f8 f9] 34)).cell? ⟨w4.heap.size, 1, none⟩ = some (.slice f1 f2 f3) := by simp only [World.cell?, HB]; rfl
 have s2 : (w4.alloc (.cells #[.int .i64 k, .slice f1 f2 f3, .slice f4 f5 f6, .slice f7 f8 f9] 34)).cell? ⟨w4.heap.size, 2, none⟩ = some (.slice f4 f5 f6) := by simp only [World.cell?, HB]; rfl
 have s3 : (w4.alloc (.cells #[.int .i64 k, .slice f1 f2 f3, .slice f4 f5 f6, .slice f7 f8 f9] 34)).cell? ⟨w4.heap.size, 3, none⟩ = some (.slice f7 f8 f9) := by simp only [World.cell?, HB]; rfl
 have g7h : w4.heap.size < (w4.alloc (.cells #[.int .i64 k, .slice f1 f2 f3, .slice f4 f5 f6, .slice f7 f8 f9] 34)).heap.size := by simp
 have LB5 : Hid (Below w.heap.size w (w4.alloc (.cells #[.int .i64 k, .slice f1 f2 f3, .slice f4 f5 f6, .slice f7 f8 f9] 34))) := LB4.trans (bB.mono LB4.size); have H5 : Hid (Sh s (.int .i64 k, .slice f1 f2 f3, .slice f4 f5 f6, .slice f7 f8 f9) (w4.alloc (.cells #[.int .i64 k, .slice f1 f2 f3, .slice f4 f5 f6, .slice f7 f8 f9] 34))) := Sh_below sh bB; have ek : Hid (k = s.1) := by have := sh.1; injection this
 clear sh b4 LB4 bB HB LB3 KR y0; dsimp only [v4]; go_upto_region 6 with fail
 generalize w4.alloc (.cells #[.int .i64 k, .slice f1 f2 f3, .slice f4 f5 f6, .slice f7 f8 f9] 34) = W5 at s0 s1 s2 s3 LB5 H5 g7h ⊢; generalize w4.heap.size = g7 at s0 s1 s2 s3 g7h ⊢; obtain rfl : z = 0 := hz.out; have tk : (k == 0) = false := by rw [ek.out]; exact beq_eq_false_iff_ne.2 hk.out
 refine RS.wp_region_flat (fun wx => Below W5.heap.size W5 wx) 11 (by kernel_rfl) (Below.refl _ _) ?_
 simp only [List.take_succ_cons, List.take_zero, List.drop_succ_cons, List.drop_zero]
 iterate 3
  refine RS.go1 (v := ?_) (a' := ?_) rfl ?_ ?_ ?_; rotate_left 2
  ·intro K wx hS hK; go_simp; exact hK _ hS
  ·simp only [Act.put, zA, zB, zC]; rfl
 iterate 4
  refine RS.go1g (v := ?_) (a' := ?_) (by kernel_rfl) ?_ ?_ ?_; rotate_left 2
  ·intro K wx hS hK; go_simp; exact hK _ hS
  ·simp only [Act.put, zA, zB, zC]; rfl
 refine RS.go1g (v := ?_) (a' := ?_) (by kernel_rfl) ?_ ?_ ?_; rotate_left 2
 ·intro K wx hS hK; have z1 := (hS.cell (p := ⟨g7, 0, none⟩) g7h).trans s0; go_simp; exact hK _ hS
 ·simp only [Act.put, zA, zB, zC]; rfl
 iterate 2
  refine RS.go1g (v := ?_) (a' := ?_) (by kernel_rfl) ?_ ?_ ?_; rotate_left 2
  ·intro K wx hS hK; go_simp; exact hK _ hS
  ·simp only [Act.put, zA, zB, zC]; rfl
 refine RS.go1 (v := ?_) (a' := ?_) rfl ?_ ?_ ?_; rotate_left 2
 ·intro K wx hS hK; go_simp; exact hK _ hS
 ·simp only [Act.put, zA, zB, zC]; rfl
 refine RS.go_end ?_; intro w6 m6; have v0 := (m6.cell (p := ⟨g7, 0, none⟩) g7h).trans s0; have v1 := (m6.cell (p := ⟨g7, 1, none⟩) g7h).trans s1; have v2 := (m6.cell (p := ⟨g7, 2, none⟩) g7h).trans s2; have v3 := (m6.cell (p := ⟨g7, 3, none⟩) g7h).trans s3; have g6h := Nat.lt_of_lt_of_le g7h m6.size; have LB6 : Hid (Below w.heap.size w w6) := LB5.out.trans (m6.mono LB5.out.size); have H6 : Hid (Sh s (.int .i64 k, .slice f1 f2 f3, .slice f4 f5 f6, .slice f7 f8 f9) w6) := Sh_below H5.out m6; have KY : Hid (Calls Try.prog 17 #[.int .i64 k, .slice f1 f2 f3, .string (Tr.st left)] w6 (WA s left w6)) := by
  have := way_any s left f1 f2 f3 w6 H6.out.2.1; rwa [← ek.out] at this
 clear m6 s0 s1 s2 s3 LB5 H5 g7h; go_wp2_with fail
 refine KY.out.mono ?_; rintro e w7 ⟨j, rest, b, rfl, b7, hw⟩; have q0 := (b7.cell (p := ⟨g7, 0, none⟩) g6h).trans v0; have q2 := (b7.cell (p := ⟨g7, 2, none⟩) g6h).trans v2; have q3 := (b7.cell (p := ⟨g7, 3, none⟩) g6h).trans v3; have g7h := Nat.lt_of_lt_of_le g6h b7.size; have LB7 : Hid (Below w.heap.size w w7) := LB6.out.trans (b7.mono LB6.out.size); have H7 : Hid (Sh s (.int .i64 k, .slice f1 f2 f3, .slice f4 f5 f6, .slice f7 f8 f9) w7) := Sh_below H6.out b7; clear b7 v0 v1 v2 v3 g6h LB6 H6 KY; rw [HW.out] at hw; obtain ⟨rfl, rfl⟩ := hw; go_upto_region 9 with fail
 refine RS.wp_region_flat (fun wx => Below w7.heap.size w7 wx) 11 (by kernel_rfl) (Below.refl _ _) ?_
 simp only [List.take_succ_cons, List.take_zero, List.drop_succ_cons, List.drop_zero]
 iterate 3
  refine RS.go1 (v := ?_) (a' := ?_) rfl ?_ ?_ ?_; rotate_left 2
  ·intro K wx hS hK; go_simp; exact hK _ hS
  ·simp only [Act.put, zA, zB, zC]; rfl
 iterate 7
  refine RS.go0 (a' := ?_) (by kernel_rfl) ?_ ?_; rotate_left 1
  ·simp only [Act.put, zA, zB, zC]; rfl
 refine RS.go1 (v := ?_) (a' := ?_) rfl ?_ ?_ ?_; rotate_left 2
 ·intro K wx hS hK; go_simp; exact hK _ hS
 ·simp only [Act.put, zA, zB, zC]; rfl
 refine RS.go_end ?_; intro w8 m8; have u2 := (m8.cell (p := ⟨g7, 2, none⟩) g7h).trans q2; have LB8 : Hid (Below w.heap.size w w8) := LB7.out.trans (m8.mono LB7.out.size); have H8 : Hid (Sh s (.int .i64 k, .slice f1 f2 f3, .slice f4 f5 f6, .slice f7 f8 f9) w8) := Sh_below H7.out m8; clear m8 q0 q2 q3 LB7 H7 g7h; have d9 : (1 : Int) < (m : Int) := by have := hm1.out; omega
 have d8 : 1 < m := hm1.out; have HR : Hid (SDP (c :: r) false F left w (.returned (.tuple #[.slice none 0 0, .int .i64 6])) w8) := sdp_bad HS.out LB8.out; clear LB8 H8 u2; generalize here s left = hb at *; go_wp2_with fail
 go_ret2
 exact HR.out
set_option maxHeartbeats 2000000 in
set_option maxRecDepth 100000 in
theorem sd_end2yes (F : Nat → Int) (left : Bs) (first : Bool) (cc : Nat) (w : World) (m gp off : Nat) (hm : Hid (0 < m)) (c : Bs) (r : List Bs) (bo : Option Addr) (bc : Nat) (HP : Hid (w.cell? ⟨gp, off, none⟩ = some (.slice bo c.length bc) ∧ gp < w.heap.size)) (KS0 : Hid (∀ wx, Below w.heap.size w wx → Calls Try.prog 15 #[.slice bo c.length bc] wx fun e w' => e = .returned (Hv (sumf c)) ∧ Below wx.heap.size wx w')) (HQ : Hid (same 32 (sumf c) F = true)) (s : Shp) (z : Int) (KR : Hid (∀ wx, Below w.heap.size w wx → Calls Try.prog 16 #[.slice bo c.length bc] wx (PR wx s z))) (hz : Hid (z = 0)) (hf : Hid (first = false)) (hk : Hid (s.1 ≠ 0)) (HW : Hid (wk s left = none)) (hm1 : Hid (m = 1)) (hh : Hid (here s left = true)) (HS : Hid (sd (c :: r) first F left = (s.2.2.1, 0))) :
  Calls Try.prog 10 #[Hv F, .string (Tr.st left), .slice (some ⟨gp, off, none⟩) m cc, .bool first] w (SDP (c :: r) first F left w) := by
 obtain rfl := hf.out; have t0 : ((m : Int) == 0) = false := by rw [beq_eq_false_iff_ne]; have := hm.out; omega
 have t1 : ¬ m = 0 := by have := hm.out; omega
 have L1 : Hid ((0 : Int) < (m : Int)) := by have := hm.out; show _ < _; omega
 go_enter Try.func10, Try.ntmps10
 go_upto_region 1 with fail
 dsimp only [Hv]; have k0 := box_ck F w 23; have b0 : Below w.heap.size w (w.alloc (.cells (h32 F).toArray 23)) := (Below.refl _ _).alloc (Nat.le_refl _) _; have z0 : w.heap.size < (w.alloc (.cells (h32 F).toArray 23)).heap.size := by simp
 generalize w.alloc (.cells (h32 F).toArray 23) = W0 at k0 b0 z0 ⊢; generalize (h32 F).toArray = hF; have LB : Hid (Below w.heap.size w W0) := b0; obtain ⟨h, eh⟩ : ∃ h, h = w.heap.size := ⟨_, rfl⟩; rw [← eh] at k0 z0 ⊢; have CH : Hid (Sp.CK .u8 h 32 F W0 ∧ h < W0.heap.size) := ⟨k0, z0⟩; clear k0 b0 z0 eh; have CC : Hid (W0.cell? ⟨gp, off, none⟩ = some (.slice bo c.length bc) ∧ gp < W0.heap.size) := ⟨(LB.out.cell (p := ⟨gp, off, none⟩) HP.out.2).trans HP.out.1, Nat.lt_of_lt_of_le HP.out.2 LB.out.size⟩; have KS : Hid (∀ wx, Below W0.heap.size W0 wx → Calls Try.prog 15 #[.slice bo c.length bc] wx fun e w' => e = .returned (Hv (sumf c)) ∧ Below wx.heap.size wx w') := fun wx hb => KS0.out wx (LB.out.trans (hb.mono LB.out.size))
 go_upto_region 3 with fail
 refine RS.wp_region_one (fun wx => Below W0.heap.size W0 wx) (by kernel_rfl) (by kernel_rfl) ((Below.refl _ _).drew) ?_
 dsimp only [List.toList_toArray]; refine RS.go1 (v := ?_) (a' := ?_) rfl ?_ ?_ ?_; rotate_left 2
 ·intro K wx hS hK; go_simp; exact hK _ hS
 ·simp only [Act.put, zA, zB, zC]; rfl
 refine RS.go1 (v := ?_) (a' := ?_) rfl ?_ ?_ ?_; rotate_left 2
 ·intro K wx hS hK; have d1 := L1.out; have d2 := hm.out; go_simp; exact hK _ hS
 ·simp only [Act.put, zA, zB, zC]; rfl
 refine RS.go1 (v := ?_) (a' := ?_) rfl ?_ ?_ ?_; rotate_left 2
 ·intro K wx hS hK; have z2 := (hS.cell (p := ⟨gp, off, none⟩) CC.out.2).trans CC.out.1; go_simp; exact hK _ hS
 ·simp only [Act.put, zA, zB, zC]; rfl
 refine RS.go1 (v := ?_) (a' := ?_) rfl ?_ ?_ ?_; rotate_left 2
 ·intro K wx hS hK; go_simp; refine (KS.out wx hS).mono (fun e w2 he => ?_)
  refine ⟨_, he.1, ?_⟩; exact hK _ (RSb hS he.2)
 ·simp only [Act.put, zA, zB, zC]; rfl
 refine RS.go1 (v := ?_) (a' := ?_) rfl ?_ ?_ ?_; rotate_left 2
 ·intro K wx hS hK; refine Hh.ld rfl rfl (Sp.CK_below CH.out.1 hS CH.out.2) ?_; exact hK _ hS
 ·simp only [Act.put, zA, zB, zC]; rfl
 refine RS.go1 (v := ?_) (a' := ?_) rfl ?_ ?_ ?_; rotate_left 2
 ·intro K wx hS hK; refine Hh.neq (b := false) rfl rfl rfl (by rw [HQ.out]; rfl) ?_
  exact hK _ hS
 ·simp only [Act.put, zA, zB, zC]; rfl
 refine RS.go_end ?_; intro w3 m3; have LB3 : Hid (Below w.heap.size w w3) := LB.out.trans (m3.mono LB.out.size); have y0 := (m3.cell (p := ⟨gp, off, none⟩) CC.out.2).trans CC.out.1; have y1 := L1.out; have y2 := hm.out; clear m3 KS CH; go_wp2_with fail
 refine (KR.out _ LB3.out).mono ?_; rintro e w4 ⟨v, rfl, sh, b4, ⟨k, f1, f2, f3, f4, f5, f6, f7, f8, f9, rfl⟩⟩; have LB4 := LB3.out.trans (b4.mono LB3.out.size); have bB : Below w4.heap.size w4 (w4.alloc (.cells #[.int .i64 k, .slice f1 f2 f3, .slice f4 f5 f6, .slice f7 f8 f9] 34)) := (Below.refl _ _).alloc (Nat.le_refl _) _; have HB := heap_alloc_new w4 (.cells #[.int .i64 k, .slice f1 f2 f3, .slice f4 f5 f6, .slice f7 f8 f9] 34); have s0 : (w4.alloc (.cells #[.int .i64 k, .slice f1 f2 f3, .slice f4 f5 f6, .slice f7 f8 f9] 34)).cell? ⟨w4.heap.size, 0, none⟩ = some (.int .i64 k) := by simp only [World.cell?, HB]; rfl
 have s1 : (w4.alloc (.cells #[.int .i64 k, .slice f1 f2 f3, .slice f4 f5 f6, .slice f7 f8 f9] 34)).cell? ⟨w4.heap.size, 1, none⟩ = some (.slice f1 f2 f3) := by simp only [World.cell?, HB]; rfl
 have s2 : (w4.alloc (.cells #[.int .i64 k, .slice f1 f2 f3, .slice f4 f5 f6, .slice f7 f8 f9] 34)).cell? ⟨w4.heap.size, 2, none⟩ = some (.slice f4 f5 f6) := by simp only [World.cell?, HB]; rfl
 have s3 : (w4.alloc (.cells #[.int .i64 k, .slice f1 f2 f3, .slice f4 f5 f6, .slice f7 f8 f9] 34)).cell? ⟨w4.heap.size, 3, none⟩ = some (.slice f7 f8 f9) := by simp only [World.cell?, HB]; rfl
 have g7h : w4.heap.size < (w4.alloc (.cells #[.int .i64 k, .slice f1 f2 f3, .slice f4 f5 f6, .slice f7 f8 f9] 34)).heap.size := by simp
 have LB5 : Hid (Below w.heap.size w (w4.alloc (.cells #[.int .i64 k, .slice f1 f2 f3, .slice f4 f5 f6, .slice f7 f8 f9] 34))) := LB4.trans (bB.mono LB4.size); have H5 : Hid (Sh s (.int .i64 k, .slice f1 f2 f3, .slice f4 f5 f6, .slice f7 f8 f9) (w4.alloc (.cells #[.int .i64 k, .slice f1 f2 f3, .slice f4 f5 f6, .slice f7 f8 f9] 34))) := Sh_below sh bB; have ek : Hid (k = s.1) := by have := sh.1; injection this
 clear sh b4 LB4 bB HB LB3 KR y0; dsimp only [v4]; go_upto_region 6 with fail
 generalize w4.alloc (.cells #[.int .i64 k, .slice f1 f2 f3, .slice f4 f5 f6, .slice f7 f8 f9] 34) = W5 at s0 s1 s2 s3 LB5 H5 g7h ⊢; generalize w4.heap.size = g7 at s0 s1 s2 s3 g7h ⊢; obtain rfl : z = 0 := hz.out; have tk : (k == 0) = false := by rw [ek.out]; exact beq_eq_false_iff_ne.2 hk.out
 refine RS.wp_region_flat (fun wx => Below W5.heap.size W5 wx) 11 (by kernel_rfl) (Below.refl _ _) ?_
 simp only [List.take_succ_cons, List.take_zero, List.drop_succ_cons, List.drop_zero]
 iterate 3
  refine RS.go1 (v := ?_) (a' := ?_) rfl ?_ ?_ ?_; rotate_left 2
  ·intro K wx hS hK; go_simp; exact hK _ hS
  ·simp only [Act.put, zA, zB, zC]; rfl
 iterate 4
  refine RS.go1g (v := ?_) (a' := ?_) (by kernel_rfl) ?_ ?_ ?_; rotate_left 2
  ·intro K wx hS hK; go_simp; exact hK _ hS
  ·simp only [Act.put, zA, zB, zC]; rfl
 refine RS.go1g (v := ?_) (a' := ?_) (by kernel_rfl) ?_ ?_ ?_; rotate_left 2
 ·intro K wx hS hK; have z1 := (hS.cell (p := ⟨g7, 0, none⟩) g7h).trans s0; go_simp; exact hK _ hS
 ·simp only [Act.put, zA, zB, zC]; rfl
 iterate 2
  refine RS.go1g (v := ?_) (a' := ?_) (by kernel_rfl) ?_ ?_ ?_; rotate_left 2
  ·intro K wx hS hK; go_simp; exact hK _ hS
  ·simp only [Act.put, zA, zB, zC]; rfl
 refine RS.go1 (v := ?_) (a' := ?_) rfl ?_ ?_ ?_; rotate_left 2
 ·intro K wx hS hK; go_simp; exact hK _ hS
 ·simp only [Act.put, zA, zB, zC]; rfl
 refine RS.go_end ?_; intro w6 m6; have v0 := (m6.cell (p := ⟨g7, 0, none⟩) g7h).trans s0; have v1 := (m6.cell (p := ⟨g7, 1, none⟩) g7h).trans s1; have v2 := (m6.cell (p := ⟨g7, 2, none⟩) g7h).trans s2; have v3 := (m6.cell (p := ⟨g7, 3, none⟩) g7h).trans s3; have g6h := Nat.lt_of_lt_of_le g7h m6.size; have LB6 : Hid (Below w.heap.size w w6) := LB5.out.trans (m6.mono LB5.out.size); have H6 : Hid (Sh s (.int .i64 k, .slice f1 f2 f3, .slice f4 f5 f6, .slice f7 f8 f9) w6) := Sh_below H5.out m6; have KY : Hid (Calls Try.prog 17 #[.int .i64 k, .slice f1 f2 f3, .string (Tr.st left)] w6 (WA s left w6)) := by
  have := way_any s left f1 f2 f3 w6 H6.out.2.1; rwa [← ek.out] at this
 clear m6 s0 s1 s2 s3 LB5 H5 g7h; go_wp2_with fail
 refine KY.out.mono ?_; rintro e w7 ⟨j, rest, b, rfl, b7, hw⟩; have q0 := (b7.cell (p := ⟨g7, 0, none⟩) g6h).trans v0; have q2 := (b7.cell (p := ⟨g7, 2, none⟩) g6h).trans v2; have q3 := (b7.cell (p := ⟨g7, 3, none⟩) g6h).trans v3; have g7h := Nat.lt_of_lt_of_le g6h b7.size; have LB7 : Hid (Below w.heap.size w w7) := LB6.out.trans (b7.mono LB6.out.size); have H7 : Hid (Sh s (.int .i64 k, .slice f1 f2 f3, .slice f4 f5 f6, .slice f7 f8 f9) w7) := Sh_below H6.out b7; clear b7 v0 v1 v2 v3 g6h LB6 H6 KY; rw [HW.out] at hw; obtain ⟨rfl, rfl⟩ := hw; go_upto_region 9 with fail
 refine RS.wp_region_flat (fun wx => Below w7.heap.size w7 wx) 11 (by kernel_rfl) (Below.refl _ _) ?_
 simp only [List.take_succ_cons, List.take_zero, List.drop_succ_cons, List.drop_zero]
 iterate 3
  refine RS.go1 (v := ?_) (a' := ?_) rfl ?_ ?_ ?_; rotate_left 2
  ·intro K wx hS hK; go_simp; exact hK _ hS
  ·simp only [Act.put, zA, zB, zC]; rfl
 iterate 7
  refine RS.go0 (a' := ?_) (by kernel_rfl) ?_ ?_; rotate_left 1
  ·simp only [Act.put, zA, zB, zC]; rfl
 refine RS.go1 (v := ?_) (a' := ?_) rfl ?_ ?_ ?_; rotate_left 2
 ·intro K wx hS hK; go_simp; exact hK _ hS
 ·simp only [Act.put, zA, zB, zC]; rfl
 refine RS.go_end ?_; intro w8 m8; have u2 := (m8.cell (p := ⟨g7, 2, none⟩) g7h).trans q2; have LB8 : Hid (Below w.heap.size w w8) := LB7.out.trans (m8.mono LB7.out.size); have H8 : Hid (Sh s (.int .i64 k, .slice f1 f2 f3, .slice f4 f5 f6, .slice f7 f8 f9) w8) := Sh_below H7.out m8; clear m8 q0 q2 q3 LB7 H7 g7h; obtain rfl : m = 1 := hm1.out; have HR : Hid (SDP (c :: r) false F left w (.returned (.tuple #[.slice f4 f5 f6, .int .i64 0])) w8) := ⟨_, by rw [HS.out], by rw [HS.out]; exact H8.out.2.2.1, LB8.out⟩
 rw [hh.out]; clear LB8 H8; go_wp2_with fail
 go_ret2
 exact HR.out
set_option maxHeartbeats 2000000 in
set_option maxRecDepth 100000 in
theorem sd_end2no (F : Nat → Int) (left : Bs) (first : Bool) (cc : Nat) (w : World) (m gp off : Nat) (hm : Hid (0 < m)) (c : Bs) (r : List Bs) (bo : Option Addr) (bc : Nat) (HP : Hid (w.cell? ⟨gp, off, none⟩ = some (.slice bo c.length bc) ∧ gp < w.heap.size)) (KS0 : Hid (∀ wx, Below w.heap.size w wx → Calls Try.prog 15 #[.slice bo c.length bc] wx fun e w' => e = .returned (Hv (sumf c)) ∧ Below wx.heap.size wx w')) (HQ : Hid (same 32 (sumf c) F = true)) (s : Shp) (z : Int) (KR : Hid (∀ wx, Below w.heap.size w wx → Calls Try.prog 16 #[.slice bo c.length bc] wx (PR wx s z))) (hz : Hid (z = 0)) (hf : Hid (first = false)) (hk : Hid (s.1 ≠ 0)) (HW : Hid (wk s left = none)) (hm1 : Hid (m = 1)) (hh : Hid (here s left = false)) (HS : Hid (sd (c :: r) first F left = ([], 0))) :
  Calls Try.prog 10 #[Hv F, .string (Tr.st left), .slice (some ⟨gp, off, none⟩) m cc, .bool first] w (SDP (c :: r) first F left w) := by
 obtain rfl := hf.out; have t0 : ((m : Int) == 0) = false := by rw [beq_eq_false_iff_ne]; have := hm.out; omega
 have t1 : ¬ m = 0 := by have := hm.out; omega
 have L1 : Hid ((0 : Int) < (m : Int)) := by have := hm.out; show _ < _; omega
 go_enter Try.func10, Try.ntmps10
 go_upto_region 1 with fail
 dsimp only [Hv]; have k0 := box_ck F w 23; have b0 : Below w.heap.size w (w.alloc (.cells (h32 F).toArray 23)) := (Below.refl _ _).alloc (Nat.le_refl _) _; have z0 : w.heap.size < (w.alloc (.cells (h32 F).toArray 23)).heap.size := by simp
 generalize w.alloc (.cells (h32 F).toArray 23) = W0 at k0 b0 z0 ⊢; generalize (h32 F).toArray = hF; have LB : Hid (Below w.heap.size w W0) := b0; obtain ⟨h, eh⟩ : ∃ h, h = w.heap.size := ⟨_, rfl⟩; rw [← eh] at k0 z0 ⊢; have CH : Hid (Sp.CK .u8 h 32 F W0 ∧ h < W0.heap.size) := ⟨k0, z0⟩; clear k0 b0 z0 eh; have CC : Hid (W0.cell? ⟨gp, off, none⟩ = some (.slice bo c.length bc) ∧ gp < W0.heap.size) := ⟨(LB.out.cell (p := ⟨gp, off, none⟩) HP.out.2).trans HP.out.1, Nat.lt_of_lt_of_le HP.out.2 LB.out.size⟩; have KS : Hid (∀ wx, Below W0.heap.size W0 wx → Calls Try.prog 15 #[.slice bo c.length bc] wx fun e w' => e = .returned (Hv (sumf c)) ∧ Below wx.heap.size wx w') := fun wx hb => KS0.out wx (LB.out.trans (hb.mono LB.out.size))
 go_upto_region 3 with fail
 refine RS.wp_region_one (fun wx => Below W0.heap.size W0 wx) (by kernel_rfl) (by kernel_rfl) ((Below.refl _ _).drew) ?_
 dsimp only [List.toList_toArray]; refine RS.go1 (v := ?_) (a' := ?_) rfl ?_ ?_ ?_; rotate_left 2
 ·intro K wx hS hK; go_simp; exact hK _ hS
 ·simp only [Act.put, zA, zB, zC]; rfl
 refine RS.go1 (v := ?_) (a' := ?_) rfl ?_ ?_ ?_; rotate_left 2
 ·intro K wx hS hK; have d1 := L1.out; have d2 := hm.out; go_simp; exact hK _ hS
 ·simp only [Act.put, zA, zB, zC]; rfl
 refine RS.go1 (v := ?_) (a' := ?_) rfl ?_ ?_ ?_; rotate_left 2
 ·intro K wx hS hK; have z2 := (hS.cell (p := ⟨gp, off, none⟩) CC.out.2).trans CC.out.1; go_simp; exact hK _ hS
 ·simp only [Act.put, zA, zB, zC]; rfl
 refine RS.go1 (v := ?_) (a' := ?_) rfl ?_ ?_ ?_; rotate_left 2
 ·intro K wx hS hK; go_simp; refine (KS.out wx hS).mono (fun e w2 he => ?_)
  refine ⟨_, he.1, ?_⟩; exact hK _ (RSb hS he.2)
 ·simp only [Act.put, zA, zB, zC]; rfl
 refine RS.go1 (v := ?_) (a' := ?_) rfl ?_ ?_ ?_; rotate_left 2
 ·intro K wx hS hK; refine Hh.ld rfl rfl (Sp.CK_below CH.out.1 hS CH.out.2) ?_; exact hK _ hS
 ·simp only [Act.put, zA, zB, zC]; rfl
 refine RS.go1 (v := ?_) (a' := ?_) rfl ?_ ?_ ?_; rotate_left 2
 ·intro K wx hS hK; refine Hh.neq (b := false) rfl rfl rfl (by rw [HQ.out]; rfl) ?_
  exact hK _ hS
 ·simp only [Act.put, zA, zB, zC]; rfl
 refine RS.go_end ?_; intro w3 m3; have LB3 : Hid (Below w.heap.size w w3) := LB.out.trans (m3.mono LB.out.size); have y0 := (m3.cell (p := ⟨gp, off, none⟩) CC.out.2).trans CC.out.1; have y1 := L1.out; have y2 := hm.out; clear m3 KS CH; go_wp2_with fail
 refine (KR.out _ LB3.out).mono ?_; rintro e w4 ⟨v, rfl, sh, b4, ⟨k, f1, f2, f3, f4, f5, f6, f7, f8, f9, rfl⟩⟩; have LB4 := LB3.out.trans (b4.mono LB3.out.size); have bB : Below w4.heap.size w4 (w4.alloc (.cells #[.int .i64 k, .slice f1 f2 f3, .slice f4 f5 f6, .slice f7 f8 f9] 34)) := (Below.refl _ _).alloc (Nat.le_refl _) _; have HB := heap_alloc_new w4 (.cells #[.int .i64 k, .slice f1 f2 f3, .slice f4 f5 f6, .slice f7 f8 f9] 34); have s0 : (w4.alloc (.cells #[.int .i64 k, .slice f1 f2 f3, .slice f4 f5 f6, .slice f7 f8 f9] 34)).cell? ⟨w4.heap.size, 0, none⟩ = some (.int .i64 k) := by simp only [World.cell?, HB]; rfl
 have s1 : (w4.alloc (.cells #[.int .i64 k, .slice f1 f2 f3, .slice f4 f5 f6, .slice f7 f8 f9] 34)).cell? ⟨w4.heap.size, 1, none⟩ = some (.slice f1 f2 f3) := by simp only [World.cell?, HB]; rfl
 have s2 : (w4.alloc (.cells #[.int .i64 k, .slice f1 f2 f3, .slice f4 f5 f6, .slice f7 f8 f9] 34)).cell? ⟨w4.heap.size, 2, none⟩ = some (.slice f4 f5 f6) := by simp only [World.cell?, HB]; rfl
 have s3 : (w4.alloc (.cells #[.int .i64 k, .slice f1 f2 f3, .slice f4 f5 f6, .slice f7 f8 f9] 34)).cell? ⟨w4.heap.size, 3, none⟩ = some (.slice f7 f8 f9) := by simp only [World.cell?, HB]; rfl
 have g7h : w4.heap.size < (w4.alloc (.cells #[.int .i64 k, .slice f1 f2 f3, .slice f4 f5 f6, .slice f7 f8 f9] 34)).heap.size := by simp
 have LB5 : Hid (Below w.heap.size w (w4.alloc (.cells #[.int .i64 k, .slice f1 f2 f3, .slice f4 f5 f6, .slice f7 f8 f9] 34))) := LB4.trans (bB.mono LB4.size); have H5 : Hid (Sh s (.int .i64 k, .slice f1 f2 f3, .slice f4 f5 f6, .slice f7 f8 f9) (w4.alloc (.cells #[.int .i64 k, .slice f1 f2 f3, .slice f4 f5 f6, .slice f7 f8 f9] 34))) := Sh_below sh bB; have ek : Hid (k = s.1) := by have := sh.1; injection this
 clear sh b4 LB4 bB HB LB3 KR y0; dsimp only [v4]; go_upto_region 6 with fail
 generalize w4.alloc (.cells #[.int .i64 k, .slice f1 f2 f3, .slice f4 f5 f6, .slice f7 f8 f9] 34) = W5 at s0 s1 s2 s3 LB5 H5 g7h ⊢; generalize w4.heap.size = g7 at s0 s1 s2 s3 g7h ⊢; obtain rfl : z = 0 := hz.out; have tk : (k == 0) = false := by rw [ek.out]; exact beq_eq_false_iff_ne.2 hk.out
 refine RS.wp_region_flat (fun wx => Below W5.heap.size W5 wx) 11 (by kernel_rfl) (Below.refl _ _) ?_
 simp only [List.take_succ_cons, List.take_zero, List.drop_succ_cons, List.drop_zero]
 iterate 3
  refine RS.go1 (v := ?_) (a' := ?_) rfl ?_ ?_ ?_; rotate_left 2
  ·intro K wx hS hK; go_simp; exact hK _ hS
  ·simp only [Act.put, zA, zB, zC]; rfl
 iterate 4
  refine RS.go1g (v := ?_) (a' := ?_) (by kernel_rfl) ?_ ?_ ?_; rotate_left 2
  ·intro K wx hS hK; go_simp; exact hK _ hS
  ·simp only [Act.put, zA, zB, zC]; rfl
 refine RS.go1g (v := ?_) (a' := ?_) (by kernel_rfl) ?_ ?_ ?_; rotate_left 2
 ·intro K wx hS hK; have z1 := (hS.cell (p := ⟨g7, 0, none⟩) g7h).trans s0; go_simp; exact hK _ hS
 ·simp only [Act.put, zA, zB, zC]; rfl
 iterate 2
  refine RS.go1g (v := ?_) (a' := ?_) (by kernel_rfl) ?_ ?_ ?_; rotate_left 2
  ·intro K wx hS hK; go_simp; exact hK _ hS
  ·simp only [Act.put, zA, zB, zC]; rfl
 refine RS.go1 (v := ?_) (a' := ?_) rfl ?_ ?_ ?_; rotate_left 2
 ·intro K wx hS hK; go_simp; exact hK _ hS
 ·simp only [Act.put, zA, zB, zC]; rfl
 refine RS.go_end ?_; intro w6 m6; have v0 := (m6.cell (p := ⟨g7, 0, none⟩) g7h).trans s0; have v1 := (m6.cell (p := ⟨g7, 1, none⟩) g7h).trans s1; have v2 := (m6.cell (p := ⟨g7, 2, none⟩) g7h).trans s2; have v3 := (m6.cell (p := ⟨g7, 3, none⟩) g7h).trans s3; have g6h := Nat.lt_of_lt_of_le g7h m6.size; have LB6 : Hid (Below w.heap.size w w6) := LB5.out.trans (m6.mono LB5.out.size); have H6 : Hid (Sh s (.int .i64 k, .slice f1 f2 f3, .slice f4 f5 f6, .slice f7 f8 f9) w6) := Sh_below H5.out m6; have KY : Hid (Calls Try.prog 17 #[.int .i64 k, .slice f1 f2 f3, .string (Tr.st left)] w6 (WA s left w6)) := by
  have := way_any s left f1 f2 f3 w6 H6.out.2.1; rwa [← ek.out] at this
 clear m6 s0 s1 s2 s3 LB5 H5 g7h; go_wp2_with fail
 refine KY.out.mono ?_; rintro e w7 ⟨j, rest, b, rfl, b7, hw⟩; have q0 := (b7.cell (p := ⟨g7, 0, none⟩) g6h).trans v0; have q2 := (b7.cell (p := ⟨g7, 2, none⟩) g6h).trans v2; have q3 := (b7.cell (p := ⟨g7, 3, none⟩) g6h).trans v3; have g7h := Nat.lt_of_lt_of_le g6h b7.size; have LB7 : Hid (Below w.heap.size w w7) := LB6.out.trans (b7.mono LB6.out.size); have H7 : Hid (Sh s (.int .i64 k, .slice f1 f2 f3, .slice f4 f5 f6, .slice f7 f8 f9) w7) := Sh_below H6.out b7; clear b7 v0 v1 v2 v3 g6h LB6 H6 KY; rw [HW.out] at hw; obtain ⟨rfl, rfl⟩ := hw; go_upto_region 9 with fail
 refine RS.wp_region_flat (fun wx => Below w7.heap.size w7 wx) 11 (by kernel_rfl) (Below.refl _ _) ?_
 simp only [List.take_succ_cons, List.take_zero, List.drop_succ_cons, List.drop_zero]
 iterate 3
  refine RS.go1 (v := ?_) (a' := ?_) rfl ?_ ?_ ?_; rotate_left 2
  ·intro K wx hS hK; go_simp; exact hK _ hS
  ·simp only [Act.put, zA, zB, zC]; rfl
 iterate 7
  refine RS.go0 (a' := ?_) (by kernel_rfl) ?_ ?_; rotate_left 1
  ·simp only [Act.put, zA, zB, zC]; rfl
 refine RS.go1 (v := ?_) (a' := ?_) rfl ?_ ?_ ?_; rotate_left 2
 ·intro K wx hS hK; go_simp; exact hK _ hS
 ·simp only [Act.put, zA, zB, zC]; rfl
 refine RS.go_end ?_; intro w8 m8; have u2 := (m8.cell (p := ⟨g7, 2, none⟩) g7h).trans q2; have LB8 : Hid (Below w.heap.size w w8) := LB7.out.trans (m8.mono LB7.out.size); have H8 : Hid (Sh s (.int .i64 k, .slice f1 f2 f3, .slice f4 f5 f6, .slice f7 f8 f9) w8) := Sh_below H7.out m8; clear m8 q0 q2 q3 LB7 H7 g7h; obtain rfl : m = 1 := hm1.out; have HR : Hid (SDP (c :: r) false F left w (.returned (.tuple #[.slice none 0 0, .int .i64 0])) w8) := ⟨_, by rw [HS.out], by rw [HS.out]; exact Pk.Sl_nil _, LB8.out⟩
 rw [hh.out]; clear LB8 H8; go_wp2_with fail
 go_ret2
 exact HR.out
end Pf
end Go.Proofs.Ytlbdaccmnpcccaa
namespace Go.Proofs.Ytlbdaccmnpcccaa
namespace Pf
open Rs Go.RowKit Sp
set_option maxHeartbeats 2000000 in
set_option maxRecDepth 100000 in
theorem sd_gap1much (F : Nat → Int) (left : Bs) (first : Bool) (cc : Nat) (w : World) (m gp off : Nat) (hm : Hid (0 < m)) (c : Bs) (r : List Bs) (bo : Option Addr) (bc : Nat) (HP : Hid (w.cell? ⟨gp, off, none⟩ = some (.slice bo c.length bc) ∧ gp < w.heap.size)) (KS0 : Hid (∀ wx, Below w.heap.size w wx → Calls Try.prog 15 #[.slice bo c.length bc] wx fun e w' => e = .returned (Hv (sumf c)) ∧ Below wx.heap.size wx w')) (HQ : Hid (same 32 (sumf c) F = true)) (s : Shp) (z : Int) (KR : Hid (∀ wx, Below w.heap.size w wx → Calls Try.prog 16 #[.slice bo c.length bc] wx (PR wx s z))) (hz : Hid (z = 0)) (hf : Hid (first = true)) (kk : Nat) (rst : Bs) (HW : Hid (wk s left = some (kk, rst))) (HKL : Hid (kk < s.2.2.2.length)) (HK0 : Hid ((s.2.2.2.getD kk []).length = 0)) (hm1 : Hid (1 < m)) (HS : Hid (sd (c :: r) first F left = ([], 6))) :
  Calls Try.prog 10 #[Hv F, .string (Tr.st left), .slice (some ⟨gp, off, none⟩) m cc, .bool first] w (SDP (c :: r) first F left w) := by
 obtain rfl := hf.out; have t0 : ((m : Int) == 0) = false := by rw [beq_eq_false_iff_ne]; have := hm.out; omega
 have t1 : ¬ m = 0 := by have := hm.out; omega
 have L1 : Hid ((0 : Int) < (m : Int)) := by have := hm.out; show _ < _; omega
 go_enter Try.func10, Try.ntmps10
 go_upto_region 1 with fail
 dsimp only [Hv]; have k0 := box_ck F w 23; have b0 : Below w.heap.size w (w.alloc (.cells (h32 F).toArray 23)) := (Below.refl _ _).alloc (Nat.le_refl _) _; have z0 : w.heap.size < (w.alloc (.cells (h32 F).toArray 23)).heap.size := by simp
 generalize w.alloc (.cells (h32 F).toArray 23) = W0 at k0 b0 z0 ⊢; generalize (h32 F).toArray = hF; have LB : Hid (Below w.heap.size w W0) := b0; obtain ⟨h, eh⟩ : ∃ h, h = w.heap.size := ⟨_, rfl⟩; rw [← eh] at k0 z0 ⊢; have CH : Hid (Sp.CK .u8 h 32 F W0 ∧ h < W0.heap.size) := ⟨k0, z0⟩; clear k0 b0 z0 eh; have CC : Hid (W0.cell? ⟨gp, off, none⟩ = some (.slice bo c.length bc) ∧ gp < W0.heap.size) := ⟨(LB.out.cell (p := ⟨gp, off, none⟩) HP.out.2).trans HP.out.1, Nat.lt_of_lt_of_le HP.out.2 LB.out.size⟩; have KS : Hid (∀ wx, Below W0.heap.size W0 wx → Calls Try.prog 15 #[.slice bo c.length bc] wx fun e w' => e = .returned (Hv (sumf c)) ∧ Below wx.heap.size wx w') := fun wx hb => KS0.out wx (LB.out.trans (hb.mono LB.out.size))
 go_upto_region 3 with fail
 refine RS.wp_region_one (fun wx => Below W0.heap.size W0 wx) (by kernel_rfl) (by kernel_rfl) ((Below.refl _ _).drew) ?_
 dsimp only [List.toList_toArray]; refine RS.go1 (v := ?_) (a' := ?_) rfl ?_ ?_ ?_; rotate_left 2
 ·intro K wx hS hK; go_simp; exact hK _ hS
 ·simp only [Act.put, zA, zB, zC]; rfl
 refine RS.go1 (v := ?_) (a' := ?_) rfl ?_ ?_ ?_; rotate_left 2
 ·intro K wx hS hK; have d1 := L1.out; have d2 := hm.out; go_simp; exact hK _ hS
 ·simp only [Act.put, zA, zB, zC]; rfl
 refine RS.go1 (v := ?_) (a' := ?_) rfl ?_ ?_ ?_; rotate_left 2
 ·intro K wx hS hK; have z2 := (hS.cell (p := ⟨gp, off, none⟩) CC.out.2).trans CC.out.1; go_simp; exact hK _ hS
 ·simp only [Act.put, zA, zB, zC]; rfl
 refine RS.go1 (v := ?_) (a' := ?_) rfl ?_ ?_ ?_; rotate_left 2
 ·intro K wx hS hK; go_simp; refine (KS.out wx hS).mono (fun e w2 he => ?_)
  refine ⟨_, he.1, ?_⟩; exact hK _ (RSb hS he.2)
 ·simp only [Act.put, zA, zB, zC]; rfl
 refine RS.go1 (v := ?_) (a' := ?_) rfl ?_ ?_ ?_; rotate_left 2
 ·intro K wx hS hK; refine Hh.ld rfl rfl (Sp.CK_below CH.out.1 hS CH.out.2) ?_; exact hK _ hS
 ·simp only [Act.put, zA, zB, zC]; rfl
 refine RS.go1 (v := ?_) (a' := ?_) rfl ?_ ?_ ?_; rotate_left 2
 ·intro K wx hS hK; refine Hh.neq (b := false) rfl rfl rfl (by rw [HQ.out]; rfl) ?_
  exact hK _ hS
 ·simp only [Act.put, zA, zB, zC]; rfl
 refine RS.go_end ?_; intro w3 m3; have LB3 : Hid (Below w.heap.size w w3) := LB.out.trans (m3.mono LB.out.size); have y0 := (m3.cell (p := ⟨gp, off, none⟩) CC.out.2).trans CC.out.1; have y1 := L1.out; have y2 := hm.out; clear m3 KS CH; go_wp2_with fail
 refine (KR.out _ LB3.out).mono ?_; rintro e w4 ⟨v, rfl, sh, b4, ⟨k, f1, f2, f3, f4, f5, f6, f7, f8, f9, rfl⟩⟩; have LB4 := LB3.out.trans (b4.mono LB3.out.size); have bB : Below w4.heap.size w4 (w4.alloc (.cells #[.int .i64 k, .slice f1 f2 f3, .slice f4 f5 f6, .slice f7 f8 f9] 34)) := (Below.refl _ _).alloc (Nat.le_refl _) _; have HB := heap_alloc_new w4 (.cells #[.int .i64 k, .slice f1 f2 f3, .slice f4 f5 f6, .slice f7 f8 f9] 34); have s0 : (w4.alloc (.cells #[.int .i64 k, .slice f1 f2 f3, .slice f4 f5 f6, .slice f7 f8 f9] 34)).cell? ⟨w4.heap.size, 0, none⟩ = some (.int .i64 k) := by simp only [World.cell?, HB]; rfl
 have s1 : (w4.alloc (.cells #[.int .i64 k, .slice f1 f2 f3, .slice f4 f5 f6, .slice f7 f8 f9] 34)).cell? ⟨w4.heap.size, 1, none⟩ = some (.slice f1 f2 f3) := by simp only [World.cell?, HB]; rfl
 have s2 : (w4.alloc (.cells #[.int .i64 k, .slice f1 f2 f3, .slice f4 f5 f6, .slice f7 f8 f9] 34)).cell? ⟨w4.heap.size, 2, none⟩ = some (.slice f4 f5 f6) := by simp only [World.cell?, HB]; rfl
 have s3 : (w4.alloc (.cells #[.int .i64 k, .slice f1 f2 f3, .slice f4 f5 f6, .slice f7 f8 f9] 34)).cell? ⟨w4.heap.size, 3, none⟩ = some (.slice f7 f8 f9) := by simp only [World.cell?, HB]; rfl
 have g7h : w4.heap.size < (w4.alloc (.cells #[.int .i64 k, .slice f1 f2 f3, .slice f4 f5 f6, .slice f7 f8 f9] 34)).heap.size := by simp
 have LB5 : Hid (Below w.heap.size w (w4.alloc (.cells #[.int .i64 k, .slice f1 f2 f3, .slice f4 f5 f6, .slice f7 f8 f9] 34))) := LB4.trans (bB.mono LB4.size); have H5 : Hid (Sh s (.int .i64 k, .slice f1 f2 f3, .slice f4 f5 f6, .slice f7 f8 f9) (w4.alloc (.cells #[.int .i64 k, .slice f1 f2 f3, .slice f4 f5 f6, .slice f7 f8 f9] 34))) := Sh_below sh bB; have ek : Hid (k = s.1) := by have := sh.1; injection this
 clear sh b4 LB4 bB HB LB3 KR y0; dsimp only [v4]; go_upto_region 6 with fail
 generalize w4.alloc (.cells #[.int .i64 k, .slice f1 f2 f3, .slice f4 f5 f6, .slice f7 f8 f9] 34) = W5 at s0 s1 s2 s3 LB5 H5 g7h ⊢; generalize w4.heap.size = g7 at s0 s1 s2 s3 g7h ⊢; obtain rfl : z = 0 := hz.out; refine RS.wp_region_flat (fun wx => Below W5.heap.size W5 wx) 11 (by kernel_rfl) (Below.refl _ _) ?_
 simp only [List.take_succ_cons, List.take_zero, List.drop_succ_cons, List.drop_zero]
 iterate 3
  refine RS.go1 (v := ?_) (a' := ?_) rfl ?_ ?_ ?_; rotate_left 2
  ·intro K wx hS hK; go_simp; exact hK _ hS
  ·simp only [Act.put, zA, zB, zC]; rfl
 iterate 3
  refine RS.go1g (v := ?_) (a' := ?_) (by kernel_rfl) ?_ ?_ ?_; rotate_left 2
  ·intro K wx hS hK; go_simp; exact hK _ hS
  ·simp only [Act.put, zA, zB, zC]; rfl
 iterate 3
  refine RS.go0 (a' := ?_) (by kernel_rfl) ?_ ?_; rotate_left 1
  ·simp only [Act.put, zA, zB, zC]; rfl
 refine RS.go1g (v := ?_) (a' := ?_) (by kernel_rfl) ?_ ?_ ?_; rotate_left 2
 ·intro K wx hS hK; go_simp; exact hK _ hS
 ·simp only [Act.put, zA, zB, zC]; rfl
 refine RS.go1 (v := ?_) (a' := ?_) rfl ?_ ?_ ?_; rotate_left 2
 ·intro K wx hS hK; go_simp; exact hK _ hS
 ·simp only [Act.put, zA, zB, zC]; rfl
 refine RS.go_end ?_; intro w6 m6; have v0 := (m6.cell (p := ⟨g7, 0, none⟩) g7h).trans s0; have v1 := (m6.cell (p := ⟨g7, 1, none⟩) g7h).trans s1; have v2 := (m6.cell (p := ⟨g7, 2, none⟩) g7h).trans s2; have v3 := (m6.cell (p := ⟨g7, 3, none⟩) g7h).trans s3; have g6h := Nat.lt_of_lt_of_le g7h m6.size; have LB6 : Hid (Below w.heap.size w w6) := LB5.out.trans (m6.mono LB5.out.size); have H6 : Hid (Sh s (.int .i64 k, .slice f1 f2 f3, .slice f4 f5 f6, .slice f7 f8 f9) w6) := Sh_below H5.out m6; have KY : Hid (Calls Try.prog 17 #[.int .i64 k, .slice f1 f2 f3, .string (Tr.st left)] w6 (WA s left w6)) := by
  have := way_any s left f1 f2 f3 w6 H6.out.2.1; rwa [← ek.out] at this
 clear m6 s0 s1 s2 s3 LB5 H5 g7h; go_wp2_with fail
 refine KY.out.mono ?_; rintro e w7 ⟨j, rest, b, rfl, b7, hw⟩; have q0 := (b7.cell (p := ⟨g7, 0, none⟩) g6h).trans v0; have q2 := (b7.cell (p := ⟨g7, 2, none⟩) g6h).trans v2; have q3 := (b7.cell (p := ⟨g7, 3, none⟩) g6h).trans v3; have g7h := Nat.lt_of_lt_of_le g6h b7.size; have LB7 : Hid (Below w.heap.size w w7) := LB6.out.trans (b7.mono LB6.out.size); have H7 : Hid (Sh s (.int .i64 k, .slice f1 f2 f3, .slice f4 f5 f6, .slice f7 f8 f9) w7) := Sh_below H6.out b7; clear b7 v0 v1 v2 v3 g6h LB6 H6 KY; rw [HW.out] at hw; obtain ⟨rfl, rfl, rfl⟩ := hw; obtain ⟨ra, rcp, er, hrow⟩ := H7.out.2.2.2; have e8 : f8 = s.2.2.2.length := by injection er
 have e7 : f7 = ra := by injection er
 obtain ⟨gr, ofr, e6, hgr, hcr⟩ := hrow (by have := HKL.out; omega)
 obtain ⟨vk, ck, slk⟩ := hcr kk HKL.out; obtain ⟨ka, kc, evk⟩ := Sl_fm slk; rw [evk] at ck slk; have E7 : Hid (f7 = some ⟨gr, ofr, none⟩) := e7.trans e6; obtain rfl := E7.out; have KL : Hid ((kk : Int) < (f8 : Int)) := by have := HKL.out; show _ < _; omega
 have KL2 : Hid (kk < f8) := by have := HKL.out; show _ < _; omega
 have CK1 : Hid (w7.cell? ⟨gr, ofr + kk, none⟩ = some (.slice ka (s.2.2.2.getD kk []).length kc) ∧ gr < w7.heap.size) := ⟨ck, hgr⟩; have SK : Hid (Pk.Sl (s.2.2.2.getD kk []) (.slice ka (s.2.2.2.getD kk []).length kc) w7) := slk; clear er hrow e8 e7 hcr ck slk evk e6 E7 hgr; generalize hkd : s.2.2.2.getD kk [] = kd at *; go_upto_region 9 with fail
 refine RS.wp_region_flat (fun wx => Below w7.heap.size w7 wx) 11 (by kernel_rfl) (Below.refl _ _) ?_
 simp only [List.take_succ_cons, List.take_zero, List.drop_succ_cons, List.drop_zero]; refine RS.go1 (v := ?_) (a' := ?_) rfl ?_ ?_ ?_; rotate_left 2
 ·intro K wx hS hK; go_simp; exact hK _ hS
 ·simp only [Act.put, zA, zB, zC]; rfl
 refine RS.go1 (v := ?_) (a' := ?_) rfl ?_ ?_ ?_; rotate_left 2
 ·intro K wx hS hK; have d0 : (0 : Int) ≤ (kk : Int) := by omega
  go_simp; exact hK _ hS
 ·simp only [Act.put, zA, zB, zC]; rfl
 refine RS.go1 (v := ?_) (a' := ?_) rfl ?_ ?_ ?_; rotate_left 2
 ·intro K wx hS hK; go_simp; exact hK _ hS
 ·simp only [Act.put, zA, zB, zC]; rfl
 refine RS.go1g (v := ?_) (a' := ?_) (by kernel_rfl) ?_ ?_ ?_; rotate_left 2
 ·intro K wx hS hK; go_simp; exact hK _ hS
 ·simp only [Act.put, zA, zB, zC]; rfl
 refine RS.go1g (v := ?_) (a' := ?_) (by kernel_rfl) ?_ ?_ ?_; rotate_left 2
 ·intro K wx hS hK; have z3 := (hS.cell (p := ⟨g7, 3, none⟩) g7h).trans q3; go_simp; exact hK _ hS
 ·simp only [Act.put, zA, zB, zC]; rfl
 refine RS.go1g (v := ?_) (a' := ?_) (by kernel_rfl) ?_ ?_ ?_; rotate_left 2
 ·intro K wx hS hK; go_simp; exact hK _ hS
 ·simp only [Act.put, zA, zB, zC]; rfl
 refine RS.go1g (v := ?_) (a' := ?_) (by kernel_rfl) ?_ ?_ ?_; rotate_left 2
 ·intro K wx hS hK; have d0 : (0 : Int) ≤ (kk : Int) := by omega
  have d1 := KL.out; have d2 := KL2.out; go_simp; exact hK _ hS
 ·simp only [Act.put, zA, zB, zC]; rfl
 refine RS.go1g (v := ?_) (a' := ?_) (by kernel_rfl) ?_ ?_ ?_; rotate_left 2
 ·intro K wx hS hK; have z4 := (hS.cell (p := ⟨gr, ofr + kk, none⟩) CK1.out.2).trans CK1.out.1; go_simp; exact hK _ hS
 ·simp only [Act.put, zA, zB, zC]; rfl
 refine RS.go1g (v := ?_) (a' := ?_) (by kernel_rfl) ?_ ?_ ?_; rotate_left 2
 ·intro K wx hS hK; go_simp; exact hK _ hS
 ·simp only [Act.put, zA, zB, zC]; rfl
 refine RS.go1g (v := ?_) (a' := ?_) (by kernel_rfl) ?_ ?_ ?_; rotate_left 2
 ·intro K wx hS hK; have d3 := HK0.out; go_simp; exact hK _ hS
 ·simp only [Act.put, zA, zB, zC]; rfl
 refine RS.go1 (v := ?_) (a' := ?_) rfl ?_ ?_ ?_; rotate_left 2
 ·intro K wx hS hK; go_simp; exact hK _ hS
 ·simp only [Act.put, zA, zB, zC]; rfl
 refine RS.go_end ?_; intro w8 m8; have u2 := (m8.cell (p := ⟨g7, 2, none⟩) g7h).trans q2; have LB8 : Hid (Below w.heap.size w w8) := LB7.out.trans (m8.mono LB7.out.size); have H8 : Hid True := trivial; clear m8 q0 q2 q3 LB7 H7 g7h CK1 SK KL KL2; have d9 : (1 : Int) < (m : Int) := by have := hm1.out; omega
 have d8 : 1 < m := hm1.out; have HR : Hid (SDP (c :: r) true F left w (.returned (.tuple #[.slice none 0 0, .int .i64 6])) w8) := sdp_bad HS.out LB8.out; clear LB8 H8 u2; go_wp2_with fail
 go_ret2
 exact HR.out
set_option maxHeartbeats 2000000 in
set_option maxRecDepth 100000 in
theorem sd_gap1no (F : Nat → Int) (left : Bs) (first : Bool) (cc : Nat) (w : World) (m gp off : Nat) (hm : Hid (0 < m)) (c : Bs) (r : List Bs) (bo : Option Addr) (bc : Nat) (HP : Hid (w.cell? ⟨gp, off, none⟩ = some (.slice bo c.length bc) ∧ gp < w.heap.size)) (KS0 : Hid (∀ wx, Below w.heap.size w wx → Calls Try.prog 15 #[.slice bo c.length bc] wx fun e w' => e = .returned (Hv (sumf c)) ∧ Below wx.heap.size wx w')) (HQ : Hid (same 32 (sumf c) F = true)) (s : Shp) (z : Int) (KR : Hid (∀ wx, Below w.heap.size w wx → Calls Try.prog 16 #[.slice bo c.length bc] wx (PR wx s z))) (hz : Hid (z = 0)) (hf : Hid (first = true)) (kk : Nat) (rst : Bs) (HW : Hid (wk s left = some (kk, rst))) (HKL : Hid (kk < s.2.2.2.length)) (HK0 : Hid ((s.2.2.2.getD kk []).length = 0)) (hm1 : Hid (m = 1)) (HS : Hid (sd (c :: r) first F left = ([], 0))) :
  Calls Try.prog 10 #[Hv F, .string (Tr.st left), .slice (some ⟨gp, off, none⟩) m cc, .bool first] w (SDP (c :: r) first F left w) := by
 obtain rfl := hf.out; have t0 : ((m : Int) == 0) = false := by rw [beq_eq_false_iff_ne]; have := hm.out; omega
 have t1 : ¬ m = 0 := by have := hm.out; omega
 have L1 : Hid ((0 : Int) < (m : Int)) := by have := hm.out; show _ < _; omega
 go_enter Try.func10, Try.ntmps10
 go_upto_region 1 with fail
 dsimp only [Hv]; have k0 := box_ck F w 23; have b0 : Below w.heap.size w (w.alloc (.cells (h32 F).toArray 23)) := (Below.refl _ _).alloc (Nat.le_refl _) _; have z0 : w.heap.size < (w.alloc (.cells (h32 F).toArray 23)).heap.size := by simp
 generalize w.alloc (.cells (h32 F).toArray 23) = W0 at k0 b0 z0 ⊢; generalize (h32 F).toArray = hF; have LB : Hid (Below w.heap.size w W0) := b0; obtain ⟨h, eh⟩ : ∃ h, h = w.heap.size := ⟨_, rfl⟩; rw [← eh] at k0 z0 ⊢; have CH : Hid (Sp.CK .u8 h 32 F W0 ∧ h < W0.heap.size) := ⟨k0, z0⟩; clear k0 b0 z0 eh; have CC : Hid (W0.cell? ⟨gp, off, none⟩ = some (.slice bo c.length bc) ∧ gp < W0.heap.size) := ⟨(LB.out.cell (p := ⟨gp, off, none⟩) HP.out.2).trans HP.out.1, Nat.lt_of_lt_of_le HP.out.2 LB.out.size⟩; have KS : Hid (∀ wx, Below W0.heap.size W0 wx → Calls Try.prog 15 #[.slice bo c.length bc] wx fun e w' => e = .returned (Hv (sumf c)) ∧ Below wx.heap.size wx w') := fun wx hb => KS0.out wx (LB.out.trans (hb.mono LB.out.size))
 go_upto_region 3 with fail
 refine RS.wp_region_one (fun wx => Below W0.heap.size W0 wx) (by kernel_rfl) (by kernel_rfl) ((Below.refl _ _).drew) ?_
 dsimp only [List.toList_toArray]; refine RS.go1 (v := ?_) (a' := ?_) rfl ?_ ?_ ?_; rotate_left 2
 ·intro K wx hS hK; go_simp; exact hK _ hS
 ·simp only [Act.put, zA, zB, zC]; rfl
 refine RS.go1 (v := ?_) (a' := ?_) rfl ?_ ?_ ?_; rotate_left 2
 ·intro K wx hS hK; have d1 := L1.out; have d2 := hm.out; go_simp; exact hK _ hS
 ·simp only [Act.put, zA, zB, zC]; rfl
 refine RS.go1 (v := ?_) (a' := ?_) rfl ?_ ?_ ?_; rotate_left 2
 ·intro K wx hS hK; have z2 := (hS.cell (p := ⟨gp, off, none⟩) CC.out.2).trans CC.out.1; go_simp; exact hK _ hS
 ·simp only [Act.put, zA, zB, zC]; rfl
 refine RS.go1 (v := ?_) (a' := ?_) rfl ?_ ?_ ?_; rotate_left 2
 ·intro K wx hS hK; go_simp; refine (KS.out wx hS).mono (fun e w2 he => ?_)
  refine ⟨_, he.1, ?_⟩; exact hK _ (RSb hS he.2)
 ·simp only [Act.put, zA, zB, zC]; rfl
 refine RS.go1 (v := ?_) (a' := ?_) rfl ?_ ?_ ?_; rotate_left 2
 ·intro K wx hS hK; refine Hh.ld rfl rfl (Sp.CK_below CH.out.1 hS CH.out.2) ?_; exact hK _ hS
 ·simp only [Act.put, zA, zB, zC]; rfl
 refine RS.go1 (v := ?_) (a' := ?_) rfl ?_ ?_ ?_; rotate_left 2
 ·intro K wx hS hK; refine Hh.neq (b := false) rfl rfl rfl (by rw [HQ.out]; rfl) ?_
  exact hK _ hS
 ·simp only [Act.put, zA, zB, zC]; rfl
 refine RS.go_end ?_; intro w3 m3; have LB3 : Hid (Below w.heap.size w w3) := LB.out.trans (m3.mono LB.out.size); have y0 := (m3.cell (p := ⟨gp, off, none⟩) CC.out.2).trans CC.out.1; have y1 := L1.out; have y2 := hm.out; clear m3 KS CH; go_wp2_with fail
 refine (KR.out _ LB3.out).mono ?_; rintro e w4 ⟨v, rfl, sh, b4, ⟨k, f1, f2, f3, f4, f5, f6, f7, f8, f9, rfl⟩⟩; have LB4 := LB3.out.trans (b4.mono LB3.out.size); have bB : Below w4.heap.size w4 (w4.alloc (.cells #[.int .i64 k, .slice f1 f2 f3, .slice f4 f5 f6, .slice f7 f8 f9] 34)) := (Below.refl _ _).alloc (Nat.le_refl _) _; have HB := heap_alloc_new w4 (.cells #[.int .i64 k, .slice f1 f2 f3, .slice f4 f5 f6, .slice f7 f8 f9] 34); have s0 : (w4.alloc (.cells #[.int .i64 k, .slice f1 f2 f3, .slice f4 f5 f6, .slice f7 f8 f9] 34)).cell? ⟨w4.heap.size, 0, none⟩ = some (.int .i64 k) := by simp only [World.cell?, HB]; rfl
 have s1 : (w4.alloc (.cells #[.int .i64 k, .slice f1 f2 f3, .slice f4 f5 f6, .slice f7 f8 f9] 34)).cell? ⟨w4.heap.size, 1, none⟩ = some (.slice f1 f2 f3) := by simp only [World.cell?, HB]; rfl
 have s2 : (w4.alloc (.cells #[.int .i64 k, .slice f1 f2 f3, .slice f4 f5 f6, .slice f7 f8 f9] 34)).cell? ⟨w4.heap.size, 2, none⟩ = some (.slice f4 f5 f6) := by simp only [World.cell?, HB]; rfl
 have s3 : (w4.alloc (.cells #[.int .i64 k, .slice f1 f2 f3, .slice f4 f5 f6, .slice f7 f8 f9] 34)).cell? ⟨w4.heap.size, 3, none⟩ = some (.slice f7 f8 f9) := by simp only [World.cell?, HB]; rfl
 have g7h : w4.heap.size < (w4.alloc (.cells #[.int .i64 k, .slice f1 f2 f3, .slice f4 f5 f6, .slice f7 f8 f9] 34)).heap.size := by simp
 have LB5 : Hid (Below w.heap.size w (w4.alloc (.cells #[.int .i64 k, .slice f1 f2 f3, .slice f4 f5 f6, .slice f7 f8 f9] 34))) := LB4.trans (bB.mono LB4.size); have H5 : Hid (Sh s (.int .i64 k, .slice f1 f2 f3, .slice f4 f5 f6, .slice f7 f8 f9) (w4.alloc (.cells #[.int .i64 k, .slice f1 f2 f3, .slice f4 f5 f6, .slice f7 f8 f9] 34))) := Sh_below sh bB; have ek : Hid (k = s.1) := by have := sh.1; injection this
 clear sh b4 LB4 bB HB LB3 KR y0; dsimp only [v4]; go_upto_region 6 with fail
 generalize w4.alloc (.cells #[.int .i64 k, .slice f1 f2 f3, .slice f4 f5 f6, .slice f7 f8 f9] 34) = W5 at s0 s1 s2 s3 LB5 H5 g7h ⊢; generalize w4.heap.size = g7 at s0 s1 s2 s3 g7h ⊢; obtain rfl : z = 0 := hz.out; refine RS.wp_region_flat (fun wx => Below W5.heap.size W5 wx) 11 (by kernel_rfl) (Below.refl _ _) ?_
 simp only [List.take_succ_cons, List.take_zero, List.drop_succ_cons, List.drop_zero]
 iterate 3
  refine RS.go1 (v := ?_) (a' := ?_) rfl ?_ ?_ ?_; rotate_left 2
  ·intro K wx hS hK; go_simp; exact hK _ hS
  ·simp only [Act.put, zA, zB, zC]; rfl
 iterate 3
  refine RS.go1g (v := ?_) (a' := ?_) (by kernel_rfl) ?_ ?_ ?_; rotate_left 2
  ·intro K wx hS hK; go_simp; exact hK _ hS
  ·simp only [Act.put, zA, zB, zC]; rfl
 iterate 3
  refine RS.go0 (a' := ?_) (by kernel_rfl) ?_ ?_; rotate_left 1
  ·simp only [Act.put, zA, zB, zC]; rfl
 refine RS.go1g (v := ?_) (a' := ?_) (by kernel_rfl) ?_ ?_ ?_; rotate_left 2
 ·intro K wx hS hK; go_simp; exact hK _ hS
 ·simp only [Act.put, zA, zB, zC]; rfl
 refine RS.go1 (v := ?_) (a' := ?_) rfl ?_ ?_ ?_; rotate_left 2
 ·intro K wx hS hK; go_simp; exact hK _ hS
 ·simp only [Act.put, zA, zB, zC]; rfl
 refine RS.go_end ?_; intro w6 m6; have v0 := (m6.cell (p := ⟨g7, 0, none⟩) g7h).trans s0; have v1 := (m6.cell (p := ⟨g7, 1, none⟩) g7h).trans s1; have v2 := (m6.cell (p := ⟨g7, 2, none⟩) g7h).trans s2; have v3 := (m6.cell (p := ⟨g7, 3, none⟩) g7h).trans s3; have g6h := Nat.lt_of_lt_of_le g7h m6.size; have LB6 : Hid (Below w.heap.size w w6) := LB5.out.trans (m6.mono LB5.out.size); have H6 : Hid (Sh s (.int .i64 k, .slice f1 f2 f3, .slice f4 f5 f6, .slice f7 f8 f9) w6) := Sh_below H5.out m6; have KY : Hid (Calls Try.prog 17 #[.int .i64 k, .slice f1 f2 f3, .string (Tr.st left)] w6 (WA s left w6)) := by
  have := way_any s left f1 f2 f3 w6 H6.out.2.1; rwa [← ek.out] at this
 clear m6 s0 s1 s2 s3 LB5 H5 g7h; go_wp2_with fail
 refine KY.out.mono ?_; rintro e w7 ⟨j, rest, b, rfl, b7, hw⟩; have q0 := (b7.cell (p := ⟨g7, 0, none⟩) g6h).trans v0; have q2 := (b7.cell (p := ⟨g7, 2, none⟩) g6h).trans v2; have q3 := (b7.cell (p := ⟨g7, 3, none⟩) g6h).trans v3; have g7h := Nat.lt_of_lt_of_le g6h b7.size; have LB7 : Hid (Below w.heap.size w w7) := LB6.out.trans (b7.mono LB6.out.size); have H7 : Hid (Sh s (.int .i64 k, .slice f1 f2 f3, .slice f4 f5 f6, .slice f7 f8 f9) w7) := Sh_below H6.out b7; clear b7 v0 v1 v2 v3 g6h LB6 H6 KY; rw [HW.out] at hw; obtain ⟨rfl, rfl, rfl⟩ := hw; obtain ⟨ra, rcp, er, hrow⟩ := H7.out.2.2.2; have e8 : f8 = s.2.2.2.length := by injection er
 have e7 : f7 = ra := by injection er
 obtain ⟨gr, ofr, e6, hgr, hcr⟩ := hrow (by have := HKL.out; omega)
 obtain ⟨vk, ck, slk⟩ := hcr kk HKL.out; obtain ⟨ka, kc, evk⟩ := Sl_fm slk; rw [evk] at ck slk; have E7 : Hid (f7 = some ⟨gr, ofr, none⟩) := e7.trans e6; obtain rfl := E7.out; have KL : Hid ((kk : Int) < (f8 : Int)) := by have := HKL.out; show _ < _; omega
 have KL2 : Hid (kk < f8) := by have := HKL.out; show _ < _; omega
 have CK1 : Hid (w7.cell? ⟨gr, ofr + kk, none⟩ = some (.slice ka (s.2.2.2.getD kk []).length kc) ∧ gr < w7.heap.size) := ⟨ck, hgr⟩; have SK : Hid (Pk.Sl (s.2.2.2.getD kk []) (.slice ka (s.2.2.2.getD kk []).length kc) w7) := slk; clear er hrow e8 e7 hcr ck slk evk e6 E7 hgr; generalize hkd : s.2.2.2.getD kk [] = kd at *; go_upto_region 9 with fail
 refine RS.wp_region_flat (fun wx => Below w7.heap.size w7 wx) 11 (by kernel_rfl) (Below.refl _ _) ?_
 simp only [List.take_succ_cons, List.take_zero, List.drop_succ_cons, List.drop_zero]; refine RS.go1 (v := ?_) (a' := ?_) rfl ?_ ?_ ?_; rotate_left 2
 ·intro K wx hS hK; go_simp; exact hK _ hS
 ·simp only [Act.put, zA, zB, zC]; rfl
 refine RS.go1 (v := ?_) (a' := ?_) rfl ?_ ?_ ?_; rotate_left 2
 ·intro K wx hS hK; have d0 : (0 : Int) ≤ (kk : Int) := by omega
  go_simp; exact hK _ hS
 ·simp only [Act.put, zA, zB, zC]; rfl
 refine RS.go1 (v := ?_) (a' := ?_) rfl ?_ ?_ ?_; rotate_left 2
 ·intro K wx hS hK; go_simp; exact hK _ hS
 ·simp only [Act.put, zA, zB, zC]; rfl
 refine RS.go1g (v := ?_) (a' := ?_) (by kernel_rfl) ?_ ?_ ?_; rotate_left 2
 ·intro K wx hS hK; go_simp; exact hK _ hS
 ·simp only [Act.put, zA, zB, zC]; rfl
 refine RS.go1g (v := ?_) (a' := ?_) (by kernel_rfl) ?_ ?_ ?_; rotate_left 2
 ·intro K wx hS hK; have z3 := (hS.cell (p := ⟨g7, 3, none⟩) g7h).trans q3; go_simp; exact hK _ hS
 ·simp only [Act.put, zA, zB, zC]; rfl
 refine RS.go1g (v := ?_) (a' := ?_) (by kernel_rfl) ?_ ?_ ?_; rotate_left 2
 ·intro K wx hS hK; go_simp; exact hK _ hS
 ·simp only [Act.put, zA, zB, zC]; rfl
 refine RS.go1g (v := ?_) (a' := ?_) (by kernel_rfl) ?_ ?_ ?_; rotate_left 2
 ·intro K wx hS hK; have d0 : (0 : Int) ≤ (kk : Int) := by omega
  have d1 := KL.out; have d2 := KL2.out; go_simp; exact hK _ hS
 ·simp only [Act.put, zA, zB, zC]; rfl
 refine RS.go1g (v := ?_) (a' := ?_) (by kernel_rfl) ?_ ?_ ?_; rotate_left 2
 ·intro K wx hS hK; have z4 := (hS.cell (p := ⟨gr, ofr + kk, none⟩) CK1.out.2).trans CK1.out.1; go_simp; exact hK _ hS
 ·simp only [Act.put, zA, zB, zC]; rfl
 refine RS.go1g (v := ?_) (a' := ?_) (by kernel_rfl) ?_ ?_ ?_; rotate_left 2
 ·intro K wx hS hK; go_simp; exact hK _ hS
 ·simp only [Act.put, zA, zB, zC]; rfl
 refine RS.go1g (v := ?_) (a' := ?_) (by kernel_rfl) ?_ ?_ ?_; rotate_left 2
 ·intro K wx hS hK; have d3 := HK0.out; go_simp; exact hK _ hS
 ·simp only [Act.put, zA, zB, zC]; rfl
 refine RS.go1 (v := ?_) (a' := ?_) rfl ?_ ?_ ?_; rotate_left 2
 ·intro K wx hS hK; go_simp; exact hK _ hS
 ·simp only [Act.put, zA, zB, zC]; rfl
 refine RS.go_end ?_; intro w8 m8; have u2 := (m8.cell (p := ⟨g7, 2, none⟩) g7h).trans q2; have LB8 : Hid (Below w.heap.size w w8) := LB7.out.trans (m8.mono LB7.out.size); have H8 : Hid True := trivial; clear m8 q0 q2 q3 LB7 H7 g7h CK1 SK KL KL2; obtain rfl : m = 1 := hm1.out; have HR : Hid (SDP (c :: r) true F left w (.returned (.tuple #[.slice none 0 0, .int .i64 0])) w8) := ⟨_, by rw [HS.out], by rw [HS.out]; exact Pk.Sl_nil _, LB8.out⟩
 clear LB8 H8; go_wp2_with fail
 go_ret2
 exact HR.out
set_option maxHeartbeats 2000000 in
set_option maxRecDepth 100000 in
theorem sd_gap2much (F : Nat → Int) (left : Bs) (first : Bool) (cc : Nat) (w : World) (m gp off : Nat) (hm : Hid (0 < m)) (c : Bs) (r : List Bs) (bo : Option Addr) (bc : Nat) (HP : Hid (w.cell? ⟨gp, off, none⟩ = some (.slice bo c.length bc) ∧ gp < w.heap.size)) (KS0 : Hid (∀ wx, Below w.heap.size w wx → Calls Try.prog 15 #[.slice bo c.length bc] wx fun e w' => e = .returned (Hv (sumf c)) ∧ Below wx.heap.size wx w')) (HQ : Hid (same 32 (sumf c) F = true)) (s : Shp) (z : Int) (KR : Hid (∀ wx, Below w.heap.size w wx → Calls Try.prog 16 #[.slice bo c.length bc] wx (PR wx s z))) (hz : Hid (z = 0)) (hf : Hid (first = false)) (hk : Hid (s.1 ≠ 0)) (kk : Nat) (rst : Bs) (HW : Hid (wk s left = some (kk, rst))) (HKL : Hid (kk < s.2.2.2.length)) (HK0 : Hid ((s.2.2.2.getD kk []).length = 0)) (hm1 : Hid (1 < m)) (HS : Hid (sd (c :: r) first F left = ([], 6))) :
  Calls Try.prog 10 #[Hv F, .string (Tr.st left), .slice (some ⟨gp, off, none⟩) m cc, .bool first] w (SDP (c :: r) first F left w) := by
 obtain rfl := hf.out; have t0 : ((m : Int) == 0) = false := by rw [beq_eq_false_iff_ne]; have := hm.out; omega
 have t1 : ¬ m = 0 := by have := hm.out; omega
 have L1 : Hid ((0 : Int) < (m : Int)) := by have := hm.out; show _ < _; omega
 go_enter Try.func10, Try.ntmps10
 go_upto_region 1 with fail
 dsimp only [Hv]; have k0 := box_ck F w 23; have b0 : Below w.heap.size w (w.alloc (.cells (h32 F).toArray 23)) := (Below.refl _ _).alloc (Nat.le_refl _) _; have z0 : w.heap.size < (w.alloc (.cells (h32 F).toArray 23)).heap.size := by simp
 generalize w.alloc (.cells (h32 F).toArray 23) = W0 at k0 b0 z0 ⊢; generalize (h32 F).toArray = hF; have LB : Hid (Below w.heap.size w W0) := b0; obtain ⟨h, eh⟩ : ∃ h, h = w.heap.size := ⟨_, rfl⟩; rw [← eh] at k0 z0 ⊢; have CH : Hid (Sp.CK .u8 h 32 F W0 ∧ h < W0.heap.size) := ⟨k0, z0⟩; clear k0 b0 z0 eh; have CC : Hid (W0.cell? ⟨gp, off, none⟩ = some (.slice bo c.length bc) ∧ gp < W0.heap.size) := ⟨(LB.out.cell (p := ⟨gp, off, none⟩) HP.out.2).trans HP.out.1, Nat.lt_of_lt_of_le HP.out.2 LB.out.size⟩; have KS : Hid (∀ wx, Below W0.heap.size W0 wx → Calls Try.prog 15 #[.slice bo c.length bc] wx fun e w' => e = .returned (Hv (sumf c)) ∧ Below wx.heap.size wx w') := fun wx hb => KS0.out wx (LB.out.trans (hb.mono LB.out.size))
 go_upto_region 3 with fail
 refine RS.wp_region_one (fun wx => Below W0.heap.size W0 wx) (by kernel_rfl) (by kernel_rfl) ((Below.refl _ _).drew) ?_
 dsimp only [List.toList_toArray]; refine RS.go1 (v := ?_) (a' := ?_) rfl ?_ ?_ ?_; rotate_left 2
 ·intro K wx hS hK; go_simp; exact hK _ hS
 ·simp only [Act.put, zA, zB, zC]; rfl
 refine RS.go1 (v := ?_) (a' := ?_) rfl ?_ ?_ ?_; rotate_left 2
 ·intro K wx hS hK; have d1 := L1.out; have d2 := hm.out; go_simp; exact hK _ hS
 ·simp only [Act.put, zA, zB, zC]; rfl
 refine RS.go1 (v := ?_) (a' := ?_) rfl ?_ ?_ ?_; rotate_left 2
 ·intro K wx hS hK; have z2 := (hS.cell (p := ⟨gp, off, none⟩) CC.out.2).trans CC.out.1; go_simp; exact hK _ hS
 ·simp only [Act.put, zA, zB, zC]; rfl
 refine RS.go1 (v := ?_) (a' := ?_) rfl ?_ ?_ ?_; rotate_left 2
 ·intro K wx hS hK; go_simp; refine (KS.out wx hS).mono (fun e w2 he => ?_)
  refine ⟨_, he.1, ?_⟩; exact hK _ (RSb hS he.2)
 ·simp only [Act.put, zA, zB, zC]; rfl
 refine RS.go1 (v := ?_) (a' := ?_) rfl ?_ ?_ ?_; rotate_left 2
 ·intro K wx hS hK; refine Hh.ld rfl rfl (Sp.CK_below CH.out.1 hS CH.out.2) ?_; exact hK _ hS
 ·simp only [Act.put, zA, zB, zC]; rfl
 refine RS.go1 (v := ?_) (a' := ?_) rfl ?_ ?_ ?_; rotate_left 2
 ·intro K wx hS hK; refine Hh.neq (b := false) rfl rfl rfl (by rw [HQ.out]; rfl) ?_
  exact hK _ hS
 ·simp only [Act.put, zA, zB, zC]; rfl
 refine RS.go_end ?_; intro w3 m3; have LB3 : Hid (Below w.heap.size w w3) := LB.out.trans (m3.mono LB.out.size); have y0 := (m3.cell (p := ⟨gp, off, none⟩) CC.out.2).trans CC.out.1; have y1 := L1.out; have y2 := hm.out; clear m3 KS CH; go_wp2_with fail
 refine (KR.out _ LB3.out).mono ?_; rintro e w4 ⟨v, rfl, sh, b4, ⟨k, f1, f2, f3, f4, f5, f6, f7, f8, f9, rfl⟩⟩; have LB4 := LB3.out.trans (b4.mono LB3.out.size); have bB : Below w4.heap.size w4 (w4.alloc (.cells #[.int .i64 k, .slice f1 f2 f3, .slice f4 f5 f6, .slice f7 f8 f9] 34)) := (Below.refl _ _).alloc (Nat.le_refl _) _; have HB := heap_alloc_new w4 (.cells #[.int .i64 k, .slice f1 f2 f3, .slice f4 f5 f6, .slice f7 f8 f9] 34); have s0 : (w4.alloc (.cells #[.int .i64 k, .slice f1 f2 f3, .slice f4 f5 f6, .slice f7 f8 f9] 34)).cell? ⟨w4.heap.size, 0, none⟩ = some (.int .i64 k) := by simp only [World.cell?, HB]; rfl
 have s1 : (w4.alloc (.cells #[.int .i64 k, .slice f1 f2 f3, .slice f4 f5 f6, .slice f7 f8 f9] 34)).cell? ⟨w4.heap.size, 1, none⟩ = some (.slice f1 f2 f3) := by simp only [World.cell?, HB]; rfl
 have s2 : (w4.alloc (.cells #[.int .i64 k, .slice f1 f2 f3, .slice f4 f5 f6, .slice f7 f8 f9] 34)).cell? ⟨w4.heap.size, 2, none⟩ = some (.slice f4 f5 f6) := by simp only [World.cell?, HB]; rfl
 have s3 : (w4.alloc (.cells #[.int .i64 k, .slice f1 f2 f3, .slice f4 f5 f6, .slice f7 f8 f9] 34)).cell? ⟨w4.heap.size, 3, none⟩ = some (.slice f7 f8 f9) := by simp only [World.cell?, HB]; rfl
 have g7h : w4.heap.size < (w4.alloc (.cells #[.int .i64 k, .slice f1 f2 f3, .slice f4 f5 f6, .slice f7 f8 f9] 34)).heap.size := by simp
 have LB5 : Hid (Below w.heap.size w (w4.alloc (.cells #[.int .i64 k, .slice f1 f2 f3, .slice f4 f5 f6, .slice f7 f8 f9] 34))) := LB4.trans (bB.mono LB4.size); have H5 : Hid (Sh s (.int .i64 k, .slice f1 f2 f3, .slice f4 f5 f6, .slice f7 f8 f9) (w4.alloc (.cells #[.int .i64 k, .slice f1 f2 f3, .slice f4 f5 f6, .slice f7 f8 f9] 34))) := Sh_below sh bB; have ek : Hid (k = s.1) := by have := sh.1; injection this
 clear sh b4 LB4 bB HB LB3 KR y0; dsimp only [v4]; go_upto_region 6 with fail
 generalize w4.alloc (.cells #[.int .i64 k, .slice f1 f2 f3, .slice f4 f5 f6, .slice f7 f8 f9] 34) = W5 at s0 s1 s2 s3 LB5 H5 g7h ⊢; generalize w4.heap.size = g7 at s0 s1 s2 s3 g7h ⊢; obtain rfl : z = 0 := hz.out; have tk : (k == 0) = false := by rw [ek.out]; exact beq_eq_false_iff_ne.2 hk.out
 refine RS.wp_region_flat (fun wx => Below W5.heap.size W5 wx) 11 (by kernel_rfl) (Below.refl _ _) ?_
 simp only [List.take_succ_cons, List.take_zero, List.drop_succ_cons, List.drop_zero]
 iterate 3
  refine RS.go1 (v := ?_) (a' := ?_) rfl ?_ ?_ ?_; rotate_left 2
  ·intro K wx hS hK; go_simp; exact hK _ hS
  ·simp only [Act.put, zA, zB, zC]; rfl
 iterate 4
  refine RS.go1g (v := ?_) (a' := ?_) (by kernel_rfl) ?_ ?_ ?_; rotate_left 2
  ·intro K wx hS hK; go_simp; exact hK _ hS
  ·simp only [Act.put, zA, zB, zC]; rfl
 refine RS.go1g (v := ?_) (a' := ?_) (by kernel_rfl) ?_ ?_ ?_; rotate_left 2
 ·intro K wx hS hK; have z1 := (hS.cell (p := ⟨g7, 0, none⟩) g7h).trans s0; go_simp; exact hK _ hS
 ·simp only [Act.put, zA, zB, zC]; rfl
 iterate 2
  refine RS.go1g (v := ?_) (a' := ?_) (by kernel_rfl) ?_ ?_ ?_; rotate_left 2
  ·intro K wx hS hK; go_simp; exact hK _ hS
  ·simp only [Act.put, zA, zB, zC]; rfl
 refine RS.go1 (v := ?_) (a' := ?_) rfl ?_ ?_ ?_; rotate_left 2
 ·intro K wx hS hK; go_simp; exact hK _ hS
 ·simp only [Act.put, zA, zB, zC]; rfl
 refine RS.go_end ?_; intro w6 m6; have v0 := (m6.cell (p := ⟨g7, 0, none⟩) g7h).trans s0; have v1 := (m6.cell (p := ⟨g7, 1, none⟩) g7h).trans s1; have v2 := (m6.cell (p := ⟨g7, 2, none⟩) g7h).trans s2; have v3 := (m6.cell (p := ⟨g7, 3, none⟩) g7h).trans s3; have g6h := Nat.lt_of_lt_of_le g7h m6.size; have LB6 : Hid (Below w.heap.size w w6) := LB5.out.trans (m6.mono LB5.out.size); have H6 : Hid (Sh s (.int .i64 k, .slice f1 f2 f3, .slice f4 f5 f6, .slice f7 f8 f9) w6) := Sh_below H5.out m6; have KY : Hid (Calls Try.prog 17 #[.int .i64 k, .slice f1 f2 f3, .string (Tr.st left)] w6 (WA s left w6)) := by
  have := way_any s left f1 f2 f3 w6 H6.out.2.1; rwa [← ek.out] at this
 clear m6 s0 s1 s2 s3 LB5 H5 g7h; go_wp2_with fail
 refine KY.out.mono ?_; rintro e w7 ⟨j, rest, b, rfl, b7, hw⟩; have q0 := (b7.cell (p := ⟨g7, 0, none⟩) g6h).trans v0; have q2 := (b7.cell (p := ⟨g7, 2, none⟩) g6h).trans v2; have q3 := (b7.cell (p := ⟨g7, 3, none⟩) g6h).trans v3; have g7h := Nat.lt_of_lt_of_le g6h b7.size; have LB7 : Hid (Below w.heap.size w w7) := LB6.out.trans (b7.mono LB6.out.size); have H7 : Hid (Sh s (.int .i64 k, .slice f1 f2 f3, .slice f4 f5 f6, .slice f7 f8 f9) w7) := Sh_below H6.out b7; clear b7 v0 v1 v2 v3 g6h LB6 H6 KY; rw [HW.out] at hw; obtain ⟨rfl, rfl, rfl⟩ := hw; obtain ⟨ra, rcp, er, hrow⟩ := H7.out.2.2.2; have e8 : f8 = s.2.2.2.length := by injection er
 have e7 : f7 = ra := by injection er
 obtain ⟨gr, ofr, e6, hgr, hcr⟩ := hrow (by have := HKL.out; omega)
 obtain ⟨vk, ck, slk⟩ := hcr kk HKL.out; obtain ⟨ka, kc, evk⟩ := Sl_fm slk; rw [evk] at ck slk; have E7 : Hid (f7 = some ⟨gr, ofr, none⟩) := e7.trans e6; obtain rfl := E7.out; have KL : Hid ((kk : Int) < (f8 : Int)) := by have := HKL.out; show _ < _; omega
 have KL2 : Hid (kk < f8) := by have := HKL.out; show _ < _; omega
 have CK1 : Hid (w7.cell? ⟨gr, ofr + kk, none⟩ = some (.slice ka (s.2.2.2.getD kk []).length kc) ∧ gr < w7.heap.size) := ⟨ck, hgr⟩; have SK : Hid (Pk.Sl (s.2.2.2.getD kk []) (.slice ka (s.2.2.2.getD kk []).length kc) w7) := slk; clear er hrow e8 e7 hcr ck slk evk e6 E7 hgr; generalize hkd : s.2.2.2.getD kk [] = kd at *; go_upto_region 9 with fail
 refine RS.wp_region_flat (fun wx => Below w7.heap.size w7 wx) 11 (by kernel_rfl) (Below.refl _ _) ?_
 simp only [List.take_succ_cons, List.take_zero, List.drop_succ_cons, List.drop_zero]; refine RS.go1 (v := ?_) (a' := ?_) rfl ?_ ?_ ?_; rotate_left 2
 ·intro K wx hS hK; go_simp; exact hK _ hS
 ·simp only [Act.put, zA, zB, zC]; rfl
 refine RS.go1 (v := ?_) (a' := ?_) rfl ?_ ?_ ?_; rotate_left 2
 ·intro K wx hS hK; have d0 : (0 : Int) ≤ (kk : Int) := by omega
  go_simp; exact hK _ hS
 ·simp only [Act.put, zA, zB, zC]; rfl
 refine RS.go1 (v := ?_) (a' := ?_) rfl ?_ ?_ ?_; rotate_left 2
 ·intro K wx hS hK; go_simp; exact hK _ hS
 ·simp only [Act.put, zA, zB, zC]; rfl
 refine RS.go1g (v := ?_) (a' := ?_) (by kernel_rfl) ?_ ?_ ?_; rotate_left 2
 ·intro K wx hS hK; go_simp; exact hK _ hS
 ·simp only [Act.put, zA, zB, zC]; rfl
 refine RS.go1g (v := ?_) (a' := ?_) (by kernel_rfl) ?_ ?_ ?_; rotate_left 2
 ·intro K wx hS hK; have z3 := (hS.cell (p := ⟨g7, 3, none⟩) g7h).trans q3; go_simp; exact hK _ hS
 ·simp only [Act.put, zA, zB, zC]; rfl
 refine RS.go1g (v := ?_) (a' := ?_) (by kernel_rfl) ?_ ?_ ?_; rotate_left 2
 ·intro K wx hS hK; go_simp; exact hK _ hS
 ·simp only [Act.put, zA, zB, zC]; rfl
 refine RS.go1g (v := ?_) (a' := ?_) (by kernel_rfl) ?_ ?_ ?_; rotate_left 2
 ·intro K wx hS hK; have d0 : (0 : Int) ≤ (kk : Int) := by omega
  have d1 := KL.out; have d2 := KL2.out; go_simp; exact hK _ hS
 ·simp only [Act.put, zA, zB, zC]; rfl
 refine RS.go1g (v := ?_) (a' := ?_) (by kernel_rfl) ?_ ?_ ?_; rotate_left 2
 ·intro K wx hS hK; have z4 := (hS.cell (p := ⟨gr, ofr + kk, none⟩) CK1.out.2).trans CK1.out.1; go_simp; exact hK _ hS
 ·simp only [Act.put, zA, zB, zC]; rfl
 refine RS.go1g (v := ?_) (a' := ?_) (by kernel_rfl) ?_ ?_ ?_; rotate_left 2
 ·intro K wx hS hK; go_simp; exact hK _ hS
 ·simp only [Act.put, zA, zB, zC]; rfl
 refine RS.go1g (v := ?_) (a' := ?_) (by kernel_rfl) ?_ ?_ ?_; rotate_left 2
 ·intro K wx hS hK; have d3 := HK0.out; go_simp; exact hK _ hS
 ·simp only [Act.put, zA, zB, zC]; rfl
 refine RS.go1 (v := ?_) (a' := ?_) rfl ?_ ?_ ?_; rotate_left 2
 ·intro K wx hS hK; go_simp; exact hK _ hS
 ·simp only [Act.put, zA, zB, zC]; rfl
 refine RS.go_end ?_; intro w8 m8; have u2 := (m8.cell (p := ⟨g7, 2, none⟩) g7h).trans q2; have LB8 : Hid (Below w.heap.size w w8) := LB7.out.trans (m8.mono LB7.out.size); have H8 : Hid True := trivial; clear m8 q0 q2 q3 LB7 H7 g7h CK1 SK KL KL2; have d9 : (1 : Int) < (m : Int) := by have := hm1.out; omega
 have d8 : 1 < m := hm1.out; have HR : Hid (SDP (c :: r) false F left w (.returned (.tuple #[.slice none 0 0, .int .i64 6])) w8) := sdp_bad HS.out LB8.out; clear LB8 H8 u2; go_wp2_with fail
 go_ret2
 exact HR.out
set_option maxHeartbeats 2000000 in
set_option maxRecDepth 100000 in
theorem sd_gap2no (F : Nat → Int) (left : Bs) (first : Bool) (cc : Nat) (w : World) (m gp off : Nat) (hm : Hid (0 < m)) (c : Bs) (r : List Bs) (bo : Option Addr) (bc : Nat) (HP : Hid (w.cell? ⟨gp, off, none⟩ = some (.slice bo c.length bc) ∧ gp < w.heap.size)) (KS0 : Hid (∀ wx, Below w.heap.size w wx → Calls Try.prog 15 #[.slice bo c.length bc] wx fun e w' => e = .returned (Hv (sumf c)) ∧ Below wx.heap.size wx w')) (HQ : Hid (same 32 (sumf c) F = true)) (s : Shp) (z : Int) (KR : Hid (∀ wx, Below w.heap.size w wx → Calls Try.prog 16 #[.slice bo c.length bc] wx (PR wx s z))) (hz : Hid (z = 0)) (hf : Hid (first = false)) (hk : Hid (s.1 ≠ 0)) (kk : Nat) (rst : Bs) (HW : Hid (wk s left = some (kk, rst))) (HKL : Hid (kk < s.2.2.2.length)) (HK0 : Hid ((s.2.2.2.getD kk []).length = 0)) (hm1 : Hid (m = 1)) (HS : Hid (sd (c :: r) first F left = ([], 0))) :
  Calls Try.prog 10 #[Hv F, .string (Tr.st left), .slice (some ⟨gp, off, none⟩) m cc, .bool first] w (SDP (c :: r) first F left w) := by
 obtain rfl := hf.out; have t0 : ((m : Int) == 0) = false := by rw [beq_eq_false_iff_ne]; have := hm.out; omega
 have t1 : ¬ m = 0 := by have := hm.out; omega
 have L1 : Hid ((0 : Int) < (m : Int)) := by have := hm.out; show _ < _; omega
 go_enter Try.func10, Try.ntmps10
 go_upto_region 1 with fail
 dsimp only [Hv]; have k0 := box_ck F w 23; have b0 : Below w.heap.size w (w.alloc (.cells (h32 F).toArray 23)) := (Below.refl _ _).alloc (Nat.le_refl _) _; have z0 : w.heap.size < (w.alloc (.cells (h32 F).toArray 23)).heap.size := by simp
 generalize w.alloc (.cells (h32 F).toArray 23) = W0 at k0 b0 z0 ⊢; generalize (h32 F).toArray = hF; have LB : Hid (Below w.heap.size w W0) := b0; obtain ⟨h, eh⟩ : ∃ h, h = w.heap.size := ⟨_, rfl⟩; rw [← eh] at k0 z0 ⊢; have CH : Hid (Sp.CK .u8 h 32 F W0 ∧ h < W0.heap.size) := ⟨k0, z0⟩; clear k0 b0 z0 eh; have CC : Hid (W0.cell? ⟨gp, off, none⟩ = some (.slice bo c.length bc) ∧ gp < W0.heap.size) := ⟨(LB.out.cell (p := ⟨gp, off, none⟩) HP.out.2).trans HP.out.1, Nat.lt_of_lt_of_le HP.out.2 LB.out.size⟩; have KS : Hid (∀ wx, Below W0.heap.size W0 wx → Calls Try.prog 15 #[.slice bo c.length bc] wx fun e w' => e = .returned (Hv (sumf c)) ∧ Below wx.heap.size wx w') := fun wx hb => KS0.out wx (LB.out.trans (hb.mono LB.out.size))
 go_upto_region 3 with fail
 refine RS.wp_region_one (fun wx => Below W0.heap.size W0 wx) (by kernel_rfl) (by kernel_rfl) ((Below.refl _ _).drew) ?_
 dsimp only [List.toList_toArray]; refine RS.go1 (v := ?_) (a' := ?_) rfl ?_ ?_ ?_; rotate_left 2
 ·intro K wx hS hK; go_simp; exact hK _ hS
 ·simp only [Act.put, zA, zB, zC]; rfl
 refine RS.go1 (v := ?_) (a' := ?_) rfl ?_ ?_ ?_; rotate_left 2
 ·intro K wx hS hK; have d1 := L1.out; have d2 := hm.out; go_simp; exact hK _ hS
 ·simp only [Act.put, zA, zB, zC]; rfl
 refine RS.go1 (v := ?_) (a' := ?_) rfl ?_ ?_ ?_; rotate_left 2
 ·intro K wx hS hK; have z2 := (hS.cell (p := ⟨gp, off, none⟩) CC.out.2).trans CC.out.1; go_simp; exact hK _ hS
 ·simp only [Act.put, zA, zB, zC]; rfl
 refine RS.go1 (v := ?_) (a' := ?_) rfl ?_ ?_ ?_; rotate_left 2
 ·intro K wx hS hK; go_simp; refine (KS.out wx hS).mono (fun e w2 he => ?_)
  refine ⟨_, he.1, ?_⟩; exact hK _ (RSb hS he.2)
 ·simp only [Act.put, zA, zB, zC]; rfl
 refine RS.go1 (v := ?_) (a' := ?_) rfl ?_ ?_ ?_; rotate_left 2
 ·intro K wx hS hK; refine Hh.ld rfl rfl (Sp.CK_below CH.out.1 hS CH.out.2) ?_; exact hK _ hS
 ·simp only [Act.put, zA, zB, zC]; rfl
 refine RS.go1 (v := ?_) (a' := ?_) rfl ?_ ?_ ?_; rotate_left 2
 ·intro K wx hS hK; refine Hh.neq (b := false) rfl rfl rfl (by rw [HQ.out]; rfl) ?_
  exact hK _ hS
 ·simp only [Act.put, zA, zB, zC]; rfl
 refine RS.go_end ?_; intro w3 m3; have LB3 : Hid (Below w.heap.size w w3) := LB.out.trans (m3.mono LB.out.size); have y0 := (m3.cell (p := ⟨gp, off, none⟩) CC.out.2).trans CC.out.1; have y1 := L1.out; have y2 := hm.out; clear m3 KS CH; go_wp2_with fail
 refine (KR.out _ LB3.out).mono ?_; rintro e w4 ⟨v, rfl, sh, b4, ⟨k, f1, f2, f3, f4, f5, f6, f7, f8, f9, rfl⟩⟩; have LB4 := LB3.out.trans (b4.mono LB3.out.size); have bB : Below w4.heap.size w4 (w4.alloc (.cells #[.int .i64 k, .slice f1 f2 f3, .slice f4 f5 f6, .slice f7 f8 f9] 34)) := (Below.refl _ _).alloc (Nat.le_refl _) _; have HB := heap_alloc_new w4 (.cells #[.int .i64 k, .slice f1 f2 f3, .slice f4 f5 f6, .slice f7 f8 f9] 34); have s0 : (w4.alloc (.cells #[.int .i64 k, .slice f1 f2 f3, .slice f4 f5 f6, .slice f7 f8 f9] 34)).cell? ⟨w4.heap.size, 0, none⟩ = some (.int .i64 k) := by simp only [World.cell?, HB]; rfl
 have s1 : (w4.alloc (.cells #[.int .i64 k, .slice f1 f2 f3, .slice f4 f5 f6, .slice f7 f8 f9] 34)).cell? ⟨w4.heap.size, 1, none⟩ = some (.slice f1 f2 f3) := by simp only [World.cell?, HB]; rfl
 have s2 : (w4.alloc (.cells #[.int .i64 k, .slice f1 f2 f3, .slice f4 f5 f6, .slice f7 f8 f9] 34)).cell? ⟨w4.heap.size, 2, none⟩ = some (.slice f4 f5 f6) := by simp only [World.cell?, HB]; rfl
 have s3 : (w4.alloc (.cells #[.int .i64 k, .slice f1 f2 f3, .slice f4 f5 f6, .slice f7 f8 f9] 34)).cell? ⟨w4.heap.size, 3, none⟩ = some (.slice f7 f8 f9) := by simp only [World.cell?, HB]; rfl
 have g7h : w4.heap.size < (w4.alloc (.cells #[.int .i64 k, .slice f1 f2 f3, .slice f4 f5 f6, .slice f7 f8 f9] 34)).heap.size := by simp
 have LB5 : Hid (Below w.heap.size w (w4.alloc (.cells #[.int .i64 k, .slice f1 f2 f3, .slice f4 f5 f6, .slice f7 f8 f9] 34))) := LB4.trans (bB.mono LB4.size); have H5 : Hid (Sh s (.int .i64 k, .slice f1 f2 f3, .slice f4 f5 f6, .slice f7 f8 f9) (w4.alloc (.cells #[.int .i64 k, .slice f1 f2 f3, .slice f4 f5 f6, .slice f7 f8 f9] 34))) := Sh_below sh bB; have ek : Hid (k = s.1) := by have := sh.1; injection this
 clear sh b4 LB4 bB HB LB3 KR y0; dsimp only [v4]; go_upto_region 6 with fail
 generalize w4.alloc (.cells #[.int .i64 k, .slice f1 f2 f3, .slice f4 f5 f6, .slice f7 f8 f9] 34) = W5 at s0 s1 s2 s3 LB5 H5 g7h ⊢; generalize w4.heap.size = g7 at s0 s1 s2 s3 g7h ⊢; obtain rfl : z = 0 := hz.out; have tk : (k == 0) = false := by rw [ek.out]; exact beq_eq_false_iff_ne.2 hk.out
 refine RS.wp_region_flat (fun wx => Below W5.heap.size W5 wx) 11 (by kernel_rfl) (Below.refl _ _) ?_
 simp only [List.take_succ_cons, List.take_zero, List.drop_succ_cons, List.drop_zero]
 iterate 3
  refine RS.go1 (v := ?_) (a' := ?_) rfl ?_ ?_ ?_; rotate_left 2
  ·intro K wx hS hK; go_simp; exact hK _ hS
  ·simp only [Act.put, zA, zB, zC]; rfl
 iterate 4
  refine RS.go1g (v := ?_) (a' := ?_) (by kernel_rfl) ?_ ?_ ?_; rotate_left 2
  ·intro K wx hS hK; go_simp; exact hK _ hS
  ·simp only [Act.put, zA, zB, zC]; rfl
 refine RS.go1g (v := ?_) (a' := ?_) (by kernel_rfl) ?_ ?_ ?_; rotate_left 2
 ·intro K wx hS hK; have z1 := (hS.cell (p := ⟨g7, 0, none⟩) g7h).trans s0; go_simp; exact hK _ hS
 ·simp only [Act.put, zA, zB, zC]; rfl
 iterate 2
  refine RS.go1g (v := ?_) (a' := ?_) (by kernel_rfl) ?_ ?_ ?_; rotate_left 2
  ·intro K wx hS hK; go_simp; exact hK _ hS
  ·simp only [Act.put, zA, zB, zC]; rfl
 refine RS.go1 (v := ?_) (a' := ?_) rfl ?_ ?_ ?_; rotate_left 2
 ·intro K wx hS hK; go_simp; exact hK _ hS
 ·simp only [Act.put, zA, zB, zC]; rfl
 refine RS.go_end ?_; intro w6 m6; have v0 := (m6.cell (p := ⟨g7, 0, none⟩) g7h).trans s0; have v1 := (m6.cell (p := ⟨g7, 1, none⟩) g7h).trans s1; have v2 := (m6.cell (p := ⟨g7, 2, none⟩) g7h).trans s2; have v3 := (m6.cell (p := ⟨g7, 3, none⟩) g7h).trans s3; have g6h := Nat.lt_of_lt_of_le g7h m6.size; have LB6 : Hid (Below w.heap.size w w6) := LB5.out.trans (m6.mono LB5.out.size); have H6 : Hid (Sh s (.int .i64 k, .slice f1 f2 f3, .slice f4 f5 f6, .slice f7 f8 f9) w6) := Sh_below H5.out m6; have KY : Hid (Calls Try.prog 17 #[.int .i64 k, .slice f1 f2 f3, .string (Tr.st left)] w6 (WA s left w6)) := by
  have := way_any s left f1 f2 f3 w6 H6.out.2.1; rwa [← ek.out] at this
 clear m6 s0 s1 s2 s3 LB5 H5 g7h; go_wp2_with fail
 refine KY.out.mono ?_; rintro e w7 ⟨j, rest, b, rfl, b7, hw⟩; have q0 := (b7.cell (p := ⟨g7, 0, none⟩) g6h).trans v0; have q2 := (b7.cell (p := ⟨g7, 2, none⟩) g6h).trans v2; have q3 := (b7.cell (p := ⟨g7, 3, none⟩) g6h).trans v3; have g7h := Nat.lt_of_lt_of_le g6h b7.size; have LB7 : Hid (Below w.heap.size w w7) := LB6.out.trans (b7.mono LB6.out.size); have H7 : Hid (Sh s (.int .i64 k, .slice f1 f2 f3, .slice f4 f5 f6, .slice f7 f8 f9) w7) := Sh_below H6.out b7; clear b7 v0 v1 v2 v3 g6h LB6 H6 KY; rw [HW.out] at hw; obtain ⟨rfl, rfl, rfl⟩ := hw; obtain ⟨ra, rcp, er, hrow⟩ := H7.out.2.2.2; have e8 : f8 = s.2.2.2.length := by injection er
 have e7 : f7 = ra := by injection er
 obtain ⟨gr, ofr, e6, hgr, hcr⟩ := hrow (by have := HKL.out; omega)
 obtain ⟨vk, ck, slk⟩ := hcr kk HKL.out; obtain ⟨ka, kc, evk⟩ := Sl_fm slk; rw [evk] at ck slk; have E7 : Hid (f7 = some ⟨gr, ofr, none⟩) := e7.trans e6; obtain rfl := E7.out; have KL : Hid ((kk : Int) < (f8 : Int)) := by have := HKL.out; show _ < _; omega
 have KL2 : Hid (kk < f8) := by have := HKL.out; show _ < _; omega
 have CK1 : Hid (w7.cell? ⟨gr, ofr + kk, none⟩ = some (.slice ka (s.2.2.2.getD kk []).length kc) ∧ gr < w7.heap.size) := ⟨ck, hgr⟩; have SK : Hid (Pk.Sl (s.2.2.2.getD kk []) (.slice ka (s.2.2.2.getD kk []).length kc) w7) := slk; clear er hrow e8 e7 hcr ck slk evk e6 E7 hgr; generalize hkd : s.2.2.2.getD kk [] = kd at *; go_upto_region 9 with fail
 refine RS.wp_region_flat (fun wx => Below w7.heap.size w7 wx) 11 (by kernel_rfl) (Below.refl _ _) ?_
 simp only [List.take_succ_cons, List.take_zero, List.drop_succ_cons, List.drop_zero]; refine RS.go1 (v := ?_) (a' := ?_) rfl ?_ ?_ ?_; rotate_left 2
 ·intro K wx hS hK; go_simp; exact hK _ hS
 ·simp only [Act.put, zA, zB, zC]; rfl
 refine RS.go1 (v := ?_) (a' := ?_) rfl ?_ ?_ ?_; rotate_left 2
 ·intro K wx hS hK; have d0 : (0 : Int) ≤ (kk : Int) := by omega
  go_simp; exact hK _ hS
 ·simp only [Act.put, zA, zB, zC]; rfl
 refine RS.go1 (v := ?_) (a' := ?_) rfl ?_ ?_ ?_; rotate_left 2
 ·intro K wx hS hK; go_simp; exact hK _ hS
 ·simp only [Act.put, zA, zB, zC]; rfl
 refine RS.go1g (v := ?_) (a' := ?_) (by kernel_rfl) ?_ ?_ ?_; rotate_left 2
 ·intro K wx hS hK; go_simp; exact hK _ hS
 ·simp only [Act.put, zA, zB, zC]; rfl
 refine RS.go1g (v := ?_) (a' := ?_) (by kernel_rfl) ?_ ?_ ?_; rotate_left 2
 ·intro K wx hS hK; have z3 := (hS.cell (p := ⟨g7, 3, none⟩) g7h).trans q3; go_simp; exact hK _ hS
 ·simp only [Act.put, zA, zB, zC]; rfl
 refine RS.go1g (v := ?_) (a' := ?_) (by kernel_rfl) ?_ ?_ ?_; rotate_left 2
 ·intro K wx hS hK; go_simp; exact hK _ hS
 ·simp only [Act.put, zA, zB, zC]; rfl
 refine RS.go1g (v := ?_) (a' := ?_) (by kernel_rfl) ?_ ?_ ?_; rotate_left 2
 ·intro K wx hS hK; have d0 : (0 : Int) ≤ (kk : Int) := by omega
  have d1 := KL.out; have d2 := KL2.out; go_simp; exact hK _ hS
 ·simp only [Act.put, zA, zB, zC]; rfl
 refine RS.go1g (v := ?_) (a' := ?_) (by kernel_rfl) ?_ ?_ ?_; rotate_left 2
 ·intro K wx hS hK; have z4 := (hS.cell (p := ⟨gr, ofr + kk, none⟩) CK1.out.2).trans CK1.out.1; go_simp; exact hK _ hS
 ·simp only [Act.put, zA, zB, zC]; rfl
 refine RS.go1g (v := ?_) (a' := ?_) (by kernel_rfl) ?_ ?_ ?_; rotate_left 2
 ·intro K wx hS hK; go_simp; exact hK _ hS
 ·simp only [Act.put, zA, zB, zC]; rfl
 refine RS.go1g (v := ?_) (a' := ?_) (by kernel_rfl) ?_ ?_ ?_; rotate_left 2
 ·intro K wx hS hK; have d3 := HK0.out; go_simp; exact hK _ hS
 ·simp only [Act.put, zA, zB, zC]; rfl
 refine RS.go1 (v := ?_) (a' := ?_) rfl ?_ ?_ ?_; rotate_left 2
 ·intro K wx hS hK; go_simp; exact hK _ hS
 ·simp only [Act.put, zA, zB, zC]; rfl
 refine RS.go_end ?_; intro w8 m8; have u2 := (m8.cell (p := ⟨g7, 2, none⟩) g7h).trans q2; have LB8 : Hid (Below w.heap.size w w8) := LB7.out.trans (m8.mono LB7.out.size); have H8 : Hid True := trivial; clear m8 q0 q2 q3 LB7 H7 g7h CK1 SK KL KL2; obtain rfl : m = 1 := hm1.out; have HR : Hid (SDP (c :: r) false F left w (.returned (.tuple #[.slice none 0 0, .int .i64 0])) w8) := ⟨_, by rw [HS.out], by rw [HS.out]; exact Pk.Sl_nil _, LB8.out⟩
 clear LB8 H8; go_wp2_with fail
 go_ret2
 exact HR.out
end Pf
end Go.Proofs.Ytlbdaccmnpcccaa
namespace Go.Proofs.Ytlbdaccmnpcccaa
namespace Pf
open Rs Go.RowKit Sp
structure NK (w8 : World) (T : Bs) (zz : Int) (d : Nat → Bool) (U : Nat → Value) (wx : World) : Prop where
 a : Below w8.heap.size w8 wx
 b : d 10 = true → ∃ rv, U 10 = .tuple #[rv, .int .i64 zz] ∧ Pk.Sl T rv wx ∧ (d 11 = true → U 11 = rv) ∧ (d 12 = true → U 12 = .int .i64 zz)
 c : (d 11 = true → d 10 = true) ∧ (d 12 = true → d 10 = true)
theorem NK_start (w8 : World) {T : Bs} {zz : Int} : NK w8 T zz (fun _ => false) (fun _ => undef) w8.drew := ⟨(Below.refl _ _).drew, nofun, nofun, nofun⟩
variable {w8 : World} {T : Bs} {zz : Int} {d : Nat → Bool} {U : Nat → Value} {wx : World}
theorem NK_keep {i : Nat} (h1 : 10 ≠ i) (h2 : 11 ≠ i) (h3 : 12 ≠ i) (h : NK w8 T zz d U wx) : NK w8 T zz (RI.don d i) U wx := by
 refine ⟨h.a, ?_, ?_⟩
 ·rw [RI.don_other _ _ _ h1, RI.don_other _ _ _ h2, RI.don_other _ _ _ h3]; exact h.b
 ·rw [RI.don_other _ _ _ h1, RI.don_other _ _ _ h2, RI.don_other _ _ _ h3]; exact h.c
theorem NK_call {rv : Value} {w2 : World} (h : NK w8 T zz d U wx) (h0 : d 10 = false) (hrv : Pk.Sl T rv w2) (hb : Below wx.heap.size wx w2) : NK w8 T zz (RI.don d 10) (RH.updU U 10 (.tuple #[rv, .int .i64 zz])) w2 := by
 refine ⟨h.a.trans (hb.mono h.a.size), fun _ => ⟨rv, rfl, hrv, fun e => ?_, fun e => ?_⟩, ?_⟩
 ·rw [RI.don_other _ _ _ (by decide)] at e; have := h.c.1 e; rw [h0] at this; cases this
 ·rw [RI.don_other _ _ _ (by decide)] at e; have := h.c.2 e; rw [h0] at this; cases this
 ·rw [RI.don_same]; exact ⟨fun _ => rfl, fun _ => rfl⟩
theorem NK_x11 {rv : Value} (h : NK w8 T zz d U wx) (h0 : d 10 = true) (e1 : U 10 = .tuple #[rv, .int .i64 zz]) : NK w8 T zz (RI.don d 11) (RH.updU U 11 rv) wx := by
 obtain ⟨rv', e2, h2, h3, h4⟩ := h.b h0; have e : rv = rv' := by
  rw [e1] at e2; injection e2 with e2
  have := congrArg (fun x => x[0]?) e2
  simpa using this
 subst e; refine ⟨h.a, fun _ => ⟨rv, e2, h2, fun _ => rfl, fun e => ?_⟩, fun _ => by rw [RI.don_other _ _ _ (by decide)]; exact h0, fun _ => by rw [RI.don_other _ _ _ (by decide)]; exact h0⟩
 rw [RI.don_other _ _ _ (by decide)] at e; exact h4 e
theorem NK_x12 (h : NK w8 T zz d U wx) (h0 : d 10 = true) : NK w8 T zz (RI.don d 12) (RH.updU U 12 (.int .i64 zz)) wx := by
 obtain ⟨rv', e2, h2, h3, h4⟩ := h.b h0; refine ⟨h.a, fun _ => ⟨rv', e2, h2, fun e => ?_, fun _ => rfl⟩, fun _ => by rw [RI.don_other _ _ _ (by decide)]; exact h0, fun _ => by rw [RI.don_other _ _ _ (by decide)]; exact h0⟩
 rw [RI.don_other _ _ _ (by decide)] at e; exact h3 e
theorem rng_below {g off : Nat} {cs : List Value} {w w' : World} (h : w.rangeAt g off cs) (hb : Below w.heap.size w w') (hg : g < w.heap.size) : w'.rangeAt g off cs := fun j v hv => (hb.cell (p := ⟨g, off + j, none⟩) hg).trans (h j v hv)
set_option maxHeartbeats 2000000 in
set_option maxRecDepth 100000 in
theorem sd_on1 (F : Nat → Int) (left : Bs) (first : Bool) (cc : Nat) (w : World) (m gp off : Nat) (hm : Hid (0 < m)) (c : Bs) (r : List Bs) (bo : Option Addr) (bc : Nat) (HP : Hid (w.cell? ⟨gp, off, none⟩ = some (.slice bo c.length bc) ∧ gp < w.heap.size)) (KS0 : Hid (∀ wx, Below w.heap.size w wx → Calls Try.prog 15 #[.slice bo c.length bc] wx fun e w' => e = .returned (Hv (sumf c)) ∧ Below wx.heap.size wx w')) (HQ : Hid (same 32 (sumf c) F = true)) (s : Shp) (z : Int) (KR : Hid (∀ wx, Below w.heap.size w wx → Calls Try.prog 16 #[.slice bo c.length bc] wx (PR wx s z))) (hz : Hid (z = 0)) (hf : Hid (first = true)) (kk : Nat) (rst : Bs) (HW : Hid (wk s left = some (kk, rst))) (HKL : Hid (kk < s.2.2.2.length)) (HK0 : Hid ((s.2.2.2.getD kk []).length = 32)) (KREC : Hid (∀ wx, Below w.heap.size w wx → Calls Try.prog 10 #[Hv (bz (s.2.2.2.getD kk [])), .string (Tr.st rst), Tr.sfrom (some ⟨gp, off, none⟩) m cc 1, .bool false] wx (SDP r false (bz (s.2.2.2.getD kk [])) rst wx))) (HS : Hid (sd (c :: r) first F left = sd r false (bz (s.2.2.2.getD kk [])) rst)) :
  Calls Try.prog 10 #[Hv F, .string (Tr.st left), .slice (some ⟨gp, off, none⟩) m cc, .bool first] w (SDP (c :: r) first F left w) := by
 obtain rfl := hf.out; have t0 : ((m : Int) == 0) = false := by rw [beq_eq_false_iff_ne]; have := hm.out; omega
 have t1 : ¬ m = 0 := by have := hm.out; omega
 have L1 : Hid ((0 : Int) < (m : Int)) := by have := hm.out; show _ < _; omega
 go_enter Try.func10, Try.ntmps10
 go_upto_region 1 with fail
 dsimp only [Hv]; have k0 := box_ck F w 23; have b0 : Below w.heap.size w (w.alloc (.cells (h32 F).toArray 23)) := (Below.refl _ _).alloc (Nat.le_refl _) _; have z0 : w.heap.size < (w.alloc (.cells (h32 F).toArray 23)).heap.size := by simp
 generalize w.alloc (.cells (h32 F).toArray 23) = W0 at k0 b0 z0 ⊢; generalize (h32 F).toArray = hF; have LB : Hid (Below w.heap.size w W0) := b0; obtain ⟨h, eh⟩ : ∃ h, h = w.heap.size := ⟨_, rfl⟩; rw [← eh] at k0 z0 ⊢; have CH : Hid (Sp.CK .u8 h 32 F W0 ∧ h < W0.heap.size) := ⟨k0, z0⟩; clear k0 b0 z0 eh; have CC : Hid (W0.cell? ⟨gp, off, none⟩ = some (.slice bo c.length bc) ∧ gp < W0.heap.size) := ⟨(LB.out.cell (p := ⟨gp, off, none⟩) HP.out.2).trans HP.out.1, Nat.lt_of_lt_of_le HP.out.2 LB.out.size⟩; have KS : Hid (∀ wx, Below W0.heap.size W0 wx → Calls Try.prog 15 #[.slice bo c.length bc] wx fun e w' => e = .returned (Hv (sumf c)) ∧ Below wx.heap.size wx w') := fun wx hb => KS0.out wx (LB.out.trans (hb.mono LB.out.size))
 go_upto_region 3 with fail
 refine RS.wp_region_one (fun wx => Below W0.heap.size W0 wx) (by kernel_rfl) (by kernel_rfl) ((Below.refl _ _).drew) ?_
 dsimp only [List.toList_toArray]; refine RS.go1 (v := ?_) (a' := ?_) rfl ?_ ?_ ?_; rotate_left 2
 ·intro K wx hS hK; go_simp; exact hK _ hS
 ·simp only [Act.put, zA, zB, zC]; rfl
 refine RS.go1 (v := ?_) (a' := ?_) rfl ?_ ?_ ?_; rotate_left 2
 ·intro K wx hS hK; have d1 := L1.out; have d2 := hm.out; go_simp; exact hK _ hS
 ·simp only [Act.put, zA, zB, zC]; rfl
 refine RS.go1 (v := ?_) (a' := ?_) rfl ?_ ?_ ?_; rotate_left 2
 ·intro K wx hS hK; have z2 := (hS.cell (p := ⟨gp, off, none⟩) CC.out.2).trans CC.out.1; go_simp; exact hK _ hS
 ·simp only [Act.put, zA, zB, zC]; rfl
 refine RS.go1 (v := ?_) (a' := ?_) rfl ?_ ?_ ?_; rotate_left 2
 ·intro K wx hS hK; go_simp; refine (KS.out wx hS).mono (fun e w2 he => ?_)
  refine ⟨_, he.1, ?_⟩; exact hK _ (RSb hS he.2)
 ·simp only [Act.put, zA, zB, zC]; rfl
 refine RS.go1 (v := ?_) (a' := ?_) rfl ?_ ?_ ?_; rotate_left 2
 ·intro K wx hS hK; refine Hh.ld rfl rfl (Sp.CK_below CH.out.1 hS CH.out.2) ?_; exact hK _ hS
 ·simp only [Act.put, zA, zB, zC]; rfl
 refine RS.go1 (v := ?_) (a' := ?_) rfl ?_ ?_ ?_; rotate_left 2
 ·intro K wx hS hK; refine Hh.neq (b := false) rfl rfl rfl (by rw [HQ.out]; rfl) ?_
  exact hK _ hS
 ·simp only [Act.put, zA, zB, zC]; rfl
 refine RS.go_end ?_; intro w3 m3; have LB3 : Hid (Below w.heap.size w w3) := LB.out.trans (m3.mono LB.out.size); have y0 := (m3.cell (p := ⟨gp, off, none⟩) CC.out.2).trans CC.out.1; have y1 := L1.out; have y2 := hm.out; clear m3 KS CH; go_wp2_with fail
 refine (KR.out _ LB3.out).mono ?_; rintro e w4 ⟨v, rfl, sh, b4, ⟨k, f1, f2, f3, f4, f5, f6, f7, f8, f9, rfl⟩⟩; have LB4 := LB3.out.trans (b4.mono LB3.out.size); have bB : Below w4.heap.size w4 (w4.alloc (.cells #[.int .i64 k, .slice f1 f2 f3, .slice f4 f5 f6, .slice f7 f8 f9] 34)) := (Below.refl _ _).alloc (Nat.le_refl _) _; have HB := heap_alloc_new w4 (.cells #[.int .i64 k, .slice f1 f2 f3, .slice f4 f5 f6, .slice f7 f8 f9] 34); have s0 : (w4.alloc (.cells #[.int .i64 k, .slice f1 f2 f3, .slice f4 f5 f6, .slice f7 f8 f9] 34)).cell? ⟨w4.heap.size, 0, none⟩ = some (.int .i64 k) := by simp only [World.cell?, HB]; rfl
 have s1 : (w4.alloc (.cells #[.int .i64 k, .slice f1 f2 f3, .slice f4 f5 f6, .slice f7 f8 f9] 34)).cell? ⟨w4.heap.size, 1, none⟩ = some (.slice f1 f2 f3) := by simp only [World.cell?, HB]; rfl
 have s2 : (w4.alloc (.cells #[.int .i64 k, .slice f1 f2 f3, .slice f4 f5 f6, .slice f7 f8 f9] 34)).cell? ⟨w4.heap.size, 2, none⟩ = some (.slice f4 f5 f6) := by simp only [World.cell?, HB]; rfl
 have s3 : (w4.alloc (.cells #[.int .i64 k, .slice f1 f2 f3, .slice f4 f5 f6, .slice f7 f8 f9] 34)).cell? ⟨w4.heap.size, 3, none⟩ = some (.slice f7 f8 f9) := by simp only [World.cell?, HB]; rfl
 have g7h : w4.heap.size < (w4.alloc (.cells #[.int .i64 k, .slice f1 f2 f3, .slice f4 f5 f6, .slice f7 f8 f9] 34)).heap.size := by simp
 have LB5 : Hid (Below w.heap.size w (w4.alloc (.cells #[.int .i64 k, .slice f1 f2 f3, .slice f4 f5 f6, .slice f7 f8 f9] 34))) := LB4.trans (bB.mono LB4.size); have H5 : Hid (Sh s (.int .i64 k, .slice f1 f2 f3, .slice f4 f5 f6, .slice f7 f8 f9) (w4.alloc (.cells #[.int .i64 k, .slice f1 f2 f3, .slice f4 f5 f6, .slice f7 f8 f9] 34))) := Sh_below sh bB; have ek : Hid (k = s.1) := by have := sh.1; injection this
 clear sh b4 LB4 bB HB LB3 KR y0; dsimp only [v4]; go_upto_region 6 with fail
 generalize w4.alloc (.cells #[.int .i64 k, .slice f1 f2 f3, .slice f4 f5 f6, .slice f7 f8 f9] 34) = W5 at s0 s1 s2 s3 LB5 H5 g7h ⊢; generalize w4.heap.size = g7 at s0 s1 s2 s3 g7h ⊢; obtain rfl : z = 0 := hz.out; refine RS.wp_region_flat (fun wx => Below W5.heap.size W5 wx) 11 (by kernel_rfl) (Below.refl _ _) ?_
 simp only [List.take_succ_cons, List.take_zero, List.drop_succ_cons, List.drop_zero]
 iterate 3
  refine RS.go1 (v := ?_) (a' := ?_) rfl ?_ ?_ ?_; rotate_left 2
  ·intro K wx hS hK; go_simp; exact hK _ hS
  ·simp only [Act.put, zA, zB, zC]; rfl
 iterate 3
  refine RS.go1g (v := ?_) (a' := ?_) (by kernel_rfl) ?_ ?_ ?_; rotate_left 2
  ·intro K wx hS hK; go_simp; exact hK _ hS
  ·simp only [Act.put, zA, zB, zC]; rfl
 iterate 3
  refine RS.go0 (a' := ?_) (by kernel_rfl) ?_ ?_; rotate_left 1
  ·simp only [Act.put, zA, zB, zC]; rfl
 refine RS.go1g (v := ?_) (a' := ?_) (by kernel_rfl) ?_ ?_ ?_; rotate_left 2
 ·intro K wx hS hK; go_simp; exact hK _ hS
 ·simp only [Act.put, zA, zB, zC]; rfl
 refine RS.go1 (v := ?_) (a' := ?_) rfl ?_ ?_ ?_; rotate_left 2
 ·intro K wx hS hK; go_simp; exact hK _ hS
 ·simp only [Act.put, zA, zB, zC]; rfl
 refine RS.go_end ?_; intro w6 m6; have v0 := (m6.cell (p := ⟨g7, 0, none⟩) g7h).trans s0; have v1 := (m6.cell (p := ⟨g7, 1, none⟩) g7h).trans s1; have v2 := (m6.cell (p := ⟨g7, 2, none⟩) g7h).trans s2; have v3 := (m6.cell (p := ⟨g7, 3, none⟩) g7h).trans s3; have g6h := Nat.lt_of_lt_of_le g7h m6.size; have LB6 : Hid (Below w.heap.size w w6) := LB5.out.trans (m6.mono LB5.out.size); have H6 : Hid (Sh s (.int .i64 k, .slice f1 f2 f3, .slice f4 f5 f6, .slice f7 f8 f9) w6) := Sh_below H5.out m6; have KY : Hid (Calls Try.prog 17 #[.int .i64 k, .slice f1 f2 f3, .string (Tr.st left)] w6 (WA s left w6)) := by
  have := way_any s left f1 f2 f3 w6 H6.out.2.1; rwa [← ek.out] at this
 clear m6 s0 s1 s2 s3 LB5 H5 g7h; go_wp2_with fail
 refine KY.out.mono ?_; rintro e w7 ⟨j, rest, b, rfl, b7, hw⟩; have q0 := (b7.cell (p := ⟨g7, 0, none⟩) g6h).trans v0; have q2 := (b7.cell (p := ⟨g7, 2, none⟩) g6h).trans v2; have q3 := (b7.cell (p := ⟨g7, 3, none⟩) g6h).trans v3; have g7h := Nat.lt_of_lt_of_le g6h b7.size; have LB7 : Hid (Below w.heap.size w w7) := LB6.out.trans (b7.mono LB6.out.size); have H7 : Hid (Sh s (.int .i64 k, .slice f1 f2 f3, .slice f4 f5 f6, .slice f7 f8 f9) w7) := Sh_below H6.out b7; clear b7 v0 v1 v2 v3 g6h LB6 H6 KY; rw [HW.out] at hw; obtain ⟨rfl, rfl, rfl⟩ := hw; obtain ⟨ra, rcp, er, hrow⟩ := H7.out.2.2.2; have e8 : f8 = s.2.2.2.length := by injection er
 have e7 : f7 = ra := by injection er
 obtain ⟨gr, ofr, e6, hgr, hcr⟩ := hrow (by have := HKL.out; omega)
 obtain ⟨vk, ck, slk⟩ := hcr kk HKL.out; obtain ⟨ka, kc, evk⟩ := Sl_fm slk; rw [evk] at ck slk; have E7 : Hid (f7 = some ⟨gr, ofr, none⟩) := e7.trans e6; obtain rfl := E7.out; have KL : Hid ((kk : Int) < (f8 : Int)) := by have := HKL.out; show _ < _; omega
 have KL2 : Hid (kk < f8) := by have := HKL.out; show _ < _; omega
 have CK1 : Hid (w7.cell? ⟨gr, ofr + kk, none⟩ = some (.slice ka (s.2.2.2.getD kk []).length kc) ∧ gr < w7.heap.size) := ⟨ck, hgr⟩; have SK : Hid (Pk.Sl (s.2.2.2.getD kk []) (.slice ka (s.2.2.2.getD kk []).length kc) w7) := slk; obtain ⟨ka', kc', ek', _, hvk⟩ := slk; have ea : ka = ka' := by injection ek'
 obtain ⟨gk, ofk, eka, hgk, hck⟩ := hvk (by have := HK0.out; omega)
 have EA : Hid (ka = some ⟨gk, ofk, none⟩) := ea.trans eka; obtain rfl := EA.out; have RK : Hid (w7.rangeAt gk ofk (h32 (bz (s.2.2.2.getD kk []))) ∧ gk < w7.heap.size) := ⟨rng_at HK0.out hck, hgk⟩; clear er hrow e8 e7 hcr ck evk e6 E7 hgr ea eka EA ek' hvk hck hgk; generalize hkd : s.2.2.2.getD kk [] = kd at *; go_upto_region 9 with fail
 refine RS.wp_region_flat (fun wx => Below w7.heap.size w7 wx) 11 (by kernel_rfl) (Below.refl _ _) ?_
 simp only [List.take_succ_cons, List.take_zero, List.drop_succ_cons, List.drop_zero]; refine RS.go1 (v := ?_) (a' := ?_) rfl ?_ ?_ ?_; rotate_left 2
 ·intro K wx hS hK; go_simp; exact hK _ hS
 ·simp only [Act.put, zA, zB, zC]; rfl
 refine RS.go1 (v := ?_) (a' := ?_) rfl ?_ ?_ ?_; rotate_left 2
 ·intro K wx hS hK; have d0 : (0 : Int) ≤ (kk : Int) := by omega
  go_simp; exact hK _ hS
 ·simp only [Act.put, zA, zB, zC]; rfl
 refine RS.go1 (v := ?_) (a' := ?_) rfl ?_ ?_ ?_; rotate_left 2
 ·intro K wx hS hK; go_simp; exact hK _ hS
 ·simp only [Act.put, zA, zB, zC]; rfl
 refine RS.go1g (v := ?_) (a' := ?_) (by kernel_rfl) ?_ ?_ ?_; rotate_left 2
 ·intro K wx hS hK; go_simp; exact hK _ hS
 ·simp only [Act.put, zA, zB, zC]; rfl
 refine RS.go1g (v := ?_) (a' := ?_) (by kernel_rfl) ?_ ?_ ?_; rotate_left 2
 ·intro K wx hS hK; have z3 := (hS.cell (p := ⟨g7, 3, none⟩) g7h).trans q3; go_simp; exact hK _ hS
 ·simp only [Act.put, zA, zB, zC]; rfl
 refine RS.go1g (v := ?_) (a' := ?_) (by kernel_rfl) ?_ ?_ ?_; rotate_left 2
 ·intro K wx hS hK; go_simp; exact hK _ hS
 ·simp only [Act.put, zA, zB, zC]; rfl
 refine RS.go1g (v := ?_) (a' := ?_) (by kernel_rfl) ?_ ?_ ?_; rotate_left 2
 ·intro K wx hS hK; have d0 : (0 : Int) ≤ (kk : Int) := by omega
  have d1 := KL.out; have d2 := KL2.out; go_simp; exact hK _ hS
 ·simp only [Act.put, zA, zB, zC]; rfl
 refine RS.go1g (v := ?_) (a' := ?_) (by kernel_rfl) ?_ ?_ ?_; rotate_left 2
 ·intro K wx hS hK; have z4 := (hS.cell (p := ⟨gr, ofr + kk, none⟩) CK1.out.2).trans CK1.out.1; go_simp; exact hK _ hS
 ·simp only [Act.put, zA, zB, zC]; rfl
 refine RS.go1g (v := ?_) (a' := ?_) (by kernel_rfl) ?_ ?_ ?_; rotate_left 2
 ·intro K wx hS hK; go_simp; exact hK _ hS
 ·simp only [Act.put, zA, zB, zC]; rfl
 refine RS.go1g (v := ?_) (a' := ?_) (by kernel_rfl) ?_ ?_ ?_; rotate_left 2
 ·intro K wx hS hK; have d3 := HK0.out; go_simp; exact hK _ hS
 ·simp only [Act.put, zA, zB, zC]; rfl
 refine RS.go1 (v := ?_) (a' := ?_) rfl ?_ ?_ ?_; rotate_left 2
 ·intro K wx hS hK; go_simp; exact hK _ hS
 ·simp only [Act.put, zA, zB, zC]; rfl
 refine RS.go_end ?_; intro w8 m8; have LB8 : Hid (Below w.heap.size w w8) := LB7.out.trans (m8.mono LB7.out.size); have G8 : Hid (g7 < w8.heap.size) := Nat.lt_of_lt_of_le g7h m8.size; have Q3 : Hid _ := (m8.cell (p := ⟨g7, 3, none⟩) g7h).trans q3; have CK8 : Hid (w8.cell? ⟨gr, ofr + kk, none⟩ = some (.slice (some ⟨gk, ofk, none⟩) 32 kc) ∧ gr < w8.heap.size) := ⟨(m8.cell (p := ⟨gr, ofr + kk, none⟩) CK1.out.2).trans (by rw [← HK0.out]; exact CK1.out.1), Nat.lt_of_lt_of_le CK1.out.2 m8.size⟩
 have RK8 : Hid (w8.rangeAt gk ofk (h32 (bz kd)) ∧ gk < w8.heap.size) := ⟨rng_below RK.out.1 m8 RK.out.2, Nat.lt_of_lt_of_le RK.out.2 m8.size⟩; have HM1 : Hid (1 ≤ m) := hm.out; clear m8 q0 q2 q3 LB7 H7 g7h CK1 RK; go_upto_region 10 with fail
 refine RH.wp_region_genI (NK w8 (sd r false (bz kd) rest).1 (sd r false (bz kd) rest).2) [0, 0, 0, 0, 0, 0, 0, 0, 0, 0, 1, 1, 1, 2, 2] (by kernel_rfl) (by kernel_rfl) (NK_start w8) ?_; dsimp only [List.toList_toArray]; refine RH.goD (v := ?_) (f' := ?_) rfl ?_ ?_ ?_; rotate_left 2
 ·intro U K d wx hI hmay hK; go_simp; exact hK _ (NK_keep (by decide) (by decide) (by decide) hI)
 ·intro U; simp only [Act.put, zA, zB, zC]; rfl
 refine RH.goD (v := ?_) (f' := ?_) rfl ?_ ?_ ?_; rotate_left 2
 ·intro U K d wx hI hmay hK; have z3 := (hI.a.cell (p := ⟨g7, 3, none⟩) G8.out).trans Q3.out; go_simp; exact hK _ (NK_keep (by decide) (by decide) (by decide) hI)
 ·intro U; simp only [Act.put, zA, zB, zC]; rfl
 refine RH.goD (v := ?_) (f' := ?_) rfl ?_ ?_ ?_; rotate_left 2
 ·intro U K d wx hI hmay hK; go_simp; exact hK _ (NK_keep (by decide) (by decide) (by decide) hI)
 ·intro U; simp only [Act.put, zA, zB, zC]; rfl
 refine RH.goD (v := ?_) (f' := ?_) rfl ?_ ?_ ?_; rotate_left 2
 ·intro U K d wx hI hmay hK; have d0 : (0 : Int) ≤ (kk : Int) := by omega
  have d1 := KL.out; have d2 := KL2.out; go_simp; exact hK _ (NK_keep (by decide) (by decide) (by decide) hI)
 ·intro U; simp only [Act.put, zA, zB, zC]; rfl
 refine RH.goD (v := ?_) (f' := ?_) rfl ?_ ?_ ?_; rotate_left 2
 ·intro U K d wx hI hmay hK; have z4 := (hI.a.cell (p := ⟨gr, ofr + kk, none⟩) CK8.out.2).trans CK8.out.1; go_simp; exact hK _ (NK_keep (by decide) (by decide) (by decide) hI)
 ·intro U; simp only [Act.put, zA, zB, zC]; rfl
 refine RH.goD (v := ?_) (f' := ?_) rfl ?_ ?_ ?_; rotate_left 2
 ·intro U K d wx hI hmay hK; refine up_arr rfl rfl ?_; exact hK _ (NK_keep (by decide) (by decide) (by decide) hI)
 ·intro U; simp only [Act.put, zA, zB, zC]; rfl
 refine RH.goD (v := ?_) (f' := ?_) rfl ?_ ?_ ?_; rotate_left 2
 ·intro U K d wx hI hmay hK; refine ld_at rfl rfl (rng_below RK8.out.1 hI.a RK8.out.2) ?_; exact hK _ (NK_keep (by decide) (by decide) (by decide) hI)
 ·intro U; simp only [Act.put, zA, zB, zC]; rfl
 iterate 2
  refine RH.goD (v := ?_) (f' := ?_) rfl ?_ ?_ ?_; rotate_left 2
  ·intro U K d wx hI hmay hK; go_simp; exact hK _ (NK_keep (by decide) (by decide) (by decide) hI)
  ·intro U; simp only [Act.put, zA, zB, zC]; rfl
 refine RH.goD (v := ?_) (f' := ?_) rfl ?_ ?_ ?_; rotate_left 2
 ·intro U K d wx hI hmay hK; refine up_sl rfl rfl rfl rfl (run_fromR (some ⟨gp, off, none⟩) m cc 1 HM1.out wx) ?_; exact hK _ (NK_keep (by decide) (by decide) (by decide) hI)
 ·intro U; simp only [Act.put, zA, zB, zC]; rfl
 refine RH.goN (f' := ?_) rfl ?_ ?_ ?_; rotate_left 1
 ·intro U K d wx hI hmay hK; have h0 := hmay.1; go_simp; refine (KREC.out wx (LB8.out.trans (hI.a.mono LB8.out.size))).mono (fun e w2 he => ?_)
  obtain ⟨rv, rfl, hrv, b2⟩ := he; exact ⟨_, rfl, hK _ _ (NK_call hI h0 hrv b2)⟩
 ·intro U; simp only [Act.put, zA, zB, zC]; rfl
 refine RH.goN (f' := ?_) rfl ?_ ?_ ?_; rotate_left 1
 ·intro U K d wx hI hmay hK; have h0 : d 10 = true := by have := hmay.2 _ rfl; simpa [Region.binds] using this
  obtain ⟨rv, e1, h1, h2, h3⟩ := hI.b h0; go_simp; exact hK _ _ (NK_x11 hI h0 e1)
 ·intro U; simp only [Act.put, zA, zB, zC]; rfl
 refine RH.goN (f' := ?_) rfl ?_ ?_ ?_; rotate_left 1
 ·intro U K d wx hI hmay hK; have h0 : d 10 = true := by have := hmay.2 _ rfl; simpa [Region.binds] using this
  obtain ⟨rv, e1, h1, h2, h3⟩ := hI.b h0; go_simp; exact hK _ _ (NK_x12 hI h0)
 ·intro U; simp only [Act.put, zA, zB, zC]; rfl
 iterate 2
  refine RH.goT ?_
 refine RH.go_end ?_; intro d U w9 hI hall; simp +decide only [RH.tl, if_true, if_false]
 have h10 : d 10 = true := hall 10 (by decide); have h11 : d 11 = true := hall 11 (by decide); have h12 : d 12 = true := hall 12 (by decide); obtain ⟨rv, e1, hrv, h2, h3⟩ := hI.b h10; have HR : Hid (SDP (c :: r) true F left w (.returned (.tuple #[rv, .int .i64 (sd r false (bz kd) rest).2])) w9) := ⟨rv, by rw [HS.out], by rw [HS.out]; exact hrv, LB8.out.trans (hI.a.mono LB8.out.size)⟩
 rw [h2 h11, h3 h12]; clear hI hall h10 h11 h12 e1 hrv h2 h3 LB8 G8 Q3 CK8 RK8 KREC; generalize (sd r false (bz kd) rest).2 = zz at *; go_wp2_with fail
 go_ret2
 exact HR.out
set_option maxHeartbeats 2000000 in
set_option maxRecDepth 100000 in
theorem sd_on2 (F : Nat → Int) (left : Bs) (first : Bool) (cc : Nat) (w : World) (m gp off : Nat) (hm : Hid (0 < m)) (c : Bs) (r : List Bs) (bo : Option Addr) (bc : Nat) (HP : Hid (w.cell? ⟨gp, off, none⟩ = some (.slice bo c.length bc) ∧ gp < w.heap.size)) (KS0 : Hid (∀ wx, Below w.heap.size w wx → Calls Try.prog 15 #[.slice bo c.length bc] wx fun e w' => e = .returned (Hv (sumf c)) ∧ Below wx.heap.size wx w')) (HQ : Hid (same 32 (sumf c) F = true)) (s : Shp) (z : Int) (KR : Hid (∀ wx, Below w.heap.size w wx → Calls Try.prog 16 #[.slice bo c.length bc] wx (PR wx s z))) (hz : Hid (z = 0)) (hf : Hid (first = false)) (hk : Hid (s.1 ≠ 0)) (kk : Nat) (rst : Bs) (HW : Hid (wk s left = some (kk, rst))) (HKL : Hid (kk < s.2.2.2.length)) (HK0 : Hid ((s.2.2.2.getD kk []).length = 32)) (KREC : Hid (∀ wx, Below w.heap.size w wx → Calls Try.prog 10 #[Hv (bz (s.2.2.2.getD kk [])), .string (Tr.st rst), Tr.sfrom (some ⟨gp, off, none⟩) m cc 1, .bool false] wx (SDP r false (bz (s.2.2.2.getD kk [])) rst wx))) (HS : Hid (sd (c :: r) first F left = sd r false (bz (s.2.2.2.getD kk [])) rst)) :
  Calls Try.prog 10 #[Hv F, .string (Tr.st left), .slice (some ⟨gp, off, none⟩) m cc, .bool first] w (SDP (c :: r) first F left w) := by
 obtain rfl := hf.out; have t0 : ((m : Int) == 0) = false := by rw [beq_eq_false_iff_ne]; have := hm.out; omega
 have t1 : ¬ m = 0 := by have := hm.out; omega
 have L1 : Hid ((0 : Int) < (m : Int)) := by have := hm.out; show _ < _; omega
 go_enter Try.func10, Try.ntmps10
 go_upto_region 1 with fail
 dsimp only [Hv]; have k0 := box_ck F w 23; have b0 : Below w.heap.size w (w.alloc (.cells (h32 F).toArray 23)) := (Below.refl _ _).alloc (Nat.le_refl _) _; have z0 : w.heap.size < (w.alloc (.cells (h32 F).toArray 23)).heap.size := by simp
 generalize w.alloc (.cells (h32 F).toArray 23) = W0 at k0 b0 z0 ⊢; generalize (h32 F).toArray = hF; have LB : Hid (Below w.heap.size w W0) := b0; obtain ⟨h, eh⟩ : ∃ h, h = w.heap.size := ⟨_, rfl⟩; rw [← eh] at k0 z0 ⊢; have CH : Hid (Sp.CK .u8 h 32 F W0 ∧ h < W0.heap.size) := ⟨k0, z0⟩; clear k0 b0 z0 eh; have CC : Hid (W0.cell? ⟨gp, off, none⟩ = some (.slice bo c.length bc) ∧ gp < W0.heap.size) := ⟨(LB.out.cell (p := ⟨gp, off, none⟩) HP.out.2).trans HP.out.1, Nat.lt_of_lt_of_le HP.out.2 LB.out.size⟩; have KS : Hid (∀ wx, Below W0.heap.size W0 wx → Calls Try.prog 15 #[.slice bo c.length bc] wx fun e w' => e = .returned (Hv (sumf c)) ∧ Below wx.heap.size wx w') := fun wx hb => KS0.out wx (LB.out.trans (hb.mono LB.out.size))
 go_upto_region 3 with fail
 refine RS.wp_region_one (fun wx => Below W0.heap.size W0 wx) (by kernel_rfl) (by kernel_rfl) ((Below.refl _ _).drew) ?_
 dsimp only [List.toList_toArray]; refine RS.go1 (v := ?_) (a' := ?_) rfl ?_ ?_ ?_; rotate_left 2
 ·intro K wx hS hK; go_simp; exact hK _ hS
 ·simp only [Act.put, zA, zB, zC]; rfl
 refine RS.go1 (v := ?_) (a' := ?_) rfl ?_ ?_ ?_; rotate_left 2
 ·intro K wx hS hK; have d1 := L1.out; have d2 := hm.out; go_simp; exact hK _ hS
 ·simp only [Act.put, zA, zB, zC]; rfl
 refine RS.go1 (v := ?_) (a' := ?_) rfl ?_ ?_ ?_; rotate_left 2
 ·intro K wx hS hK; have z2 := (hS.cell (p := ⟨gp, off, none⟩) CC.out.2).trans CC.out.1; go_simp; exact hK _ hS
 ·simp only [Act.put, zA, zB, zC]; rfl
 refine RS.go1 (v := ?_) (a' := ?_) rfl ?_ ?_ ?_; rotate_left 2
 ·intro K wx hS hK; go_simp; refine (KS.out wx hS).mono (fun e w2 he => ?_)
  refine ⟨_, he.1, ?_⟩; exact hK _ (RSb hS he.2)
 ·simp only [Act.put, zA, zB, zC]; rfl
 refine RS.go1 (v := ?_) (a' := ?_) rfl ?_ ?_ ?_; rotate_left 2
 ·intro K wx hS hK; refine Hh.ld rfl rfl (Sp.CK_below CH.out.1 hS CH.out.2) ?_; exact hK _ hS
 ·simp only [Act.put, zA, zB, zC]; rfl
 refine RS.go1 (v := ?_) (a' := ?_) rfl ?_ ?_ ?_; rotate_left 2
 ·intro K wx hS hK; refine Hh.neq (b := false) rfl rfl rfl (by rw [HQ.out]; rfl) ?_
  exact hK _ hS
 ·simp only [Act.put, zA, zB, zC]; rfl
 refine RS.go_end ?_; intro w3 m3; have LB3 : Hid (Below w.heap.size w w3) := LB.out.trans (m3.mono LB.out.size); have y0 := (m3.cell (p := ⟨gp, off, none⟩) CC.out.2).trans CC.out.1; have y1 := L1.out; have y2 := hm.out; clear m3 KS CH; go_wp2_with fail
 refine (KR.out _ LB3.out).mono ?_; rintro e w4 ⟨v, rfl, sh, b4, ⟨k, f1, f2, f3, f4, f5, f6, f7, f8, f9, rfl⟩⟩; have LB4 := LB3.out.trans (b4.mono LB3.out.size); have bB : Below w4.heap.size w4 (w4.alloc (.cells #[.int .i64 k, .slice f1 f2 f3, .slice f4 f5 f6, .slice f7 f8 f9] 34)) := (Below.refl _ _).alloc (Nat.le_refl _) _; have HB := heap_alloc_new w4 (.cells #[.int .i64 k, .slice f1 f2 f3, .slice f4 f5 f6, .slice f7 f8 f9] 34); have s0 : (w4.alloc (.cells #[.int .i64 k, .slice f1 f2 f3, .slice f4 f5 f6, .slice f7 f8 f9] 34)).cell? ⟨w4.heap.size, 0, none⟩ = some (.int .i64 k) := by simp only [World.cell?, HB]; rfl
 have s1 : (w4.alloc (.cells #[.int .i64 k, .slice f1 f2 f3, .slice f4 f5 f6, .slice f7 f8 f9] 34)).cell? ⟨w4.heap.size, 1, none⟩ = some (.slice f1 f2 f3) := by simp only [World.cell?, HB]; rfl
 have s2 : (w4.alloc (.cells #[.int .i64 k, .slice f1 f2 f3, .slice f4 f5 f6, .slice f7 f8 f9] 34)).cell? ⟨w4.heap.size, 2, none⟩ = some (.slice f4 f5 f6) := by simp only [World.cell?, HB]; rfl
 have s3 : (w4.alloc (.cells #[.int .i64 k, .slice f1 f2 f3, .slice f4 f5 f6, .slice f7 f8 f9] 34)).cell? ⟨w4.heap.size, 3, none⟩ = some (.slice f7 f8 f9) := by simp only [World.cell?, HB]; rfl
 have g7h : w4.heap.size < (w4.alloc (.cells #[.int .i64 k, .slice f1 f2 f3, .slice f4 f5 f6, .slice f7 f8 f9] 34)).heap.size := by simp
 have LB5 : Hid (Below w.heap.size w (w4.alloc (.cells #[.int .i64 k, .slice f1 f2 f3, .slice f4 f5 f6, .slice f7 f8 f9] 34))) := LB4.trans (bB.mono LB4.size); have H5 : Hid (Sh s (.int .i64 k, .slice f1 f2 f3, .slice f4 f5 f6, .slice f7 f8 f9) (w4.alloc (.cells #[.int .i64 k, .slice f1 f2 f3, .slice f4 f5 f6, .slice f7 f8 f9] 34))) := Sh_below sh bB; have ek : Hid (k = s.1) := by have := sh.1; injection this
 clear sh b4 LB4 bB HB LB3 KR y0; dsimp only [v4]; go_upto_region 6 with fail
 generalize w4.alloc (.cells #[.int .i64 k, .slice f1 f2 f3, .slice f4 f5 f6, .slice f7 f8 f9] 34) = W5 at s0 s1 s2 s3 LB5 H5 g7h ⊢; generalize w4.heap.size = g7 at s0 s1 s2 s3 g7h ⊢; obtain rfl : z = 0 := hz.out; have tk : (k == 0) = false := by rw [ek.out]; exact beq_eq_false_iff_ne.2 hk.out
 refine RS.wp_region_flat (fun wx => Below W5.heap.size W5 wx) 11 (by kernel_rfl) (Below.refl _ _) ?_
 simp only [List.take_succ_cons, List.take_zero, List.drop_succ_cons, List.drop_zero]
 iterate 3
  refine RS.go1 (v := ?_) (a' := ?_) rfl ?_ ?_ ?_; rotate_left 2
  ·intro K wx hS hK; go_simp; exact hK _ hS
  ·simp only [Act.put, zA, zB, zC]; rfl
 iterate 4
  refine RS.go1g (v := ?_) (a' := ?_) (by kernel_rfl) ?_ ?_ ?_; rotate_left 2
  ·intro K wx hS hK; go_simp; exact hK _ hS
  ·simp only [Act.put, zA, zB, zC]; rfl
 refine RS.go1g (v := ?_) (a' := ?_) (by kernel_rfl) ?_ ?_ ?_; rotate_left 2
 ·intro K wx hS hK; have z1 := (hS.cell (p := ⟨g7, 0, none⟩) g7h).trans s0; go_simp; exact hK _ hS
 ·simp only [Act.put, zA, zB, zC]; rfl
 iterate 2
  refine RS.go1g (v := ?_) (a' := ?_) (by kernel_rfl) ?_ ?_ ?_; rotate_left 2
  ·intro K wx hS hK; go_simp; exact hK _ hS
  ·simp only [Act.put, zA, zB, zC]; rfl
 refine RS.go1 (v := ?_) (a' := ?_) rfl ?_ ?_ ?_; rotate_left 2
 ·intro K wx hS hK; go_simp; exact hK _ hS
 ·simp only [Act.put, zA, zB, zC]; rfl
 refine RS.go_end ?_; intro w6 m6; have v0 := (m6.cell (p := ⟨g7, 0, none⟩) g7h).trans s0; have v1 := (m6.cell (p := ⟨g7, 1, none⟩) g7h).trans s1; have v2 := (m6.cell (p := ⟨g7, 2, none⟩) g7h).trans s2; have v3 := (m6.cell (p := ⟨g7, 3, none⟩) g7h).trans s3; have g6h := Nat.lt_of_lt_of_le g7h m6.size; have LB6 : Hid (Below w.heap.size w w6) := LB5.out.trans (m6.mono LB5.out.size); have H6 : Hid (Sh s (.int .i64 k, .slice f1 f2 f3, .slice f4 f5 f6, .slice f7 f8 f9) w6) := Sh_below H5.out m6; have KY : Hid (Calls Try.prog 17 #[.int .i64 k, .slice f1 f2 f3, .string (Tr.st left)] w6 (WA s left w6)) := by
  have := way_any s left f1 f2 f3 w6 H6.out.2.1; rwa [← ek.out] at this
 clear m6 s0 s1 s2 s3 LB5 H5 g7h; go_wp2_with fail
 refine KY.out.mono ?_; rintro e w7 ⟨j, rest, b, rfl, b7, hw⟩; have q0 := (b7.cell (p := ⟨g7, 0, none⟩) g6h).trans v0; have q2 := (b7.cell (p := ⟨g7, 2, none⟩) g6h).trans v2; have q3 := (b7.cell (p := ⟨g7, 3, none⟩) g6h).trans v3; have g7h := Nat.lt_of_lt_of_le g6h b7.size; have LB7 : Hid (Below w.heap.size w w7) := LB6.out.trans (b7.mono LB6.out.size); have H7 : Hid (Sh s (.int .i64 k, .slice f1 f2 f3, .slice f4 f5 f6, .slice f7 f8 f9) w7) := Sh_below H6.out b7; clear b7 v0 v1 v2 v3 g6h LB6 H6 KY; rw [HW.out] at hw; obtain ⟨rfl, rfl, rfl⟩ := hw; obtain ⟨ra, rcp, er, hrow⟩ := H7.out.2.2.2; have e8 : f8 = s.2.2.2.length := by injection er
 have e7 : f7 = ra := by injection er
 obtain ⟨gr, ofr, e6, hgr, hcr⟩ := hrow (by have := HKL.out; omega)
 obtain ⟨vk, ck, slk⟩ := hcr kk HKL.out; obtain ⟨ka, kc, evk⟩ := Sl_fm slk; rw [evk] at ck slk; have E7 : Hid (f7 = some ⟨gr, ofr, none⟩) := e7.trans e6; obtain rfl := E7.out; have KL : Hid ((kk : Int) < (f8 : Int)) := by have := HKL.out; show _ < _; omega
 have KL2 : Hid (kk < f8) := by have := HKL.out; show _ < _; omega
 have CK1 : Hid (w7.cell? ⟨gr, ofr + kk, none⟩ = some (.slice ka (s.2.2.2.getD kk []).length kc) ∧ gr < w7.heap.size) := ⟨ck, hgr⟩; have SK : Hid (Pk.Sl (s.2.2.2.getD kk []) (.slice ka (s.2.2.2.getD kk []).length kc) w7) := slk; obtain ⟨ka', kc', ek', _, hvk⟩ := slk; have ea : ka = ka' := by injection ek'
 obtain ⟨gk, ofk, eka, hgk, hck⟩ := hvk (by have := HK0.out; omega)
 have EA : Hid (ka = some ⟨gk, ofk, none⟩) := ea.trans eka; obtain rfl := EA.out; have RK : Hid (w7.rangeAt gk ofk (h32 (bz (s.2.2.2.getD kk []))) ∧ gk < w7.heap.size) := ⟨rng_at HK0.out hck, hgk⟩; clear er hrow e8 e7 hcr ck evk e6 E7 hgr ea eka EA ek' hvk hck hgk; generalize hkd : s.2.2.2.getD kk [] = kd at *; go_upto_region 9 with fail
 refine RS.wp_region_flat (fun wx => Below w7.heap.size w7 wx) 11 (by kernel_rfl) (Below.refl _ _) ?_
 simp only [List.take_succ_cons, List.take_zero, List.drop_succ_cons, List.drop_zero]; refine RS.go1 (v := ?_) (a' := ?_) rfl ?_ ?_ ?_; rotate_left 2
 ·intro K wx hS hK; go_simp; exact hK _ hS
 ·simp only [Act.put, zA, zB, zC]; rfl
 refine RS.go1 (v := ?_) (a' := ?_) rfl ?_ ?_ ?_; rotate_left 2
 ·intro K wx hS hK; have d0 : (0 : Int) ≤ (kk : Int) := by omega
  go_simp; exact hK _ hS
 ·simp only [Act.put, zA, zB, zC]; rfl
 refine RS.go1 (v := ?_) (a' := ?_) rfl ?_ ?_ ?_; rotate_left 2
 ·intro K wx hS hK; go_simp; exact hK _ hS
 ·simp only [Act.put, zA, zB, zC]; rfl
 refine RS.go1g (v := ?_) (a' := ?_) (by kernel_rfl) ?_ ?_ ?_; rotate_left 2
 ·intro K wx hS hK; go_simp; exact hK _ hS
 ·simp only [Act.put, zA, zB, zC]; rfl
 refine RS.go1g (v := ?_) (a' := ?_) (by kernel_rfl) ?_ ?_ ?_; rotate_left 2
 ·intro K wx hS hK; have z3 := (hS.cell (p := ⟨g7, 3, none⟩) g7h).trans q3; go_simp; exact hK _ hS
 ·simp only [Act.put, zA, zB, zC]; rfl
 refine RS.go1g (v := ?_) (a' := ?_) (by kernel_rfl) ?_ ?_ ?_; rotate_left 2
 ·intro K wx hS hK; go_simp; exact hK _ hS
 ·simp only [Act.put, zA, zB, zC]; rfl
 refine RS.go1g (v := ?_) (a' := ?_) (by kernel_rfl) ?_ ?_ ?_; rotate_left 2
 ·intro K wx hS hK; have d0 : (0 : Int) ≤ (kk : Int) := by omega
  have d1 := KL.out; have d2 := KL2.out; go_simp; exact hK _ hS
 ·simp only [Act.put, zA, zB, zC]; rfl
 refine RS.go1g (v := ?_) (a' := ?_) (by kernel_rfl) ?_ ?_ ?_; rotate_left 2
 ·intro K wx hS hK; have z4 := (hS.cell (p := ⟨gr, ofr + kk, none⟩) CK1.out.2).trans CK1.out.1; go_simp; exact hK _ hS
 ·simp only [Act.put, zA, zB, zC]; rfl
 refine RS.go1g (v := ?_) (a' := ?_) (by kernel_rfl) ?_ ?_ ?_; rotate_left 2
 ·intro K wx hS hK; go_simp; exact hK _ hS
 ·simp only [Act.put, zA, zB, zC]; rfl
 refine RS.go1g (v := ?_) (a' := ?_) (by kernel_rfl) ?_ ?_ ?_; rotate_left 2
 ·intro K wx hS hK; have d3 := HK0.out; go_simp; exact hK _ hS
 ·simp only [Act.put, zA, zB, zC]; rfl
 refine RS.go1 (v := ?_) (a' := ?_) rfl ?_ ?_ ?_; rotate_left 2
 ·intro K wx hS hK; go_simp; exact hK _ hS
 ·simp only [Act.put, zA, zB, zC]; rfl
 refine RS.go_end ?_; intro w8 m8; have LB8 : Hid (Below w.heap.size w w8) := LB7.out.trans (m8.mono LB7.out.size); have G8 : Hid (g7 < w8.heap.size) := Nat.lt_of_lt_of_le g7h m8.size; have Q3 : Hid _ := (m8.cell (p := ⟨g7, 3, none⟩) g7h).trans q3; have CK8 : Hid (w8.cell? ⟨gr, ofr + kk, none⟩ = some (.slice (some ⟨gk, ofk, none⟩) 32 kc) ∧ gr < w8.heap.size) := ⟨(m8.cell (p := ⟨gr, ofr + kk, none⟩) CK1.out.2).trans (by rw [← HK0.out]; exact CK1.out.1), Nat.lt_of_lt_of_le CK1.out.2 m8.size⟩
 have RK8 : Hid (w8.rangeAt gk ofk (h32 (bz kd)) ∧ gk < w8.heap.size) := ⟨rng_below RK.out.1 m8 RK.out.2, Nat.lt_of_lt_of_le RK.out.2 m8.size⟩; have HM1 : Hid (1 ≤ m) := hm.out; clear m8 q0 q2 q3 LB7 H7 g7h CK1 RK; go_upto_region 10 with fail
 refine RH.wp_region_genI (NK w8 (sd r false (bz kd) rest).1 (sd r false (bz kd) rest).2) [0, 0, 0, 0, 0, 0, 0, 0, 0, 0, 1, 1, 1, 2, 2] (by kernel_rfl) (by kernel_rfl) (NK_start w8) ?_; dsimp only [List.toList_toArray]; refine RH.goD (v := ?_) (f' := ?_) rfl ?_ ?_ ?_; rotate_left 2
 ·intro U K d wx hI hmay hK; go_simp; exact hK _ (NK_keep (by decide) (by decide) (by decide) hI)
 ·intro U; simp only [Act.put, zA, zB, zC]; rfl
 refine RH.goD (v := ?_) (f' := ?_) rfl ?_ ?_ ?_; rotate_left 2
 ·intro U K d wx hI hmay hK; have z3 := (hI.a.cell (p := ⟨g7, 3, none⟩) G8.out).trans Q3.out; go_simp; exact hK _ (NK_keep (by decide) (by decide) (by decide) hI)
 ·intro U; simp only [Act.put, zA, zB, zC]; rfl
 refine RH.goD (v := ?_) (f' := ?_) rfl ?_ ?_ ?_; rotate_left 2
 ·intro U K d wx hI hmay hK; go_simp; exact hK _ (NK_keep (by decide) (by decide) (by decide) hI)
 ·intro U; simp only [Act.put, zA, zB, zC]; rfl
 refine RH.goD (v := ?_) (f' := ?_) rfl ?_ ?_ ?_; rotate_left 2
 ·intro U K d wx hI hmay hK; have d0 : (0 : Int) ≤ (kk : Int) := by omega
  have d1 := KL.out; have d2 := KL2.out; go_simp; exact hK _ (NK_keep (by decide) (by decide) (by decide) hI)
 ·intro U; simp only [Act.put, zA, zB, zC]; rfl
 refine RH.goD (v := ?_) (f' := ?_) rfl ?_ ?_ ?_; rotate_left 2
 ·intro U K d wx hI hmay hK; have z4 := (hI.a.cell (p := ⟨gr, ofr + kk, none⟩) CK8.out.2).trans CK8.out.1; go_simp; exact hK _ (NK_keep (by decide) (by decide) (by decide) hI)
 ·intro U; simp only [Act.put, zA, zB, zC]; rfl
 refine RH.goD (v := ?_) (f' := ?_) rfl ?_ ?_ ?_; rotate_left 2
 ·intro U K d wx hI hmay hK; refine up_arr rfl rfl ?_; exact hK _ (NK_keep (by decide) (by decide) (by decide) hI)
 ·intro U; simp only [Act.put, zA, zB, zC]; rfl
 refine RH.goD (v := ?_) (f' := ?_) rfl ?_ ?_ ?_; rotate_left 2
 ·intro U K d wx hI hmay hK; refine ld_at rfl rfl (rng_below RK8.out.1 hI.a RK8.out.2) ?_; exact hK _ (NK_keep (by decide) (by decide) (by decide) hI)
 ·intro U; simp only [Act.put, zA, zB, zC]; rfl
 iterate 2
  refine RH.goD (v := ?_) (f' := ?_) rfl ?_ ?_ ?_; rotate_left 2
  ·intro U K d wx hI hmay hK; go_simp; exact hK _ (NK_keep (by decide) (by decide) (by decide) hI)
  ·intro U; simp only [Act.put, zA, zB, zC]; rfl
 refine RH.goD (v := ?_) (f' := ?_) rfl ?_ ?_ ?_; rotate_left 2
 ·intro U K d wx hI hmay hK; refine up_sl rfl rfl rfl rfl (run_fromR (some ⟨gp, off, none⟩) m cc 1 HM1.out wx) ?_; exact hK _ (NK_keep (by decide) (by decide) (by decide) hI)
 ·intro U; simp only [Act.put, zA, zB, zC]; rfl
 refine RH.goN (f' := ?_) rfl ?_ ?_ ?_; rotate_left 1
 ·intro U K d wx hI hmay hK; have h0 := hmay.1; go_simp; refine (KREC.out wx (LB8.out.trans (hI.a.mono LB8.out.size))).mono (fun e w2 he => ?_)
  obtain ⟨rv, rfl, hrv, b2⟩ := he; exact ⟨_, rfl, hK _ _ (NK_call hI h0 hrv b2)⟩
 ·intro U; simp only [Act.put, zA, zB, zC]; rfl
 refine RH.goN (f' := ?_) rfl ?_ ?_ ?_; rotate_left 1
 ·intro U K d wx hI hmay hK; have h0 : d 10 = true := by have := hmay.2 _ rfl; simpa [Region.binds] using this
  obtain ⟨rv, e1, h1, h2, h3⟩ := hI.b h0; go_simp; exact hK _ _ (NK_x11 hI h0 e1)
 ·intro U; simp only [Act.put, zA, zB, zC]; rfl
 refine RH.goN (f' := ?_) rfl ?_ ?_ ?_; rotate_left 1
 ·intro U K d wx hI hmay hK; have h0 : d 10 = true := by have := hmay.2 _ rfl; simpa [Region.binds] using this
  obtain ⟨rv, e1, h1, h2, h3⟩ := hI.b h0; go_simp; exact hK _ _ (NK_x12 hI h0)
 ·intro U; simp only [Act.put, zA, zB, zC]; rfl
 iterate 2
  refine RH.goT ?_
 refine RH.go_end ?_; intro d U w9 hI hall; simp +decide only [RH.tl, if_true, if_false]
 have h10 : d 10 = true := hall 10 (by decide); have h11 : d 11 = true := hall 11 (by decide); have h12 : d 12 = true := hall 12 (by decide); obtain ⟨rv, e1, hrv, h2, h3⟩ := hI.b h10; have HR : Hid (SDP (c :: r) false F left w (.returned (.tuple #[rv, .int .i64 (sd r false (bz kd) rest).2])) w9) := ⟨rv, by rw [HS.out], by rw [HS.out]; exact hrv, LB8.out.trans (hI.a.mono LB8.out.size)⟩
 rw [h2 h11, h3 h12]; clear hI hall h10 h11 h12 e1 hrv h2 h3 LB8 G8 Q3 CK8 RK8 KREC; generalize (sd r false (bz kd) rest).2 = zz at *; go_wp2_with fail
 go_ret2
 exact HR.out
end Pf
end Go.Proofs.Ytlbdaccmnpcccaa
namespace Go.Proofs.Ytlbdaccmnpcccaa
namespace Pf
open Rs Go.RowKit Sp
def one (cs : List Bs) (n : Nat) (F : Nat → Int) : Int ⊕ Shp := match cs.drop n with
 | [] => .inl 5
 | c :: _ => if same 32 (sumf c) F = false then .inl 4 else if (rdS c).2 ≠ 0 ∨ (n ≠ 0 ∧ (rdS c).1.1 = 0) then .inl 1 else .inr (rdS c).1
theorem rdS_01 (c : Bs) : (rdS c).2 = 0 ∨ (rdS c).2 = 1 := by
 unfold rdS
 split
 ·split
  ·split
   ·exact .inl rfl
   ·exact .inr rfl
  ·exact .inr rfl
 ·exact .inr rfl
def SP (gw : Nat) (cs : List Bs) (n : Nat) (F : Nat → Int) (w : World) (e : Ending) (w' : World) : Prop := match one cs n F with
 | .inl z => EB z w e w'
 | .inr s => OKS gw n s w e w'
theorem shape_any (gw n : Nat) (cs : List Bs) (cv : Value) (F : Nat → Int) (w : World) (hW : WV gw cs cv n w) (hN : NB gw w) (hn : n ≤ cs.length) (hl : cs.length ≤ 1048576) (hc : ∀ c ∈ cs, c.length ≤ 1048576) :
  Calls Try.prog 12 #[.pointer (some ⟨gw, 0, none⟩), Hv F] w (SP gw cs n F w) := by
 obtain ⟨ca, cc, rfl, _, hz⟩ := hW.l; by_cases e : n = cs.length
 ·have h1 : one cs n F = .inl 5 := by unfold one; rw [e, List.drop_length]
  unfold SP
  rw [h1]; exact sh_end gw n cs.length ca cc F w hW.hi hW.c0 hW.c1 e
 ·have hlt : n < cs.length := by omega
  obtain ⟨g, off, rfl, hg, hcell⟩ := hz (by omega); obtain ⟨bo, bc, h1, h2, h3⟩ := hcell n hlt; have hd : cs.drop n = cs.getD n [] :: cs.drop (n + 1) := by
   rw [List.drop_eq_getElem_cons hlt, List.getD_eq_getElem?_getD, List.getElem?_eq_getElem hlt]; rfl
  have hm : cs.getD n [] ∈ cs := by
   rw [List.getD_eq_getElem?_getD, List.getElem?_eq_getElem hlt]; exact List.getElem_mem _
  have hcl := hc _ hm; generalize cs.getD n [] = c at h1 h2 h3 hd hcl; have KS : ∀ wx, Below w.heap.size w wx → Calls Try.prog 18 #[.slice bo c.length bc] wx fun e w' => e = .returned (Hv (sumf c)) ∧ Below wx.heap.size wx w' := fun wx hb => by
   obtain ⟨ao, cap, e1, _, hvv⟩ := Pk.Sl_below h3 hb; injection e1 with e2 _ _
   exact Sp.sum_any c bo bc wx (by omega) (by rw [e2]; exact hvv)
  have KR : ∀ wx, Below w.heap.size w wx → Calls Try.prog 19 #[.slice bo c.length bc] wx (PR2 wx (rdS c).1 (rdS c).2) := fun wx hb => Rs.read2_any c bo bc wx hcl h2 (Pk.Sl_below h3 hb)
  unfold SP one
  rw [hd]; dsimp only
  cases hq : same 32 (sumf c) F
  ·rw [if_pos rfl]; exact sh_sum gw n cs.length (some ⟨g, off, none⟩) cc F w hW.hi hW.c0 hW.c1 hlt c bo bc g off rfl ⟨h1, hg⟩ KS hq
  ·rw [if_neg (by simp)]; rcases rdS_01 c with h0 | h0
   ·by_cases hk : (rdS c).1.1 = 0
    ·by_cases n0 : n = 0
     ·rw [if_neg (by simp [h0, n0])]; exact sh_ok0 gw n cs.length (some ⟨g, off, none⟩) cc F w hW.hi hW.c0 hW.c1 hlt c bo bc g off rfl ⟨h1, hg⟩ KS hq _ _ KR h0 hl hW.f hN hk n0
     ·rw [if_pos (.inr ⟨n0, hk⟩)]; exact sh_none gw n cs.length (some ⟨g, off, none⟩) cc F w hW.hi hW.c0 hW.c1 hlt c bo bc g off rfl ⟨h1, hg⟩ KS hq _ _ KR h0 hk (Nat.pos_of_ne_zero n0)
    ·rw [if_neg (by simp [h0, hk])]; exact sh_ok gw n cs.length (some ⟨g, off, none⟩) cc F w hW.hi hW.c0 hW.c1 hlt c bo bc g off rfl ⟨h1, hg⟩ KS hq _ _ KR h0 hl hW.f hN hk
   ·rw [if_pos (.inl (by rw [h0]; decide))]
    exact sh_bad gw n cs.length (some ⟨g, off, none⟩) cc F w hW.hi hW.c0 hW.c1 hlt c bo bc g off rfl ⟨h1, hg⟩ KS hq _ _ KR h0
end Pf
end Go.Proofs.Ytlbdaccmnpcccaa
namespace Go.Proofs.Ytlbdaccmnpcccaa
namespace Pf
open Rs Go.RowKit Sp
theorem wk_here {s : Shp} {left : Bs} {kr : Nat × Bs} (h : wk s left = some kr) : here s left = false := by
 unfold wk at h
 unfold here
 split at h
 ·rename_i h2
  simp [h2]
 ·split at h
  ·rename_i h2 h3
   cases left with
   | nil => cases h
   | cons a r => simp [h3]
  ·cases h
theorem showdown_any : ∀ (cs : List Bs) (first : Bool) (F : Nat → Int) (left : Bs) (cv : Value) (w : World), Lz cs cv w → Hf left → (∀ c ∈ cs, c.length ≤ 1048576) →
  Calls Try.prog 10 #[Hv F, .string (Tr.st left), cv, .bool first] w (SDP cs first F left w)
 | [], first, F, left, cv, w, hL, _, _ => by
  obtain ⟨ca, cc, rfl, _, _⟩ := hL; exact sd_none F left first cc w ca
 | c :: r, first, F, left, cv, w, hL, hf, hc => by
  have hL0 := hL; obtain ⟨ca, cc, rfl, _, hz⟩ := hL; obtain ⟨g, off, rfl, hg, hcell⟩ := hz (by simp); obtain ⟨bo, bc, h1, h2, h3⟩ := hcell 0 (by simp); have e0 : (c :: r).getD 0 [] = c := rfl; rw [e0] at h1 h3; rw [Nat.add_zero] at h1; have hcl := hc c (List.mem_cons_self ..); have hm : 0 < (c :: r).length := by simp
  have KS : ∀ wx, Below w.heap.size w wx → Calls Try.prog 15 #[.slice bo c.length bc] wx fun e w' => e = .returned (Hv (sumf c)) ∧ Below wx.heap.size wx w' := fun wx hb => by
   obtain ⟨ao, cap, e1, _, hvv⟩ := Pk.Sl_below h3 hb; injection e1 with e2 _ _
   exact Sp.ssum_any c bo bc wx (by omega) (by rw [e2]; exact hvv)
  have KR : ∀ wx, Below w.heap.size w wx → Calls Try.prog 16 #[.slice bo c.length bc] wx (PR wx (rdS c).1 (rdS c).2) := fun wx hb => by
   have := Rs.hread_any c bo bc wx hcl h2 (Pk.Sl_below h3 hb); rwa [Rs.hrd_eq c (by omega)] at this
  have HP : w.cell? ⟨g, off, none⟩ = some (.slice bo c.length bc) ∧ g < w.heap.size := ⟨h1, hg⟩; have ih := fun (F' : Nat → Int) (l' : Bs) (hf' : Hf l') (wx : World) (hb : Below w.heap.size w wx) => showdown_any r false F' l' _ wx (Lz_below (Lz_tail hL0) hb) hf' (fun x hx => hc x (List.mem_cons_of_mem _ hx))
  cases hq : same 32 (sumf c) F
  ·exact sd_sum F left first cc w _ g off hm c r bo bc HP KS hq
  rcases rdS_01 c with h0 | h0
  ·by_cases hbad : first = false ∧ (rdS c).1.1 = 0
   ·exact sd_no F left first cc w _ g off hm c r bo bc HP KS hq _ _ KR h0 hbad.1 hbad.2 (by show _ = _; rw [sd, if_neg (by simp [hq]), if_pos (.inr hbad)])
   have hsd : sd (c :: r) first F left = match nx (rdS c).1 left with | some (k, rest) => sd r false (bz k) rest | none => if r = [] then (va (rdS c).1 left, 0) else ([], 6) := by
    rw [sd, if_neg (by simp [hq]), if_neg (fun h => h.elim (fun h => h h0) hbad)]
    cases nx (rdS c).1 left with
    | none => rfl
    | some kr => rfl
   have hS := rdS_isS h0; have hlen : (c :: r).length = r.length + 1 := rfl; cases hw : wk (rdS c).1 left with
   | none =>
    have hn : nx (rdS c).1 left = none := by unfold nx; rw [hw]
    rw [hn] at hsd; dsimp only at hsd; by_cases hr : r = []
    ·rw [if_pos hr] at hsd; have hm1 : (c :: r).length = 1 := by rw [hr]; rfl
     cases hh : here (rdS c).1 left
     ·have hv : va (rdS c).1 left = [] := by unfold va; rw [hh]; rfl
      rw [hv] at hsd; cases first
      ·exact sd_end2no F left false cc w _ g off hm c r bo bc HP KS hq _ _ KR h0 rfl (fun h => hbad ⟨rfl, h⟩) hw hm1 hh hsd
      ·exact sd_end1no F left true cc w _ g off hm c r bo bc HP KS hq _ _ KR h0 rfl hw hm1 hh hsd
     ·have hv : va (rdS c).1 left = (rdS c).1.2.2.1 := by unfold va; rw [hh]; rfl
      rw [hv] at hsd; cases first
      ·exact sd_end2yes F left false cc w _ g off hm c r bo bc HP KS hq _ _ KR h0 rfl (fun h => hbad ⟨rfl, h⟩) hw hm1 hh hsd
      ·exact sd_end1yes F left true cc w _ g off hm c r bo bc HP KS hq _ _ KR h0 rfl hw hm1 hh hsd
    ·rw [if_neg hr] at hsd; have hm1 : 1 < (c :: r).length := by have := List.length_pos_iff.2 hr; omega
     cases first
     ·exact sd_end2much F left false cc w _ g off hm c r bo bc HP KS hq _ _ KR h0 rfl (fun h => hbad ⟨rfl, h⟩) hw hm1 hsd
     ·exact sd_end1much F left true cc w _ g off hm c r bo bc HP KS hq _ _ KR h0 rfl hw hm1 hsd
   | some kr =>
    obtain ⟨kk, rst⟩ := kr; obtain ⟨w1, w2, w3⟩ := wk_kid hS hf hw; have hh := wk_here hw; rcases w2 with w2 | w2
    ·have hn : nx (rdS c).1 left = none := by unfold nx; rw [hw]; dsimp only; rw [if_pos w2]
     rw [hn] at hsd; dsimp only at hsd; by_cases hr : r = []
     ·rw [if_pos hr] at hsd; have hm1 : (c :: r).length = 1 := by rw [hr]; rfl
      have hv : va (rdS c).1 left = [] := by unfold va; rw [hh]; rfl
      rw [hv] at hsd; cases first
      ·exact sd_gap2no F left false cc w _ g off hm c r bo bc HP KS hq _ _ KR h0 rfl (fun h => hbad ⟨rfl, h⟩) kk rst hw w1 w2 hm1 hsd
      ·exact sd_gap1no F left true cc w _ g off hm c r bo bc HP KS hq _ _ KR h0 rfl kk rst hw w1 w2 hm1 hsd
     ·rw [if_neg hr] at hsd; have hm1 : 1 < (c :: r).length := by have := List.length_pos_iff.2 hr; omega
      cases first
      ·exact sd_gap2much F left false cc w _ g off hm c r bo bc HP KS hq _ _ KR h0 rfl (fun h => hbad ⟨rfl, h⟩) kk rst hw w1 w2 hm1 hsd
      ·exact sd_gap1much F left true cc w _ g off hm c r bo bc HP KS hq _ _ KR h0 rfl kk rst hw w1 w2 hm1 hsd
    ·have hn : nx (rdS c).1 left = some ((rdS c).1.2.2.2.getD kk [], rst) := by unfold nx; rw [hw]; dsimp only; rw [if_neg (by omega)]
     rw [hn] at hsd; dsimp only at hsd; cases first
     ·exact sd_on2 F left false cc w _ g off hm c r bo bc HP KS hq _ _ KR h0 rfl (fun h => hbad ⟨rfl, h⟩) kk rst hw w1 w2 (ih _ _ w3) hsd
     ·exact sd_on1 F left true cc w _ g off hm c r bo bc HP KS hq _ _ KR h0 rfl kk rst hw w1 w2 (ih _ _ w3) hsd
  ·exact sd_bad F left first cc w _ g off hm c r bo bc HP KS hq _ _ KR h0 (by show _ = _; rw [sd, if_neg (by simp [hq]), if_pos (.inl (by rw [h0]; decide))])
end Pf
end Go.Proofs.Ytlbdaccmnpcccaa
