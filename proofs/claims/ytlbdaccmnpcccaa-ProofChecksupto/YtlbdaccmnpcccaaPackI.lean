import Derived.Test.YtlbdaccmnpcccaaPackE
import Derived.Test.YtlbdaccmnpcccaaPackH
import Derived.Test.YtlbdaccmnpcccaaPackF
import Derived.Test.YtlbdaccmnpcccaaPackC
namespace Go.Proofs.Ytlbdaccmnpcccaa
namespace Pf
open Rs Go.RowKit Sp
theorem RSb {w1 w2 : World} {W : World} (h : Below W.heap.size W w1) (hb : Below w1.heap.size w1 w2) : Below W.heap.size W w2 := h.trans (hb.mono h.size)
theorem box_ck (F : Nat → Int) (w : World) (T : TypeId) : Sp.CK .u8 w.heap.size 32 F (w.alloc (.cells (h32 F).toArray T)) := fun o ho => by
 have h := heap_alloc_new w (.cells (h32 F).toArray T); simp only [World.cell?, h]; rw [List.getElem?_toArray, h32_get F o ho]; rfl
theorem wx_set {w W : World} {gw : Nat} {x : Int} (hb : Below w.heap.size w W) (hg : gw < w.heap.size) (hn : NB gw w) {u : Value} (hc : W.cell? ⟨gw, 1, none⟩ = some u) : (W.setCell ⟨gw, 1, none⟩ (.int .i64 x)).cell? ⟨gw, 0, none⟩ = w.cell? ⟨gw, 0, none⟩ ∧ (∀ o, (W.setCell ⟨gw, 1, none⟩ (.int .i64 x)).frozen? ⟨gw, o, none⟩ = w.frozen? ⟨gw, o, none⟩) ∧ NB gw (W.setCell ⟨gw, 1, none⟩ (.int .i64 x)) := by
 refine ⟨?_, fun o => ?_, by simp only [World.setCell, Array.size_modify]; exact Nat.lt_of_lt_of_le hg hb.size, fun o y => ?_⟩
 ·rw [World.cell?_setCell_other _ _ _ _ (by simp)]; exact hb.cell (p := ⟨gw, 0, none⟩) hg
 ·rw [World.frozen?_setCell]; exact hb.frozen (p := ⟨gw, o, none⟩) hg
 ·by_cases e : o = 1
  ·subst e; rw [World.cell?_setCell_same W _ _ hc]; intro h; injection h with h
   injection h with h
   cases h
  ·rw [World.cell?_setCell_other _ _ _ _ (fun h2 => e (by injection h2 with _ h3; exact h3.symm)), hb.cell (p := ⟨gw, o, none⟩) hg]
   exact hn.2 o y
theorem wx_blk {w W W' : World} {gw : Nat} (h : W.cell? ⟨gw, 0, none⟩ = w.cell? ⟨gw, 0, none⟩ ∧ (∀ o, W.frozen? ⟨gw, o, none⟩ = w.frozen? ⟨gw, o, none⟩) ∧ NB gw W) (hb : W'.heap[gw]? = W.heap[gw]?) (hs : W.heap.size ≤ W'.heap.size) : W'.cell? ⟨gw, 0, none⟩ = w.cell? ⟨gw, 0, none⟩ ∧ (∀ o, W'.frozen? ⟨gw, o, none⟩ = w.frozen? ⟨gw, o, none⟩) ∧ NB gw W' :=
 ⟨(World.cell?_of_block (a := ⟨gw, 0, none⟩) hb).trans h.1, fun o => (World.frozen?_of_block (a := ⟨gw, o, none⟩) hb).trans (h.2.1 o), Nat.lt_of_lt_of_le h.2.2.1 hs, fun o y => by rw [World.cell?_of_block (a := ⟨gw, o, none⟩) hb]; exact h.2.2.2 o y⟩
structure WV (gw : Nat) (cs : List Bs) (cv : Value) (n : Nat) (w : World) : Prop where
 hi : gw < w.heap.size
 c0 : w.cell? ⟨gw, 0, none⟩ = some cv
 c1 : w.cell? ⟨gw, 1, none⟩ = some (.int .i64 (n : Int))
 f : ∀ o, w.frozen? ⟨gw, o, none⟩ = false
 l : Lz cs cv w
def EB (z : Int) (w : World) (e : Ending) (w' : World) : Prop := e = .returned (.tuple #[.agg #[.int .i64 0, .slice none 0 0, .slice none 0 0, .slice none 0 0], .int .i64 z]) ∧ Below w.heap.size w w'
def OKS (gw n : Nat) (s : Shp) (w : World) (e : Ending) (w' : World) : Prop := ∃ x, e = .returned (.tuple #[v4 x, .int .i64 0]) ∧ Sh s x w' ∧ F4 x ∧ w'.cell? ⟨gw, 1, none⟩ = some (.int .i64 ((n : Int) + 1)) ∧ w.grownBy w' (some gw) ∧ Rf w.heap.size x.2.2.2 ∧ w'.cell? ⟨gw, 0, none⟩ = w.cell? ⟨gw, 0, none⟩ ∧ (∀ o, w'.frozen? ⟨gw, o, none⟩ = w.frozen? ⟨gw, o, none⟩) ∧ NB gw w'
set_option maxHeartbeats 2000000 in
set_option maxRecDepth 100000 in
theorem sh_end (gw n m : Nat) (ca : Option Addr) (cc : Nat) (F : Nat → Int) (w : World) (HGW0 : Hid (gw < w.heap.size)) (C00 : Hid (w.cell? ⟨gw, 0, none⟩ = some (.slice ca m cc))) (C10 : Hid (w.cell? ⟨gw, 1, none⟩ = some (.int .i64 (n : Int)))) (hn : n = m) :
  Calls Try.prog 12 #[.pointer (some ⟨gw, 0, none⟩), Hv F] w (EB 5 w) := by
 have t0 : ((n : Int) == (m : Int)) = true := by rw [hn]; exact beq_self_eq_true _
 go_enter Try.func12, Try.ntmps12
 go_upto_region 1 with fail
 dsimp only [Hv]; have k0 := box_ck F w 23; have b0 : Below w.heap.size w (w.alloc (.cells (h32 F).toArray 23)) := (Below.refl _ _).alloc (Nat.le_refl _) _; have z0 : (w.alloc (.cells (h32 F).toArray 23)).heap.size = w.heap.size + 1 := by simp
 generalize w.alloc (.cells (h32 F).toArray 23) = WA at k0 b0 z0 ⊢; generalize (h32 F).toArray = hF; have xA := BS_new WA; have bA : Below WA.heap.size WA (WA.alloc (.cells #[.int .i64 0, .slice none 0 0, .slice none 0 0, .slice none 0 0] 34)) := (Below.refl _ _).alloc (Nat.le_refl _) _; have zA : (WA.alloc (.cells #[.int .i64 0, .slice none 0 0, .slice none 0 0, .slice none 0 0] 34)).heap.size = WA.heap.size + 1 := by simp
 have kA := Sp.CK_below k0 bA (by omega); have LB : Hid (Below w.heap.size w (WA.alloc (.cells #[.int .i64 0, .slice none 0 0, .slice none 0 0, .slice none 0 0] 34))) := b0.trans (bA.mono b0.size); generalize WA.alloc (.cells #[.int .i64 0, .slice none 0 0, .slice none 0 0, .slice none 0 0] 34) = W0 at xA kA LB zA ⊢; have CH0 : Hid (Sp.CK .u8 w.heap.size 32 F W0 ∧ w.heap.size < W0.heap.size) := ⟨kA, by omega⟩; obtain ⟨h, eh⟩ : ∃ h, h = w.heap.size := ⟨_, rfl⟩; rw [z0, ← eh] at xA; rw [z0] at zA; rw [← eh] at CH0 ⊢; have EH : Hid (h = w.heap.size) := eh; have X0 : Hid (BS (h + 1) W0) := xA; have HGW : Hid (gw < W0.heap.size) := by have := HGW0.out; show _ < _; omega
 have C0 : Hid _ := (LB.out.cell (p := ⟨gw, 0, none⟩) HGW0.out).trans C00.out; have C1 : Hid (W0.cell? ⟨gw, 1, none⟩ = some (.int .i64 (n : Int))) := (LB.out.cell (p := ⟨gw, 1, none⟩) HGW0.out).trans C10.out; clear k0 b0 z0 xA bA zA kA eh C00 C10; refine RS.wp_region_one (fun wx => Below W0.heap.size W0 wx) (by kernel_rfl) (by kernel_rfl) ((Below.refl _ _).drew) ?_
 dsimp only [List.toList_toArray]
 iterate 3
  refine RS.go1 (v := ?_) (a' := ?_) rfl ?_ ?_ ?_; rotate_left 2
  ·intro K wx hS hK; go_simp; exact hK _ hS
  ·simp only [Act.put, zA, zB, zC]; rfl
 refine RS.go1 (v := ?_) (a' := ?_) rfl ?_ ?_ ?_; rotate_left 2
 ·intro K wx hS hK; have z1 := (hS.cell (p := ⟨gw, 1, none⟩) HGW.out).trans C1.out; go_simp; exact hK _ hS
 ·simp only [Act.put, zA, zB, zC]; rfl
 iterate 3
  refine RS.go1 (v := ?_) (a' := ?_) rfl ?_ ?_ ?_; rotate_left 2
  ·intro K wx hS hK; go_simp; exact hK _ hS
  ·simp only [Act.put, zA, zB, zC]; rfl
 refine RS.go1 (v := ?_) (a' := ?_) rfl ?_ ?_ ?_; rotate_left 2
 ·intro K wx hS hK; have z0 := (hS.cell (p := ⟨gw, 0, none⟩) HGW.out).trans C0.out; go_simp; exact hK _ hS
 ·simp only [Act.put, zA, zB, zC]; rfl
 iterate 2
  refine RS.go1 (v := ?_) (a' := ?_) rfl ?_ ?_ ?_; rotate_left 2
  ·intro K wx hS hK; go_simp; exact hK _ hS
  ·simp only [Act.put, zA, zB, zC]; rfl
 refine RS.go_end ?_; intro w1 m1; have x1 := BS_gb (r := none) X0.out (gb_below m1) nofun; have L9 : Hid (Below w.heap.size w w1) := LB.out.trans (m1.mono LB.out.size); go_wp2_with (refine wpList_stS rfl rfl rfl rfl x1 ?_)
 intro w6 g6 q0 q1 q2 q3; have l6 : Hid (Below w.heap.size w w6) := L9.out.trans ⟨g6.os, g6.tape, g6.output, g6.size, fun j hj => g6.block j (by have := L9.out.size; omega) (fun e => by injection e with e; have := EH.out; omega)⟩
 clear g6 x1; go_wp2_with fail
 exact bodyPost_ret (v := .tuple #[.agg #[.int .i64 0, .slice none 0 0, .slice none 0 0, .slice none 0 0], .int .i64 5]) (resS2 _ _ _ (h + 1) 4 5 _ _ _ _ _ rfl rfl rfl q0 q1 q2 q3) rfl ⟨rfl, l6.out⟩
set_option maxHeartbeats 2000000 in
set_option maxRecDepth 100000 in
theorem sh_sum (gw n m : Nat) (ca : Option Addr) (cc : Nat) (F : Nat → Int) (w : World) (HGW0 : Hid (gw < w.heap.size)) (C00 : Hid (w.cell? ⟨gw, 0, none⟩ = some (.slice ca m cc))) (C10 : Hid (w.cell? ⟨gw, 1, none⟩ = some (.int .i64 (n : Int)))) (hn : Hid (n < m)) (c : Bs) (bo : Option Addr) (bc gp off : Nat) (hca : ca = some ⟨gp, off, none⟩) (HP : Hid (w.cell? ⟨gp, off + n, none⟩ = some (.slice bo c.length bc) ∧ gp < w.heap.size)) (KS0 : Hid (∀ wx, Below w.heap.size w wx → Calls Try.prog 18 #[.slice bo c.length bc] wx fun e w' => e = .returned (Hv (sumf c)) ∧ Below wx.heap.size wx w')) (HQ : Hid (same 32 (sumf c) F = false)) :
  Calls Try.prog 12 #[.pointer (some ⟨gw, 0, none⟩), Hv F] w (EB 4 w) := by
 subst hca; have t0 : ((n : Int) == (m : Int)) = false := by rw [beq_eq_false_iff_ne]; have := hn.out; omega
 have L0 : Hid ((0 : Int) ≤ (n : Int)) := by show _ ≤ _; omega
 have L1 : Hid ((n : Int) < (m : Int)) := by have := hn.out; show _ < _; omega
 go_enter Try.func12, Try.ntmps12
 go_upto_region 1 with fail
 dsimp only [Hv]; have k0 := box_ck F w 23; have b0 : Below w.heap.size w (w.alloc (.cells (h32 F).toArray 23)) := (Below.refl _ _).alloc (Nat.le_refl _) _; have z0 : (w.alloc (.cells (h32 F).toArray 23)).heap.size = w.heap.size + 1 := by simp
 generalize w.alloc (.cells (h32 F).toArray 23) = WA at k0 b0 z0 ⊢; generalize (h32 F).toArray = hF; have xA := BS_new WA; have bA : Below WA.heap.size WA (WA.alloc (.cells #[.int .i64 0, .slice none 0 0, .slice none 0 0, .slice none 0 0] 34)) := (Below.refl _ _).alloc (Nat.le_refl _) _; have zA : (WA.alloc (.cells #[.int .i64 0, .slice none 0 0, .slice none 0 0, .slice none 0 0] 34)).heap.size = WA.heap.size + 1 := by simp
 have kA := Sp.CK_below k0 bA (by omega); have LB : Hid (Below w.heap.size w (WA.alloc (.cells #[.int .i64 0, .slice none 0 0, .slice none 0 0, .slice none 0 0] 34))) := b0.trans (bA.mono b0.size); generalize WA.alloc (.cells #[.int .i64 0, .slice none 0 0, .slice none 0 0, .slice none 0 0] 34) = W0 at xA kA LB zA ⊢; have CH0 : Hid (Sp.CK .u8 w.heap.size 32 F W0 ∧ w.heap.size < W0.heap.size) := ⟨kA, by omega⟩; obtain ⟨h, eh⟩ : ∃ h, h = w.heap.size := ⟨_, rfl⟩; rw [z0, ← eh] at xA; rw [z0] at zA; rw [← eh] at CH0 ⊢; have EH : Hid (h = w.heap.size) := eh; have X0 : Hid (BS (h + 1) W0) := xA; have HGW : Hid (gw < W0.heap.size) := by have := HGW0.out; show _ < _; omega
 have C0 : Hid _ := (LB.out.cell (p := ⟨gw, 0, none⟩) HGW0.out).trans C00.out; have C1 : Hid (W0.cell? ⟨gw, 1, none⟩ = some (.int .i64 (n : Int))) := (LB.out.cell (p := ⟨gw, 1, none⟩) HGW0.out).trans C10.out; clear k0 b0 z0 xA bA zA kA eh C00 C10; refine RS.wp_region_one (fun wx => Below W0.heap.size W0 wx) (by kernel_rfl) (by kernel_rfl) ((Below.refl _ _).drew) ?_
 dsimp only [List.toList_toArray]
 iterate 3
  refine RS.go1 (v := ?_) (a' := ?_) rfl ?_ ?_ ?_; rotate_left 2
  ·intro K wx hS hK; go_simp; exact hK _ hS
  ·simp only [Act.put, zA, zB, zC]; rfl
 refine RS.go1 (v := ?_) (a' := ?_) rfl ?_ ?_ ?_; rotate_left 2
 ·intro K wx hS hK; have z1 := (hS.cell (p := ⟨gw, 1, none⟩) HGW.out).trans C1.out; go_simp; exact hK _ hS
 ·simp only [Act.put, zA, zB, zC]; rfl
 iterate 3
  refine RS.go1 (v := ?_) (a' := ?_) rfl ?_ ?_ ?_; rotate_left 2
  ·intro K wx hS hK; go_simp; exact hK _ hS
  ·simp only [Act.put, zA, zB, zC]; rfl
 refine RS.go1 (v := ?_) (a' := ?_) rfl ?_ ?_ ?_; rotate_left 2
 ·intro K wx hS hK; have z0 := (hS.cell (p := ⟨gw, 0, none⟩) HGW.out).trans C0.out; go_simp; exact hK _ hS
 ·simp only [Act.put, zA, zB, zC]; rfl
 iterate 2
  refine RS.go1 (v := ?_) (a' := ?_) rfl ?_ ?_ ?_; rotate_left 2
  ·intro K wx hS hK; go_simp; exact hK _ hS
  ·simp only [Act.put, zA, zB, zC]; rfl
 refine RS.go_end ?_; intro w1 m1; have G1 : Hid (gw < w1.heap.size) := Nat.lt_of_lt_of_le HGW.out m1.size; have D0 : Hid _ := (m1.cell (p := ⟨gw, 0, none⟩) HGW.out).trans C0.out; have D1 : Hid _ := (m1.cell (p := ⟨gw, 1, none⟩) HGW.out).trans C1.out; have LB1 : Hid (Below w.heap.size w w1) := LB.out.trans (m1.mono LB.out.size); have CC : Hid (w1.cell? ⟨gp, off + n, none⟩ = some (.slice bo c.length bc) ∧ gp < w1.heap.size) := ⟨(LB1.out.cell (p := ⟨gp, off + n, none⟩) HP.out.2).trans HP.out.1, Nat.lt_of_lt_of_le HP.out.2 LB1.out.size⟩; have X1 : Hid (BS (h + 1) w1) := BS_gb (r := none) X0.out (gb_below m1) nofun; have CH1 : Hid (Sp.CK .u8 h 32 F w1 ∧ h < w1.heap.size) := ⟨Sp.CK_below CH0.out.1 m1 CH0.out.2, Nat.lt_of_lt_of_le CH0.out.2 m1.size⟩; clear m1 HGW C0 C1 LB X0 CH0 t0; go_upto_region 3 with fail
 refine RS.wp_region_one (fun wx => Below w1.heap.size w1 wx) (by kernel_rfl) (by kernel_rfl) ((Below.refl _ _).drew) ?_
 dsimp only [List.toList_toArray]
 iterate 3
  refine RS.go1 (v := ?_) (a' := ?_) rfl ?_ ?_ ?_; rotate_left 2
  ·intro K wx hS hK; go_simp; exact hK _ hS
  ·simp only [Act.put, zA, zB, zC]; rfl
 refine RS.go1 (v := ?_) (a' := ?_) rfl ?_ ?_ ?_; rotate_left 2
 ·intro K wx hS hK; have z0 := (hS.cell (p := ⟨gw, 0, none⟩) G1.out).trans D0.out; go_simp; exact hK _ hS
 ·simp only [Act.put, zA, zB, zC]; rfl
 iterate 3
  refine RS.go1 (v := ?_) (a' := ?_) rfl ?_ ?_ ?_; rotate_left 2
  ·intro K wx hS hK; go_simp; exact hK _ hS
  ·simp only [Act.put, zA, zB, zC]; rfl
 refine RS.go1 (v := ?_) (a' := ?_) rfl ?_ ?_ ?_; rotate_left 2
 ·intro K wx hS hK; have z1 := (hS.cell (p := ⟨gw, 1, none⟩) G1.out).trans D1.out; go_simp; exact hK _ hS
 ·simp only [Act.put, zA, zB, zC]; rfl
 refine RS.go1 (v := ?_) (a' := ?_) rfl ?_ ?_ ?_; rotate_left 2
 ·intro K wx hS hK; have d0 := L0.out; have d1 := L1.out; go_simp; exact hK _ hS
 ·simp only [Act.put, zA, zB, zC]; rfl
 refine RS.go1 (v := ?_) (a' := ?_) rfl ?_ ?_ ?_; rotate_left 2
 ·intro K wx hS hK; have z2 := (hS.cell (p := ⟨gp, off + n, none⟩) CC.out.2).trans CC.out.1; go_simp; exact hK _ hS
 ·simp only [Act.put, zA, zB, zC]; rfl
 refine RS.go1 (v := ?_) (a' := ?_) rfl ?_ ?_ ?_; rotate_left 2
 ·intro K wx hS hK; go_simp; exact hK _ hS
 ·simp only [Act.put, zA, zB, zC]; rfl
 refine RS.go_end ?_; intro w2 m2; have G2 : Hid (gw < w2.heap.size) := Nat.lt_of_lt_of_le G1.out m2.size; have E0 : Hid _ := (m2.cell (p := ⟨gw, 0, none⟩) G1.out).trans D0.out; have E1 : Hid _ := (m2.cell (p := ⟨gw, 1, none⟩) G1.out).trans D1.out; have LB2 : Hid (Below w.heap.size w w2) := LB1.out.trans (m2.mono LB1.out.size); have X2 : Hid (BS (h + 1) w2) := BS_gb (r := none) X1.out (gb_below m2) nofun; have CH : Hid (Sp.CK .u8 h 32 F w2 ∧ h < w2.heap.size) := ⟨Sp.CK_below CH1.out.1 m2 CH1.out.2, Nat.lt_of_lt_of_le CH1.out.2 m2.size⟩; have KS : Hid (∀ wx, Below w2.heap.size w2 wx → Calls Try.prog 18 #[.slice bo c.length bc] wx fun e w' => e = .returned (Hv (sumf c)) ∧ Below wx.heap.size wx w') := fun wx hb => KS0.out wx (LB2.out.trans (hb.mono LB2.out.size))
 clear m2 G1 D0 D1 LB1 X1 CH1 CC L0 L1; go_upto_region 4 with fail
 refine RS.wp_region_one (fun wx => Below w2.heap.size w2 wx) (by kernel_rfl) (by kernel_rfl) ((Below.refl _ _).drew) ?_
 dsimp only [List.toList_toArray]; refine RS.go1 (v := ?_) (a' := ?_) rfl ?_ ?_ ?_; rotate_left 2
 ·intro K wx hS hK; go_simp; exact hK _ hS
 ·simp only [Act.put, zA, zB, zC]; rfl
 refine RS.go1 (v := ?_) (a' := ?_) rfl ?_ ?_ ?_; rotate_left 2
 ·intro K wx hS hK; go_simp; refine (KS.out wx hS).mono (fun e w2 he => ?_)
  refine ⟨_, he.1, ?_⟩; exact hK _ (RSb hS he.2)
 ·simp only [Act.put, zA, zB, zC]; rfl
 refine RS.go1 (v := ?_) (a' := ?_) rfl ?_ ?_ ?_; rotate_left 2
 ·intro K wx hS hK; refine Hh.ld rfl rfl (Sp.CK_below CH.out.1 hS CH.out.2) ?_; exact hK _ hS
 ·simp only [Act.put, zA, zB, zC]; rfl
 refine RS.go1 (v := ?_) (a' := ?_) rfl ?_ ?_ ?_; rotate_left 2
 ·intro K wx hS hK; refine Hh.neq (b := true) rfl rfl rfl (by rw [HQ.out]; rfl) ?_
  exact hK _ hS
 ·simp only [Act.put, zA, zB, zC]; rfl
 refine RS.go_end ?_; intro w3 m3; have x1 := BS_gb (r := none) X2.out (gb_below m3) nofun; have L9 : Hid (Below w.heap.size w w3) := LB2.out.trans (m3.mono LB2.out.size); go_wp2_with (refine wpList_stS rfl rfl rfl rfl x1 ?_)
 intro w6 g6 q0 q1 q2 q3; have l6 : Hid (Below w.heap.size w w6) := L9.out.trans ⟨g6.os, g6.tape, g6.output, g6.size, fun j hj => g6.block j (by have := L9.out.size; omega) (fun e => by injection e with e; have := EH.out; omega)⟩
 clear g6 x1; go_wp2_with fail
 exact bodyPost_ret (v := .tuple #[.agg #[.int .i64 0, .slice none 0 0, .slice none 0 0, .slice none 0 0], .int .i64 4]) (resS2 _ _ _ (h + 1) 4 5 _ _ _ _ _ rfl rfl rfl q0 q1 q2 q3) rfl ⟨rfl, l6.out⟩
set_option maxHeartbeats 2000000 in
set_option maxRecDepth 100000 in
theorem sh_bad (gw n m : Nat) (ca : Option Addr) (cc : Nat) (F : Nat → Int) (w : World) (HGW0 : Hid (gw < w.heap.size)) (C00 : Hid (w.cell? ⟨gw, 0, none⟩ = some (.slice ca m cc))) (C10 : Hid (w.cell? ⟨gw, 1, none⟩ = some (.int .i64 (n : Int)))) (hn : Hid (n < m)) (c : Bs) (bo : Option Addr) (bc gp off : Nat) (hca : ca = some ⟨gp, off, none⟩) (HP : Hid (w.cell? ⟨gp, off + n, none⟩ = some (.slice bo c.length bc) ∧ gp < w.heap.size)) (KS0 : Hid (∀ wx, Below w.heap.size w wx → Calls Try.prog 18 #[.slice bo c.length bc] wx fun e w' => e = .returned (Hv (sumf c)) ∧ Below wx.heap.size wx w')) (HQ : Hid (same 32 (sumf c) F = true)) (s : Shp) (z : Int) (KR : Hid (∀ wx, Below w.heap.size w wx → Calls Try.prog 19 #[.slice bo c.length bc] wx (PR2 wx s z))) (hz : Hid (z = 1)) :
  Calls Try.prog 12 #[.pointer (some ⟨gw, 0, none⟩), Hv F] w (EB 1 w) := by
 subst hca; have t0 : ((n : Int) == (m : Int)) = false := by rw [beq_eq_false_iff_ne]; have := hn.out; omega
 have L0 : Hid ((0 : Int) ≤ (n : Int)) := by show _ ≤ _; omega
 have L1 : Hid ((n : Int) < (m : Int)) := by have := hn.out; show _ < _; omega
 go_enter Try.func12, Try.ntmps12
 go_upto_region 1 with fail
 dsimp only [Hv]; have k0 := box_ck F w 23; have b0 : Below w.heap.size w (w.alloc (.cells (h32 F).toArray 23)) := (Below.refl _ _).alloc (Nat.le_refl _) _; have z0 : (w.alloc (.cells (h32 F).toArray 23)).heap.size = w.heap.size + 1 := by simp
 generalize w.alloc (.cells (h32 F).toArray 23) = WA at k0 b0 z0 ⊢; generalize (h32 F).toArray = hF; have xA := BS_new WA; have bA : Below WA.heap.size WA (WA.alloc (.cells #[.int .i64 0, .slice none 0 0, .slice none 0 0, .slice none 0 0] 34)) := (Below.refl _ _).alloc (Nat.le_refl _) _; have zA : (WA.alloc (.cells #[.int .i64 0, .slice none 0 0, .slice none 0 0, .slice none 0 0] 34)).heap.size = WA.heap.size + 1 := by simp
 have kA := Sp.CK_below k0 bA (by omega); have LB : Hid (Below w.heap.size w (WA.alloc (.cells #[.int .i64 0, .slice none 0 0, .slice none 0 0, .slice none 0 0] 34))) := b0.trans (bA.mono b0.size); generalize WA.alloc (.cells #[.int .i64 0, .slice none 0 0, .slice none 0 0, .slice none 0 0] 34) = W0 at xA kA LB zA ⊢; have CH0 : Hid (Sp.CK .u8 w.heap.size 32 F W0 ∧ w.heap.size < W0.heap.size) := ⟨kA, by omega⟩; obtain ⟨h, eh⟩ : ∃ h, h = w.heap.size := ⟨_, rfl⟩; rw [z0, ← eh] at xA; rw [z0] at zA; rw [← eh] at CH0 ⊢; have EH : Hid (h = w.heap.size) := eh; have X0 : Hid (BS (h + 1) W0) := xA; have HGW : Hid (gw < W0.heap.size) := by have := HGW0.out; show _ < _; omega
 have C0 : Hid _ := (LB.out.cell (p := ⟨gw, 0, none⟩) HGW0.out).trans C00.out; have C1 : Hid (W0.cell? ⟨gw, 1, none⟩ = some (.int .i64 (n : Int))) := (LB.out.cell (p := ⟨gw, 1, none⟩) HGW0.out).trans C10.out; clear k0 b0 z0 xA bA zA kA eh C00 C10; refine RS.wp_region_one (fun wx => Below W0.heap.size W0 wx) (by kernel_rfl) (by kernel_rfl) ((Below.refl _ _).drew) ?_
 dsimp only [List.toList_toArray]
 iterate 3
  refine RS.go1 (v := ?_) (a' := ?_) rfl ?_ ?_ ?_; rotate_left 2
  ·intro K wx hS hK; go_simp; exact hK _ hS
  ·simp only [Act.put, zA, zB, zC]; rfl
 refine RS.go1 (v := ?_) (a' := ?_) rfl ?_ ?_ ?_; rotate_left 2
 ·intro K wx hS hK; have z1 := (hS.cell (p := ⟨gw, 1, none⟩) HGW.out).trans C1.out; go_simp; exact hK _ hS
 ·simp only [Act.put, zA, zB, zC]; rfl
 iterate 3
  refine RS.go1 (v := ?_) (a' := ?_) rfl ?_ ?_ ?_; rotate_left 2
  ·intro K wx hS hK; go_simp; exact hK _ hS
  ·simp only [Act.put, zA, zB, zC]; rfl
 refine RS.go1 (v := ?_) (a' := ?_) rfl ?_ ?_ ?_; rotate_left 2
 ·intro K wx hS hK; have z0 := (hS.cell (p := ⟨gw, 0, none⟩) HGW.out).trans C0.out; go_simp; exact hK _ hS
 ·simp only [Act.put, zA, zB, zC]; rfl
 iterate 2
  refine RS.go1 (v := ?_) (a' := ?_) rfl ?_ ?_ ?_; rotate_left 2
  ·intro K wx hS hK; go_simp; exact hK _ hS
  ·simp only [Act.put, zA, zB, zC]; rfl
 refine RS.go_end ?_; intro w1 m1; have G1 : Hid (gw < w1.heap.size) := Nat.lt_of_lt_of_le HGW.out m1.size; have D0 : Hid _ := (m1.cell (p := ⟨gw, 0, none⟩) HGW.out).trans C0.out; have D1 : Hid _ := (m1.cell (p := ⟨gw, 1, none⟩) HGW.out).trans C1.out; have LB1 : Hid (Below w.heap.size w w1) := LB.out.trans (m1.mono LB.out.size); have CC : Hid (w1.cell? ⟨gp, off + n, none⟩ = some (.slice bo c.length bc) ∧ gp < w1.heap.size) := ⟨(LB1.out.cell (p := ⟨gp, off + n, none⟩) HP.out.2).trans HP.out.1, Nat.lt_of_lt_of_le HP.out.2 LB1.out.size⟩; have X1 : Hid (BS (h + 1) w1) := BS_gb (r := none) X0.out (gb_below m1) nofun; have CH1 : Hid (Sp.CK .u8 h 32 F w1 ∧ h < w1.heap.size) := ⟨Sp.CK_below CH0.out.1 m1 CH0.out.2, Nat.lt_of_lt_of_le CH0.out.2 m1.size⟩; clear m1 HGW C0 C1 LB X0 CH0 t0; go_upto_region 3 with fail
 refine RS.wp_region_one (fun wx => Below w1.heap.size w1 wx) (by kernel_rfl) (by kernel_rfl) ((Below.refl _ _).drew) ?_
 dsimp only [List.toList_toArray]
 iterate 3
  refine RS.go1 (v := ?_) (a' := ?_) rfl ?_ ?_ ?_; rotate_left 2
  ·intro K wx hS hK; go_simp; exact hK _ hS
  ·simp only [Act.put, zA, zB, zC]; rfl
 refine RS.go1 (v := ?_) (a' := ?_) rfl ?_ ?_ ?_; rotate_left 2
 ·intro K wx hS hK; have z0 := (hS.cell (p := ⟨gw, 0, none⟩) G1.out).trans D0.out; go_simp; exact hK _ hS
 ·simp only [Act.put, zA, zB, zC]; rfl
 iterate 3
  refine RS.go1 (v := ?_) (a' := ?_) rfl ?_ ?_ ?_; rotate_left 2
  ·intro K wx hS hK; go_simp; exact hK _ hS
  ·simp only [Act.put, zA, zB, zC]; rfl
 refine RS.go1 (v := ?_) (a' := ?_) rfl ?_ ?_ ?_; rotate_left 2
 ·intro K wx hS hK; have z1 := (hS.cell (p := ⟨gw, 1, none⟩) G1.out).trans D1.out; go_simp; exact hK _ hS
 ·simp only [Act.put, zA, zB, zC]; rfl
 refine RS.go1 (v := ?_) (a' := ?_) rfl ?_ ?_ ?_; rotate_left 2
 ·intro K wx hS hK; have d0 := L0.out; have d1 := L1.out; go_simp; exact hK _ hS
 ·simp only [Act.put, zA, zB, zC]; rfl
 refine RS.go1 (v := ?_) (a' := ?_) rfl ?_ ?_ ?_; rotate_left 2
 ·intro K wx hS hK; have z2 := (hS.cell (p := ⟨gp, off + n, none⟩) CC.out.2).trans CC.out.1; go_simp; exact hK _ hS
 ·simp only [Act.put, zA, zB, zC]; rfl
 refine RS.go1 (v := ?_) (a' := ?_) rfl ?_ ?_ ?_; rotate_left 2
 ·intro K wx hS hK; go_simp; exact hK _ hS
 ·simp only [Act.put, zA, zB, zC]; rfl
 refine RS.go_end ?_; intro w2 m2; have G2 : Hid (gw < w2.heap.size) := Nat.lt_of_lt_of_le G1.out m2.size; have E0 : Hid _ := (m2.cell (p := ⟨gw, 0, none⟩) G1.out).trans D0.out; have E1 : Hid _ := (m2.cell (p := ⟨gw, 1, none⟩) G1.out).trans D1.out; have LB2 : Hid (Below w.heap.size w w2) := LB1.out.trans (m2.mono LB1.out.size); have X2 : Hid (BS (h + 1) w2) := BS_gb (r := none) X1.out (gb_below m2) nofun; have CH : Hid (Sp.CK .u8 h 32 F w2 ∧ h < w2.heap.size) := ⟨Sp.CK_below CH1.out.1 m2 CH1.out.2, Nat.lt_of_lt_of_le CH1.out.2 m2.size⟩; have KS : Hid (∀ wx, Below w2.heap.size w2 wx → Calls Try.prog 18 #[.slice bo c.length bc] wx fun e w' => e = .returned (Hv (sumf c)) ∧ Below wx.heap.size wx w') := fun wx hb => KS0.out wx (LB2.out.trans (hb.mono LB2.out.size))
 clear m2 G1 D0 D1 LB1 X1 CH1 CC L0 L1; go_upto_region 4 with fail
 refine RS.wp_region_one (fun wx => Below w2.heap.size w2 wx) (by kernel_rfl) (by kernel_rfl) ((Below.refl _ _).drew) ?_
 dsimp only [List.toList_toArray]; refine RS.go1 (v := ?_) (a' := ?_) rfl ?_ ?_ ?_; rotate_left 2
 ·intro K wx hS hK; go_simp; exact hK _ hS
 ·simp only [Act.put, zA, zB, zC]; rfl
 refine RS.go1 (v := ?_) (a' := ?_) rfl ?_ ?_ ?_; rotate_left 2
 ·intro K wx hS hK; go_simp; refine (KS.out wx hS).mono (fun e w2 he => ?_)
  refine ⟨_, he.1, ?_⟩; exact hK _ (RSb hS he.2)
 ·simp only [Act.put, zA, zB, zC]; rfl
 refine RS.go1 (v := ?_) (a' := ?_) rfl ?_ ?_ ?_; rotate_left 2
 ·intro K wx hS hK; refine Hh.ld rfl rfl (Sp.CK_below CH.out.1 hS CH.out.2) ?_; exact hK _ hS
 ·simp only [Act.put, zA, zB, zC]; rfl
 refine RS.go1 (v := ?_) (a' := ?_) rfl ?_ ?_ ?_; rotate_left 2
 ·intro K wx hS hK; refine Hh.neq (b := false) rfl rfl rfl (by rw [HQ.out]; rfl) ?_
  exact hK _ hS
 ·simp only [Act.put, zA, zB, zC]; rfl
 refine RS.go_end ?_; intro w3 m3; have G3 : Hid (gw < w3.heap.size) := Nat.lt_of_lt_of_le G2.out m3.size; have X3 : Hid (BS (h + 1) w3) := BS_gb (r := none) X2.out (gb_below m3) nofun; have LB3 : Hid (Below w.heap.size w w3) := LB2.out.trans (m3.mono LB2.out.size); have M1 : Hid (w3.cell? ⟨gw, 1, none⟩ = some (.int .i64 (n : Int))) := (m3.cell (p := ⟨gw, 1, none⟩) G2.out).trans E1.out; clear m3 G2 E0 E1 LB2 X2 CH KS; go_wp2_with fail
 refine (KR.out _ LB3.out).mono ?_; rintro e w4 ⟨v, rfl, sh, b4, ⟨k, f1, f2, f3, f4, f5, f6, f7, f8, f9, rfl⟩, rf⟩; have LB4 := LB3.out.trans (b4.mono LB3.out.size); have bB : Below w4.heap.size w4 (w4.alloc (.cells #[.int .i64 k, .slice f1 f2 f3, .slice f4 f5 f6, .slice f7 f8 f9] 34)) := (Below.refl _ _).alloc (Nat.le_refl _) _; have HB := heap_alloc_new w4 (.cells #[.int .i64 k, .slice f1 f2 f3, .slice f4 f5 f6, .slice f7 f8 f9] 34); have s0 : (w4.alloc (.cells #[.int .i64 k, .slice f1 f2 f3, .slice f4 f5 f6, .slice f7 f8 f9] 34)).cell? ⟨w4.heap.size, 0, none⟩ = some (.int .i64 k) := by simp only [World.cell?, HB]; rfl
 have s1 : (w4.alloc (.cells #[.int .i64 k, .slice f1 f2 f3, .slice f4 f5 f6, .slice f7 f8 f9] 34)).cell? ⟨w4.heap.size, 1, none⟩ = some (.slice f1 f2 f3) := by simp only [World.cell?, HB]; rfl
 have s2 : (w4.alloc (.cells #[.int .i64 k, .slice f1 f2 f3, .slice f4 f5 f6, .slice f7 f8 f9] 34)).cell? ⟨w4.heap.size, 2, none⟩ = some (.slice f4 f5 f6) := by simp only [World.cell?, HB]; rfl
 have s3 : (w4.alloc (.cells #[.int .i64 k, .slice f1 f2 f3, .slice f4 f5 f6, .slice f7 f8 f9] 34)).cell? ⟨w4.heap.size, 3, none⟩ = some (.slice f7 f8 f9) := by simp only [World.cell?, HB]; rfl
 have b34 := b4.trans (bB.mono b4.size); have X5 : Hid (BS (h + 1) (w4.alloc (.cells #[.int .i64 k, .slice f1 f2 f3, .slice f4 f5 f6, .slice f7 f8 f9] 34))) := BS_gb (r := none) X3.out (gb_below b34) nofun; have LB5 : Hid (Below w.heap.size w (w4.alloc (.cells #[.int .i64 k, .slice f1 f2 f3, .slice f4 f5 f6, .slice f7 f8 f9] 34))) := LB4.trans (bB.mono LB4.size); have G5 : Hid (gw < (w4.alloc (.cells #[.int .i64 k, .slice f1 f2 f3, .slice f4 f5 f6, .slice f7 f8 f9] 34)).heap.size) := Nat.lt_of_lt_of_le G3.out b34.size; have M5 : Hid ((w4.alloc (.cells #[.int .i64 k, .slice f1 f2 f3, .slice f4 f5 f6, .slice f7 f8 f9] 34)).cell? ⟨gw, 1, none⟩ = some (.int .i64 (n : Int))) := (b34.cell (p := ⟨gw, 1, none⟩) G3.out).trans M1.out; have H5 : Hid (Sh s (.int .i64 k, .slice f1 f2 f3, .slice f4 f5 f6, .slice f7 f8 f9) (w4.alloc (.cells #[.int .i64 k, .slice f1 f2 f3, .slice f4 f5 f6, .slice f7 f8 f9] 34)) ∧ Rf w3.heap.size (.slice f7 f8 f9)) := ⟨Sh_below sh bB, rf⟩; have ek : Hid (k = s.1) := by have := sh.1; injection this
 have HG4 : Hid (gw < w4.heap.size ∧ h + 1 < w3.heap.size) := ⟨Nat.lt_of_lt_of_le G3.out b4.size, X3.out.hi⟩; clear sh b4 rf LB4 bB HB b34 X3 LB3 M1 KR G3; dsimp only [v4]; go_upto_region 7 with fail
 generalize w4.alloc (.cells #[.int .i64 k, .slice f1 f2 f3, .slice f4 f5 f6, .slice f7 f8 f9] 34) = W5 at s0 s1 s2 s3 X5 LB5 G5 M5 H5 ⊢; generalize w4.heap.size = g7 at s0 s1 s2 s3 HG4 ⊢; obtain rfl : z = 1 := hz.out; clear s0 s1 s2 s3 M5 H5 ek; refine RS.wp_region_flat (fun wx => Below W5.heap.size W5 wx) 14 (by kernel_rfl) (Below.refl _ _) ?_
 simp only [List.take_succ_cons, List.take_zero, List.drop_succ_cons, List.drop_zero]
 iterate 3
  refine RS.go1 (v := ?_) (a' := ?_) rfl ?_ ?_ ?_; rotate_left 2
  ·intro K wx hS hK; go_simp; exact hK _ hS
  ·simp only [Act.put, zA, zB, zC]; rfl
 iterate 10
  refine RS.go0 (a' := ?_) (by kernel_rfl) ?_ ?_; rotate_left 1
  ·simp only [Act.put, zA, zB, zC]; rfl
 refine RS.go1 (v := ?_) (a' := ?_) rfl ?_ ?_ ?_; rotate_left 2
 ·intro K wx hS hK; go_simp; exact hK _ hS
 ·simp only [Act.put, zA, zB, zC]; rfl
 refine RS.go_end ?_; intro w9 m9; have x1 := BS_gb (r := none) X5.out (gb_below m9) nofun; have L9 : Hid (Below w.heap.size w w9) := LB5.out.trans (m9.mono LB5.out.size); go_wp2_with (refine wpList_stS rfl rfl rfl rfl x1 ?_)
 intro w6 g6 q0 q1 q2 q3; have l6 : Hid (Below w.heap.size w w6) := L9.out.trans ⟨g6.os, g6.tape, g6.output, g6.size, fun j hj => g6.block j (by have := L9.out.size; omega) (fun e => by injection e with e; have := EH.out; omega)⟩
 clear g6 x1; go_wp2_with fail
 exact bodyPost_ret (v := .tuple #[.agg #[.int .i64 0, .slice none 0 0, .slice none 0 0, .slice none 0 0], .int .i64 1]) (resS2 _ _ _ (h + 1) 4 5 _ _ _ _ _ rfl rfl rfl q0 q1 q2 q3) rfl ⟨rfl, l6.out⟩
set_option maxHeartbeats 2000000 in
set_option maxRecDepth 100000 in
theorem sh_none (gw n m : Nat) (ca : Option Addr) (cc : Nat) (F : Nat → Int) (w : World) (HGW0 : Hid (gw < w.heap.size)) (C00 : Hid (w.cell? ⟨gw, 0, none⟩ = some (.slice ca m cc))) (C10 : Hid (w.cell? ⟨gw, 1, none⟩ = some (.int .i64 (n : Int)))) (hn : Hid (n < m)) (c : Bs) (bo : Option Addr) (bc gp off : Nat) (hca : ca = some ⟨gp, off, none⟩) (HP : Hid (w.cell? ⟨gp, off + n, none⟩ = some (.slice bo c.length bc) ∧ gp < w.heap.size)) (KS0 : Hid (∀ wx, Below w.heap.size w wx → Calls Try.prog 18 #[.slice bo c.length bc] wx fun e w' => e = .returned (Hv (sumf c)) ∧ Below wx.heap.size wx w')) (HQ : Hid (same 32 (sumf c) F = true)) (s : Shp) (z : Int) (KR : Hid (∀ wx, Below w.heap.size w wx → Calls Try.prog 19 #[.slice bo c.length bc] wx (PR2 wx s z))) (hz : Hid (z = 0)) (hk0 : Hid (s.1 = 0)) (hn0 : Hid (0 < n)) :
  Calls Try.prog 12 #[.pointer (some ⟨gw, 0, none⟩), Hv F] w (EB 1 w) := by
 subst hca; have t0 : ((n : Int) == (m : Int)) = false := by rw [beq_eq_false_iff_ne]; have := hn.out; omega
 have L0 : Hid ((0 : Int) ≤ (n : Int)) := by show _ ≤ _; omega
 have L1 : Hid ((n : Int) < (m : Int)) := by have := hn.out; show _ < _; omega
 go_enter Try.func12, Try.ntmps12
 go_upto_region 1 with fail
 dsimp only [Hv]; have k0 := box_ck F w 23; have b0 : Below w.heap.size w (w.alloc (.cells (h32 F).toArray 23)) := (Below.refl _ _).alloc (Nat.le_refl _) _; have z0 : (w.alloc (.cells (h32 F).toArray 23)).heap.size = w.heap.size + 1 := by simp
 generalize w.alloc (.cells (h32 F).toArray 23) = WA at k0 b0 z0 ⊢; generalize (h32 F).toArray = hF; have xA := BS_new WA; have bA : Below WA.heap.size WA (WA.alloc (.cells #[.int .i64 0, .slice none 0 0, .slice none 0 0, .slice none 0 0] 34)) := (Below.refl _ _).alloc (Nat.le_refl _) _; have zA : (WA.alloc (.cells #[.int .i64 0, .slice none 0 0, .slice none 0 0, .slice none 0 0] 34)).heap.size = WA.heap.size + 1 := by simp
 have kA := Sp.CK_below k0 bA (by omega); have LB : Hid (Below w.heap.size w (WA.alloc (.cells #[.int .i64 0, .slice none 0 0, .slice none 0 0, .slice none 0 0] 34))) := b0.trans (bA.mono b0.size); generalize WA.alloc (.cells #[.int .i64 0, .slice none 0 0, .slice none 0 0, .slice none 0 0] 34) = W0 at xA kA LB zA ⊢; have CH0 : Hid (Sp.CK .u8 w.heap.size 32 F W0 ∧ w.heap.size < W0.heap.size) := ⟨kA, by omega⟩; obtain ⟨h, eh⟩ : ∃ h, h = w.heap.size := ⟨_, rfl⟩; rw [z0, ← eh] at xA; rw [z0] at zA; rw [← eh] at CH0 ⊢; have EH : Hid (h = w.heap.size) := eh; have X0 : Hid (BS (h + 1) W0) := xA; have HGW : Hid (gw < W0.heap.size) := by have := HGW0.out; show _ < _; omega
 have C0 : Hid _ := (LB.out.cell (p := ⟨gw, 0, none⟩) HGW0.out).trans C00.out; have C1 : Hid (W0.cell? ⟨gw, 1, none⟩ = some (.int .i64 (n : Int))) := (LB.out.cell (p := ⟨gw, 1, none⟩) HGW0.out).trans C10.out; clear k0 b0 z0 xA bA zA kA eh C00 C10; refine RS.wp_region_one (fun wx => Below W0.heap.size W0 wx) (by kernel_rfl) (by kernel_rfl) ((Below.refl _ _).drew) ?_
 dsimp only [List.toList_toArray]
 iterate 3
  refine RS.go1 (v := ?_) (a' := ?_) rfl ?_ ?_ ?_; rotate_left 2
  ·intro K wx hS hK; go_simp; exact hK _ hS
  ·simp only [Act.put, zA, zB, zC]; rfl
 refine RS.go1 (v := ?_) (a' := ?_) rfl ?_ ?_ ?_; rotate_left 2
 ·intro K wx hS hK; have z1 := (hS.cell (p := ⟨gw, 1, none⟩) HGW.out).trans C1.out; go_simp; exact hK _ hS
 ·simp only [Act.put, zA, zB, zC]; rfl
 iterate 3
  refine RS.go1 (v := ?_) (a' := ?_) rfl ?_ ?_ ?_; rotate_left 2
  ·intro K wx hS hK; go_simp; exact hK _ hS
  ·simp only [Act.put, zA, zB, zC]; rfl
 refine RS.go1 (v := ?_) (a' := ?_) rfl ?_ ?_ ?_; rotate_left 2
 ·intro K wx hS hK; have z0 := (hS.cell (p := ⟨gw, 0, none⟩) HGW.out).trans C0.out; go_simp; exact hK _ hS
 ·simp only [Act.put, zA, zB, zC]; rfl
 iterate 2
  refine RS.go1 (v := ?_) (a' := ?_) rfl ?_ ?_ ?_; rotate_left 2
  ·intro K wx hS hK; go_simp; exact hK _ hS
  ·simp only [Act.put, zA, zB, zC]; rfl
 refine RS.go_end ?_; intro w1 m1; have G1 : Hid (gw < w1.heap.size) := Nat.lt_of_lt_of_le HGW.out m1.size; have D0 : Hid _ := (m1.cell (p := ⟨gw, 0, none⟩) HGW.out).trans C0.out; have D1 : Hid _ := (m1.cell (p := ⟨gw, 1, none⟩) HGW.out).trans C1.out; have LB1 : Hid (Below w.heap.size w w1) := LB.out.trans (m1.mono LB.out.size); have CC : Hid (w1.cell? ⟨gp, off + n, none⟩ = some (.slice bo c.length bc) ∧ gp < w1.heap.size) := ⟨(LB1.out.cell (p := ⟨gp, off + n, none⟩) HP.out.2).trans HP.out.1, Nat.lt_of_lt_of_le HP.out.2 LB1.out.size⟩; have X1 : Hid (BS (h + 1) w1) := BS_gb (r := none) X0.out (gb_below m1) nofun; have CH1 : Hid (Sp.CK .u8 h 32 F w1 ∧ h < w1.heap.size) := ⟨Sp.CK_below CH0.out.1 m1 CH0.out.2, Nat.lt_of_lt_of_le CH0.out.2 m1.size⟩; clear m1 HGW C0 C1 LB X0 CH0 t0; go_upto_region 3 with fail
 refine RS.wp_region_one (fun wx => Below w1.heap.size w1 wx) (by kernel_rfl) (by kernel_rfl) ((Below.refl _ _).drew) ?_
 dsimp only [List.toList_toArray]
 iterate 3
  refine RS.go1 (v := ?_) (a' := ?_) rfl ?_ ?_ ?_; rotate_left 2
  ·intro K wx hS hK; go_simp; exact hK _ hS
  ·simp only [Act.put, zA, zB, zC]; rfl
 refine RS.go1 (v := ?_) (a' := ?_) rfl ?_ ?_ ?_; rotate_left 2
 ·intro K wx hS hK; have z0 := (hS.cell (p := ⟨gw, 0, none⟩) G1.out).trans D0.out; go_simp; exact hK _ hS
 ·simp only [Act.put, zA, zB, zC]; rfl
 iterate 3
  refine RS.go1 (v := ?_) (a' := ?_) rfl ?_ ?_ ?_; rotate_left 2
  ·intro K wx hS hK; go_simp; exact hK _ hS
  ·simp only [Act.put, zA, zB, zC]; rfl
 refine RS.go1 (v := ?_) (a' := ?_) rfl ?_ ?_ ?_; rotate_left 2
 ·intro K wx hS hK; have z1 := (hS.cell (p := ⟨gw, 1, none⟩) G1.out).trans D1.out; go_simp; exact hK _ hS
 ·simp only [Act.put, zA, zB, zC]; rfl
 refine RS.go1 (v := ?_) (a' := ?_) rfl ?_ ?_ ?_; rotate_left 2
 ·intro K wx hS hK; have d0 := L0.out; have d1 := L1.out; go_simp; exact hK _ hS
 ·simp only [Act.put, zA, zB, zC]; rfl
 refine RS.go1 (v := ?_) (a' := ?_) rfl ?_ ?_ ?_; rotate_left 2
 ·intro K wx hS hK; have z2 := (hS.cell (p := ⟨gp, off + n, none⟩) CC.out.2).trans CC.out.1; go_simp; exact hK _ hS
 ·simp only [Act.put, zA, zB, zC]; rfl
 refine RS.go1 (v := ?_) (a' := ?_) rfl ?_ ?_ ?_; rotate_left 2
 ·intro K wx hS hK; go_simp; exact hK _ hS
 ·simp only [Act.put, zA, zB, zC]; rfl
 refine RS.go_end ?_; intro w2 m2; have G2 : Hid (gw < w2.heap.size) := Nat.lt_of_lt_of_le G1.out m2.size; have E0 : Hid _ := (m2.cell (p := ⟨gw, 0, none⟩) G1.out).trans D0.out; have E1 : Hid _ := (m2.cell (p := ⟨gw, 1, none⟩) G1.out).trans D1.out; have LB2 : Hid (Below w.heap.size w w2) := LB1.out.trans (m2.mono LB1.out.size); have X2 : Hid (BS (h + 1) w2) := BS_gb (r := none) X1.out (gb_below m2) nofun; have CH : Hid (Sp.CK .u8 h 32 F w2 ∧ h < w2.heap.size) := ⟨Sp.CK_below CH1.out.1 m2 CH1.out.2, Nat.lt_of_lt_of_le CH1.out.2 m2.size⟩; have KS : Hid (∀ wx, Below w2.heap.size w2 wx → Calls Try.prog 18 #[.slice bo c.length bc] wx fun e w' => e = .returned (Hv (sumf c)) ∧ Below wx.heap.size wx w') := fun wx hb => KS0.out wx (LB2.out.trans (hb.mono LB2.out.size))
 clear m2 G1 D0 D1 LB1 X1 CH1 CC L0 L1; go_upto_region 4 with fail
 refine RS.wp_region_one (fun wx => Below w2.heap.size w2 wx) (by kernel_rfl) (by kernel_rfl) ((Below.refl _ _).drew) ?_
 dsimp only [List.toList_toArray]; refine RS.go1 (v := ?_) (a' := ?_) rfl ?_ ?_ ?_; rotate_left 2
 ·intro K wx hS hK; go_simp; exact hK _ hS
 ·simp only [Act.put, zA, zB, zC]; rfl
 refine RS.go1 (v := ?_) (a' := ?_) rfl ?_ ?_ ?_; rotate_left 2
 ·intro K wx hS hK; go_simp; refine (KS.out wx hS).mono (fun e w2 he => ?_)
  refine ⟨_, he.1, ?_⟩; exact hK _ (RSb hS he.2)
 ·simp only [Act.put, zA, zB, zC]; rfl
 refine RS.go1 (v := ?_) (a' := ?_) rfl ?_ ?_ ?_; rotate_left 2
 ·intro K wx hS hK; refine Hh.ld rfl rfl (Sp.CK_below CH.out.1 hS CH.out.2) ?_; exact hK _ hS
 ·simp only [Act.put, zA, zB, zC]; rfl
 refine RS.go1 (v := ?_) (a' := ?_) rfl ?_ ?_ ?_; rotate_left 2
 ·intro K wx hS hK; refine Hh.neq (b := false) rfl rfl rfl (by rw [HQ.out]; rfl) ?_
  exact hK _ hS
 ·simp only [Act.put, zA, zB, zC]; rfl
 refine RS.go_end ?_; intro w3 m3; have G3 : Hid (gw < w3.heap.size) := Nat.lt_of_lt_of_le G2.out m3.size; have X3 : Hid (BS (h + 1) w3) := BS_gb (r := none) X2.out (gb_below m3) nofun; have LB3 : Hid (Below w.heap.size w w3) := LB2.out.trans (m3.mono LB2.out.size); have M1 : Hid (w3.cell? ⟨gw, 1, none⟩ = some (.int .i64 (n : Int))) := (m3.cell (p := ⟨gw, 1, none⟩) G2.out).trans E1.out; clear m3 G2 E0 E1 LB2 X2 CH KS; go_wp2_with fail
 refine (KR.out _ LB3.out).mono ?_; rintro e w4 ⟨v, rfl, sh, b4, ⟨k, f1, f2, f3, f4, f5, f6, f7, f8, f9, rfl⟩, rf⟩; have LB4 := LB3.out.trans (b4.mono LB3.out.size); have bB : Below w4.heap.size w4 (w4.alloc (.cells #[.int .i64 k, .slice f1 f2 f3, .slice f4 f5 f6, .slice f7 f8 f9] 34)) := (Below.refl _ _).alloc (Nat.le_refl _) _; have HB := heap_alloc_new w4 (.cells #[.int .i64 k, .slice f1 f2 f3, .slice f4 f5 f6, .slice f7 f8 f9] 34); have s0 : (w4.alloc (.cells #[.int .i64 k, .slice f1 f2 f3, .slice f4 f5 f6, .slice f7 f8 f9] 34)).cell? ⟨w4.heap.size, 0, none⟩ = some (.int .i64 k) := by simp only [World.cell?, HB]; rfl
 have s1 : (w4.alloc (.cells #[.int .i64 k, .slice f1 f2 f3, .slice f4 f5 f6, .slice f7 f8 f9] 34)).cell? ⟨w4.heap.size, 1, none⟩ = some (.slice f1 f2 f3) := by simp only [World.cell?, HB]; rfl
 have s2 : (w4.alloc (.cells #[.int .i64 k, .slice f1 f2 f3, .slice f4 f5 f6, .slice f7 f8 f9] 34)).cell? ⟨w4.heap.size, 2, none⟩ = some (.slice f4 f5 f6) := by simp only [World.cell?, HB]; rfl
 have s3 : (w4.alloc (.cells #[.int .i64 k, .slice f1 f2 f3, .slice f4 f5 f6, .slice f7 f8 f9] 34)).cell? ⟨w4.heap.size, 3, none⟩ = some (.slice f7 f8 f9) := by simp only [World.cell?, HB]; rfl
 have b34 := b4.trans (bB.mono b4.size); have X5 : Hid (BS (h + 1) (w4.alloc (.cells #[.int .i64 k, .slice f1 f2 f3, .slice f4 f5 f6, .slice f7 f8 f9] 34))) := BS_gb (r := none) X3.out (gb_below b34) nofun; have LB5 : Hid (Below w.heap.size w (w4.alloc (.cells #[.int .i64 k, .slice f1 f2 f3, .slice f4 f5 f6, .slice f7 f8 f9] 34))) := LB4.trans (bB.mono LB4.size); have G5 : Hid (gw < (w4.alloc (.cells #[.int .i64 k, .slice f1 f2 f3, .slice f4 f5 f6, .slice f7 f8 f9] 34)).heap.size) := Nat.lt_of_lt_of_le G3.out b34.size; have M5 : Hid ((w4.alloc (.cells #[.int .i64 k, .slice f1 f2 f3, .slice f4 f5 f6, .slice f7 f8 f9] 34)).cell? ⟨gw, 1, none⟩ = some (.int .i64 (n : Int))) := (b34.cell (p := ⟨gw, 1, none⟩) G3.out).trans M1.out; have H5 : Hid (Sh s (.int .i64 k, .slice f1 f2 f3, .slice f4 f5 f6, .slice f7 f8 f9) (w4.alloc (.cells #[.int .i64 k, .slice f1 f2 f3, .slice f4 f5 f6, .slice f7 f8 f9] 34)) ∧ Rf w3.heap.size (.slice f7 f8 f9)) := ⟨Sh_below sh bB, rf⟩; have ek : Hid (k = s.1) := by have := sh.1; injection this
 have HG4 : Hid (gw < w4.heap.size ∧ h + 1 < w3.heap.size) := ⟨Nat.lt_of_lt_of_le G3.out b4.size, X3.out.hi⟩; clear sh b4 rf LB4 bB HB b34 X3 LB3 M1 KR G3; dsimp only [v4]; go_upto_region 7 with fail
 generalize w4.alloc (.cells #[.int .i64 k, .slice f1 f2 f3, .slice f4 f5 f6, .slice f7 f8 f9] 34) = W5 at s0 s1 s2 s3 X5 LB5 G5 M5 H5 ⊢; generalize w4.heap.size = g7 at s0 s1 s2 s3 HG4 ⊢; obtain rfl : z = 0 := hz.out; obtain rfl : k = 0 := ek.out.trans hk0.out; have m5 := M5.out; have d7 : (0 : Int) < (n : Int) := by have := hn0.out; omega
 have d8 : 0 < n := hn0.out; clear H5 ek; refine wp_region_lit ?_; refine RF.go (by kernel_rfl) ?_; go_simp; try simp only [Act.put, zA, zB, zC]
 refine RF.go (by kernel_rfl) ?_; go_simp; try simp only [Act.put, zA, zB, zC]
 refine RF.go (by kernel_rfl) ?_; go_simp; try simp only [Act.put, zA, zB, zC]
 refine RF.go (by kernel_rfl) ?_; go_simp; try simp only [Act.put, zA, zB, zC]
 refine RF.go (by kernel_rfl) ?_; go_simp; try simp only [Act.put, zA, zB, zC]
 refine RF.go (by kernel_rfl) ?_; go_simp; try simp only [Act.put, zA, zB, zC]
 refine RF.go (by kernel_rfl) ?_; go_simp; try simp only [Act.put, zA, zB, zC]
 refine RF.go (by kernel_rfl) ?_; go_simp; try simp only [Act.put, zA, zB, zC]
 refine RF.go (by kernel_rfl) ?_; go_simp; try simp only [Act.put, zA, zB, zC]
 refine RF.go (by kernel_rfl) ?_; go_simp; try simp only [Act.put, zA, zB, zC]
 refine RF.go (by kernel_rfl) ?_; go_simp; try simp only [Act.put, zA, zB, zC]
 refine RF.go (by kernel_rfl) ?_; go_simp; try simp only [Act.put, zA, zB, zC]
 refine RF.go (by kernel_rfl) ?_; go_simp; try simp only [Act.put, zA, zB, zC]
 refine RF.go (by kernel_rfl) ?_; go_simp; try simp only [Act.put, zA, zB, zC]
 refine wpList_nil ?_; have x1 := X5.out; have L9 : Hid (Below w.heap.size w W5) := LB5.out; go_wp2_with (refine wpList_stS rfl rfl rfl rfl x1 ?_)
 intro w6 g6 q0 q1 q2 q3; have l6 : Hid (Below w.heap.size w w6) := L9.out.trans ⟨g6.os, g6.tape, g6.output, g6.size, fun j hj => g6.block j (by have := L9.out.size; omega) (fun e => by injection e with e; have := EH.out; omega)⟩
 clear g6 x1; go_wp2_with fail
 exact bodyPost_ret (v := .tuple #[.agg #[.int .i64 0, .slice none 0 0, .slice none 0 0, .slice none 0 0], .int .i64 1]) (resS2 _ _ _ (h + 1) 4 5 _ _ _ _ _ rfl rfl rfl q0 q1 q2 q3) rfl ⟨rfl, l6.out⟩
set_option maxHeartbeats 2000000 in
set_option maxRecDepth 100000 in
theorem sh_ok (gw n m : Nat) (ca : Option Addr) (cc : Nat) (F : Nat → Int) (w : World) (HGW0 : Hid (gw < w.heap.size)) (C00 : Hid (w.cell? ⟨gw, 0, none⟩ = some (.slice ca m cc))) (C10 : Hid (w.cell? ⟨gw, 1, none⟩ = some (.int .i64 (n : Int)))) (hn : Hid (n < m)) (c : Bs) (bo : Option Addr) (bc gp off : Nat) (hca : ca = some ⟨gp, off, none⟩) (HP : Hid (w.cell? ⟨gp, off + n, none⟩ = some (.slice bo c.length bc) ∧ gp < w.heap.size)) (KS0 : Hid (∀ wx, Below w.heap.size w wx → Calls Try.prog 18 #[.slice bo c.length bc] wx fun e w' => e = .returned (Hv (sumf c)) ∧ Below wx.heap.size wx w')) (HQ : Hid (same 32 (sumf c) F = true)) (s : Shp) (z : Int) (KR : Hid (∀ wx, Below w.heap.size w wx → Calls Try.prog 19 #[.slice bo c.length bc] wx (PR2 wx s z))) (hz : Hid (z = 0)) (HM : Hid (m ≤ 1048576)) (HF : Hid (∀ o, w.frozen? ⟨gw, o, none⟩ = false)) (HNB : Hid (NB gw w)) (hk0 : Hid (s.1 ≠ 0)) :
  Calls Try.prog 12 #[.pointer (some ⟨gw, 0, none⟩), Hv F] w (OKS gw n s w) := by
 subst hca; have t0 : ((n : Int) == (m : Int)) = false := by rw [beq_eq_false_iff_ne]; have := hn.out; omega
 have L0 : Hid ((0 : Int) ≤ (n : Int)) := by show _ ≤ _; omega
 have L1 : Hid ((n : Int) < (m : Int)) := by have := hn.out; show _ < _; omega
 go_enter Try.func12, Try.ntmps12
 go_upto_region 1 with fail
 dsimp only [Hv]; have k0 := box_ck F w 23; have b0 : Below w.heap.size w (w.alloc (.cells (h32 F).toArray 23)) := (Below.refl _ _).alloc (Nat.le_refl _) _; have z0 : (w.alloc (.cells (h32 F).toArray 23)).heap.size = w.heap.size + 1 := by simp
 generalize w.alloc (.cells (h32 F).toArray 23) = WA at k0 b0 z0 ⊢; generalize (h32 F).toArray = hF; have xA := BS_new WA; have bA : Below WA.heap.size WA (WA.alloc (.cells #[.int .i64 0, .slice none 0 0, .slice none 0 0, .slice none 0 0] 34)) := (Below.refl _ _).alloc (Nat.le_refl _) _; have zA : (WA.alloc (.cells #[.int .i64 0, .slice none 0 0, .slice none 0 0, .slice none 0 0] 34)).heap.size = WA.heap.size + 1 := by simp
 have kA := Sp.CK_below k0 bA (by omega); have LB : Hid (Below w.heap.size w (WA.alloc (.cells #[.int .i64 0, .slice none 0 0, .slice none 0 0, .slice none 0 0] 34))) := b0.trans (bA.mono b0.size); generalize WA.alloc (.cells #[.int .i64 0, .slice none 0 0, .slice none 0 0, .slice none 0 0] 34) = W0 at xA kA LB zA ⊢; have CH0 : Hid (Sp.CK .u8 w.heap.size 32 F W0 ∧ w.heap.size < W0.heap.size) := ⟨kA, by omega⟩; obtain ⟨h, eh⟩ : ∃ h, h = w.heap.size := ⟨_, rfl⟩; rw [z0, ← eh] at xA; rw [z0] at zA; rw [← eh] at CH0 ⊢; have EH : Hid (h = w.heap.size) := eh; have X0 : Hid (BS (h + 1) W0) := xA; have HGW : Hid (gw < W0.heap.size) := by have := HGW0.out; show _ < _; omega
 have C0 : Hid _ := (LB.out.cell (p := ⟨gw, 0, none⟩) HGW0.out).trans C00.out; have C1 : Hid (W0.cell? ⟨gw, 1, none⟩ = some (.int .i64 (n : Int))) := (LB.out.cell (p := ⟨gw, 1, none⟩) HGW0.out).trans C10.out; clear k0 b0 z0 xA bA zA kA eh C00 C10; refine RS.wp_region_one (fun wx => Below W0.heap.size W0 wx) (by kernel_rfl) (by kernel_rfl) ((Below.refl _ _).drew) ?_
 dsimp only [List.toList_toArray]
 iterate 3
  refine RS.go1 (v := ?_) (a' := ?_) rfl ?_ ?_ ?_; rotate_left 2
  ·intro K wx hS hK; go_simp; exact hK _ hS
  ·simp only [Act.put, zA, zB, zC]; rfl
 refine RS.go1 (v := ?_) (a' := ?_) rfl ?_ ?_ ?_; rotate_left 2
 ·intro K wx hS hK; have z1 := (hS.cell (p := ⟨gw, 1, none⟩) HGW.out).trans C1.out; go_simp; exact hK _ hS
 ·simp only [Act.put, zA, zB, zC]; rfl
 iterate 3
  refine RS.go1 (v := ?_) (a' := ?_) rfl ?_ ?_ ?_; rotate_left 2
  ·intro K wx hS hK; go_simp; exact hK _ hS
  ·simp only [Act.put, zA, zB, zC]; rfl
 refine RS.go1 (v := ?_) (a' := ?_) rfl ?_ ?_ ?_; rotate_left 2
 ·intro K wx hS hK; have z0 := (hS.cell (p := ⟨gw, 0, none⟩) HGW.out).trans C0.out; go_simp; exact hK _ hS
 ·simp only [Act.put, zA, zB, zC]; rfl
 iterate 2
  refine RS.go1 (v := ?_) (a' := ?_) rfl ?_ ?_ ?_; rotate_left 2
  ·intro K wx hS hK; go_simp; exact hK _ hS
  ·simp only [Act.put, zA, zB, zC]; rfl
 refine RS.go_end ?_; intro w1 m1; have G1 : Hid (gw < w1.heap.size) := Nat.lt_of_lt_of_le HGW.out m1.size; have D0 : Hid _ := (m1.cell (p := ⟨gw, 0, none⟩) HGW.out).trans C0.out; have D1 : Hid _ := (m1.cell (p := ⟨gw, 1, none⟩) HGW.out).trans C1.out; have LB1 : Hid (Below w.heap.size w w1) := LB.out.trans (m1.mono LB.out.size); have CC : Hid (w1.cell? ⟨gp, off + n, none⟩ = some (.slice bo c.length bc) ∧ gp < w1.heap.size) := ⟨(LB1.out.cell (p := ⟨gp, off + n, none⟩) HP.out.2).trans HP.out.1, Nat.lt_of_lt_of_le HP.out.2 LB1.out.size⟩; have X1 : Hid (BS (h + 1) w1) := BS_gb (r := none) X0.out (gb_below m1) nofun; have CH1 : Hid (Sp.CK .u8 h 32 F w1 ∧ h < w1.heap.size) := ⟨Sp.CK_below CH0.out.1 m1 CH0.out.2, Nat.lt_of_lt_of_le CH0.out.2 m1.size⟩; clear m1 HGW C0 C1 LB X0 CH0 t0; go_upto_region 3 with fail
 refine RS.wp_region_one (fun wx => Below w1.heap.size w1 wx) (by kernel_rfl) (by kernel_rfl) ((Below.refl _ _).drew) ?_
 dsimp only [List.toList_toArray]
 iterate 3
  refine RS.go1 (v := ?_) (a' := ?_) rfl ?_ ?_ ?_; rotate_left 2
  ·intro K wx hS hK; go_simp; exact hK _ hS
  ·simp only [Act.put, zA, zB, zC]; rfl
 refine RS.go1 (v := ?_) (a' := ?_) rfl ?_ ?_ ?_; rotate_left 2
 ·intro K wx hS hK; have z0 := (hS.cell (p := ⟨gw, 0, none⟩) G1.out).trans D0.out; go_simp; exact hK _ hS
 ·simp only [Act.put, zA, zB, zC]; rfl
 iterate 3
  refine RS.go1 (v := ?_) (a' := ?_) rfl ?_ ?_ ?_; rotate_left 2
  ·intro K wx hS hK; go_simp; exact hK _ hS
  ·simp only [Act.put, zA, zB, zC]; rfl
 refine RS.go1 (v := ?_) (a' := ?_) rfl ?_ ?_ ?_; rotate_left 2
 ·intro K wx hS hK; have z1 := (hS.cell (p := ⟨gw, 1, none⟩) G1.out).trans D1.out; go_simp; exact hK _ hS
 ·simp only [Act.put, zA, zB, zC]; rfl
 refine RS.go1 (v := ?_) (a' := ?_) rfl ?_ ?_ ?_; rotate_left 2
 ·intro K wx hS hK; have d0 := L0.out; have d1 := L1.out; go_simp; exact hK _ hS
 ·simp only [Act.put, zA, zB, zC]; rfl
 refine RS.go1 (v := ?_) (a' := ?_) rfl ?_ ?_ ?_; rotate_left 2
 ·intro K wx hS hK; have z2 := (hS.cell (p := ⟨gp, off + n, none⟩) CC.out.2).trans CC.out.1; go_simp; exact hK _ hS
 ·simp only [Act.put, zA, zB, zC]; rfl
 refine RS.go1 (v := ?_) (a' := ?_) rfl ?_ ?_ ?_; rotate_left 2
 ·intro K wx hS hK; go_simp; exact hK _ hS
 ·simp only [Act.put, zA, zB, zC]; rfl
 refine RS.go_end ?_; intro w2 m2; have G2 : Hid (gw < w2.heap.size) := Nat.lt_of_lt_of_le G1.out m2.size; have E0 : Hid _ := (m2.cell (p := ⟨gw, 0, none⟩) G1.out).trans D0.out; have E1 : Hid _ := (m2.cell (p := ⟨gw, 1, none⟩) G1.out).trans D1.out; have LB2 : Hid (Below w.heap.size w w2) := LB1.out.trans (m2.mono LB1.out.size); have X2 : Hid (BS (h + 1) w2) := BS_gb (r := none) X1.out (gb_below m2) nofun; have CH : Hid (Sp.CK .u8 h 32 F w2 ∧ h < w2.heap.size) := ⟨Sp.CK_below CH1.out.1 m2 CH1.out.2, Nat.lt_of_lt_of_le CH1.out.2 m2.size⟩; have KS : Hid (∀ wx, Below w2.heap.size w2 wx → Calls Try.prog 18 #[.slice bo c.length bc] wx fun e w' => e = .returned (Hv (sumf c)) ∧ Below wx.heap.size wx w') := fun wx hb => KS0.out wx (LB2.out.trans (hb.mono LB2.out.size))
 clear m2 G1 D0 D1 LB1 X1 CH1 CC L0 L1; go_upto_region 4 with fail
 refine RS.wp_region_one (fun wx => Below w2.heap.size w2 wx) (by kernel_rfl) (by kernel_rfl) ((Below.refl _ _).drew) ?_
 dsimp only [List.toList_toArray]; refine RS.go1 (v := ?_) (a' := ?_) rfl ?_ ?_ ?_; rotate_left 2
 ·intro K wx hS hK; go_simp; exact hK _ hS
 ·simp only [Act.put, zA, zB, zC]; rfl
 refine RS.go1 (v := ?_) (a' := ?_) rfl ?_ ?_ ?_; rotate_left 2
 ·intro K wx hS hK; go_simp; refine (KS.out wx hS).mono (fun e w2 he => ?_)
  refine ⟨_, he.1, ?_⟩; exact hK _ (RSb hS he.2)
 ·simp only [Act.put, zA, zB, zC]; rfl
 refine RS.go1 (v := ?_) (a' := ?_) rfl ?_ ?_ ?_; rotate_left 2
 ·intro K wx hS hK; refine Hh.ld rfl rfl (Sp.CK_below CH.out.1 hS CH.out.2) ?_; exact hK _ hS
 ·simp only [Act.put, zA, zB, zC]; rfl
 refine RS.go1 (v := ?_) (a' := ?_) rfl ?_ ?_ ?_; rotate_left 2
 ·intro K wx hS hK; refine Hh.neq (b := false) rfl rfl rfl (by rw [HQ.out]; rfl) ?_
  exact hK _ hS
 ·simp only [Act.put, zA, zB, zC]; rfl
 refine RS.go_end ?_; intro w3 m3; have G3 : Hid (gw < w3.heap.size) := Nat.lt_of_lt_of_le G2.out m3.size; have X3 : Hid (BS (h + 1) w3) := BS_gb (r := none) X2.out (gb_below m3) nofun; have LB3 : Hid (Below w.heap.size w w3) := LB2.out.trans (m3.mono LB2.out.size); have M1 : Hid (w3.cell? ⟨gw, 1, none⟩ = some (.int .i64 (n : Int))) := (m3.cell (p := ⟨gw, 1, none⟩) G2.out).trans E1.out; clear m3 G2 E0 E1 LB2 X2 CH KS; go_wp2_with fail
 refine (KR.out _ LB3.out).mono ?_; rintro e w4 ⟨v, rfl, sh, b4, ⟨k, f1, f2, f3, f4, f5, f6, f7, f8, f9, rfl⟩, rf⟩; have LB4 := LB3.out.trans (b4.mono LB3.out.size); have bB : Below w4.heap.size w4 (w4.alloc (.cells #[.int .i64 k, .slice f1 f2 f3, .slice f4 f5 f6, .slice f7 f8 f9] 34)) := (Below.refl _ _).alloc (Nat.le_refl _) _; have HB := heap_alloc_new w4 (.cells #[.int .i64 k, .slice f1 f2 f3, .slice f4 f5 f6, .slice f7 f8 f9] 34); have s0 : (w4.alloc (.cells #[.int .i64 k, .slice f1 f2 f3, .slice f4 f5 f6, .slice f7 f8 f9] 34)).cell? ⟨w4.heap.size, 0, none⟩ = some (.int .i64 k) := by simp only [World.cell?, HB]; rfl
 have s1 : (w4.alloc (.cells #[.int .i64 k, .slice f1 f2 f3, .slice f4 f5 f6, .slice f7 f8 f9] 34)).cell? ⟨w4.heap.size, 1, none⟩ = some (.slice f1 f2 f3) := by simp only [World.cell?, HB]; rfl
 have s2 : (w4.alloc (.cells #[.int .i64 k, .slice f1 f2 f3, .slice f4 f5 f6, .slice f7 f8 f9] 34)).cell? ⟨w4.heap.size, 2, none⟩ = some (.slice f4 f5 f6) := by simp only [World.cell?, HB]; rfl
 have s3 : (w4.alloc (.cells #[.int .i64 k, .slice f1 f2 f3, .slice f4 f5 f6, .slice f7 f8 f9] 34)).cell? ⟨w4.heap.size, 3, none⟩ = some (.slice f7 f8 f9) := by simp only [World.cell?, HB]; rfl
 have b34 := b4.trans (bB.mono b4.size); have X5 : Hid (BS (h + 1) (w4.alloc (.cells #[.int .i64 k, .slice f1 f2 f3, .slice f4 f5 f6, .slice f7 f8 f9] 34))) := BS_gb (r := none) X3.out (gb_below b34) nofun; have LB5 : Hid (Below w.heap.size w (w4.alloc (.cells #[.int .i64 k, .slice f1 f2 f3, .slice f4 f5 f6, .slice f7 f8 f9] 34))) := LB4.trans (bB.mono LB4.size); have G5 : Hid (gw < (w4.alloc (.cells #[.int .i64 k, .slice f1 f2 f3, .slice f4 f5 f6, .slice f7 f8 f9] 34)).heap.size) := Nat.lt_of_lt_of_le G3.out b34.size; have M5 : Hid ((w4.alloc (.cells #[.int .i64 k, .slice f1 f2 f3, .slice f4 f5 f6, .slice f7 f8 f9] 34)).cell? ⟨gw, 1, none⟩ = some (.int .i64 (n : Int))) := (b34.cell (p := ⟨gw, 1, none⟩) G3.out).trans M1.out; have H5 : Hid (Sh s (.int .i64 k, .slice f1 f2 f3, .slice f4 f5 f6, .slice f7 f8 f9) (w4.alloc (.cells #[.int .i64 k, .slice f1 f2 f3, .slice f4 f5 f6, .slice f7 f8 f9] 34)) ∧ Rf w3.heap.size (.slice f7 f8 f9)) := ⟨Sh_below sh bB, rf⟩; have ek : Hid (k = s.1) := by have := sh.1; injection this
 have HG4 : Hid (gw < w4.heap.size ∧ h + 1 < w3.heap.size) := ⟨Nat.lt_of_lt_of_le G3.out b4.size, X3.out.hi⟩; clear sh b4 rf LB4 bB HB b34 X3 LB3 M1 KR G3; dsimp only [v4]; go_upto_region 7 with fail
 generalize w4.alloc (.cells #[.int .i64 k, .slice f1 f2 f3, .slice f4 f5 f6, .slice f7 f8 f9] 34) = W5 at s0 s1 s2 s3 X5 LB5 G5 M5 H5 ⊢; generalize w4.heap.size = g7 at s0 s1 s2 s3 HG4 ⊢; obtain rfl : z = 0 := hz.out; have RF5 : Hid (Rf w3.heap.size (.slice f7 f8 f9)) := H5.out.2; have HGW3 : Hid (gw < w3.heap.size) := by have := HG4.out.2; have := EH.out; have := HGW0.out; show _ < _; omega
 have tk : (k == 0) = false := by rw [ek.out]; exact beq_eq_false_iff_ne.2 hk0.out
 refine wp_region_lit ?_; refine RF.go (by kernel_rfl) ?_; go_simp; try simp only [Act.put, zA, zB, zC]
 refine RF.go (by kernel_rfl) ?_; go_simp; try simp only [Act.put, zA, zB, zC]
 refine RF.go (by kernel_rfl) ?_; go_simp; try simp only [Act.put, zA, zB, zC]
 refine RF.go (by kernel_rfl) ?_; go_simp; try simp only [Act.put, zA, zB, zC]
 refine RF.go (by kernel_rfl) ?_; go_simp; try simp only [Act.put, zA, zB, zC]
 refine RF.go (by kernel_rfl) ?_; go_simp; try simp only [Act.put, zA, zB, zC]
 refine RF.go (by kernel_rfl) ?_; go_simp; try simp only [Act.put, zA, zB, zC]
 refine RF.skip (a' := ?_) (by kernel_rfl) ?_ ?_; rotate_left 1
 ·simp only [Act.put, zA, zB, zC]; rfl
 refine RF.skip (a' := ?_) (by kernel_rfl) ?_ ?_; rotate_left 1
 ·simp only [Act.put, zA, zB, zC]; rfl
 refine RF.skip (a' := ?_) (by kernel_rfl) ?_ ?_; rotate_left 1
 ·simp only [Act.put, zA, zB, zC]; rfl
 refine RF.skip (a' := ?_) (by kernel_rfl) ?_ ?_; rotate_left 1
 ·simp only [Act.put, zA, zB, zC]; rfl
 refine RF.skip (a' := ?_) (by kernel_rfl) ?_ ?_; rotate_left 1
 ·simp only [Act.put, zA, zB, zC]; rfl
 refine RF.go (by kernel_rfl) ?_; go_simp; try simp only [Act.put, zA, zB, zC]
 refine RF.go (by kernel_rfl) ?_; go_simp; try simp only [Act.put, zA, zB, zC]
 refine wpList_nil ?_; have hw1 : IntKind.i64.wrap ((n : Int) + 1) = (n : Int) + 1 := by rw [IntKind.wrap_i64]; have := hn.out; have := HM.out; omega
 have ff5 : W5.frozen? ⟨gw, 1, none⟩ = false := (LB5.out.frozen (p := ⟨gw, 1, none⟩) HGW0.out).trans (HF.out 1); have nb5 : NB gw W5 := NB_below HNB.out LB5.out; have gs := gb_set W5 gw 1 (.int .i64 ((n : Int) + 1)); have sh6 : Sh s (.int .i64 k, .slice f1 f2 f3, .slice f4 f5 f6, .slice f7 f8 f9) (W5.setCell ⟨gw, 1, none⟩ (.int .i64 ((n : Int) + 1))) := Sh_gb H5.out.1 nb5 (fun e => by have := H5.out.2 _ e; have := HGW3.out; omega) gs
 have hne7 : g7 ≠ gw := by have := HG4.out.1; omega
 have blk : ∀ o u, W5.cell? ⟨g7, o, none⟩ = some u → (W5.setCell ⟨gw, 1, none⟩ (.int .i64 ((n : Int) + 1))).cell? ⟨g7, o, none⟩ = some u := fun o u c => by rw [World.cell?_setCell_other W5 ⟨gw, 1, none⟩ ⟨g7, o, none⟩ _ (fun e => hne7 (by injection e with e; exact e.symm))]; exact c
 have S0 : Hid _ := blk _ _ s0; have S1 : Hid _ := blk _ _ s1; have S2 : Hid _ := blk _ _ s2; have S3 : Hid _ := blk _ _ s3; have X6 : Hid (BS (h + 1) (W5.setCell ⟨gw, 1, none⟩ (.int .i64 ((n : Int) + 1)))) := BS_gb X5.out gs (fun e => by injection e with e; have := HGW0.out; have := EH.out; omega)
 have N6 : Hid ((W5.setCell ⟨gw, 1, none⟩ (.int .i64 ((n : Int) + 1))).cell? ⟨gw, 1, none⟩ = some (.int .i64 ((n : Int) + 1))) := World.cell?_setCell_same W5 _ _ M5.out; have GB6 : Hid (w.grownBy (W5.setCell ⟨gw, 1, none⟩ (.int .i64 ((n : Int) + 1))) (some gw)) := gb_trans (gb_below LB5.out) gs; have SH6 : Hid _ := sh6; have WX6 : Hid ((W5.setCell ⟨gw, 1, none⟩ (.int .i64 ((n : Int) + 1))).cell? ⟨gw, 0, none⟩ = w.cell? ⟨gw, 0, none⟩ ∧ (∀ o, (W5.setCell ⟨gw, 1, none⟩ (.int .i64 ((n : Int) + 1))).frozen? ⟨gw, o, none⟩ = w.frozen? ⟨gw, o, none⟩) ∧ NB gw (W5.setCell ⟨gw, 1, none⟩ (.int .i64 ((n : Int) + 1)))) := wx_set LB5.out HGW0.out HNB.out M5.out; have m5 := M5.out; clear blk sh6 gs nb5 s0 s1 s2 s3 X5 H5 M5 LB5; go_upto_region 10 with fail
 generalize W5.setCell ⟨gw, 1, none⟩ (.int .i64 ((n : Int) + 1)) = W6 at S0 S1 S2 S3 X6 N6 GB6 SH6 WX6 ⊢; have q0 := S0.out; have q1 := S1.out; have q2 := S2.out; have q3 := S3.out; have x6 := X6.out; go_wp2_with (refine wpList_stS rfl rfl rfl rfl x6 ?_)
 intro w7 g7' r0 r1 r2 r3; have SH7 : Hid (Sh s (.int .i64 k, .slice f1 f2 f3, .slice f4 f5 f6, .slice f7 f8 f9) w7) := Sh_gb SH6.out (BS_nb x6) (fun e => by have := RF5.out _ e; have := HG4.out.2; omega) g7'
 have N7 : w7.cell? ⟨gw, 1, none⟩ = some (.int .i64 ((n : Int) + 1)) := (World.cell?_of_block (a := ⟨gw, 1, none⟩) (g7'.block gw (World.block_lt_of_cell? W6 _ N6.out) (fun e => by injection e with e; have := HGW0.out; have := EH.out; omega))).trans N6.out
 have GB7 : Hid (w.grownBy w7 (some gw)) := ⟨g7'.os.trans GB6.out.os, g7'.tape.trans GB6.out.tape, g7'.output.trans GB6.out.output, Nat.le_trans GB6.out.size g7'.size, fun j hj hne => (g7'.block j (Nat.lt_of_lt_of_le hj GB6.out.size) (fun e => by injection e with e; have := EH.out; omega)).trans (GB6.out.block j hj hne)⟩
 have hb7 : w7.heap[gw]? = W6.heap[gw]? := g7'.block gw (World.block_lt_of_cell? W6 _ N6.out) (fun e => by injection e with e; have := HGW0.out; have := EH.out; omega)
 have WX7 : Hid (w7.cell? ⟨gw, 0, none⟩ = w.cell? ⟨gw, 0, none⟩ ∧ (∀ o, w7.frozen? ⟨gw, o, none⟩ = w.frozen? ⟨gw, o, none⟩) ∧ NB gw w7) := wx_blk WX6.out hb7 g7'.size; have N8 : Hid (w7.cell? ⟨gw, 1, none⟩ = some (.int .i64 ((n : Int) + 1))) := N7; have RF7 : Hid (Rf w.heap.size (.slice f7 f8 f9)) := fun a ha => Nat.le_trans (by have := HG4.out.2; have := EH.out; omega) (RF5.out a ha)
 clear hb7 g7' x6 q0 q1 q2 q3 N7; go_wp2_with fail
 exact bodyPost_ret (v := .tuple #[.agg #[.int .i64 k, .slice f1 f2 f3, .slice f4 f5 f6, .slice f7 f8 f9], .int .i64 0]) (resS2 _ _ _ (h + 1) 4 5 _ _ _ _ _ rfl rfl rfl r0 r1 r2 r3) rfl ⟨(.int .i64 k, .slice f1 f2 f3, .slice f4 f5 f6, .slice f7 f8 f9), rfl, SH7.out, ⟨_, _, _, _, _, _, _, _, _, _, rfl⟩, N8.out, GB7.out, RF7.out, WX7.out.1, WX7.out.2.1, WX7.out.2.2⟩
set_option maxHeartbeats 2000000 in
set_option maxRecDepth 100000 in
theorem sh_ok0 (gw n m : Nat) (ca : Option Addr) (cc : Nat) (F : Nat → Int) (w : World) (HGW0 : Hid (gw < w.heap.size)) (C00 : Hid (w.cell? ⟨gw, 0, none⟩ = some (.slice ca m cc))) (C10 : Hid (w.cell? ⟨gw, 1, none⟩ = some (.int .i64 (n : Int)))) (hn : Hid (n < m)) (c : Bs) (bo : Option Addr) (bc gp off : Nat) (hca : ca = some ⟨gp, off, none⟩) (HP : Hid (w.cell? ⟨gp, off + n, none⟩ = some (.slice bo c.length bc) ∧ gp < w.heap.size)) (KS0 : Hid (∀ wx, Below w.heap.size w wx → Calls Try.prog 18 #[.slice bo c.length bc] wx fun e w' => e = .returned (Hv (sumf c)) ∧ Below wx.heap.size wx w')) (HQ : Hid (same 32 (sumf c) F = true)) (s : Shp) (z : Int) (KR : Hid (∀ wx, Below w.heap.size w wx → Calls Try.prog 19 #[.slice bo c.length bc] wx (PR2 wx s z))) (hz : Hid (z = 0)) (HM : Hid (m ≤ 1048576)) (HF : Hid (∀ o, w.frozen? ⟨gw, o, none⟩ = false)) (HNB : Hid (NB gw w)) (hk0 : Hid (s.1 = 0)) (hn0 : Hid (n = 0)) :
  Calls Try.prog 12 #[.pointer (some ⟨gw, 0, none⟩), Hv F] w (OKS gw n s w) := by
 subst hca; have t0 : ((n : Int) == (m : Int)) = false := by rw [beq_eq_false_iff_ne]; have := hn.out; omega
 have L0 : Hid ((0 : Int) ≤ (n : Int)) := by show _ ≤ _; omega
 have L1 : Hid ((n : Int) < (m : Int)) := by have := hn.out; show _ < _; omega
 go_enter Try.func12, Try.ntmps12
 go_upto_region 1 with fail
 dsimp only [Hv]; have k0 := box_ck F w 23; have b0 : Below w.heap.size w (w.alloc (.cells (h32 F).toArray 23)) := (Below.refl _ _).alloc (Nat.le_refl _) _; have z0 : (w.alloc (.cells (h32 F).toArray 23)).heap.size = w.heap.size + 1 := by simp
 generalize w.alloc (.cells (h32 F).toArray 23) = WA at k0 b0 z0 ⊢; generalize (h32 F).toArray = hF; have xA := BS_new WA; have bA : Below WA.heap.size WA (WA.alloc (.cells #[.int .i64 0, .slice none 0 0, .slice none 0 0, .slice none 0 0] 34)) := (Below.refl _ _).alloc (Nat.le_refl _) _; have zA : (WA.alloc (.cells #[.int .i64 0, .slice none 0 0, .slice none 0 0, .slice none 0 0] 34)).heap.size = WA.heap.size + 1 := by simp
 have kA := Sp.CK_below k0 bA (by omega); have LB : Hid (Below w.heap.size w (WA.alloc (.cells #[.int .i64 0, .slice none 0 0, .slice none 0 0, .slice none 0 0] 34))) := b0.trans (bA.mono b0.size); generalize WA.alloc (.cells #[.int .i64 0, .slice none 0 0, .slice none 0 0, .slice none 0 0] 34) = W0 at xA kA LB zA ⊢; have CH0 : Hid (Sp.CK .u8 w.heap.size 32 F W0 ∧ w.heap.size < W0.heap.size) := ⟨kA, by omega⟩; obtain ⟨h, eh⟩ : ∃ h, h = w.heap.size := ⟨_, rfl⟩; rw [z0, ← eh] at xA; rw [z0] at zA; rw [← eh] at CH0 ⊢; have EH : Hid (h = w.heap.size) := eh; have X0 : Hid (BS (h + 1) W0) := xA; have HGW : Hid (gw < W0.heap.size) := by have := HGW0.out; show _ < _; omega
 have C0 : Hid _ := (LB.out.cell (p := ⟨gw, 0, none⟩) HGW0.out).trans C00.out; have C1 : Hid (W0.cell? ⟨gw, 1, none⟩ = some (.int .i64 (n : Int))) := (LB.out.cell (p := ⟨gw, 1, none⟩) HGW0.out).trans C10.out; clear k0 b0 z0 xA bA zA kA eh C00 C10; refine RS.wp_region_one (fun wx => Below W0.heap.size W0 wx) (by kernel_rfl) (by kernel_rfl) ((Below.refl _ _).drew) ?_
 dsimp only [List.toList_toArray]
 iterate 3
  refine RS.go1 (v := ?_) (a' := ?_) rfl ?_ ?_ ?_; rotate_left 2
  ·intro K wx hS hK; go_simp; exact hK _ hS
  ·simp only [Act.put, zA, zB, zC]; rfl
 refine RS.go1 (v := ?_) (a' := ?_) rfl ?_ ?_ ?_; rotate_left 2
 ·intro K wx hS hK; have z1 := (hS.cell (p := ⟨gw, 1, none⟩) HGW.out).trans C1.out; go_simp; exact hK _ hS
 ·simp only [Act.put, zA, zB, zC]; rfl
 iterate 3
  refine RS.go1 (v := ?_) (a' := ?_) rfl ?_ ?_ ?_; rotate_left 2
  ·intro K wx hS hK; go_simp; exact hK _ hS
  ·simp only [Act.put, zA, zB, zC]; rfl
 refine RS.go1 (v := ?_) (a' := ?_) rfl ?_ ?_ ?_; rotate_left 2
 ·intro K wx hS hK; have z0 := (hS.cell (p := ⟨gw, 0, none⟩) HGW.out).trans C0.out; go_simp; exact hK _ hS
 ·simp only [Act.put, zA, zB, zC]; rfl
 iterate 2
  refine RS.go1 (v := ?_) (a' := ?_) rfl ?_ ?_ ?_; rotate_left 2
  ·intro K wx hS hK; go_simp; exact hK _ hS
  ·simp only [Act.put, zA, zB, zC]; rfl
 refine RS.go_end ?_; intro w1 m1; have G1 : Hid (gw < w1.heap.size) := Nat.lt_of_lt_of_le HGW.out m1.size; have D0 : Hid _ := (m1.cell (p := ⟨gw, 0, none⟩) HGW.out).trans C0.out; have D1 : Hid _ := (m1.cell (p := ⟨gw, 1, none⟩) HGW.out).trans C1.out; have LB1 : Hid (Below w.heap.size w w1) := LB.out.trans (m1.mono LB.out.size); have CC : Hid (w1.cell? ⟨gp, off + n, none⟩ = some (.slice bo c.length bc) ∧ gp < w1.heap.size) := ⟨(LB1.out.cell (p := ⟨gp, off + n, none⟩) HP.out.2).trans HP.out.1, Nat.lt_of_lt_of_le HP.out.2 LB1.out.size⟩; have X1 : Hid (BS (h + 1) w1) := BS_gb (r := none) X0.out (gb_below m1) nofun; have CH1 : Hid (Sp.CK .u8 h 32 F w1 ∧ h < w1.heap.size) := ⟨Sp.CK_below CH0.out.1 m1 CH0.out.2, Nat.lt_of_lt_of_le CH0.out.2 m1.size⟩; clear m1 HGW C0 C1 LB X0 CH0 t0; go_upto_region 3 with fail
 refine RS.wp_region_one (fun wx => Below w1.heap.size w1 wx) (by kernel_rfl) (by kernel_rfl) ((Below.refl _ _).drew) ?_
 dsimp only [List.toList_toArray]
 iterate 3
  refine RS.go1 (v := ?_) (a' := ?_) rfl ?_ ?_ ?_; rotate_left 2
  ·intro K wx hS hK; go_simp; exact hK _ hS
  ·simp only [Act.put, zA, zB, zC]; rfl
 refine RS.go1 (v := ?_) (a' := ?_) rfl ?_ ?_ ?_; rotate_left 2
 ·intro K wx hS hK; have z0 := (hS.cell (p := ⟨gw, 0, none⟩) G1.out).trans D0.out; go_simp; exact hK _ hS
 ·simp only [Act.put, zA, zB, zC]; rfl
 iterate 3
  refine RS.go1 (v := ?_) (a' := ?_) rfl ?_ ?_ ?_; rotate_left 2
  ·intro K wx hS hK; go_simp; exact hK _ hS
  ·simp only [Act.put, zA, zB, zC]; rfl
 refine RS.go1 (v := ?_) (a' := ?_) rfl ?_ ?_ ?_; rotate_left 2
 ·intro K wx hS hK; have z1 := (hS.cell (p := ⟨gw, 1, none⟩) G1.out).trans D1.out; go_simp; exact hK _ hS
 ·simp only [Act.put, zA, zB, zC]; rfl
 refine RS.go1 (v := ?_) (a' := ?_) rfl ?_ ?_ ?_; rotate_left 2
 ·intro K wx hS hK; have d0 := L0.out; have d1 := L1.out; go_simp; exact hK _ hS
 ·simp only [Act.put, zA, zB, zC]; rfl
 refine RS.go1 (v := ?_) (a' := ?_) rfl ?_ ?_ ?_; rotate_left 2
 ·intro K wx hS hK; have z2 := (hS.cell (p := ⟨gp, off + n, none⟩) CC.out.2).trans CC.out.1; go_simp; exact hK _ hS
 ·simp only [Act.put, zA, zB, zC]; rfl
 refine RS.go1 (v := ?_) (a' := ?_) rfl ?_ ?_ ?_; rotate_left 2
 ·intro K wx hS hK; go_simp; exact hK _ hS
 ·simp only [Act.put, zA, zB, zC]; rfl
 refine RS.go_end ?_; intro w2 m2; have G2 : Hid (gw < w2.heap.size) := Nat.lt_of_lt_of_le G1.out m2.size; have E0 : Hid _ := (m2.cell (p := ⟨gw, 0, none⟩) G1.out).trans D0.out; have E1 : Hid _ := (m2.cell (p := ⟨gw, 1, none⟩) G1.out).trans D1.out; have LB2 : Hid (Below w.heap.size w w2) := LB1.out.trans (m2.mono LB1.out.size); have X2 : Hid (BS (h + 1) w2) := BS_gb (r := none) X1.out (gb_below m2) nofun; have CH : Hid (Sp.CK .u8 h 32 F w2 ∧ h < w2.heap.size) := ⟨Sp.CK_below CH1.out.1 m2 CH1.out.2, Nat.lt_of_lt_of_le CH1.out.2 m2.size⟩; have KS : Hid (∀ wx, Below w2.heap.size w2 wx → Calls Try.prog 18 #[.slice bo c.length bc] wx fun e w' => e = .returned (Hv (sumf c)) ∧ Below wx.heap.size wx w') := fun wx hb => KS0.out wx (LB2.out.trans (hb.mono LB2.out.size))
 clear m2 G1 D0 D1 LB1 X1 CH1 CC L0 L1; go_upto_region 4 with fail
 refine RS.wp_region_one (fun wx => Below w2.heap.size w2 wx) (by kernel_rfl) (by kernel_rfl) ((Below.refl _ _).drew) ?_
 dsimp only [List.toList_toArray]; refine RS.go1 (v := ?_) (a' := ?_) rfl ?_ ?_ ?_; rotate_left 2
 ·intro K wx hS hK; go_simp; exact hK _ hS
 ·simp only [Act.put, zA, zB, zC]; rfl
 refine RS.go1 (v := ?_) (a' := ?_) rfl ?_ ?_ ?_; rotate_left 2
 ·intro K wx hS hK; go_simp; refine (KS.out wx hS).mono (fun e w2 he => ?_)
  refine ⟨_, he.1, ?_⟩; exact hK _ (RSb hS he.2)
 ·simp only [Act.put, zA, zB, zC]; rfl
 refine RS.go1 (v := ?_) (a' := ?_) rfl ?_ ?_ ?_; rotate_left 2
 ·intro K wx hS hK; refine Hh.ld rfl rfl (Sp.CK_below CH.out.1 hS CH.out.2) ?_; exact hK _ hS
 ·simp only [Act.put, zA, zB, zC]; rfl
 refine RS.go1 (v := ?_) (a' := ?_) rfl ?_ ?_ ?_; rotate_left 2
 ·intro K wx hS hK; refine Hh.neq (b := false) rfl rfl rfl (by rw [HQ.out]; rfl) ?_
  exact hK _ hS
 ·simp only [Act.put, zA, zB, zC]; rfl
 refine RS.go_end ?_; intro w3 m3; have G3 : Hid (gw < w3.heap.size) := Nat.lt_of_lt_of_le G2.out m3.size; have X3 : Hid (BS (h + 1) w3) := BS_gb (r := none) X2.out (gb_below m3) nofun; have LB3 : Hid (Below w.heap.size w w3) := LB2.out.trans (m3.mono LB2.out.size); have M1 : Hid (w3.cell? ⟨gw, 1, none⟩ = some (.int .i64 (n : Int))) := (m3.cell (p := ⟨gw, 1, none⟩) G2.out).trans E1.out; clear m3 G2 E0 E1 LB2 X2 CH KS; go_wp2_with fail
 refine (KR.out _ LB3.out).mono ?_; rintro e w4 ⟨v, rfl, sh, b4, ⟨k, f1, f2, f3, f4, f5, f6, f7, f8, f9, rfl⟩, rf⟩; have LB4 := LB3.out.trans (b4.mono LB3.out.size); have bB : Below w4.heap.size w4 (w4.alloc (.cells #[.int .i64 k, .slice f1 f2 f3, .slice f4 f5 f6, .slice f7 f8 f9] 34)) := (Below.refl _ _).alloc (Nat.le_refl _) _; have HB := heap_alloc_new w4 (.cells #[.int .i64 k, .slice f1 f2 f3, .slice f4 f5 f6, .slice f7 f8 f9] 34); have s0 : (w4.alloc (.cells #[.int .i64 k, .slice f1 f2 f3, .slice f4 f5 f6, .slice f7 f8 f9] 34)).cell? ⟨w4.heap.size, 0, none⟩ = some (.int .i64 k) := by simp only [World.cell?, HB]; rfl
 have s1 : (w4.alloc (.cells #[.int .i64 k, .slice f1 f2 f3, .slice f4 f5 f6, .slice f7 f8 f9] 34)).cell? ⟨w4.heap.size, 1, none⟩ = some (.slice f1 f2 f3) := by simp only [World.cell?, HB]; rfl
 have s2 : (w4.alloc (.cells #[.int .i64 k, .slice f1 f2 f3, .slice f4 f5 f6, .slice f7 f8 f9] 34)).cell? ⟨w4.heap.size, 2, none⟩ = some (.slice f4 f5 f6) := by simp only [World.cell?, HB]; rfl
 have s3 : (w4.alloc (.cells #[.int .i64 k, .slice f1 f2 f3, .slice f4 f5 f6, .slice f7 f8 f9] 34)).cell? ⟨w4.heap.size, 3, none⟩ = some (.slice f7 f8 f9) := by simp only [World.cell?, HB]; rfl
 have b34 := b4.trans (bB.mono b4.size); have X5 : Hid (BS (h + 1) (w4.alloc (.cells #[.int .i64 k, .slice f1 f2 f3, .slice f4 f5 f6, .slice f7 f8 f9] 34))) := BS_gb (r := none) X3.out (gb_below b34) nofun; have LB5 : Hid (Below w.heap.size w (w4.alloc (.cells #[.int .i64 k, .slice f1 f2 f3, .slice f4 f5 f6, .slice f7 f8 f9] 34))) := LB4.trans (bB.mono LB4.size); have G5 : Hid (gw < (w4.alloc (.cells #[.int .i64 k, .slice f1 f2 f3, .slice f4 f5 f6, .slice f7 f8 f9] 34)).heap.size) := Nat.lt_of_lt_of_le G3.out b34.size; have M5 : Hid ((w4.alloc (.cells #[.int .i64 k, .slice f1 f2 f3, .slice f4 f5 f6, .slice f7 f8 f9] 34)).cell? ⟨gw, 1, none⟩ = some (.int .i64 (n : Int))) := (b34.cell (p := ⟨gw, 1, none⟩) G3.out).trans M1.out; have H5 : Hid (Sh s (.int .i64 k, .slice f1 f2 f3, .slice f4 f5 f6, .slice f7 f8 f9) (w4.alloc (.cells #[.int .i64 k, .slice f1 f2 f3, .slice f4 f5 f6, .slice f7 f8 f9] 34)) ∧ Rf w3.heap.size (.slice f7 f8 f9)) := ⟨Sh_below sh bB, rf⟩; have ek : Hid (k = s.1) := by have := sh.1; injection this
 have HG4 : Hid (gw < w4.heap.size ∧ h + 1 < w3.heap.size) := ⟨Nat.lt_of_lt_of_le G3.out b4.size, X3.out.hi⟩; clear sh b4 rf LB4 bB HB b34 X3 LB3 M1 KR G3; dsimp only [v4]; go_upto_region 7 with fail
 generalize w4.alloc (.cells #[.int .i64 k, .slice f1 f2 f3, .slice f4 f5 f6, .slice f7 f8 f9] 34) = W5 at s0 s1 s2 s3 X5 LB5 G5 M5 H5 ⊢; generalize w4.heap.size = g7 at s0 s1 s2 s3 HG4 ⊢; obtain rfl : z = 0 := hz.out; have RF5 : Hid (Rf w3.heap.size (.slice f7 f8 f9)) := H5.out.2; have HGW3 : Hid (gw < w3.heap.size) := by have := HG4.out.2; have := EH.out; have := HGW0.out; show _ < _; omega
 have tk : (k == 0) = true := by rw [ek.out, hk0.out]; rfl
 have m51 : W5.cell? ⟨gw, 1, none⟩ = some (.int .i64 (n : Int)) := M5.out; have tn : decide ((0 : Int) < (n : Int)) = false := by rw [hn0.out]; rfl
 have tn2 : decide (0 < n) = false := by rw [hn0.out]; rfl
 refine wp_region_lit ?_; refine RF.go (by kernel_rfl) ?_; go_simp; try simp only [Act.put, zA, zB, zC]
 refine RF.go (by kernel_rfl) ?_; go_simp; try simp only [Act.put, zA, zB, zC]
 refine RF.go (by kernel_rfl) ?_; go_simp; try simp only [Act.put, zA, zB, zC]
 refine RF.go (by kernel_rfl) ?_; go_simp; try simp only [Act.put, zA, zB, zC]
 refine RF.go (by kernel_rfl) ?_; go_simp; try simp only [Act.put, zA, zB, zC]
 refine RF.go (by kernel_rfl) ?_; go_simp; try simp only [Act.put, zA, zB, zC]
 refine RF.go (by kernel_rfl) ?_; go_simp; try simp only [Act.put, zA, zB, zC]
 refine RF.go (by kernel_rfl) ?_; go_simp; try simp only [Act.put, zA, zB, zC]
 refine RF.go (by kernel_rfl) ?_; go_simp; try simp only [Act.put, zA, zB, zC]
 refine RF.go (by kernel_rfl) ?_; go_simp; try simp only [Act.put, zA, zB, zC]
 refine RF.go (by kernel_rfl) ?_; go_simp; try simp only [Act.put, zA, zB, zC]
 refine RF.go (by kernel_rfl) ?_; go_simp; try simp only [Act.put, zA, zB, zC]
 refine RF.go (by kernel_rfl) ?_; go_simp; try simp only [Act.put, zA, zB, zC]
 refine RF.go (by kernel_rfl) ?_; go_simp; try simp only [Act.put, zA, zB, zC]
 refine wpList_nil ?_; have hw1 : IntKind.i64.wrap ((n : Int) + 1) = (n : Int) + 1 := by rw [IntKind.wrap_i64]; have := hn.out; have := HM.out; omega
 have ff5 : W5.frozen? ⟨gw, 1, none⟩ = false := (LB5.out.frozen (p := ⟨gw, 1, none⟩) HGW0.out).trans (HF.out 1); have nb5 : NB gw W5 := NB_below HNB.out LB5.out; have gs := gb_set W5 gw 1 (.int .i64 ((n : Int) + 1)); have sh6 : Sh s (.int .i64 k, .slice f1 f2 f3, .slice f4 f5 f6, .slice f7 f8 f9) (W5.setCell ⟨gw, 1, none⟩ (.int .i64 ((n : Int) + 1))) := Sh_gb H5.out.1 nb5 (fun e => by have := H5.out.2 _ e; have := HGW3.out; omega) gs
 have hne7 : g7 ≠ gw := by have := HG4.out.1; omega
 have blk : ∀ o u, W5.cell? ⟨g7, o, none⟩ = some u → (W5.setCell ⟨gw, 1, none⟩ (.int .i64 ((n : Int) + 1))).cell? ⟨g7, o, none⟩ = some u := fun o u c => by rw [World.cell?_setCell_other W5 ⟨gw, 1, none⟩ ⟨g7, o, none⟩ _ (fun e => hne7 (by injection e with e; exact e.symm))]; exact c
 have S0 : Hid _ := blk _ _ s0; have S1 : Hid _ := blk _ _ s1; have S2 : Hid _ := blk _ _ s2; have S3 : Hid _ := blk _ _ s3; have X6 : Hid (BS (h + 1) (W5.setCell ⟨gw, 1, none⟩ (.int .i64 ((n : Int) + 1)))) := BS_gb X5.out gs (fun e => by injection e with e; have := HGW0.out; have := EH.out; omega)
 have N6 : Hid ((W5.setCell ⟨gw, 1, none⟩ (.int .i64 ((n : Int) + 1))).cell? ⟨gw, 1, none⟩ = some (.int .i64 ((n : Int) + 1))) := World.cell?_setCell_same W5 _ _ M5.out; have GB6 : Hid (w.grownBy (W5.setCell ⟨gw, 1, none⟩ (.int .i64 ((n : Int) + 1))) (some gw)) := gb_trans (gb_below LB5.out) gs; have SH6 : Hid _ := sh6; have WX6 : Hid ((W5.setCell ⟨gw, 1, none⟩ (.int .i64 ((n : Int) + 1))).cell? ⟨gw, 0, none⟩ = w.cell? ⟨gw, 0, none⟩ ∧ (∀ o, (W5.setCell ⟨gw, 1, none⟩ (.int .i64 ((n : Int) + 1))).frozen? ⟨gw, o, none⟩ = w.frozen? ⟨gw, o, none⟩) ∧ NB gw (W5.setCell ⟨gw, 1, none⟩ (.int .i64 ((n : Int) + 1)))) := wx_set LB5.out HGW0.out HNB.out M5.out; have m5 := M5.out; clear blk sh6 gs nb5 s0 s1 s2 s3 X5 H5 M5 LB5; go_upto_region 10 with fail
 generalize W5.setCell ⟨gw, 1, none⟩ (.int .i64 ((n : Int) + 1)) = W6 at S0 S1 S2 S3 X6 N6 GB6 SH6 WX6 ⊢; have q0 := S0.out; have q1 := S1.out; have q2 := S2.out; have q3 := S3.out; have x6 := X6.out; go_wp2_with (refine wpList_stS rfl rfl rfl rfl x6 ?_)
 intro w7 g7' r0 r1 r2 r3; have SH7 : Hid (Sh s (.int .i64 k, .slice f1 f2 f3, .slice f4 f5 f6, .slice f7 f8 f9) w7) := Sh_gb SH6.out (BS_nb x6) (fun e => by have := RF5.out _ e; have := HG4.out.2; omega) g7'
 have N7 : w7.cell? ⟨gw, 1, none⟩ = some (.int .i64 ((n : Int) + 1)) := (World.cell?_of_block (a := ⟨gw, 1, none⟩) (g7'.block gw (World.block_lt_of_cell? W6 _ N6.out) (fun e => by injection e with e; have := HGW0.out; have := EH.out; omega))).trans N6.out
 have GB7 : Hid (w.grownBy w7 (some gw)) := ⟨g7'.os.trans GB6.out.os, g7'.tape.trans GB6.out.tape, g7'.output.trans GB6.out.output, Nat.le_trans GB6.out.size g7'.size, fun j hj hne => (g7'.block j (Nat.lt_of_lt_of_le hj GB6.out.size) (fun e => by injection e with e; have := EH.out; omega)).trans (GB6.out.block j hj hne)⟩
 have hb7 : w7.heap[gw]? = W6.heap[gw]? := g7'.block gw (World.block_lt_of_cell? W6 _ N6.out) (fun e => by injection e with e; have := HGW0.out; have := EH.out; omega)
 have WX7 : Hid (w7.cell? ⟨gw, 0, none⟩ = w.cell? ⟨gw, 0, none⟩ ∧ (∀ o, w7.frozen? ⟨gw, o, none⟩ = w.frozen? ⟨gw, o, none⟩) ∧ NB gw w7) := wx_blk WX6.out hb7 g7'.size; have N8 : Hid (w7.cell? ⟨gw, 1, none⟩ = some (.int .i64 ((n : Int) + 1))) := N7; have RF7 : Hid (Rf w.heap.size (.slice f7 f8 f9)) := fun a ha => Nat.le_trans (by have := HG4.out.2; have := EH.out; omega) (RF5.out a ha)
 clear hb7 g7' x6 q0 q1 q2 q3 N7; go_wp2_with fail
 exact bodyPost_ret (v := .tuple #[.agg #[.int .i64 k, .slice f1 f2 f3, .slice f4 f5 f6, .slice f7 f8 f9], .int .i64 0]) (resS2 _ _ _ (h + 1) 4 5 _ _ _ _ _ rfl rfl rfl r0 r1 r2 r3) rfl ⟨(.int .i64 k, .slice f1 f2 f3, .slice f4 f5 f6, .slice f7 f8 f9), rfl, SH7.out, ⟨_, _, _, _, _, _, _, _, _, _, rfl⟩, N8.out, GB7.out, RF7.out, WX7.out.1, WX7.out.2.1, WX7.out.2.2⟩
end Pf
end Go.Proofs.Ytlbdaccmnpcccaa
namespace Go.Proofs.Ytlbdaccmnpcccaa
namespace Pf
open Rs Go.RowKit
theorem isp {p left : Bs} (hq : left.take p.length = p) : p.isPrefixOf left = true := by
 rw [List.isPrefixOf_iff_prefix]; refine ⟨left.drop p.length, ?_⟩; have := List.take_append_drop p.length left; rwa [hq] at this
theorem psi {p left : Bs} (h : p.isPrefixOf left = true) : left.take p.length = p := by
 rw [List.isPrefixOf_iff_prefix] at h; obtain ⟨t, rfl⟩ := h; simp
def WA (s : Shp) (left : Bs) (w : World) (e : Ending) (w' : World) : Prop := ∃ (j : Int) (rest : Bs) (b : Bool), e = .returned (.tuple #[.int .i64 j, .string (Tr.st rest), .bool b]) ∧ Below w.heap.size w w' ∧ (match wk s left with | some (k, r) => j = k ∧ rest = r ∧ b = false | none => j = -1 ∧ b = here s left)
set_option maxHeartbeats 1000000 in
set_option maxRecDepth 100000 in
theorem way_leaf (p : Bs) (z : Bs × List Bs) (left : Bs) (a1 : Option Addr) (n1 c1 : Nat) (w : World) (HP : Hid (Pk.Sl p (.slice a1 n1 c1) w)) : Calls Try.prog 17 #[.int .i64 1, .slice a1 n1 c1, .string (Tr.st left)] w (WA (1, p, z) left w) := by
 have ew : wk (1, p, z) left = none := by unfold wk; rw [if_neg (show ¬ ((1 : Int) = 2) by decide), if_neg (show ¬ ((1 : Int) = 3) by decide)]
 have eh : here (1, p, z) left = decide (p = left) := by unfold here; simp
 have HR : Hid (∀ wx, Below w.heap.size w wx → WA (1, p, z) left w (.returned (.tuple #[.int .i64 (-1), .string (Tr.st []), .bool (decide (p = left))])) wx) := fun wx hb => ⟨-1, [], _, rfl, hb, by rw [ew, eh]; exact ⟨rfl, rfl⟩⟩
 have HQ : Hid (((Tr.st p).toList == (Tr.st left).toList) = decide (p = left)) := by
  show _ = _
  rw [Tr.st_list, Tr.st_list, Bool.eq_iff_iff, beq_iff_eq, decide_eq_true_iff]
 clear ew eh; go_enter Try.func17, Try.ntmps17
 go_upto_region 3 with fail
 refine RS.wp_region_one (fun wx => Below w.heap.size w wx) (by kernel_rfl) (by kernel_rfl) ((Below.refl _ _).drew) ?_
 dsimp only [List.toList_toArray]; refine RS.go1 (v := ?_) (a' := ?_) rfl ?_ ?_ ?_; rotate_left 2
 ·intro K wx hS hK; go_simp; exact hK _ hS
 ·simp only [Act.put, zA, zB, zC]; rfl
 refine RS.go1 (v := ?_) (a' := ?_) rfl ?_ ?_ ?_; rotate_left 2
 ·intro K wx hS hK; have cv := Tr.Sl_st (Pk.Sl_below HP.out hS); go_simp; exact hK _ hS
 ·simp only [Act.put, zA, zB, zC]; rfl
 refine RS.go1 (v := ?_) (a' := ?_) rfl ?_ ?_ ?_; rotate_left 2
 ·intro K wx hS hK; go_simp; exact hK _ hS
 ·simp only [Act.put, zA, zB, zC]; rfl
 refine RS.go1 (v := ?_) (a' := ?_) rfl ?_ ?_ ?_; rotate_left 2
 ·intro K wx hS hK; have q := HQ.out; go_simp; exact hK _ hS
 ·simp only [Act.put, zA, zB, zC]; rfl
 iterate 3
  refine RS.go1 (v := ?_) (a' := ?_) rfl ?_ ?_ ?_; rotate_left 2
  ·intro K wx hS hK; go_simp; exact hK _ hS
  ·simp only [Act.put, zA, zB, zC]; rfl
 refine RS.go_end ?_; intro w9 m9; have HR2 : Hid _ := HR.out w9 m9; clear m9 HR HQ; generalize decide (p = left) = b at *; go_wp2_with fail
 go_ret3
 exact HR2.out
set_option maxHeartbeats 1000000 in
set_option maxRecDepth 100000 in
theorem way_other (k : Int) (h1 : k ≠ 1) (h2 : k ≠ 2) (h3 : k ≠ 3) (p : Bs) (z : Bs × List Bs) (left : Bs) (a1 : Option Addr) (n1 c1 : Nat) (w : World) : Calls Try.prog 17 #[.int .i64 k, .slice a1 n1 c1, .string (Tr.st left)] w (WA (k, p, z) left w) := by
 have e1 : (k == 1) = false := beq_eq_false_iff_ne.2 h1; have e2 : (k == 2) = false := beq_eq_false_iff_ne.2 h2; have e3 : (k == 3) = false := beq_eq_false_iff_ne.2 h3; have ew : wk (k, p, z) left = none := by unfold wk; rw [if_neg h2, if_neg h3]
 have eh : here (k, p, z) left = false := by unfold here; simp [h1, h3]
 have HR : Hid (WA (k, p, z) left w (.returned (.tuple #[.int .i64 (-1), .string (Tr.st []), .bool false])) w) := ⟨-1, [], _, rfl, Below.refl _ _, by rw [ew, eh]; exact ⟨rfl, rfl⟩⟩
 clear ew eh h1 h2 h3; go_enter Try.func17, Try.ntmps17
 go_wp2_with fail
 go_ret3
 exact HR.out
set_option maxHeartbeats 1000000 in
set_option maxRecDepth 100000 in
theorem way_on (p : Bs) (z : Bs × List Bs) (left : Bs) (a1 : Option Addr) (n1 c1 : Nat) (w : World) (HP : Hid (Pk.Sl p (.slice a1 n1 c1) w)) (hl : p.length ≤ left.length) (hq : left.take p.length = p) : Calls Try.prog 17 #[.int .i64 2, .slice a1 n1 c1, .string (Tr.st left)] w (WA (2, p, z) left w) := by
 have e3 : n1 = p.length := by
  obtain ⟨_, _, e1, _, _⟩ := HP.out; injection e1
 subst e3; have HZ : Hid ((Tr.st left).size = left.length) := Tr.st_size left; have HL : Hid ((p.length : Int) ≤ (left.length : Int)) := by show _ ≤ _; omega
 have HL2 : Hid (p.length ≤ left.length) := hl; have HX : Hid ((Tr.st left).extract 0 p.length = Tr.st (left.take p.length)) := by
  show _ = _
  unfold Tr.st
  apply ByteArray.ext
  simp
 have HQ : Hid (((Tr.st (left.take p.length)).toList == (Tr.st p).toList) = true) := by
  show _ = _
  rw [hq]; exact beq_self_eq_true _
 go_enter Try.func17, Try.ntmps17
 go_upto_region 5 with fail
 refine RS.wp_region_one (fun wx => Below w.heap.size w wx) (by kernel_rfl) (by kernel_rfl) ((Below.refl _ _).drew) ?_
 dsimp only [List.toList_toArray]; refine RS.go1 (v := ?_) (a' := ?_) rfl ?_ ?_ ?_; rotate_left 2
 ·intro K wx hS hK; go_simp; exact hK _ hS
 ·simp only [Act.put, zA, zB, zC]; rfl
 refine RS.go1 (v := ?_) (a' := ?_) rfl ?_ ?_ ?_; rotate_left 2
 ·intro K wx hS hK; have z0 := HZ.out; go_simp; exact hK _ hS
 ·simp only [Act.put, zA, zB, zC]; rfl
 iterate 2
  refine RS.go1 (v := ?_) (a' := ?_) rfl ?_ ?_ ?_; rotate_left 2
  ·intro K wx hS hK; go_simp; exact hK _ hS
  ·simp only [Act.put, zA, zB, zC]; rfl
 refine RS.go1 (v := ?_) (a' := ?_) rfl ?_ ?_ ?_; rotate_left 2
 ·intro K wx hS hK; have q := HL.out; have q2 := HL2.out; go_simp; exact hK _ hS
 ·simp only [Act.put, zA, zB, zC]; rfl
 refine RS.go1 (v := ?_) (a' := ?_) rfl ?_ ?_ ?_; rotate_left 2
 ·intro K wx hS hK; go_simp; exact hK _ hS
 ·simp only [Act.put, zA, zB, zC]; rfl
 iterate 3
  refine RS.go1g (v := ?_) (a' := ?_) (by kernel_rfl) ?_ ?_ ?_; rotate_left 2
  ·intro K wx hS hK; go_simp; exact hK _ hS
  ·simp only [Act.put, zA, zB, zC]; rfl
 refine RS.go1g (v := ?_) (a' := ?_) (by kernel_rfl) ?_ ?_ ?_; rotate_left 2
 ·intro K wx hS hK; have z0 := HZ.out; have q := HL2.out; have q2 := HL.out; have q3 := HX.out; go_simp; exact hK _ hS
 ·simp only [Act.put, zA, zB, zC]; rfl
 refine RS.go1g (v := ?_) (a' := ?_) (by kernel_rfl) ?_ ?_ ?_; rotate_left 2
 ·intro K wx hS hK; go_simp; exact hK _ hS
 ·simp only [Act.put, zA, zB, zC]; rfl
 refine RS.go1g (v := ?_) (a' := ?_) (by kernel_rfl) ?_ ?_ ?_; rotate_left 2
 ·intro K wx hS hK; have cv := Tr.Sl_st (Pk.Sl_below HP.out hS); go_simp; exact hK _ hS
 ·simp only [Act.put, zA, zB, zC]; rfl
 refine RS.go1g (v := ?_) (a' := ?_) (by kernel_rfl) ?_ ?_ ?_; rotate_left 2
 ·intro K wx hS hK; have q := HQ.out; go_simp; exact hK _ hS
 ·simp only [Act.put, zA, zB, zC]; rfl
 refine RS.go1 (v := ?_) (a' := ?_) rfl ?_ ?_ ?_; rotate_left 2
 ·intro K wx hS hK; go_simp; exact hK _ hS
 ·simp only [Act.put, zA, zB, zC]; rfl
 refine RS.go_end ?_; intro w9 m9; have HR : Hid (∀ wx, Below w.heap.size w wx → WA (2, p, z) left w (.returned (.tuple #[.int .i64 ((0 : Nat) : Int), .string (Tr.st (left.drop p.length)), .bool false])) wx) := fun wx hb => ⟨_, _, _, rfl, hb, by
  have ew : wk (2, p, z) left = some (0, left.drop p.length) := by
   unfold wk
   rw [if_pos (show (2 : Int) = 2 from rfl), if_pos (isp hq)]
  rw [ew]; exact ⟨rfl, rfl, rfl⟩⟩
 have HX2 : Hid ((Tr.st left).extract p.length left.length = Tr.st (left.drop p.length)) := by
  show _ = _
  unfold Tr.st
  apply ByteArray.ext
  simp
  exact List.take_of_length_le (by rw [List.length_drop]; exact Nat.le_refl _)
 have M9 : Hid (Below w.heap.size w w9) := m9; clear m9 HX HQ hq; go_upto_region 6 with fail
 refine RS.wp_region_one (fun wx => Below w9.heap.size w9 wx) (by kernel_rfl) (by kernel_rfl) ((Below.refl _ _).drew) ?_
 dsimp only [List.toList_toArray]
 iterate 3
  refine RS.go1 (v := ?_) (a' := ?_) rfl ?_ ?_ ?_; rotate_left 2
  ·intro K wx hS hK; go_simp; exact hK _ hS
  ·simp only [Act.put, zA, zB, zC]; rfl
 refine RS.go1 (v := ?_) (a' := ?_) rfl ?_ ?_ ?_; rotate_left 2
 ·intro K wx hS hK; have z0 := HZ.out; have q := HL2.out; have q2 := HL.out; have q3 := HX2.out; go_simp; exact hK _ hS
 ·simp only [Act.put, zA, zB, zC]; rfl
 iterate 3
  refine RS.go1 (v := ?_) (a' := ?_) rfl ?_ ?_ ?_; rotate_left 2
  ·intro K wx hS hK; go_simp; exact hK _ hS
  ·simp only [Act.put, zA, zB, zC]; rfl
 refine RS.go_end ?_; intro w8 m8; have HR2 : Hid _ := HR.out w8 (M9.out.trans (m8.mono M9.out.size)); clear HR M9 m8 HX2 HZ; generalize Tr.st (left.drop p.length) = sv at *; go_wp2_with fail
 go_ret3
 exact HR2.out
set_option maxHeartbeats 1000000 in
set_option maxRecDepth 100000 in
theorem way_off (p : Bs) (z : Bs × List Bs) (left : Bs) (a1 : Option Addr) (n1 c1 : Nat) (w : World) (HP : Hid (Pk.Sl p (.slice a1 n1 c1) w)) (hl : p.length ≤ left.length) (hq : left.take p.length ≠ p) : Calls Try.prog 17 #[.int .i64 2, .slice a1 n1 c1, .string (Tr.st left)] w (WA (2, p, z) left w) := by
 have e3 : n1 = p.length := by
  obtain ⟨_, _, e1, _, _⟩ := HP.out; injection e1
 subst e3; have HZ : Hid ((Tr.st left).size = left.length) := Tr.st_size left; have ew : wk (2, p, z) left = none := by
  unfold wk
  rw [if_pos (show (2 : Int) = 2 from rfl), if_neg (fun h => hq (psi h))]
 have eh : here (2, p, z) left = false := by unfold here; simp
 have HR : Hid (∀ wx, Below w.heap.size w wx → WA (2, p, z) left w (.returned (.tuple #[.int .i64 (-1), .string (Tr.st []), .bool false])) wx) := fun wx hb => ⟨-1, [], _, rfl, hb, by rw [ew, eh]; exact ⟨rfl, rfl⟩⟩
 clear ew eh; have HL : Hid ((p.length : Int) ≤ (left.length : Int)) := by show _ ≤ _; omega
 have HL2 : Hid (p.length ≤ left.length) := hl; have HX : Hid ((Tr.st left).extract 0 p.length = Tr.st (left.take p.length)) := by
  show _ = _
  unfold Tr.st
  apply ByteArray.ext
  simp
 have HQ : Hid (((Tr.st (left.take p.length)).toList == (Tr.st p).toList) = false) := by
  show _ = _
  rw [Tr.st_list, Tr.st_list]; exact beq_eq_false_iff_ne.2 hq
 go_enter Try.func17, Try.ntmps17
 go_upto_region 5 with fail
 refine RS.wp_region_one (fun wx => Below w.heap.size w wx) (by kernel_rfl) (by kernel_rfl) ((Below.refl _ _).drew) ?_
 dsimp only [List.toList_toArray]; refine RS.go1 (v := ?_) (a' := ?_) rfl ?_ ?_ ?_; rotate_left 2
 ·intro K wx hS hK; go_simp; exact hK _ hS
 ·simp only [Act.put, zA, zB, zC]; rfl
 refine RS.go1 (v := ?_) (a' := ?_) rfl ?_ ?_ ?_; rotate_left 2
 ·intro K wx hS hK; have z0 := HZ.out; go_simp; exact hK _ hS
 ·simp only [Act.put, zA, zB, zC]; rfl
 iterate 2
  refine RS.go1 (v := ?_) (a' := ?_) rfl ?_ ?_ ?_; rotate_left 2
  ·intro K wx hS hK; go_simp; exact hK _ hS
  ·simp only [Act.put, zA, zB, zC]; rfl
 refine RS.go1 (v := ?_) (a' := ?_) rfl ?_ ?_ ?_; rotate_left 2
 ·intro K wx hS hK; have q := HL.out; have q2 := HL2.out; go_simp; exact hK _ hS
 ·simp only [Act.put, zA, zB, zC]; rfl
 refine RS.go1 (v := ?_) (a' := ?_) rfl ?_ ?_ ?_; rotate_left 2
 ·intro K wx hS hK; go_simp; exact hK _ hS
 ·simp only [Act.put, zA, zB, zC]; rfl
 iterate 3
  refine RS.go1g (v := ?_) (a' := ?_) (by kernel_rfl) ?_ ?_ ?_; rotate_left 2
  ·intro K wx hS hK; go_simp; exact hK _ hS
  ·simp only [Act.put, zA, zB, zC]; rfl
 refine RS.go1g (v := ?_) (a' := ?_) (by kernel_rfl) ?_ ?_ ?_; rotate_left 2
 ·intro K wx hS hK; have z0 := HZ.out; have q := HL2.out; have q2 := HL.out; have q3 := HX.out; go_simp; exact hK _ hS
 ·simp only [Act.put, zA, zB, zC]; rfl
 refine RS.go1g (v := ?_) (a' := ?_) (by kernel_rfl) ?_ ?_ ?_; rotate_left 2
 ·intro K wx hS hK; go_simp; exact hK _ hS
 ·simp only [Act.put, zA, zB, zC]; rfl
 refine RS.go1g (v := ?_) (a' := ?_) (by kernel_rfl) ?_ ?_ ?_; rotate_left 2
 ·intro K wx hS hK; have cv := Tr.Sl_st (Pk.Sl_below HP.out hS); go_simp; exact hK _ hS
 ·simp only [Act.put, zA, zB, zC]; rfl
 refine RS.go1g (v := ?_) (a' := ?_) (by kernel_rfl) ?_ ?_ ?_; rotate_left 2
 ·intro K wx hS hK; have q := HQ.out; go_simp; exact hK _ hS
 ·simp only [Act.put, zA, zB, zC]; rfl
 refine RS.go1 (v := ?_) (a' := ?_) rfl ?_ ?_ ?_; rotate_left 2
 ·intro K wx hS hK; go_simp; exact hK _ hS
 ·simp only [Act.put, zA, zB, zC]; rfl
 refine RS.go_end ?_; intro w9 m9; have HR2 : Hid _ := HR.out w9 m9; clear m9 HR; go_wp2_with fail
 go_ret3
 exact HR2.out
set_option maxHeartbeats 1000000 in
set_option maxRecDepth 100000 in
theorem way_short (p : Bs) (z : Bs × List Bs) (left : Bs) (a1 : Option Addr) (n1 c1 : Nat) (w : World) (HP : Hid (Pk.Sl p (.slice a1 n1 c1) w)) (hl : left.length < p.length) : Calls Try.prog 17 #[.int .i64 2, .slice a1 n1 c1, .string (Tr.st left)] w (WA (2, p, z) left w) := by
 have e3 : n1 = p.length := by
  obtain ⟨_, _, e1, _, _⟩ := HP.out; injection e1
 subst e3; have HZ : Hid ((Tr.st left).size = left.length) := Tr.st_size left; have ew : wk (2, p, z) left = none := by
  unfold wk
  rw [if_pos (show (2 : Int) = 2 from rfl), if_neg (fun h => by have h1 := List.length_take_le' p.length left; rw [psi h] at h1; exact absurd hl (Nat.not_lt.2 h1))]
 have eh : here (2, p, z) left = false := by unfold here; simp
 have HR : Hid (∀ wx, Below w.heap.size w wx → WA (2, p, z) left w (.returned (.tuple #[.int .i64 (-1), .string (Tr.st []), .bool false])) wx) := fun wx hb => ⟨-1, [], _, rfl, hb, by rw [ew, eh]; exact ⟨rfl, rfl⟩⟩
 clear ew eh; have HL : Hid (¬ (p.length : Int) ≤ (left.length : Int)) := by show ¬ _; omega
 have HL2 : Hid (¬ p.length ≤ left.length) := by show ¬ _; omega
 go_enter Try.func17, Try.ntmps17
 go_upto_region 5 with fail
 refine RS.wp_region_one (fun wx => Below w.heap.size w wx) (by kernel_rfl) (by kernel_rfl) ((Below.refl _ _).drew) ?_
 dsimp only [List.toList_toArray]; refine RS.go1 (v := ?_) (a' := ?_) rfl ?_ ?_ ?_; rotate_left 2
 ·intro K wx hS hK; go_simp; exact hK _ hS
 ·simp only [Act.put, zA, zB, zC]; rfl
 refine RS.go1 (v := ?_) (a' := ?_) rfl ?_ ?_ ?_; rotate_left 2
 ·intro K wx hS hK; have z0 := HZ.out; go_simp; exact hK _ hS
 ·simp only [Act.put, zA, zB, zC]; rfl
 iterate 2
  refine RS.go1 (v := ?_) (a' := ?_) rfl ?_ ?_ ?_; rotate_left 2
  ·intro K wx hS hK; go_simp; exact hK _ hS
  ·simp only [Act.put, zA, zB, zC]; rfl
 refine RS.go1 (v := ?_) (a' := ?_) rfl ?_ ?_ ?_; rotate_left 2
 ·intro K wx hS hK; have q := HL.out; have q2 := HL2.out; go_simp; exact hK _ hS
 ·simp only [Act.put, zA, zB, zC]; rfl
 refine RS.go1 (v := ?_) (a' := ?_) rfl ?_ ?_ ?_; rotate_left 2
 ·intro K wx hS hK; go_simp; exact hK _ hS
 ·simp only [Act.put, zA, zB, zC]; rfl
 iterate 7
  refine RS.go0 (a' := ?_) (by kernel_rfl) ?_ ?_; rotate_left 1
  ·simp only [Act.put, zA, zB, zC]; rfl
 refine RS.go1 (v := ?_) (a' := ?_) rfl ?_ ?_ ?_; rotate_left 2
 ·intro K wx hS hK; go_simp; exact hK _ hS
 ·simp only [Act.put, zA, zB, zC]; rfl
 refine RS.go_end ?_; intro w9 m9; have HR2 : Hid _ := HR.out w9 m9; clear m9 HR; go_wp2_with fail
 go_ret3
 exact HR2.out
set_option maxHeartbeats 1000000 in
set_option maxRecDepth 100000 in
theorem way_nil (p : Bs) (z : Bs × List Bs) (a1 : Option Addr) (n1 c1 : Nat) (w : World) : Calls Try.prog 17 #[.int .i64 3, .slice a1 n1 c1, .string (Tr.st [])] w (WA (3, p, z) [] w) := by
 have ew : wk (3, p, z) [] = none := by unfold wk; rw [if_neg (show ¬ ((3 : Int) = 2) by decide), if_pos (show (3 : Int) = 3 from rfl)]
 have eh : here (3, p, z) [] = true := by unfold here; simp
 have HR : Hid (WA (3, p, z) [] w (.returned (.tuple #[.int .i64 (-1), .string (Tr.st []), .bool true])) w) := ⟨-1, [], _, rfl, Below.refl _ _, by rw [ew, eh]; exact ⟨rfl, rfl⟩⟩
 have z0 : (Tr.st []).toList = [] := Tr.st_list []; clear ew eh; go_enter Try.func17, Try.ntmps17
 go_wp2_with fail
 go_ret3
 exact HR.out
set_option maxHeartbeats 1000000 in
set_option maxRecDepth 100000 in
theorem way_cons (p : Bs) (z : Bs × List Bs) (a : UInt8) (r : Bs) (a1 : Option Addr) (n1 c1 : Nat) (w : World) : Calls Try.prog 17 #[.int .i64 3, .slice a1 n1 c1, .string (Tr.st (a :: r))] w (WA (3, p, z) (a :: r) w) := by
 have ew : wk (3, p, z) (a :: r) = some (a.toNat, r) := by unfold wk; rw [if_neg (show ¬ ((3 : Int) = 2) by decide), if_pos (show (3 : Int) = 3 from rfl)]
 have HR : Hid (∀ wx, Below w.heap.size w wx → WA (3, p, z) (a :: r) w (.returned (.tuple #[.int .i64 (a.toNat : Int), .string (Tr.st r), .bool false])) wx) := fun wx hb => ⟨_, r, _, rfl, hb, by rw [ew]; exact ⟨rfl, rfl, rfl⟩⟩
 have HZ : Hid ((Tr.st (a :: r)).size = r.length + 1) := (Tr.st_size (a :: r)).trans rfl; have HE : (Tr.st (a :: r)).toList = a :: r := Tr.st_list (a :: r); have HI : Hid ((Tr.st (a :: r))[0]? = some a) := by show _ = _; rfl
 have HY : Hid (IntKind.i64.wrap (a.toNat : Int) = (a.toNat : Int)) := by show _ = _; rw [IntKind.wrap_i64]; have := a.toNat_lt; omega
 have H1 : Hid ((1 : Int) ≤ (r.length : Int) + 1) := by show _ ≤ _; omega
 have HX : Hid ((Tr.st (a :: r)).extract 1 (r.length + 1) = Tr.st r) := by
  show _ = _
  unfold Tr.st
  apply ByteArray.ext
  simp
 clear ew; go_enter Try.func17, Try.ntmps17
 go_upto_region 10 with fail
 refine RS.wp_region_one (fun wx => Below w.heap.size w wx) (by kernel_rfl) (by kernel_rfl) ((Below.refl _ _).drew) ?_
 dsimp only [List.toList_toArray]; refine RS.go1 (v := ?_) (a' := ?_) rfl ?_ ?_ ?_; rotate_left 2
 ·intro K wx hS hK; go_simp; exact hK _ hS
 ·simp only [Act.put, zA, zB, zC]; rfl
 refine RS.go1 (v := ?_) (a' := ?_) rfl ?_ ?_ ?_; rotate_left 2
 ·intro K wx hS hK; have z0 := HZ.out; go_simp; show K (Value.int IntKind.u8 (a.toNat : Int)) wx
  exact hK _ hS
 ·simp only [Act.put, zA, zB, zC]; rfl
 refine RS.go1 (v := ?_) (a' := ?_) rfl ?_ ?_ ?_; rotate_left 2
 ·intro K wx hS hK; have q := HY.out; go_simp; exact hK _ hS
 ·simp only [Act.put, zA, zB, zC]; rfl
 refine RS.go1 (v := ?_) (a' := ?_) rfl ?_ ?_ ?_; rotate_left 2
 ·intro K wx hS hK; go_simp; exact hK _ hS
 ·simp only [Act.put, zA, zB, zC]; rfl
 refine RS.go1 (v := ?_) (a' := ?_) rfl ?_ ?_ ?_; rotate_left 2
 ·intro K wx hS hK; have z0 := HZ.out; have q3 := HX.out; have q := H1.out; go_simp; exact hK _ hS
 ·simp only [Act.put, zA, zB, zC]; rfl
 iterate 3
  refine RS.go1 (v := ?_) (a' := ?_) rfl ?_ ?_ ?_; rotate_left 2
  ·intro K wx hS hK; go_simp; exact hK _ hS
  ·simp only [Act.put, zA, zB, zC]; rfl
 refine RS.go_end ?_; intro w9 m9; have HR2 : Hid _ := HR.out w9 m9; clear m9 HR; go_wp2_with fail
 go_ret3
 exact HR2.out
theorem way_any (s : Shp) (left : Bs) (a1 : Option Addr) (n1 c1 : Nat) (w : World) (hp : Pk.Sl s.2.1 (.slice a1 n1 c1) w) : Calls Try.prog 17 #[.int .i64 s.1, .slice a1 n1 c1, .string (Tr.st left)] w (WA s left w) := by
 obtain ⟨k, p, z⟩ := s; by_cases h1 : k = 1
 ·subst h1; exact way_leaf p z left a1 n1 c1 w hp
 by_cases h2 : k = 2
 ·subst h2; by_cases hl : p.length ≤ left.length
  ·by_cases hq : left.take p.length = p
   ·exact way_on p z left a1 n1 c1 w hp hl hq
   ·exact way_off p z left a1 n1 c1 w hp hl hq
  ·exact way_short p z left a1 n1 c1 w hp (by omega)
 by_cases h3 : k = 3
 ·subst h3; cases left with
  | nil => exact way_nil p z a1 n1 c1 w
  | cons a r => exact way_cons p z a r a1 n1 c1 w
 ·exact way_other k h1 h2 h3 p z left a1 n1 c1 w
end Pf
end Go.Proofs.Ytlbdaccmnpcccaa
namespace Go.Proofs.Ytlbdaccmnpcccaa
namespace Pf
open Rs Go.RowKit Sp
theorem rng_at {k : Bs} {g off : Nat} {w : World} (hk : k.length = 32) (h : ∀ j, j < k.length → w.cell? ⟨g, off + j, none⟩ = some (.int .u8 (bz k j))) : w.rangeAt g off (h32 (bz k)) := fun j v hv => by
 have hj : j < 32 := by
  have := (List.getElem?_eq_some_iff.1 hv).1; rwa [h32_length] at this
 rw [h32_get _ j hj] at hv; injection hv with hv
 subst hv; exact h j (by omega)
set_option maxRecDepth 100000 in
theorem ld_at {K : Value → World → Prop} {a : Act} {o : Oper} {s g off : Nat} {F : Nat → Int} {w : World} (ho : o.op = .load 23 (.tmp s)) (ha : a.eval (.tmp s) = .pointer (some ⟨g, off, none⟩))
  (hc : w.rangeAt g off (h32 F)) (hK : K (Hv F) w) : RS.upv Try.prog K ((execOp a.eval o).run Try.prog w) := by
 obtain ⟨dst, op, ty, pos, after, guard⟩ := o; simp only at ho; subst ho; generalize a.eval = ρ at *; unfold execOp
 simp only [ha, Instr.loadAt, Instr.sureAddr, Sem.run_bind, Sem.run_pure, Result.andThen_ok, run_loadVar_mid w g off 23 (h32 F) _ hc Try.underlying23 rfl info32]; exact hK
set_option maxRecDepth 100000 in
theorem up_arr {K : Value → World → Prop} {a : Act} {o : Oper} {x : Operand} {g off c : Nat} {w : World} (ho : o.op = .sliceToArrayPointer 23 x) (ha : a.eval x = .slice (some ⟨g, off, none⟩) 32 c)
  (hK : K (.pointer (some ⟨g, off, none⟩)) w) : RS.upv Try.prog K ((execOp a.eval o).run Try.prog w) := by
 obtain ⟨dst, op, ty, pos, after, guard⟩ := o; simp only at ho; subst ho; generalize a.eval = ρ at *; have hu := run_underlying (P := Try.prog) (w := w) Try.underlying23; unfold execOp
 simp only [ha, Instr.arrayAt, Sem.run_bind, hu, Result.andThen_ok]; go_simp; exact hK
theorem run_fromR (ao : Option Addr) (n cap c : Nat) (hc : c ≤ n) (w : World) : (Instr.sliceAt 25 (.slice ao n cap) (some (.int .i64 (c : Int))) none none).run Try.prog w = .ok (Tr.sfrom ao n cap c) w := by
 have h1 : (0 : Int) ≤ (c : Int) ∧ (c : Int) ≤ (n : Int) := by omega
 unfold Instr.sliceAt Instr.slice
 simp only [Sem.run_bind, Tr.run_under Try.underlying25, Result.andThen_ok]; unfold Instr.sliceBounds Instr.sliceBound
 simp only [Sem.run_bind, Sem.run_pure, Result.andThen_ok, asIntOf, if_pos h1, Try.sizeOf24]; unfold Tr.sfrom
 simp

theorem Lz_tail {c : Bs} {r : List Bs} {ao : Option Addr} {n cap : Nat} {w : World} (h : Lz (c :: r) (.slice ao n cap) w) : Lz r (Tr.sfrom ao n cap 1) w := by
 obtain ⟨a', c', e, hcap, h2⟩ := h; injection e with e1 e2 e3
 subst e1 e2 e3; refine ⟨_, _, by unfold Tr.sfrom; rw [show (c :: r).length - 1 = r.length by simp], by rw [List.length_cons] at hcap; omega, fun h0 => ?_⟩
 obtain ⟨g, off, h3, h4, h5⟩ := h2 (by simp); subst h3; by_cases hc : cap = 1
 ·rw [List.length_cons] at hcap; omega
 ·rw [if_neg hc]; refine ⟨g, off + 1, by simp [Go.WideShapes.add_plain], h4, fun i hi => ?_⟩
  obtain ⟨bo, k, h6, h7, h8⟩ := h5 (i + 1) (by simp; omega)
  have e : (c :: r).getD (i + 1) [] = r.getD i [] := by simp
  rw [e] at h6 h8; exact ⟨bo, k, by rw [show off + 1 + i = off + (i + 1) by omega]; exact h6, h7, h8⟩
end Pf
end Go.Proofs.Ytlbdaccmnpcccaa
namespace Go.Proofs.Ytlbdaccmnpcccaa
namespace Pf
open Rs Go.RowKit Sp
def SDP (cs : List Bs) (first : Bool) (F : Nat → Int) (left : Bs) (w : World) (e : Ending) (w' : World) : Prop := ∃ rv, e = .returned (.tuple #[rv, .int .i64 (sd cs first F left).2]) ∧ Pk.Sl (sd cs first F left).1 rv w' ∧ Below w.heap.size w w'
theorem sdp_bad {cs : List Bs} {first : Bool} {F : Nat → Int} {left : Bs} {w w' : World} {z : Int} (h : sd cs first F left = ([], z)) (hb : Below w.heap.size w w') : SDP cs first F left w (.returned (.tuple #[.slice none 0 0, .int .i64 z])) w' := ⟨_, by rw [h], by rw [h]; exact Pk.Sl_nil _, hb⟩
set_option maxHeartbeats 2000000 in
set_option maxRecDepth 100000 in
theorem sd_none (F : Nat → Int) (left : Bs) (first : Bool) (cc : Nat) (w : World) (ca : Option Addr) :
  Calls Try.prog 10 #[Hv F, .string (Tr.st left), .slice ca 0 cc, .bool first] w (SDP [] first F left w) := by
 go_enter Try.func10, Try.ntmps10
 go_upto_region 1 with fail
 dsimp only [Hv]; have k0 := box_ck F w 23; have b0 : Below w.heap.size w (w.alloc (.cells (h32 F).toArray 23)) := (Below.refl _ _).alloc (Nat.le_refl _) _; have z0 : w.heap.size < (w.alloc (.cells (h32 F).toArray 23)).heap.size := by simp
 generalize w.alloc (.cells (h32 F).toArray 23) = W0 at k0 b0 z0 ⊢; generalize (h32 F).toArray = hF; have LB : Hid (Below w.heap.size w W0) := b0; obtain ⟨h, eh⟩ : ∃ h, h = w.heap.size := ⟨_, rfl⟩; rw [← eh] at k0 z0 ⊢; have CH : Hid (Sp.CK .u8 h 32 F W0 ∧ h < W0.heap.size) := ⟨k0, z0⟩; clear k0 b0 z0 eh; have HR : Hid (SDP [] first F left w (.returned (.tuple #[.slice none 0 0, .int .i64 5])) W0) := sdp_bad rfl LB.out
 clear LB CH; go_wp2_with fail
 go_ret2
 exact HR.out
set_option maxHeartbeats 2000000 in
set_option maxRecDepth 100000 in
theorem sd_sum (F : Nat → Int) (left : Bs) (first : Bool) (cc : Nat) (w : World) (m gp off : Nat) (hm : Hid (0 < m)) (c : Bs) (r : List Bs) (bo : Option Addr) (bc : Nat) (HP : Hid (w.cell? ⟨gp, off, none⟩ = some (.slice bo c.length bc) ∧ gp < w.heap.size)) (KS0 : Hid (∀ wx, Below w.heap.size w wx → Calls Try.prog 15 #[.slice bo c.length bc] wx fun e w' => e = .returned (Hv (sumf c)) ∧ Below wx.heap.size wx w')) (HQ : Hid (same 32 (sumf c) F = false)) :
  Calls Try.prog 10 #[Hv F, .string (Tr.st left), .slice (some ⟨gp, off, none⟩) m cc, .bool first] w (SDP (c :: r) first F left w) := by
 have t0 : ((m : Int) == 0) = false := by rw [beq_eq_false_iff_ne]; have := hm.out; omega
 have t1 : ¬ m = 0 := by have := hm.out; omega
 have L1 : Hid ((0 : Int) < (m : Int)) := by have := hm.out; show _ < _; omega
 go_enter Try.func10, Try.ntmps10
 go_upto_region 1 with fail
 dsimp only [Hv]; have k0 := box_ck F w 23; have b0 : Below w.heap.size w (w.alloc (.cells (h32 F).toArray 23)) := (Below.refl _ _).alloc (Nat.le_refl _) _; have z0 : w.heap.size < (w.alloc (.cells (h32 F).toArray 23)).heap.size := by simp
 generalize w.alloc (.cells (h32 F).toArray 23) = W0 at k0 b0 z0 ⊢; generalize (h32 F).toArray = hF; have LB : Hid (Below w.heap.size w W0) := b0; obtain ⟨h, eh⟩ : ∃ h, h = w.heap.size := ⟨_, rfl⟩; rw [← eh] at k0 z0 ⊢; have CH : Hid (Sp.CK .u8 h 32 F W0 ∧ h < W0.heap.size) := ⟨k0, z0⟩; clear k0 b0 z0 eh; have CC : Hid (W0.cell? ⟨gp, off, none⟩ = some (.slice bo c.length bc) ∧ gp < W0.heap.size) := ⟨(LB.out.cell (p := ⟨gp, off, none⟩) HP.out.2).trans HP.out.1, Nat.lt_of_lt_of_le HP.out.2 LB.out.size⟩; have KS : Hid (∀ wx, Below W0.heap.size W0 wx → Calls Try.prog 15 #[.slice bo c.length bc] wx fun e w' => e = .returned (Hv (sumf c)) ∧ Below wx.heap.size wx w') := fun wx hb => KS0.out wx (LB.out.trans (hb.mono LB.out.size))
 go_upto_region 3 with fail
 refine RS.wp_region_one (fun wx => Below W0.heap.size W0 wx) (by kernel_rfl) (by kernel_rfl) ((Below.refl _ _).drew) ?_
 dsimp only [List.toList_toArray]; refine RS.go1 (v := ?_) (a' := ?_) rfl ?_ ?_ ?_; rotate_left 2
 ·intro K wx hS hK; go_simp; exact hK _ hS
 ·simp only [Act.put, zA, zB, zC]; rfl
 refine RS.go1 (v := ?_) (a' := ?_) rfl ?_ ?_ ?_; rotate_left 2
 ·intro K wx hS hK; have d1 := L1.out; have d2 := hm.out; go_simp; exact hK _ hS
 ·simp only [Act.put, zA, zB, zC]; rfl
 refine RS.go1 (v := ?_) (a' := ?_) rfl ?_ ?_ ?_; rotate_left 2
 ·intro K wx hS hK; have z2 := (hS.cell (p := ⟨gp, off, none⟩) CC.out.2).trans CC.out.1; go_simp; exact hK _ hS
 ·simp only [Act.put, zA, zB, zC]; rfl
 refine RS.go1 (v := ?_) (a' := ?_) rfl ?_ ?_ ?_; rotate_left 2
 ·intro K wx hS hK; go_simp; refine (KS.out wx hS).mono (fun e w2 he => ?_)
  refine ⟨_, he.1, ?_⟩; exact hK _ (RSb hS he.2)
 ·simp only [Act.put, zA, zB, zC]; rfl
 refine RS.go1 (v := ?_) (a' := ?_) rfl ?_ ?_ ?_; rotate_left 2
 ·intro K wx hS hK; refine Hh.ld rfl rfl (Sp.CK_below CH.out.1 hS CH.out.2) ?_; exact hK _ hS
 ·simp only [Act.put, zA, zB, zC]; rfl
 refine RS.go1 (v := ?_) (a' := ?_) rfl ?_ ?_ ?_; rotate_left 2
 ·intro K wx hS hK; refine Hh.neq (b := true) rfl rfl rfl (by rw [HQ.out]; rfl) ?_
  exact hK _ hS
 ·simp only [Act.put, zA, zB, zC]; rfl
 refine RS.go_end ?_; intro w3 m3; have HR : Hid (SDP (c :: r) first F left w (.returned (.tuple #[.slice none 0 0, .int .i64 4])) w3) := sdp_bad (by rw [sd, if_pos HQ.out]) (LB.out.trans (m3.mono LB.out.size))
 clear m3 LB CH CC KS HP KS0 HQ; go_wp2_with fail
 go_ret2
 exact HR.out
set_option maxHeartbeats 2000000 in
set_option maxRecDepth 100000 in
theorem sd_bad (F : Nat → Int) (left : Bs) (first : Bool) (cc : Nat) (w : World) (m gp off : Nat) (hm : Hid (0 < m)) (c : Bs) (r : List Bs) (bo : Option Addr) (bc : Nat) (HP : Hid (w.cell? ⟨gp, off, none⟩ = some (.slice bo c.length bc) ∧ gp < w.heap.size)) (KS0 : Hid (∀ wx, Below w.heap.size w wx → Calls Try.prog 15 #[.slice bo c.length bc] wx fun e w' => e = .returned (Hv (sumf c)) ∧ Below wx.heap.size wx w')) (HQ : Hid (same 32 (sumf c) F = true)) (s : Shp) (z : Int) (KR : Hid (∀ wx, Below w.heap.size w wx → Calls Try.prog 16 #[.slice bo c.length bc] wx (PR wx s z))) (hz : Hid (z = 1)) (HS : Hid (sd (c :: r) first F left = ([], 1))) :
  Calls Try.prog 10 #[Hv F, .string (Tr.st left), .slice (some ⟨gp, off, none⟩) m cc, .bool first] w (SDP (c :: r) first F left w) := by
 have t0 : ((m : Int) == 0) = false := by rw [beq_eq_false_iff_ne]; have := hm.out; omega
 have t1 : ¬ m = 0 := by have := hm.out; omega
 have L1 : Hid ((0 : Int) < (m : Int)) := by have := hm.out; show _ < _; omega
 go_enter Try.func10, Try.ntmps10
 go_upto_region 1 with fail
 dsimp only [Hv]; have k0 := box_ck F w 23; have b0 : Below w.heap.size w (w.alloc (.cells (h32 F).toArray 23)) := (Below.refl _ _).alloc (Nat.le_refl _) _; have z0 : w.heap.size < (w.alloc (.cells (h32 F).toArray 23)).heap.size := by simp
 generalize w.alloc (.cells (h32 F).toArray 23) = W0 at k0 b0 z0 ⊢; generalize (h32 F).toArray = hF; have LB : Hid (Below w.heap.size w W0) := b0; obtain ⟨h, eh⟩ : ∃ h, h = w.heap.size := ⟨_, rfl⟩; rw [← eh] at k0 z0 ⊢; have CH : Hid (Sp.CK .u8 h 32 F W0 ∧ h < W0.heap.size) := ⟨k0, z0⟩; clear k0 b0 z0 eh; have CC : Hid (W0.cell? ⟨gp, off, none⟩ = some (.slice bo c.length bc) ∧ gp < W0.heap.size) := ⟨(LB.out.cell (p := ⟨gp, off, none⟩) HP.out.2).trans HP.out.1, Nat.lt_of_lt_of_le HP.out.2 LB.out.size⟩; have KS : Hid (∀ wx, Below W0.heap.size W0 wx → Calls Try.prog 15 #[.slice bo c.length bc] wx fun e w' => e = .returned (Hv (sumf c)) ∧ Below wx.heap.size wx w') := fun wx hb => KS0.out wx (LB.out.trans (hb.mono LB.out.size))
 go_upto_region 3 with fail
 refine RS.wp_region_one (fun wx => Below W0.heap.size W0 wx) (by kernel_rfl) (by kernel_rfl) ((Below.refl _ _).drew) ?_
 dsimp only [List.toList_toArray]; refine RS.go1 (v := ?_) (a' := ?_) rfl ?_ ?_ ?_; rotate_left 2
 ·intro K wx hS hK; go_simp; exact hK _ hS
 ·simp only [Act.put, zA, zB, zC]; rfl
 refine RS.go1 (v := ?_) (a' := ?_) rfl ?_ ?_ ?_; rotate_left 2
 ·intro K wx hS hK; have d1 := L1.out; have d2 := hm.out; go_simp; exact hK _ hS
 ·simp only [Act.put, zA, zB, zC]; rfl
 refine RS.go1 (v := ?_) (a' := ?_) rfl ?_ ?_ ?_; rotate_left 2
 ·intro K wx hS hK; have z2 := (hS.cell (p := ⟨gp, off, none⟩) CC.out.2).trans CC.out.1; go_simp; exact hK _ hS
 ·simp only [Act.put, zA, zB, zC]; rfl
 refine RS.go1 (v := ?_) (a' := ?_) rfl ?_ ?_ ?_; rotate_left 2
 ·intro K wx hS hK; go_simp; refine (KS.out wx hS).mono (fun e w2 he => ?_)
  refine ⟨_, he.1, ?_⟩; exact hK _ (RSb hS he.2)
 ·simp only [Act.put, zA, zB, zC]; rfl
 refine RS.go1 (v := ?_) (a' := ?_) rfl ?_ ?_ ?_; rotate_left 2
 ·intro K wx hS hK; refine Hh.ld rfl rfl (Sp.CK_below CH.out.1 hS CH.out.2) ?_; exact hK _ hS
 ·simp only [Act.put, zA, zB, zC]; rfl
 refine RS.go1 (v := ?_) (a' := ?_) rfl ?_ ?_ ?_; rotate_left 2
 ·intro K wx hS hK; refine Hh.neq (b := false) rfl rfl rfl (by rw [HQ.out]; rfl) ?_
  exact hK _ hS
 ·simp only [Act.put, zA, zB, zC]; rfl
 refine RS.go_end ?_; intro w3 m3; have LB3 : Hid (Below w.heap.size w w3) := LB.out.trans (m3.mono LB.out.size); have y0 := (m3.cell (p := ⟨gp, off, none⟩) CC.out.2).trans CC.out.1; have y1 := L1.out; have y2 := hm.out; clear m3 KS CH; go_wp2_with fail
 refine (KR.out _ LB3.out).mono ?_; rintro e w4 ⟨v, rfl, sh, b4, ⟨k, f1, f2, f3, f4, f5, f6, f7, f8, f9, rfl⟩⟩; have LB4 := LB3.out.trans (b4.mono LB3.out.size); have bB : Below w4.heap.size w4 (w4.alloc (.cells #[.int .i64 k, .slice f1 f2 f3, .slice f4 f5 f6, .slice f7 f8 f9] 34)) := (Below.refl _ _).alloc (Nat.le_refl _) _; have HB := heap_alloc_new w4 (.cells #[.int .i64 k, .slice f1 f2 f3, .slice f4 f5 f6, .slice f7 f8 f9] 34); have s0 : (w4.alloc (.cells #[.int .i64 k, .slice f1 f2 f3, .slice f4 f5 f6, .slice f7 f8 f9] 34)).cell? ⟨w4.heap.size, 0, none⟩ = some (.int .i64 k) := by simp only [World.cell?, HB]; rfl
 have s1 : (w4.alloc (.cells #[.int .i64 k, .slice f1 f2 f3, .slice f4 f5 f6, .slice f7 f8 f9] 34)).cell? ⟨w4.heap.size, 1, none⟩ = some (.slice f1 f2 f3) := by simp only [World.cell?, HB]; rfl
 have s2 : (w4.alloc (.cells #[.int .i64 k, .slice f1 f2 f3, .slice f4 f5 f6, .slice f7 f8 f9] 34)).cell? ⟨w4.heap.size, 2, none⟩ = some (.slice f4 f5 f6) := by simp only [World.cell?, HB]; rfl
 have s3 : (w4.alloc (.cells #[.int .i64 k, .slice f1 f2 f3, .slice f4 f5 f6, .slice f7 f8 f9] 34)).cell? ⟨w4.heap.size, 3, none⟩ = some (.slice f7 f8 f9) := by simp only [World.cell?, HB]; rfl
 have g7h : w4.heap.size < (w4.alloc (.cells #[.int .i64 k, .slice f1 f2 f3, .slice f4 f5 f6, .slice f7 f8 f9] 34)).heap.size := by simp
 have LB5 : Hid (Below w.heap.size w (w4.alloc (.cells #[.int .i64 k, .slice f1 f2 f3, .slice f4 f5 f6, .slice f7 f8 f9] 34))) := LB4.trans (bB.mono LB4.size); have H5 : Hid (Sh s (.int .i64 k, .slice f1 f2 f3, .slice f4 f5 f6, .slice f7 f8 f9) (w4.alloc (.cells #[.int .i64 k, .slice f1 f2 f3, .slice f4 f5 f6, .slice f7 f8 f9] 34))) := Sh_below sh bB; have ek : Hid (k = s.1) := by have := sh.1; injection this
 clear sh b4 LB4 bB HB LB3 KR y0; dsimp only [v4]; go_upto_region 6 with fail
 generalize w4.alloc (.cells #[.int .i64 k, .slice f1 f2 f3, .slice f4 f5 f6, .slice f7 f8 f9] 34) = W5 at s0 s1 s2 s3 LB5 H5 g7h ⊢; generalize w4.heap.size = g7 at s0 s1 s2 s3 g7h ⊢; obtain rfl : z = 1 := hz.out; refine RS.wp_region_flat (fun wx => Below W5.heap.size W5 wx) 11 (by kernel_rfl) (Below.refl _ _) ?_
 simp only [List.take_succ_cons, List.take_zero, List.drop_succ_cons, List.drop_zero]
 iterate 3
  refine RS.go1 (v := ?_) (a' := ?_) rfl ?_ ?_ ?_; rotate_left 2
  ·intro K wx hS hK; go_simp; exact hK _ hS
  ·simp only [Act.put, zA, zB, zC]; rfl
 iterate 7
  refine RS.go0 (a' := ?_) (by kernel_rfl) ?_ ?_; rotate_left 1
  ·simp only [Act.put, zA, zB, zC]; rfl
 refine RS.go1 (v := ?_) (a' := ?_) rfl ?_ ?_ ?_; rotate_left 2
 ·intro K wx hS hK; go_simp; exact hK _ hS
 ·simp only [Act.put, zA, zB, zC]; rfl
 refine RS.go_end ?_; intro w9 m9; have HR : Hid (SDP (c :: r) first F left w (.returned (.tuple #[.slice none 0 0, .int .i64 1])) w9) := sdp_bad HS.out (LB5.out.trans (m9.mono LB5.out.size))
 clear m9 LB5 H5 s0 s1 s2 s3; go_wp2_with fail
 go_ret2
 exact HR.out
set_option maxHeartbeats 2000000 in
set_option maxRecDepth 100000 in
theorem sd_no (F : Nat → Int) (left : Bs) (first : Bool) (cc : Nat) (w : World) (m gp off : Nat) (hm : Hid (0 < m)) (c : Bs) (r : List Bs) (bo : Option Addr) (bc : Nat) (HP : Hid (w.cell? ⟨gp, off, none⟩ = some (.slice bo c.length bc) ∧ gp < w.heap.size)) (KS0 : Hid (∀ wx, Below w.heap.size w wx → Calls Try.prog 15 #[.slice bo c.length bc] wx fun e w' => e = .returned (Hv (sumf c)) ∧ Below wx.heap.size wx w')) (HQ : Hid (same 32 (sumf c) F = true)) (s : Shp) (z : Int) (KR : Hid (∀ wx, Below w.heap.size w wx → Calls Try.prog 16 #[.slice bo c.length bc] wx (PR wx s z))) (hz : Hid (z = 0)) (hf : Hid (first = false)) (hk : Hid (s.1 = 0)) (HS : Hid (sd (c :: r) first F left = ([], 1))) :
  Calls Try.prog 10 #[Hv F, .string (Tr.st left), .slice (some ⟨gp, off, none⟩) m cc, .bool first] w (SDP (c :: r) first F left w) := by
 obtain rfl := hf.out; have t0 : ((m : Int) == 0) = false := by rw [beq_eq_false_iff_ne]; have := hm.out; omega
 have t1 : ¬ m = 0 := by have := hm.out; omega
 have L1 : Hid ((0 : Int) < (m : Int)) := by have := hm.out; show _ < _; omega
 go_enter Try.func10, Try.ntmps10
 go_upto_region 1 with fail
 dsimp only [Hv]; have k0 := box_ck F w 23; have b0 : Below w.heap.size w (w.alloc (.cells (h32 F).toArray 23)) := (Below.refl _ _).alloc (Nat.le_refl _) _; have z0 : w.heap.size < (w.alloc (.cells (h32 F).toArray 23)).heap.size := by simp
 generalize w.alloc (.cells (h32 F).toArray 23) = W0 at k0 b0 z0 ⊢; generalize (h32 F).toArray = hF; have LB : Hid (Below w.heap.size w W0) := b0; obtain ⟨h, eh⟩ : ∃ h, h = w.heap.size := ⟨_, rfl⟩; rw [← eh] at k0 z0 ⊢; have CH : Hid (Sp.CK .u8 h 32 F W0 ∧ h < W0.heap.size) := ⟨k0, z0⟩; clear k0 b0 z0 eh; have CC : Hid (W0.cell? ⟨gp, off, none⟩ = some (.slice bo c.length bc) ∧ gp < W0.heap.size) := ⟨(LB.out.cell (p := ⟨gp, off, none⟩) HP.out.2).trans HP.out.1, Nat.lt_of_lt_of_le HP.out.2 LB.out.size⟩; have KS : Hid (∀ wx, Below W0.heap.size W0 wx → Calls Try.prog 15 #[.slice bo c.length bc] wx fun e w' => e = .returned (Hv (sumf c)) ∧ Below wx.heap.size wx w') := fun wx hb => KS0.out wx (LB.out.trans (hb.mono LB.out.size))
 go_upto_region 3 with fail
 refine RS.wp_region_one (fun wx => Below W0.heap.size W0 wx) (by kernel_rfl) (by kernel_rfl) ((Below.refl _ _).drew) ?_
 dsimp only [List.toList_toArray]; refine RS.go1 (v := ?_) (a' := ?_) rfl ?_ ?_ ?_; rotate_left 2
 ·intro K wx hS hK; go_simp; exact hK _ hS
 ·simp only [Act.put, zA, zB, zC]; rfl
 refine RS.go1 (v := ?_) (a' := ?_) rfl ?_ ?_ ?_; rotate_left 2
 ·intro K wx hS hK; have d1 := L1.out; have d2 := hm.out; go_simp; exact hK _ hS
 ·simp only [Act.put, zA, zB, zC]; rfl
 refine RS.go1 (v := ?_) (a' := ?_) rfl ?_ ?_ ?_; rotate_left 2
 ·intro K wx hS hK; have z2 := (hS.cell (p := ⟨gp, off, none⟩) CC.out.2).trans CC.out.1; go_simp; exact hK _ hS
 ·simp only [Act.put, zA, zB, zC]; rfl
 refine RS.go1 (v := ?_) (a' := ?_) rfl ?_ ?_ ?_; rotate_left 2
 ·intro K wx hS hK; go_simp; refine (KS.out wx hS).mono (fun e w2 he => ?_)
  refine ⟨_, he.1, ?_⟩; exact hK _ (RSb hS he.2)
 ·simp only [Act.put, zA, zB, zC]; rfl
 refine RS.go1 (v := ?_) (a' := ?_) rfl ?_ ?_ ?_; rotate_left 2
 ·intro K wx hS hK; refine Hh.ld rfl rfl (Sp.CK_below CH.out.1 hS CH.out.2) ?_; exact hK _ hS
 ·simp only [Act.put, zA, zB, zC]; rfl
 refine RS.go1 (v := ?_) (a' := ?_) rfl ?_ ?_ ?_; rotate_left 2
 ·intro K wx hS hK; refine Hh.neq (b := false) rfl rfl rfl (by rw [HQ.out]; rfl) ?_
  exact hK _ hS
 ·simp only [Act.put, zA, zB, zC]; rfl
 refine RS.go_end ?_; intro w3 m3; have LB3 : Hid (Below w.heap.size w w3) := LB.out.trans (m3.mono LB.out.size); have y0 := (m3.cell (p := ⟨gp, off, none⟩) CC.out.2).trans CC.out.1; have y1 := L1.out; have y2 := hm.out; clear m3 KS CH; go_wp2_with fail
 refine (KR.out _ LB3.out).mono ?_; rintro e w4 ⟨v, rfl, sh, b4, ⟨k, f1, f2, f3, f4, f5, f6, f7, f8, f9, rfl⟩⟩; have LB4 := LB3.out.trans (b4.mono LB3.out.size); have bB : Below w4.heap.size w4 (w4.alloc (.cells #[.int .i64 k, .slice f1 f2 f3, .slice f4 f5 f6, .slice f7 f8 f9] 34)) := (Below.refl _ _).alloc (Nat.le_refl _) _; have HB := heap_alloc_new w4 (.cells #[.int .i64 k, .slice f1 f2 f3, .slice f4 f5 f6, .slice f7 f8 f9] 34); have s0 : (w4.alloc (.cells #[.int .i64 k, .slice f1 f2 f3, .slice f4 f5 f6, .slice f7 f8 f9] 34)).cell? ⟨w4.heap.size, 0, none⟩ = some (.int .i64 k) := by simp only [World.cell?, HB]; rfl
 have s1 : (w4.alloc (.cells #[.int .i64 k, .slice f1 f2 f3, .slice f4 f5 f6, .slice f7 f8 f9] 34)).cell? ⟨w4.heap.size, 1, none⟩ = some (.slice f1 f2 f3) := by simp only [World.cell?, HB]; rfl
 have s2 : (w4.alloc (.cells #[.int .i64 k, .slice f1 f2 f3, .slice f4 f5 f6, .slice f7 f8 f9] 34)).cell? ⟨w4.heap.size, 2, none⟩ = some (.slice f4 f5 f6) := by simp only [World.cell?, HB]; rfl
 have s3 : (w4.alloc (.cells #[.int .i64 k, .slice f1 f2 f3, .slice f4 f5 f6, .slice f7 f8 f9] 34)).cell? ⟨w4.heap.size, 3, none⟩ = some (.slice f7 f8 f9) := by simp only [World.cell?, HB]; rfl
 have g7h : w4.heap.size < (w4.alloc (.cells #[.int .i64 k, .slice f1 f2 f3, .slice f4 f5 f6, .slice f7 f8 f9] 34)).heap.size := by simp
 have LB5 : Hid (Below w.heap.size w (w4.alloc (.cells #[.int .i64 k, .slice f1 f2 f3, .slice f4 f5 f6, .slice f7 f8 f9] 34))) := LB4.trans (bB.mono LB4.size); have H5 : Hid (Sh s (.int .i64 k, .slice f1 f2 f3, .slice f4 f5 f6, .slice f7 f8 f9) (w4.alloc (.cells #[.int .i64 k, .slice f1 f2 f3, .slice f4 f5 f6, .slice f7 f8 f9] 34))) := Sh_below sh bB; have ek : Hid (k = s.1) := by have := sh.1; injection this
 clear sh b4 LB4 bB HB LB3 KR y0; dsimp only [v4]; go_upto_region 6 with fail
 generalize w4.alloc (.cells #[.int .i64 k, .slice f1 f2 f3, .slice f4 f5 f6, .slice f7 f8 f9] 34) = W5 at s0 s1 s2 s3 LB5 H5 g7h ⊢; generalize w4.heap.size = g7 at s0 s1 s2 s3 g7h ⊢; obtain rfl : z = 0 := hz.out; obtain rfl : k = 0 := ek.out.trans hk.out; refine RS.wp_region_flat (fun wx => Below W5.heap.size W5 wx) 11 (by kernel_rfl) (Below.refl _ _) ?_
 simp only [List.take_succ_cons, List.take_zero, List.drop_succ_cons, List.drop_zero]
 iterate 3
  refine RS.go1 (v := ?_) (a' := ?_) rfl ?_ ?_ ?_; rotate_left 2
  ·intro K wx hS hK; go_simp; exact hK _ hS
  ·simp only [Act.put, zA, zB, zC]; rfl
 iterate 4
  refine RS.go1g (v := ?_) (a' := ?_) (by kernel_rfl) ?_ ?_ ?_; rotate_left 2
  ·intro K wx hS hK; go_simp; exact hK _ hS
  ·simp only [Act.put, zA, zB, zC]; rfl
 refine RS.go1g (v := ?_) (a' := ?_) (by kernel_rfl) ?_ ?_ ?_; rotate_left 2
 ·intro K wx hS hK; have z1 := (hS.cell (p := ⟨g7, 0, none⟩) g7h).trans s0; go_simp; exact hK _ hS
 ·simp only [Act.put, zA, zB, zC]; rfl
 iterate 2
  refine RS.go1g (v := ?_) (a' := ?_) (by kernel_rfl) ?_ ?_ ?_; rotate_left 2
  ·intro K wx hS hK; go_simp; exact hK _ hS
  ·simp only [Act.put, zA, zB, zC]; rfl
 refine RS.go1 (v := ?_) (a' := ?_) rfl ?_ ?_ ?_; rotate_left 2
 ·intro K wx hS hK; go_simp; exact hK _ hS
 ·simp only [Act.put, zA, zB, zC]; rfl
 refine RS.go_end ?_; intro w9 m9; have HR : Hid (SDP (c :: r) false F left w (.returned (.tuple #[.slice none 0 0, .int .i64 1])) w9) := sdp_bad HS.out (LB5.out.trans (m9.mono LB5.out.size)); clear m9 LB5 H5 s0 s1 s2 s3; go_wp2_with fail
 go_ret2
 exact HR.out
end Pf
end Go.Proofs.Ytlbdaccmnpcccaa
