import Derived.Test.YtlbdaccmnpcccaaGreatDoorPackI
import Derived.Test.YtlbdaccmnpcccaaGreatDoorPackJ
import Derived.Test.YtlbdaccmnpcccaaGreatDoorPackE
import Derived.Test.YtlbdaccmnpcccaaGreatDoorPackC
import Derived.Test.YtlbdaccmnpcccaaGreatDoorPackH
import Derived.Test.YtlbdaccmnpcccaaGreatDoorPackA
import Derived.Deep.MidRow
import Derived.Lib.AppendZeros
set_option maxRecDepth 100000
set_option maxHeartbeats 4000000
namespace Go.Proofs.YtlbdaccmnpcccaaGreatDoor
namespace Rt
open Nb Sp Pk Rs Go.RowKit
theorem node_none (a1 a2 a3 : Option Addr) (n1 c1 n2 c2 n3 c3 : Nat) (B gw : Nat) (X : Nat → Prop) (l : List (List UInt8)) (cv : Value) (w : World) (HW : Hid (WS B gw X l cv w)) :
  Calls Tryz.prog 34 #[.pointer (some ⟨gw,0,none⟩),.agg #[.int .i64 0,.slice a1 n1 c1,.slice a2 n2 c2,.slice a3 n3 c3]] w (NR B gw X l [] [] cv w) := by
 have HA := heap_alloc_new w (.cells #[.int .i64 0,.slice a1 n1 c1,.slice a2 n2 c2,.slice a3 n3 c3] 25); have p0 : (w.alloc (.cells #[.int .i64 0,.slice a1 n1 c1,.slice a2 n2 c2,.slice a3 n3 c3] 25)).cell? ⟨w.heap.size,0,none⟩ = some (.int .i64 0) := by simp only [World.cell?,HA]; rfl
 have b0 : Below w.heap.size w (w.alloc (.cells #[.int .i64 0,.slice a1 n1 c1,.slice a2 n2 c2,.slice a3 n3 c3] 25)) := (Below.refl _ _).alloc (Nat.le_refl _) _; have HR : Hid (NR B gw X l [] [] cv w (.returned (.slice none 0 0)) (w.alloc (.cells #[.int .i64 0,.slice a1 n1 c1,.slice a2 n2 c2,.slice a3 n3 c3] 25))) := ⟨_,cv,rfl,by rw [List.append_nil]; exact WS_below HW.out b0,Ty_nil _ _,fr2_below (fr2_refl _ _ _) b0,fun g h => .inl h⟩
 clear HA HW b0; go_enter Tryz.func34,Tryz.ntmps34
 go_wp2_with fail
 go_ret
 exact HR.out
theorem node_leaf (a1 a2 a3 : Option Addr) (n1 c1 n2 c2 n3 c3 : Nat) (B gw : Nat) (X : Nat → Prop) (l : List (List UInt8)) (cv : Value) (w : World) (HW : Hid (WS B gw X l cv w)) (HBW : Hid (B ≤ w.heap.size)) (HLN : Hid (l.length ≤ 2097152)) (HX2 : Hid (∀ i,X i → i ≠ gw)) (HX1 : Hid (∀ i,w.heap.size ≤ i → X i)) (ks : List Nd) (C : List UInt8)
  (KW : Hid (∀ (wr : World) (kv : Value) {r0 : Option Nat} {G : Nat} {l' : List (List UInt8)} {cv' : Value},NI w r0 B gw G X 1 (.slice a1 n1 c1) (.slice a2 n2 c2) ks l' 0 0 kv cv' wr → (∀ i,r0 = some i → B ≤ i) → ∀ wx,Below wr.heap.size wr wx → Calls Tryz.prog 33 #[.agg #[.int .i64 1,.slice a1 n1 c1,.slice a2 n2 c2,kv]] wx fun e w' => ∃ v,e = .returned v ∧ Ty (wr.heap.size ≤ ·) C v w' ∧ Below wx.heap.size wx w'))
  (KS : Hid (∀ x y wx,Sl C (.slice x C.length y) wx → Calls Tryz.prog 27 #[.slice x C.length y] wx fun e w' => e = .returned (Hv (sumf C)) ∧ Below wx.heap.size wx w')) :
  Calls Tryz.prog 34 #[.pointer (some ⟨gw,0,none⟩),.agg #[.int .i64 1,.slice a1 n1 c1,.slice a2 n2 c2,.slice a3 n3 c3]] w (NR B gw X l [C] (sml C) cv w) := by
 have hwl := HW.out.hi; obtain ⟨ra,rc,rfl,_⟩ := CO_form HW.out.co; have HR0 : Hid (∀ i,(Value.slice ra l.length rc).ownBlock = some i → B ≤ i) := fun i hi => (CO_lt HW.out.co i hi).1
 have HA := heap_alloc_new w (.cells #[.int .i64 1,.slice a1 n1 c1,.slice a2 n2 c2,.slice a3 n3 c3] 25); have b0 : Below w.heap.size w (w.alloc (.cells #[.int .i64 1,.slice a1 n1 c1,.slice a2 n2 c2,.slice a3 n3 c3] 25)) := (Below.refl _ _).alloc (Nat.le_refl _) _; have z0 : (w.alloc (.cells #[.int .i64 1,.slice a1 n1 c1,.slice a2 n2 c2,.slice a3 n3 c3] 25)).heap.size = w.heap.size + 1 := by simp
 have p0 : (w.alloc (.cells #[.int .i64 1,.slice a1 n1 c1,.slice a2 n2 c2,.slice a3 n3 c3] 25)).cell? ⟨w.heap.size,0,none⟩ = some (.int .i64 1) := by simp only [World.cell?,HA]; rfl
 have p1 : (w.alloc (.cells #[.int .i64 1,.slice a1 n1 c1,.slice a2 n2 c2,.slice a3 n3 c3] 25)).cell? ⟨w.heap.size,1,none⟩ = some (.slice a1 n1 c1) := by simp only [World.cell?,HA]; rfl
 have p2 : (w.alloc (.cells #[.int .i64 1,.slice a1 n1 c1,.slice a2 n2 c2,.slice a3 n3 c3] 25)).cell? ⟨w.heap.size,2,none⟩ = some (.slice a2 n2 c2) := by simp only [World.cell?,HA]; rfl
 have p3 : (w.alloc (.cells #[.int .i64 1,.slice a1 n1 c1,.slice a2 n2 c2,.slice a3 n3 c3] 25)).cell? ⟨w.heap.size,3,none⟩ = some (.slice a3 n3 c3) := by simp only [World.cell?,HA]; rfl
 have W0 := WS_below HW.out b0; clear HA; have q0 := W0.c; have HW0 : Hid _ := W0; clear W0; go_enter Tryz.func34,Tryz.ntmps34
 go_upto_region 4 with fail
 generalize hWA : w.alloc (.cells #[.int .i64 1,.slice a1 n1 c1,.slice a2 n2 c2,.slice a3 n3 c3] 25) = WA at *; clear hWA; obtain ⟨h,eh⟩ : ∃ h,h = w.heap.size := ⟨_,rfl⟩; rw [← eh] at p0 p1 p2 p3 ⊢; have EH : Hid (h = w.heap.size) := eh; have hh : h < WA.heap.size := by omega
 clear eh; have bB : Below WA.heap.size WA (WA.alloc (.cells #[.slice none 0 0] 22)) := (Below.refl _ _).alloc (Nat.le_refl _) _; have HB := heap_alloc_new WA (.cells #[.slice none 0 0] 22); have vB : Vl [.slice none 0 0] (.slice (some ⟨WA.heap.size,0,none⟩) 1 1) (WA.alloc (.cells #[.slice none 0 0] 22)) := ⟨_,1,rfl,fun _ => ⟨_,0,rfl,by simp,fun i hi => by
  have : i = 0 := by simp at hi; omega
  subst this; simp only [World.cell?,HB]; rfl⟩⟩
 obtain ⟨sa,sn,sc,w7,hap,⟨ck7,fz7⟩,hW7,hF7,ho7⟩ := WS_app 26 (WS_below HW0.out bB) vB (Nat.le_trans (Nat.le_trans HBW.out b0.size) bB.size) (by have := HLN.out; omega) HX2.out
 have hF8 := fr2_trans (fr2_below (fr2_below (fr2_refl w gw (Value.slice ra l.length rc).ownBlock) b0) bB) hF7 (fun i hi => .inl hi)
 have bl8 := fun (o : Nat) u (c : WA.cell? ⟨h,o,none⟩ = some u) => (World.cell?_of_block (a := ⟨h,o,none⟩) (hF7.block h (Nat.lt_of_lt_of_le hh bB.size) (fun e => by have := EH.out; omega) (fun e => by have := (CO_lt HW.out.co h e.symm).2; have := EH.out; omega))).trans ((bB.cell (p := ⟨h,o,none⟩) hh).trans c)
 have y0 := bl8 _ _ p0; have y1 := bl8 _ _ p1; have y2 := bl8 _ _ p2; have y3 := bl8 _ _ p3; have HO8 : Hid (∀ g,(Value.slice sa sn sc).ownBlock = some g → (Value.slice ra l.length rc).ownBlock = some g ∨ w.heap.size ≤ g) := fun g hg => by
  rcases ho7 g hg with e | e
  ·exact .inl e
  ·exact .inr (by have := bB.size; omega)
 have HW8 : Hid _ := hW7; have HF8 : Hid _ := hF8; clear hF7 ho7 hW7 hF8 bl8 bB HB vB p0 p1 p2 p3 b0 HW0 z0; go_upto_region 5 with (at_builtin; refine wpList_apw rfl rfl rfl rfl hap ?_)
 clear hap ck7 fz7 q0 hh hwl; generalize w7.setCell ⟨gw,0,none⟩ (.slice sa sn sc) = W8 at HW8 HF8 y0 y1 y2 y3 ⊢; have hh8 : h < W8.heap.size := World.block_lt_of_cell? W8 ⟨h,0,none⟩ y0; have x9 := BS_new W8; have b9 : Below W8.heap.size W8 (W8.alloc (.cells #[.int .i64 0,.slice none 0 0,.slice none 0 0,.slice none 0 0] 63)) := (Below.refl _ _).alloc (Nat.le_refl _) _; have B9 : Hid (Below W8.heap.size W8 (W8.alloc (.cells #[.int .i64 0,.slice none 0 0,.slice none 0 0,.slice none 0 0] 63))) := b9; have HT0 : Hid _ := (b9.cell (p := ⟨h,0,none⟩) hh8).trans y0; have HT3 : Hid _ := (b9.cell (p := ⟨h,3,none⟩) hh8).trans y3; clear b9; go_wp2_with (refine wpList_stB rfl rfl rfl rfl x9 ?_)
 intro w1 g1 xb s0 s1 s2 s3; have hbk := g1.block h (Nat.lt_of_lt_of_le hh8 B9.out.size) (fun e => by injection e with e; omega)
 replace y0 := (World.cell?_of_block (a := ⟨h,0,none⟩) hbk).trans HT0.out
 replace y3 := (World.cell?_of_block (a := ⟨h,3,none⟩) hbk).trans HT3.out
 have HI : Hid (NI w (Value.slice ra l.length rc).ownBlock B gw W8.heap.size X 1 (.slice a1 n1 c1) (.slice a2 n2 c2) ks (l ++ [[]]) 0 0 (.slice none 0 0) (.slice sa sn sc) w1) := NI_init HW8.out HF8.out HO8.out B9.out g1 xb s0 s1 s2 s3; clear hbk y1 y2 s0 s1 s2 s3 xb g1 B9 x9 HW8 HF8 HO8 hh8 HT0 HT3; generalize W8.heap.size = G at HI ⊢; have hI := HI.out; have hW := hI.W; rw [List.append_assoc] at hW; obtain ⟨gc,cc,ecv⟩ := WS_form (l := l) (m := cdk (ks.take (0))) hW; injection ecv with e1 e2 e3
 subst e1 e3; have d1 : (l.length : Int) < ((sn : Nat) : Int) := by omega
 have d0 : (0 : Int) ≤ (l.length : Int) := by omega
 clear e2; have HC : Hid (gw < w1.heap.size ∧ w1.cell? ⟨gw,0,none⟩ = some (.slice (some ⟨gc,0,none⟩) sn sc) ∧ G < w1.heap.size ∧ w1.cell? ⟨G,0,none⟩ = some (.int .i64 1) ∧ w1.cell? ⟨G,1,none⟩ = some (.slice a1 n1 c1) ∧ w1.cell? ⟨G,2,none⟩ = some (.slice a2 n2 c2) ∧ w1.cell? ⟨G,3,none⟩ = some (.slice none 0 0)) := ⟨hI.W.hi,hI.W.c,hI.x.hi,hI.c0,hI.c1,hI.c2,hI.c3⟩; have KW2 : Hid _ := KW.out w1 (.slice none 0 0) hI HR0.out; have hL : RG.Lasts (fun wx => Below w1.heap.size w1 wx) (fun _ v wx => Ty (w1.heap.size ≤ ·) C v wx) := ⟨fun _ _ h hb => h.trans (hb.mono h.size),fun _ _ _ _ h hb => Ty_gb (r := none) h (gb_below hb) (fun _ _ => nofun)⟩
 clear hI hW; go_upto_region 12 with fail
 refine RG.wp_region_gen (fun wx => Below w1.heap.size w1 wx) (fun _ v wx => Ty (w1.heap.size ≤ ·) C v wx) (fun _ _ => True) [0,0,0,0,0,0,1,2,2] (by kernel_rfl) (by kernel_rfl) ((Below.refl _ _).drew) ?_
 dsimp only [List.toList_toArray]
 iterate 3
  refine RG.go1 (v := ?_) (a' := ?_) hL (by decide) rfl ?_ ?_ ?_; rotate_left 2
  ·intro K wx hS hK; go_simp; exact hK _ (Below.refl _ _)
  ·simp only [Act.put,zA,zB,zC]; rfl
 refine RG.go1 (v := ?_) (a' := ?_) hL (by decide) rfl ?_ ?_ ?_; rotate_left 2
 ·intro K wx hS hK; have z0 := (hS.cell (p := ⟨gw,0,none⟩) HC.out.1).trans HC.out.2.1; go_simp; exact hK _ (Below.refl _ _)
 ·simp only [Act.put,zA,zB,zC]; rfl
 refine RG.go1 (v := ?_) (a' := ?_) hL (by decide) rfl ?_ ?_ ?_; rotate_left 2
 ·intro K wx hS hK; go_simp; exact hK _ (Below.refl _ _)
 ·simp only [Act.put,zA,zB,zC]; rfl
 refine RG.go1 (v := ?_) (a' := ?_) hL (by decide) rfl ?_ ?_ ?_; rotate_left 2
 ·intro K wx hS hK; have z0 := (hS.cell (p := ⟨G,0,none⟩) HC.out.2.2.1).trans HC.out.2.2.2.1; have z1 := (hS.cell (p := ⟨G,1,none⟩) HC.out.2.2.1).trans HC.out.2.2.2.2.1; have z2 := (hS.cell (p := ⟨G,2,none⟩) HC.out.2.2.1).trans HC.out.2.2.2.2.2.1; have z3 := (hS.cell (p := ⟨G,3,none⟩) HC.out.2.2.1).trans HC.out.2.2.2.2.2.2; go_simp; exact hK _ (Below.refl _ _)
 ·simp only [Act.put,zA,zB,zC]; rfl
 refine RG.goN hL rfl ?_ ?_
 ·intro K wx hS hK; go_simp; refine (KW2.out wx hS).mono (fun e w2 he => ?_)
  obtain ⟨v,rfl,ty,b2⟩ := he; exact ⟨_,rfl,hK _ _ b2 ty (fun _ _ _ => ⟨trivial,trivial⟩)⟩
 iterate 2
  refine RG.goT ?_
 refine RG.go_end ?_; intro U w9 m9 y9 x9; simp +decide (maxSteps := 1000000) only [RG.tl,RG.putN,if_true,if_false,Act.put,List.setIfInBounds_toArray,List.set_cons_succ,List.set_cons_zero,Nat.reduceAdd]
 have ty9 := y9 6 rfl; obtain ⟨f1,f2,f3,f4,f5,f6⟩ := NI_set HI.out m9 ty9 HX1.out HBW.out; obtain ⟨z9,f1⟩ := f1; obtain ⟨ya,yc,ey⟩ := Sl_fm (Ty_sl ty9); rw [ey] at f3 f4 f5 f6 ⊢; have f7 := f3.c; have HF3 : Hid _ := f3; have HF5 : Hid _ := f5; have HF6 : Hid _ := f6; have HO : Hid _ := HI.out.o; have HS9 : Hid (w.heap.size ≤ w9.heap.size) := Nat.le_trans HI.out.F.size m9.size; clear ty9 y9 x9 ey f3 f5 f6 hL KW2 HC KW HI; go_upto_region 13 with fail
 generalize w9.setCell ⟨gc,l.length,none⟩ (.slice ya C.length yc) = WX at f4 f7 HF3 HF5 HF6 ⊢; have hfz := HF3.out.f 0; clear f1 f2; go_wp2_with fail
 refine (KS.out _ _ _ (Ty_sl HF6.out)).mono ?_; rintro e w4 ⟨rfl,b4⟩; have bZ : Below w4.heap.size w4 (w4.alloc (.cells Z32 34)) := (Below.refl _ _).alloc (Nat.le_refl _) _; have thZ := there_new w4 34; have hz4 : w4.heap.size < (w4.alloc (.cells Z32 34)).heap.size := by simp
 have B4 : Hid (Below WX.heap.size WX w4) := b4; have BZ : Hid (Below w4.heap.size w4 (w4.alloc (.cells Z32 34)) ∧ w4.heap.size < (w4.alloc (.cells Z32 34)).heap.size) := ⟨bZ,hz4⟩; clear b4 bZ hz4 KS f4 f7 hfz; unfold Z32 at thZ BZ
 go_wp2_with (refine wpList_stH rfl rfl rfl rfl thZ ?_)
 intro w5 g5 cz; have b45 : Below w4.heap.size w4 w5 := BZ.out.1.trans ⟨g5.os,g5.tape,g5.output,g5.size,fun i hi => g5.block i (by have := BZ.out.2; omega) (fun e => by injection e with e; omega)⟩
 have hg8 : w4.heap.size < w5.heap.size := Nat.lt_of_lt_of_le BZ.out.2 g5.size; have b35 := B4.out.trans (b45.mono B4.out.size); have ws5 := WS_below HF3.out b35; have fr5 := fr2_below HF5.out b35; have sl5 : Ty (· = w4.heap.size) (sml C) (.slice (some ⟨w4.heap.size,0,none⟩) 32 32) w5 := sml_sl hg8 cz; have hcl := CO_lt HF3.out.co; have hx4 : w.heap.size ≤ WX.heap.size := HF5.out.size; have HR : Hid (NR B gw X l [C] (sml C) (.slice ra l.length rc) w (.returned (.slice (some ⟨w4.heap.size,0,none⟩) 32 32)) w5) := ⟨_,_,rfl,by (have e0 : cdk (ks.take 0) = [] := by simp [cdk]); rw [e0] at ws5; exact ws5,Ty_mono sl5 (fun i hi _ => by
  have h4 := B4.out.size; exact ⟨by omega,fun e => by have := (hcl i e).2; omega⟩),fr5,HO.out⟩
 clear g5 cz b45 hg8 b35 ws5 fr5 sl5 hcl hx4 BZ B4 thZ HF3 HF5 HF6 HO HS9; go_wp2_with fail
 go_ret
 exact HR.out
end Rt
end Go.Proofs.YtlbdaccmnpcccaaGreatDoor
namespace Go.Proofs.YtlbdaccmnpcccaaGreatDoor
namespace Rt
open Nb Sp Pk Rs Go.RowKit
def TS (ws : World) (gw G : Nat) (kv cv : Value) (i : Nat) : Prop := ws.heap.size ≤ i ∧ kv.ownBlock ≠ some i ∧ cv.ownBlock ≠ some i ∧ i ≠ gw ∧ i ≠ G
structure NJ (ws : World) (r0 : Option Nat) (B gw G : Nat) (X : Nat → Prop) (k : Int) (pv vv : Value) (ks : List Nd) (l : List (List UInt8)) (j : Nat) (kv cv : Value) (gA : Nat) (nd s1 s2 s3 : Value) (T : List UInt8) (d : Nat → Bool) (U : Nat → Value) (wx : World) : Prop where
 a : d 4 = false → NI ws r0 B gw G X k pv vv ks l j j kv cv wx
 b : d 4 = true → ∃ cv',NI ws r0 B gw G X k pv vv ks l j (j + 1) kv cv' wx ∧ Ty (TS ws gw G kv cv') T (U 4) wx
 c : d 5 = true → d 4 = true ∧ Vl [U 4] (U 5) wx
 h : gA < wx.heap.size
 n0 : wx.cell? ⟨gA,0,none⟩ = some nd
 n1 : wx.cell? ⟨gA,1,none⟩ = some s1
 n2 : wx.cell? ⟨gA,2,none⟩ = some s2
 n3 : wx.cell? ⟨gA,3,none⟩ = some s3
 q : wx.cell? ⟨G,3,none⟩ = some kv
variable {ws : World} {r0 : Option Nat} {B gw G : Nat} {X : Nat → Prop} {k : Int} {pv vv : Value} {ks : List Nd} {l : List (List UInt8)} {j : Nat} {kv cv : Value} {gA : Nat} {nd s1 s2 s3 : Value} {T : List UInt8} {d : Nat → Bool} {U : Nat → Value} {wx : World}
theorem NJ_keep {i : Nat} (h4 : 4 ≠ i) (h5 : 5 ≠ i) (h : NJ ws r0 B gw G X k pv vv ks l j kv cv gA nd s1 s2 s3 T d U wx) : NJ ws r0 B gw G X k pv vv ks l j kv cv gA nd s1 s2 s3 T (RI.don d i) U wx :=
 ⟨fun e => h.a (by rwa [RI.don_other _ _ _ h4] at e),fun e => h.b (by rwa [RI.don_other _ _ _ h4] at e),fun e => by
  rw [RI.don_other _ _ _ h4]; exact h.c (by rwa [RI.don_other _ _ _ h5] at e),h.h,h.n0,h.n1,h.n2,h.n3,h.q⟩
theorem NJ_X (H : NI ws r0 B gw G X k pv vv ks l j j kv cv wx) (hX1 : ∀ i,ws.heap.size ≤ i → X i) : ∀ i,wx.heap.size ≤ i → X i ∧ i ≠ G ∧ kv.ownBlock ≠ some i := fun i hi =>
 ⟨hX1 i (Nat.le_trans H.F.size hi),fun e => by have := H.x.hi; omega,fun e => by have := (CO_lt H.K i e).2; omega⟩
theorem NJ_call {C : List (List UInt8)} {sv cv' : Value} {w' : World} (h : NJ ws r0 B gw G X k pv vv ks l j kv cv gA nd s1 s2 s3 T d U wx) (h4 : d 4 = false) (hg : gA ≠ gw ∧ cv.ownBlock ≠ some gA)
  (hW : WS B gw (fun i => X i ∧ i ≠ G ∧ kv.ownBlock ≠ some i) ((l ++ cdk (ks.take j)) ++ C) cv' w') (ht : Ty (fun i => wx.heap.size ≤ i ∧ cv'.ownBlock ≠ some i) T sv w') (hF : Fr2 wx w' gw cv.ownBlock) (ho : ∀ g,cv'.ownBlock = some g → cv.ownBlock = some g ∨ wx.heap.size ≤ g) (hs : cdk (ks.take (j + 1)) = cdk (ks.take j) ++ C) :
  NJ ws r0 B gw G X k pv vv ks l j kv cv gA nd s1 s2 s3 T (RI.don d 4) (RH.updU U 4 sv) w' := by
 have H := h.a h4; have R := NI_R H hW hF ho hs; have hb := hF.block gA h.h hg.1 (fun e => hg.2 e.symm)
 have cell : ∀ o u,wx.cell? ⟨gA,o,none⟩ = some u → w'.cell? ⟨gA,o,none⟩ = some u := fun o u c => (World.cell?_of_block (a := ⟨gA,o,none⟩) hb).trans c
 refine ⟨fun e => ?_,fun _ => ⟨cv',R,?_⟩,fun e => ?_,Nat.lt_of_lt_of_le h.h hF.size,cell 0 _ h.n0,cell 1 _ h.n1,cell 2 _ h.n2,cell 3 _ h.n3,R.c3⟩
 ·rw [RI.don_same] at e; cases e
 ·show Ty _ T sv w'
  exact Ty_mono ht (fun i hi _ => ⟨Nat.le_trans H.F.size hi.1,fun e => by have := (CO_lt H.K i e).2; omega,hi.2,fun e => by have := H.W.hi; omega,fun e => by have := H.x.hi; omega⟩)
 ·rw [RI.don_other _ _ _ (by decide)] at e; have := (h.c e).1; rw [h4] at this; cases this
theorem NJ_row {ya : Option Addr} {yn yc : Nat} (h : NJ ws r0 B gw G X k pv vv ks l j kv cv gA nd s1 s2 s3 T d U wx) (h4 : d 4 = true) (hy : U 4 = .slice ya yn yc) :
  NJ ws r0 B gw G X k pv vv ks l j kv cv gA nd s1 s2 s3 T (RI.don d 5) (RH.updU U 5 (.slice (some ⟨wx.heap.size,0,none⟩) 1 1)) (wx.alloc (.cells #[.slice ya yn yc] 22)) := by
 have hb : Below wx.heap.size wx (wx.alloc (.cells #[.slice ya yn yc] 22)) := (Below.refl _ _).alloc (Nat.le_refl _) _; have cell : ∀ g o u,g < wx.heap.size → wx.cell? ⟨g,o,none⟩ = some u → (wx.alloc (.cells #[.slice ya yn yc] 22)).cell? ⟨g,o,none⟩ = some u := fun g o u hg c => (hb.cell (p := ⟨g,o,none⟩) hg).trans c
 obtain ⟨cv',R,ht⟩ := h.b h4; refine ⟨fun e => ?_,fun _ => ⟨cv',NI_below R hb,Ty_gb (r := none) ht (gb_below hb) (fun _ _ => nofun)⟩,fun _ => ⟨by rw [RI.don_other _ _ _ (by decide)]; exact h4,?_⟩,Nat.lt_of_lt_of_le h.h hb.size,cell _ _ _ h.h h.n0,cell _ _ _ h.h h.n1,cell _ _ _ h.h h.n2,cell _ _ _ h.h h.n3,cell _ _ _ R.x.hi h.q⟩
 ·rw [RI.don_other _ _ _ (by decide),h4] at e; cases e
 ·show Vl [U 4] (.slice (some ⟨wx.heap.size,0,none⟩) 1 1) _
  rw [hy]; have HB := heap_alloc_new wx (.cells #[.slice ya yn yc] 22); exact ⟨_,1,rfl,fun _ => ⟨_,0,rfl,by simp,fun i hi => by
   have : i = 0 := by simp at hi; omega
   subst this; simp only [World.cell?,HB]; rfl⟩⟩
end Rt
end Go.Proofs.YtlbdaccmnpcccaaGreatDoor
namespace Go.Proofs.YtlbdaccmnpcccaaGreatDoor
namespace Rt
open Nb Sp Pk Rs Go.RowKit
def KN (w : World) (B gw : Nat) (r0 : Option Nat) (g off j : Nat) (t : Nd) : Prop := ∃ p1 p2 p3 p4 p5 p6 p7 p8 p9,w.cell? ⟨g,off + j * 4,none⟩ = some (.int .i64 t.kind) ∧ w.cell? ⟨g,off + j * 4 + 1,none⟩ = some (.slice p1 p2 p3) ∧ w.cell? ⟨g,off + j * 4 + 2,none⟩ = some (.slice p4 p5 p6) ∧ w.cell? ⟨g,off + j * 4 + 3,none⟩ = some (.slice p7 p8 p9) ∧
 ∀ (wx : World) (X' : Nat → Prop) (l' : List (List UInt8)) (cv' : Value),Fr2 w wx gw r0 → WS B gw X' l' cv' wx → (∀ i,wx.heap.size ≤ i → X' i) → (∀ i,X' i → i ≠ gw) → l'.length + (if t.kind = 0 then [] else cds t).length ≤ 2097152 →
  Calls Tryz.prog 34 #[.pointer (some ⟨gw,0,none⟩),.agg #[.int .i64 t.kind,.slice p1 p2 p3,.slice p4 p5 p6,.slice p7 p8 p9]] wx (NR B gw X' l' (if t.kind = 0 then [] else cds t) (if t.kind = 0 then [] else sml (cd t)) cv' wx)
theorem node_kids (a1 a2 a3 : Option Addr) (n1 c1 n2 c2 n3 c3 : Nat) (B gw : Nat) (X : Nat → Prop) (l : List (List UInt8)) (cv : Value) (w : World) (HW : Hid (WS B gw X l cv w)) (HBW : Hid (B ≤ w.heap.size)) (HX2 : Hid (∀ i,X i → i ≠ gw)) (HX1 : Hid (∀ i,w.heap.size ≤ i → X i)) (ks : List Nd) (C : List UInt8) (kk : Int) (hk0 : Hid (kk ≠ 0)) (hk1 : Hid (kk ≠ 1))
  (HN3 : Hid (n3 = ks.length)) (hz : Hid (ks.length ≤ 1048576)) (HLC : Hid (l.length + 1 + (cdk ks).length ≤ 2097152)) (hk : Hid (0 < n3 → ∃ g off,a3 = some ⟨g,off,none⟩ ∧ (g < w.heap.size ∧ g ≠ gw ∧ cv.ownBlock ≠ some g) ∧ ∀ j,j < n3 → KN w B gw cv.ownBlock g off j (ks.getD j Tr.Nd.no)))
  (KW : Hid (∀ (wr : World) (kv : Value) {r0 : Option Nat} {G : Nat} {l' : List (List UInt8)} {cv' : Value},NI w r0 B gw G X kk (.slice a1 n1 c1) (.slice a2 n2 c2) ks l' n3 n3 kv cv' wr → (∀ i,r0 = some i → B ≤ i) → ∀ wx,Below wr.heap.size wr wx → Calls Tryz.prog 33 #[.agg #[.int .i64 kk,.slice a1 n1 c1,.slice a2 n2 c2,kv]] wx fun e w' => ∃ v,e = .returned v ∧ Ty (wr.heap.size ≤ ·) C v w' ∧ Below wx.heap.size wx w'))
  (KS : Hid (∀ x y wx,Sl C (.slice x C.length y) wx → Calls Tryz.prog 27 #[.slice x C.length y] wx fun e w' => e = .returned (Hv (sumf C)) ∧ Below wx.heap.size wx w')) :
  Calls Tryz.prog 34 #[.pointer (some ⟨gw,0,none⟩),.agg #[.int .i64 kk,.slice a1 n1 c1,.slice a2 n2 c2,.slice a3 n3 c3]] w (NR B gw X l (C :: cdk ks) (sml C) cv w) := by
 have HLN : Hid (l.length ≤ 2097152) := by have := HLC.out; show _ ≤ _; omega
 have t0 : (kk == 0) = false := beq_eq_false_iff_ne.2 hk0.out; have t1 : (kk == 1) = false := beq_eq_false_iff_ne.2 hk1.out; have t2 : (kk != 1) = true := by rw [bne,t1]; rfl
 have hwl := HW.out.hi; obtain ⟨ra,rc,rfl,_⟩ := CO_form HW.out.co; have HR0 : Hid (∀ i,(Value.slice ra l.length rc).ownBlock = some i → B ≤ i) := fun i hi => (CO_lt HW.out.co i hi).1
 have HA := heap_alloc_new w (.cells #[.int .i64 kk,.slice a1 n1 c1,.slice a2 n2 c2,.slice a3 n3 c3] 25); have b0 : Below w.heap.size w (w.alloc (.cells #[.int .i64 kk,.slice a1 n1 c1,.slice a2 n2 c2,.slice a3 n3 c3] 25)) := (Below.refl _ _).alloc (Nat.le_refl _) _; have z0 : (w.alloc (.cells #[.int .i64 kk,.slice a1 n1 c1,.slice a2 n2 c2,.slice a3 n3 c3] 25)).heap.size = w.heap.size + 1 := by simp
 have p0 : (w.alloc (.cells #[.int .i64 kk,.slice a1 n1 c1,.slice a2 n2 c2,.slice a3 n3 c3] 25)).cell? ⟨w.heap.size,0,none⟩ = some (.int .i64 kk) := by simp only [World.cell?,HA]; rfl
 have p1 : (w.alloc (.cells #[.int .i64 kk,.slice a1 n1 c1,.slice a2 n2 c2,.slice a3 n3 c3] 25)).cell? ⟨w.heap.size,1,none⟩ = some (.slice a1 n1 c1) := by simp only [World.cell?,HA]; rfl
 have p2 : (w.alloc (.cells #[.int .i64 kk,.slice a1 n1 c1,.slice a2 n2 c2,.slice a3 n3 c3] 25)).cell? ⟨w.heap.size,2,none⟩ = some (.slice a2 n2 c2) := by simp only [World.cell?,HA]; rfl
 have p3 : (w.alloc (.cells #[.int .i64 kk,.slice a1 n1 c1,.slice a2 n2 c2,.slice a3 n3 c3] 25)).cell? ⟨w.heap.size,3,none⟩ = some (.slice a3 n3 c3) := by simp only [World.cell?,HA]; rfl
 have W0 := WS_below HW.out b0; clear HA; have q0 := W0.c; have HW0 : Hid _ := W0; clear W0; go_enter Tryz.func34,Tryz.ntmps34
 go_upto_region 4 with fail
 generalize hWA : w.alloc (.cells #[.int .i64 kk,.slice a1 n1 c1,.slice a2 n2 c2,.slice a3 n3 c3] 25) = WA at *; clear hWA; obtain ⟨h,eh⟩ : ∃ h,h = w.heap.size := ⟨_,rfl⟩; rw [← eh] at p0 p1 p2 p3 ⊢; have EH : Hid (h = w.heap.size) := eh; have hh : h < WA.heap.size := by omega
 clear eh; have bB : Below WA.heap.size WA (WA.alloc (.cells #[.slice none 0 0] 22)) := (Below.refl _ _).alloc (Nat.le_refl _) _; have HB := heap_alloc_new WA (.cells #[.slice none 0 0] 22); have vB : Vl [.slice none 0 0] (.slice (some ⟨WA.heap.size,0,none⟩) 1 1) (WA.alloc (.cells #[.slice none 0 0] 22)) := ⟨_,1,rfl,fun _ => ⟨_,0,rfl,by simp,fun i hi => by
  have : i = 0 := by simp at hi; omega
  subst this; simp only [World.cell?,HB]; rfl⟩⟩
 obtain ⟨sa,sn,sc,w7,hap,⟨ck7,fz7⟩,hW7,hF7,ho7⟩ := WS_app 26 (WS_below HW0.out bB) vB (Nat.le_trans (Nat.le_trans HBW.out b0.size) bB.size) (by have := HLN.out; omega) HX2.out
 have hF8 := fr2_trans (fr2_below (fr2_below (fr2_refl w gw (Value.slice ra l.length rc).ownBlock) b0) bB) hF7 (fun i hi => .inl hi)
 have bl8 := fun (o : Nat) u (c : WA.cell? ⟨h,o,none⟩ = some u) => (World.cell?_of_block (a := ⟨h,o,none⟩) (hF7.block h (Nat.lt_of_lt_of_le hh bB.size) (fun e => by have := EH.out; omega) (fun e => by have := (CO_lt HW.out.co h e.symm).2; have := EH.out; omega))).trans ((bB.cell (p := ⟨h,o,none⟩) hh).trans c)
 have y0 := bl8 _ _ p0; have y1 := bl8 _ _ p1; have y2 := bl8 _ _ p2; have y3 := bl8 _ _ p3; have HO8 : Hid (∀ g,(Value.slice sa sn sc).ownBlock = some g → (Value.slice ra l.length rc).ownBlock = some g ∨ w.heap.size ≤ g) := fun g hg => by
  rcases ho7 g hg with e | e
  ·exact .inl e
  ·exact .inr (by have := bB.size; omega)
 have HW8 : Hid _ := hW7; have HF8 : Hid _ := hF8; clear hF7 ho7 hW7 hF8 bl8 bB HB vB p0 p1 p2 p3 b0 HW0 z0; go_upto_region 5 with (at_builtin; refine wpList_apw rfl rfl rfl rfl hap ?_)
 clear hap ck7 fz7 q0 hh hwl; generalize w7.setCell ⟨gw,0,none⟩ (.slice sa sn sc) = W8 at HW8 HF8 y0 y1 y2 y3 ⊢; have hh8 : h < W8.heap.size := World.block_lt_of_cell? W8 ⟨h,0,none⟩ y0; have x9 := BS_new W8; have b9 : Below W8.heap.size W8 (W8.alloc (.cells #[.int .i64 0,.slice none 0 0,.slice none 0 0,.slice none 0 0] 63)) := (Below.refl _ _).alloc (Nat.le_refl _) _; have B9 : Hid (Below W8.heap.size W8 (W8.alloc (.cells #[.int .i64 0,.slice none 0 0,.slice none 0 0,.slice none 0 0] 63))) := b9; have HT0 : Hid _ := (b9.cell (p := ⟨h,0,none⟩) hh8).trans y0; have HT3 : Hid _ := (b9.cell (p := ⟨h,3,none⟩) hh8).trans y3; clear b9; go_wp2_with (refine wpList_stB rfl rfl rfl rfl x9 ?_)
 intro w1 g1 xb s0 s1 s2 s3; have hbk := g1.block h (Nat.lt_of_lt_of_le hh8 B9.out.size) (fun e => by injection e with e; omega)
 replace y0 := (World.cell?_of_block (a := ⟨h,0,none⟩) hbk).trans HT0.out
 replace y3 := (World.cell?_of_block (a := ⟨h,3,none⟩) hbk).trans HT3.out
 have HI : Hid (NI w (Value.slice ra l.length rc).ownBlock B gw W8.heap.size X kk (.slice a1 n1 c1) (.slice a2 n2 c2) ks (l ++ [[]]) 0 0 (.slice none 0 0) (.slice sa sn sc) w1) := NI_init HW8.out HF8.out HO8.out B9.out g1 xb s0 s1 s2 s3; clear hbk y1 y2 s0 s1 s2 s3 xb g1 B9 x9 HW8 HF8 HO8 hh8 HT0 HT3; generalize W8.heap.size = G at HI ⊢; have HGH : Hid (gw < w.heap.size) := HW.out.hi; clear HW; go_upto_region 8 with fail
 clear y0 y3; go_loopw [40] (fun i wr => ∃ j : Nat,j ≤ n3 ∧ i = .int .i64 (j : Int) ∧ ∃ kv cv,NI w (Value.slice ra l.length rc).ownBlock B gw G X kk (.slice a1 n1 c1) (.slice a2 n2 c2) ks (l ++ [[]]) j j kv cv wr) (fun i _ => ((n3 : Int) - intOf i).toNat)
 case atStart => exact ⟨0,Nat.zero_le _,rfl,_,_,HI.out⟩
 case round =>
  clear HI; obtain ⟨j,hj,rfl,kv,cv,hI⟩ := hrel; obtain ⟨va,vc,ev,_⟩ := CO_form hI.W.co; obtain ⟨ka,kc,ek,_⟩ := CO_form hI.K; generalize ((l ++ [[]]) ++ cdk (ks.take j)).length = vn at ev; generalize (sms (ks.take j)).length = kn at ek; subst ev ek; have HI : Hid (NI w (Value.slice ra l.length rc).ownBlock B gw G X kk (.slice a1 n1 c1) (.slice a2 n2 c2) ks (l ++ [[]]) j j (.slice ka kn kc) (.slice va vn vc) wr) := hI; clear hI; by_cases j1 : j < n3
  ·have d0 : (j : Int) < (n3 : Int) := by omega
   have d1 : (0 : Int) ≤ (j : Int) := by omega
   have hw := Nb.stp j (by have := hz.out; have := HN3.out; show _ ≤ _; omega)
   have hjl : j < ks.length := by have := HN3.out; omega
   obtain ⟨g,off,rfl,hg,hc⟩ := hk.out (by omega); obtain ⟨p1,p2,p3,p4,p5,p6,p7,p8,p9,k0,k1,k2,k3,kt⟩ := hc j j1; have blk : ∀ o v,w.cell? ⟨g,o,none⟩ = some v → wr.cell? ⟨g,o,none⟩ = some v := fun o v c => (World.cell?_of_block (a := ⟨g,o,none⟩) (HI.out.F.block g hg.1 hg.2.1 (fun e => hg.2.2 e.symm))).trans c
   have r0 := blk _ _ k0; have r1 := blk _ _ k1; have r2 := blk _ _ k2; have r3 := blk _ _ k3; have HS1 : Hid (sms (ks.take (j + 1)) = sms (ks.take j) ++ [if (ks.getD j Tr.Nd.no).kind = 0 then [] else sml (cd (ks.getD j Tr.Nd.no))]) := sms_snoc ks j hjl; have HC1 : Hid (cdk (ks.take (j + 1)) = cdk (ks.take j) ++ (if (ks.getD j Tr.Nd.no).kind = 0 then [] else cds (ks.getD j Tr.Nd.no))) := cdk_snoc ks j hjl; have HLJ : Hid (((l ++ [[]]) ++ cdk (ks.take j)).length + (if (ks.getD j Tr.Nd.no).kind = 0 then [] else cds (ks.getD j Tr.Nd.no)).length ≤ 2097152) := by
    have e1 := congrArg List.length HC1.out; have e2 := cdk_take ks (j + 1); have e3 := HLC.out; rw [List.length_append] at e1; show _ ≤ _
    rw [List.length_append,List.length_append,List.length_singleton]; omega
   have HJ1 : Hid (j < n3) := j1; clear hc k0 k1 k2 k3 blk hjl j1; generalize ks.getD j Tr.Nd.no = T at *; generalize (if T.kind = 0 then [] else sml (cd T)) = TT at *; generalize (if T.kind = 0 then [] else cds T) = CC at *; have KT : Hid _ := kt; clear kt; have bA : Below wr.heap.size wr (wr.alloc (.cells #[.int .i64 T.kind,.slice p1 p2 p3,.slice p4 p5 p6,.slice p7 p8 p9] 25)) := (Below.refl _ _).alloc (Nat.le_refl _) _; have HA := heap_alloc_new wr (.cells #[.int .i64 T.kind,.slice p1 p2 p3,.slice p4 p5 p6,.slice p7 p8 p9] 25); have q0 : (wr.alloc (.cells #[.int .i64 T.kind,.slice p1 p2 p3,.slice p4 p5 p6,.slice p7 p8 p9] 25)).cell? ⟨wr.heap.size,0,none⟩ = some (.int .i64 T.kind) := by simp only [World.cell?,HA]; rfl
   have q1 : (wr.alloc (.cells #[.int .i64 T.kind,.slice p1 p2 p3,.slice p4 p5 p6,.slice p7 p8 p9] 25)).cell? ⟨wr.heap.size,1,none⟩ = some (.slice p1 p2 p3) := by simp only [World.cell?,HA]; rfl
   have q2 : (wr.alloc (.cells #[.int .i64 T.kind,.slice p1 p2 p3,.slice p4 p5 p6,.slice p7 p8 p9] 25)).cell? ⟨wr.heap.size,2,none⟩ = some (.slice p4 p5 p6) := by simp only [World.cell?,HA]; rfl
   have q3 : (wr.alloc (.cells #[.int .i64 T.kind,.slice p1 p2 p3,.slice p4 p5 p6,.slice p7 p8 p9] 25)).cell? ⟨wr.heap.size,3,none⟩ = some (.slice p7 p8 p9) := by simp only [World.cell?,HA]; rfl
   have HGA : Hid (wr.heap.size ≠ gw ∧ (Value.slice va vn vc).ownBlock ≠ some wr.heap.size) := ⟨fun e => by have := HI.out.W.hi; omega,fun e => by have := (CO_lt HI.out.W.co _ e).2; omega⟩
   have J0 : Hid (NJ w (Value.slice ra l.length rc).ownBlock B gw G X kk (.slice a1 n1 c1) (.slice a2 n2 c2) ks (l ++ [[]]) j (.slice ka kn kc) (.slice va vn vc) wr.heap.size (.int .i64 T.kind) (.slice p1 p2 p3) (.slice p4 p5 p6) (.slice p7 p8 p9) TT (fun _ => false) (fun _ => undef) (wr.alloc (.cells #[.int .i64 T.kind,.slice p1 p2 p3,.slice p4 p5 p6,.slice p7 p8 p9] 25)).drew) := ⟨fun _ => NI_below HI.out (bA.trans (Below.refl _ _).drew),nofun,nofun,(by simp),q0,q1,q2,q3,(bA.cell (p := ⟨G,3,none⟩) HI.out.x.hi).trans HI.out.c3⟩
   clear bA HA q0 q1 q2 q3 HI; go_upto_region 10 with fail
   generalize wr.alloc (.cells #[.int .i64 T.kind,.slice p1 p2 p3,.slice p4 p5 p6,.slice p7 p8 p9] 25) = WA at J0 ⊢; generalize wr.heap.size = gA at J0 HGA ⊢; clear r0 r1 r2 r3; refine RH.wp_region_genI (NJ w (Value.slice ra l.length rc).ownBlock B gw G X kk (.slice a1 n1 c1) (.slice a2 n2 c2) ks (l ++ [[]]) j (.slice ka kn kc) (.slice va vn vc) gA (.int .i64 T.kind) (.slice p1 p2 p3) (.slice p4 p5 p6) (.slice p7 p8 p9) TT) [0,0,0,0,1,1,2,2,2] (by kernel_rfl) (by kernel_rfl) (J0.out) ?_; dsimp only [List.toList_toArray]; refine RH.goD (v := ?_) (f' := ?_) rfl ?_ ?_ ?_; rotate_left 2
   ·intro U K d wx hI hmay hK; go_simp; exact hK _ (NJ_keep (by decide) (by decide) hI)
   ·intro U; simp only [Act.put,zA,zB,zC]; rfl
   refine RH.goD (v := ?_) (f' := ?_) rfl ?_ ?_ ?_; rotate_left 2
   ·intro U K d wx hI hmay hK; have z3 := hI.q; go_simp; exact hK _ (NJ_keep (by decide) (by decide) hI)
   ·intro U; simp only [Act.put,zA,zB,zC]; rfl
   refine RH.goD (v := ?_) (f' := ?_) rfl ?_ ?_ ?_; rotate_left 2
   ·intro U K d wx hI hmay hK; go_simp; exact hK _ (NJ_keep (by decide) (by decide) hI)
   ·intro U; simp only [Act.put,zA,zB,zC]; rfl
   refine RH.goD (v := ?_) (f' := ?_) rfl ?_ ?_ ?_; rotate_left 2
   ·intro U K d wx hI hmay hK; have z0 := hI.n0; have z1 := hI.n1; have z2 := hI.n2; have z3 := hI.n3; go_simp; exact hK _ (NJ_keep (by decide) (by decide) hI)
   ·intro U; simp only [Act.put,zA,zB,zC]; rfl
   refine RH.goN (f' := ?_) rfl ?_ ?_ ?_; rotate_left 1
   ·intro U K d wx hI hmay hK; have h4 := hmay.1; have H := hI.a h4; go_simp; refine (KT.out wx _ _ _ H.F H.W (NJ_X H HX1.out) (fun i hi => HX2.out i hi.1) HLJ.out).mono (fun e w2 he => ?_)
    obtain ⟨sv,cv',rfl,hW',ty',fr',own'⟩ := he; exact ⟨_,rfl,hK _ _ (NJ_call hI h4 HGA.out hW' ty' fr' own' HC1.out)⟩
   ·intro U; simp only [Act.put,zA,zB,zC]; rfl
   refine RH.goN (f' := ?_) rfl ?_ ?_ ?_; rotate_left 1
   ·intro U K d wx hI hmay hK; have h4 : d 4 = true := by have := hmay.2 _ rfl; simpa [Region.binds] using this
    obtain ⟨cv',R,ht⟩ := hI.b h4; obtain ⟨ya,yc,ey⟩ := Sl_fm (Ty_sl ht); have hN := NJ_row hI h4 ey; clear R ht; go_simp; exact hK _ _ hN
   ·intro U; simp only [Act.put,zA,zB,zC]; rfl
   iterate 3
    refine RH.goT ?_
   refine RH.go_end ?_; intro d U w9 hI hall; simp +decide only [RH.tl,if_true,if_false]
   have h4 : d 4 = true := hall 4 (by decide); have h5 : d 5 = true := hall 5 (by decide); obtain ⟨cv',R,ht⟩ := hI.b h4; obtain ⟨a7,m7,c7,w7,hap,⟨ck7,fz7⟩,hI7⟩ := NI_K 26 R (hI.c h5).2 ht HS1.out hz.out; have HI7 : Hid _ := hI7; clear hI7 R ht hI hall h4 h5 J0 KT HLJ HGA HS1 HC1; go_wp2_with (at_builtin; refine wpList_apw rfl rfl rfl rfl hap ?_)
   have hw := hw.out; go_roundw
   case rel => exact ⟨j + 1,HJ1.out,Nb.step_v j _ hw,_,_,HI7.out⟩
   case measure => exact Nb.msr j n3 HJ1.out _ hw
  ·have ej : j = n3 := by omega
   subst ej; have d5 : ¬ ((j : Int) < (j : Int)) := by omega
   have hks : cdk (ks.take j) = cdk ks := by rw [HN3.out,List.take_length]
   have HKS : Hid (cdk (ks.take j) = cdk ks) := hks; clear hks hk; have hI := HI.out; have hW := hI.W; rw [List.append_assoc] at hW; obtain ⟨gc,cc,ecv⟩ := WS_form (l := l) (m := cdk (ks.take (j))) hW; injection ecv with e1 e2 e3
   subst e1 e3; have d1 : (l.length : Int) < ((vn : Nat) : Int) := by omega
   have d0 : (0 : Int) ≤ (l.length : Int) := by omega
   clear e2; have HC : Hid (gw < wr.heap.size ∧ wr.cell? ⟨gw,0,none⟩ = some (.slice (some ⟨gc,0,none⟩) vn vc) ∧ G < wr.heap.size ∧ wr.cell? ⟨G,0,none⟩ = some (.int .i64 kk) ∧ wr.cell? ⟨G,1,none⟩ = some (.slice a1 n1 c1) ∧ wr.cell? ⟨G,2,none⟩ = some (.slice a2 n2 c2) ∧ wr.cell? ⟨G,3,none⟩ = some (.slice ka kn kc)) := ⟨hI.W.hi,hI.W.c,hI.x.hi,hI.c0,hI.c1,hI.c2,hI.c3⟩; have KW2 : Hid _ := KW.out wr (.slice ka kn kc) hI HR0.out; have hL : RG.Lasts (fun wx => Below wr.heap.size wr wx) (fun _ v wx => Ty (wr.heap.size ≤ ·) C v wx) := ⟨fun _ _ h hb => h.trans (hb.mono h.size),fun _ _ _ _ h hb => Ty_gb (r := none) h (gb_below hb) (fun _ _ => nofun)⟩
   clear hI hW; go_upto_region 12 with fail
   refine RG.wp_region_gen (fun wx => Below wr.heap.size wr wx) (fun _ v wx => Ty (wr.heap.size ≤ ·) C v wx) (fun _ _ => True) [0,0,0,0,0,0,1,2,2] (by kernel_rfl) (by kernel_rfl) ((Below.refl _ _).drew) ?_
   dsimp only [List.toList_toArray]
   iterate 3
    refine RG.go1 (v := ?_) (a' := ?_) hL (by decide) rfl ?_ ?_ ?_; rotate_left 2
    ·intro K wx hS hK; go_simp; exact hK _ (Below.refl _ _)
    ·simp only [Act.put,zA,zB,zC]; rfl
   refine RG.go1 (v := ?_) (a' := ?_) hL (by decide) rfl ?_ ?_ ?_; rotate_left 2
   ·intro K wx hS hK; have z0 := (hS.cell (p := ⟨gw,0,none⟩) HC.out.1).trans HC.out.2.1; go_simp; exact hK _ (Below.refl _ _)
   ·simp only [Act.put,zA,zB,zC]; rfl
   refine RG.go1 (v := ?_) (a' := ?_) hL (by decide) rfl ?_ ?_ ?_; rotate_left 2
   ·intro K wx hS hK; go_simp; exact hK _ (Below.refl _ _)
   ·simp only [Act.put,zA,zB,zC]; rfl
   refine RG.go1 (v := ?_) (a' := ?_) hL (by decide) rfl ?_ ?_ ?_; rotate_left 2
   ·intro K wx hS hK; have z0 := (hS.cell (p := ⟨G,0,none⟩) HC.out.2.2.1).trans HC.out.2.2.2.1; have z1 := (hS.cell (p := ⟨G,1,none⟩) HC.out.2.2.1).trans HC.out.2.2.2.2.1; have z2 := (hS.cell (p := ⟨G,2,none⟩) HC.out.2.2.1).trans HC.out.2.2.2.2.2.1; have z3 := (hS.cell (p := ⟨G,3,none⟩) HC.out.2.2.1).trans HC.out.2.2.2.2.2.2; go_simp; exact hK _ (Below.refl _ _)
   ·simp only [Act.put,zA,zB,zC]; rfl
   refine RG.goN hL rfl ?_ ?_
   ·intro K wx hS hK; go_simp; refine (KW2.out wx hS).mono (fun e w2 he => ?_)
    obtain ⟨v,rfl,ty,b2⟩ := he; exact ⟨_,rfl,hK _ _ b2 ty (fun _ _ _ => ⟨trivial,trivial⟩)⟩
   iterate 2
    refine RG.goT ?_
   refine RG.go_end ?_; intro U w9 m9 y9 x9; simp +decide (maxSteps := 1000000) only [RG.tl,RG.putN,if_true,if_false,Act.put,List.setIfInBounds_toArray,List.set_cons_succ,List.set_cons_zero,Nat.reduceAdd]
   have ty9 := y9 6 rfl; obtain ⟨f1,f2,f3,f4,f5,f6⟩ := NI_set HI.out m9 ty9 HX1.out HBW.out; obtain ⟨z9,f1⟩ := f1; obtain ⟨ya,yc,ey⟩ := Sl_fm (Ty_sl ty9); rw [ey] at f3 f4 f5 f6 ⊢; have f7 := f3.c; have HF3 : Hid _ := f3; have HF5 : Hid _ := f5; have HF6 : Hid _ := f6; have HO : Hid _ := HI.out.o; have HS9 : Hid (w.heap.size ≤ w9.heap.size) := Nat.le_trans HI.out.F.size m9.size; clear ty9 y9 x9 ey f3 f5 f6 hL KW2 HC KW HI; go_upto_region 13 with fail
   generalize w9.setCell ⟨gc,l.length,none⟩ (.slice ya C.length yc) = WX at f4 f7 HF3 HF5 HF6 ⊢; have hfz := HF3.out.f 0; clear f1 f2; go_wp2_with fail
   refine (KS.out _ _ _ (Ty_sl HF6.out)).mono ?_; rintro e w4 ⟨rfl,b4⟩; have bZ : Below w4.heap.size w4 (w4.alloc (.cells Z32 34)) := (Below.refl _ _).alloc (Nat.le_refl _) _; have thZ := there_new w4 34; have hz4 : w4.heap.size < (w4.alloc (.cells Z32 34)).heap.size := by simp
   have B4 : Hid (Below WX.heap.size WX w4) := b4; have BZ : Hid (Below w4.heap.size w4 (w4.alloc (.cells Z32 34)) ∧ w4.heap.size < (w4.alloc (.cells Z32 34)).heap.size) := ⟨bZ,hz4⟩; clear b4 bZ hz4 KS f4 f7 hfz; unfold Z32 at thZ BZ
   go_wp2_with (refine wpList_stH rfl rfl rfl rfl thZ ?_)
   intro w5 g5 cz; have b45 : Below w4.heap.size w4 w5 := BZ.out.1.trans ⟨g5.os,g5.tape,g5.output,g5.size,fun i hi => g5.block i (by have := BZ.out.2; omega) (fun e => by injection e with e; omega)⟩
   have hg8 : w4.heap.size < w5.heap.size := Nat.lt_of_lt_of_le BZ.out.2 g5.size; have b35 := B4.out.trans (b45.mono B4.out.size); have ws5 := WS_below HF3.out b35; have fr5 := fr2_below HF5.out b35; have sl5 : Ty (· = w4.heap.size) (sml C) (.slice (some ⟨w4.heap.size,0,none⟩) 32 32) w5 := sml_sl hg8 cz; have hcl := CO_lt HF3.out.co; have hx4 : w.heap.size ≤ WX.heap.size := HF5.out.size; have HR : Hid (NR B gw X l (C :: cdk ks) (sml C) (.slice ra l.length rc) w (.returned (.slice (some ⟨w4.heap.size,0,none⟩) 32 32)) w5) := ⟨_,_,rfl,by rw [HKS.out] at ws5; exact ws5,Ty_mono sl5 (fun i hi _ => by
    have h4 := B4.out.size; exact ⟨by omega,fun e => by have := (hcl i e).2; omega⟩),fr5,HO.out⟩
   clear g5 cz b45 hg8 b35 ws5 fr5 sl5 hcl hx4 BZ B4 thZ HF3 HF5 HF6 HO HS9; go_wp2_with fail
   go_ret
   exact HR.out
end Rt
end Go.Proofs.YtlbdaccmnpcccaaGreatDoor
namespace Go.Proofs.YtlbdaccmnpcccaaGreatDoor
namespace Rt
open Nb Sp Pk Rs Go.RowKit
def ccs (t : Nd) : List (List UInt8) := if t.kind = 0 then [] else cds t
def stx (t : Nd) : List UInt8 := if t.kind = 0 then [] else sml (cd t)
theorem hr_kids {k : Int} {p v : List UInt8} {ks : List Nd} (h : Hr (.mk k p v ks)) (h0 : k ≠ 0) (h1 : k ≠ 1) (j : Nat) (hj : j < ks.length) : Hr (ks.getD j Tr.Nd.no) := by
 cases h.1 with
 | none => exact absurd rfl h0
 | leaf => exact absurd rfl h1
 | road _ _ t _ _ _ _ =>
  have : j = 0 := by simp at hj; exact hj
  subst this; exact hr_road h
 | fork _ _ _ hl _ _ => exact hr_kid h j (by omega)
theorem hr_kind {k : Int} {p v : List UInt8} {ks : List Nd} (h : Hr (.mk k p v ks)) : k = 0 ∨ k = 1 ∨ k = 2 ∨ k = 3 := by
 cases h.1 with
 | none => exact .inl rfl
 | leaf => exact .inr (.inl rfl)
 | road => exact .inr (.inr (.inl rfl))
 | fork => exact .inr (.inr (.inr rfl))
theorem sum_sl (c : List UInt8) (hc : c.length ≤ 1048576) : ∀ x y wx,Sl c (.slice x c.length y) wx → Calls Tryz.prog 27 #[.slice x c.length y] wx fun e w' => e = .returned (Hv (sumf c)) ∧ Below wx.heap.size wx w' := fun x y wx hs => by
 obtain ⟨ao,cap,e1,_,hvv⟩ := hs; injection e1 with e2 _ _
 exact Sp.sum_any _ x y wx (by omega) (by rw [e2]; exact hvv)
theorem write_sh (s : Shp) (hs : isS s = true) (hp : s.2.1.length ≤ 1048576) (x : V4) (wx : World) (h : Sh s x wx) (B : Nat) (hB : B ≤ wx.heap.size) : Calls Tryz.prog 33 #[v4 x] wx fun e w' => ∃ v,e = .returned v ∧ Ty (B ≤ ·) (hc s) v w' ∧ Below wx.heap.size wx w' := by
 refine (write_any s x wx h hs hp).mono ?_; rintro e w' ⟨v,rfl,ty,_,b⟩; have e1 : hc s = enc (itS s) := by unfold hc; rw [if_pos hs]
 rw [e1]; exact ⟨v,rfl,Ty_mono ty (fun i hi _ => Nat.le_trans hB hi),b⟩
theorem node_any {t : Nd} (hwf : Tr.Wf t) : Tr.wn t ≤ 1048576 → Hr t → ∀ (S : Nat → Prop) (x : Tr.V4) (w0 : World),Tr.Nv S w0 t x → ∀ (gw : Nat) (X : Nat → Prop) (l : List (List UInt8)) (cv : Value) (w : World),Below w0.heap.size w0 w → w0.heap.size ≤ gw → WS w0.heap.size gw X l cv w → (∀ i,w.heap.size ≤ i → X i) → (∀ i,X i → i ≠ gw) → l.length + (ccs t).length ≤ 2097152 →
  Calls Tryz.prog 34 #[.pointer (some ⟨gw,0,none⟩),Tr.v4 x] w (NR w0.heap.size gw X l (ccs t) (stx t) cv w) := by
 induction hwf with
 | mk k p v ks hks ih =>
  intro hz hr S x w0 hx gw X l cv w hb0 hgw hW hX1 hX2 hln; have hpp := shN_path (.mk k p v ks) hz; have hcl : (cd (.mk k p v ks)).length ≤ 1048576 := by rw [cd_eq]; exact hc_len _ hpp
  have hsh := hr_shape hr; have hzk := hz; unfold Tr.wn at hzk
  cases hx with
  | mk _ _ _ _ pv vv kv vs hp hv hl hk hi =>
   obtain ⟨a1,c1,rfl,_⟩ := id hp; obtain ⟨a2,c2,rfl,_⟩ := id hv; obtain ⟨a3,c3,rfl,_,hq⟩ := id hk; have hlt : ∀ (r0 : Option Nat) (wr wx : World),(∀ i,r0 = some i → w0.heap.size ≤ i) → Fr2 w wr gw r0 → Below wr.heap.size wr wx → Below w0.heap.size w0 wx := fun r0 wr wx h1 h2 h3 => by
    have h4 := below_fr2 hb0 h2 hb0.size hgw h1; exact h4.trans (h3.mono h4.size)
   rcases hr_kind hr with rfl | rfl | rfl | rfl
   ·have e1 : ccs (.mk 0 p v ks) = [] := if_pos (show (Tr.Nd.mk 0 p v ks).kind = 0 from rfl); have e2 : stx (.mk 0 p v ks) = [] := if_pos (show (Tr.Nd.mk 0 p v ks).kind = 0 from rfl); rw [e1,e2]; exact node_none a1 a2 a3 _ c1 _ c2 _ c3 _ gw X l cv w hW
   ·have e1 : ccs (.mk 1 p v ks) = [cd (.mk 1 p v ks)] := by
     refine (if_neg (show ¬ (Tr.Nd.mk 1 p v ks).kind = 0 from by show ¬ ((1 : Int) = 0); decide)).trans ?_
     rw [cds,if_neg (by decide)]
    have e2 : stx (.mk 1 p v ks) = sml (cd (.mk 1 p v ks)) := by exact if_neg (show ¬ (Tr.Nd.mk 1 p v ks).kind = 0 from by show ¬ ((1 : Int) = 0); decide)
    have es : shN (.mk 1 p v ks) = (1,p,v,[]) := by rw [shN,if_pos rfl]
    rw [e1] at hln; rw [e1,e2]; rw [es] at hsh hpp; refine node_leaf a1 a2 a3 _ c1 _ c2 _ c3 _ gw X l cv w hW hb0.size (by show _ ≤ _; omega) hX2 hX1 ks _ (fun wr kv' r0 G l' cv' H h0 wx hwx => ?_) (sum_sl _ hcl)
    have hbx := hlt r0 wr wx h0 H.F hwx; rw [cd_eq,es]; have hK := CO_ls (CO_below H.K hwx); have ek : sms (ks.take 0) = [] := by simp [sms]
    rw [ek] at hK; exact write_sh (1,p,v,[]) hsh hpp (.int .i64 1,.slice a1 p.length c1,.slice a2 v.length c2,kv') wx ⟨rfl,Pk.Sl_below (Tr.Bs_sl hp) hbx,Pk.Sl_below (Tr.Bs_sl hv) hbx,hK⟩ _ hwx.size
   all_goals
    have hkl : ks.length ≤ 1048576 := by have := wnk_many' ks; omega
    have hkid : ∀ j,j < ks.length → Tr.wn (ks.getD j Tr.Nd.no) ≤ 1048576 := fun j hj => by have := Tr.wnk_one ks j hj; omega
    have hkd : 0 < vs.length → ∃ g off,a3 = some ⟨g,off,none⟩ ∧ (g < w.heap.size ∧ g ≠ gw ∧ cv.ownBlock ≠ some g) ∧ ∀ j,j < vs.length → KN w w0.heap.size gw cv.ownBlock g off j (ks.getD j Tr.Nd.no) := fun h0 => by
     obtain ⟨g,off,e,_,hg,hc⟩ := hq h0; refine ⟨g,off,e,⟨Nat.lt_of_lt_of_le hg hb0.size,by omega,fun e2 => by have := (CO_lt hW.co g e2).1; omega⟩,fun j hj => ?_⟩
     obtain ⟨r0,r1,r2,r3⟩ := hc j hj; have hjk : j < ks.length := by omega
     have nv := hi j hjk; obtain ⟨kk,b1,m1,d1,b2,m2,d2,b3,m3,d3,ev⟩ := Tr.Nv_form nv; have ek : kk = (ks.getD j Tr.Nd.no).kind := by
      rw [ev] at nv; cases hT : ks.getD j Tr.Nd.no with
      | mk kT pT vT ksT =>
       rw [hT] at nv; cases nv
       rfl
     rw [ev] at r0 r1 r2 r3; rw [Nat.mul_comm 4 j] at r0 r1 r2 r3; have cl : ∀ o u,w0.cell? ⟨g,o,none⟩ = some u → w.cell? ⟨g,o,none⟩ = some u := fun o u c => (hb0.cell (p := ⟨g,o,none⟩) hg).trans c
     refine ⟨b1,m1,d1,b2,m2,d2,b3,m3,d3,by rw [← ek]; exact cl _ _ r0,cl _ _ r1,cl _ _ r2,cl _ _ r3,fun wx X' l' cv' hF hW' hx1 hx2 hl' => ?_⟩
     have := ih j hjk (hkid j hjk) (hr_kids hr (by decide) (by decide) j hjk) S _ w0 nv gw X' l' cv' wx (below_fr2 hb0 hF hb0.size hgw (fun i hi => (CO_lt hW.co i hi).1)) hgw hW' hx1 hx2 hl'
     rw [ev,ek] at this; exact this
   ·have e1 : ccs (.mk 2 p v ks) = cd (.mk 2 p v ks) :: cdk ks := by
     refine (if_neg (show ¬ (Tr.Nd.mk 2 p v ks).kind = 0 from by show ¬ ((2 : Int) = 0); decide)).trans ?_
     rw [cds,if_pos (.inl rfl)]
    have e2 : stx (.mk 2 p v ks) = sml (cd (.mk 2 p v ks)) := by exact if_neg (show ¬ (Tr.Nd.mk 2 p v ks).kind = 0 from by show ¬ ((2 : Int) = 0); decide)
    have es : shN (.mk 2 p v ks) = (2,p,v,sms ks) := by rw [shN,if_neg (by decide),if_pos (.inl rfl)]
    rw [e1,List.length_cons] at hln; rw [e1,e2]; rw [es] at hsh hpp; refine node_kids a1 a2 a3 _ c1 _ c2 _ c3 _ gw X l cv w hW hb0.size hX2 hX1 ks _ 2 (by show _ ≠ _; decide) (by show _ ≠ _; decide) hl hkl (by show _ ≤ _; omega) hkd (fun wr kv' r0 G l' cv' H h0 wx hwx => ?_) (sum_sl _ hcl)
    have hbx := hlt r0 wr wx h0 H.F hwx; rw [cd_eq,es]; have hK := CO_ls (CO_below H.K hwx); rw [hl,List.take_length] at hK; exact write_sh (2,p,v,sms ks) hsh hpp (.int .i64 2,.slice a1 p.length c1,.slice a2 v.length c2,kv') wx ⟨rfl,Pk.Sl_below (Tr.Bs_sl hp) hbx,Pk.Sl_below (Tr.Bs_sl hv) hbx,hK⟩ _ hwx.size
   ·have e1 : ccs (.mk 3 p v ks) = cd (.mk 3 p v ks) :: cdk ks := by
     refine (if_neg (show ¬ (Tr.Nd.mk 3 p v ks).kind = 0 from by show ¬ ((3 : Int) = 0); decide)).trans ?_
     rw [cds,if_pos (.inr rfl)]
    have e2 : stx (.mk 3 p v ks) = sml (cd (.mk 3 p v ks)) := by exact if_neg (show ¬ (Tr.Nd.mk 3 p v ks).kind = 0 from by show ¬ ((3 : Int) = 0); decide)
    have es : shN (.mk 3 p v ks) = (3,p,v,sms ks) := by rw [shN,if_neg (by decide),if_pos (.inr rfl)]
    rw [e1,List.length_cons] at hln; rw [e1,e2]; rw [es] at hsh hpp; refine node_kids a1 a2 a3 _ c1 _ c2 _ c3 _ gw X l cv w hW hb0.size hX2 hX1 ks _ 3 (by show _ ≠ _; decide) (by show _ ≠ _; decide) hl hkl (by show _ ≤ _; omega) hkd (fun wr kv' r0 G l' cv' H h0 wx hwx => ?_) (sum_sl _ hcl)
    have hbx := hlt r0 wr wx h0 H.F hwx; rw [cd_eq,es]; have hK := CO_ls (CO_below H.K hwx); rw [hl,List.take_length] at hK; exact write_sh (3,p,v,sms ks) hsh hpp (.int .i64 3,.slice a1 p.length c1,.slice a2 v.length c2,kv') wx ⟨rfl,Pk.Sl_below (Tr.Bs_sl hp) hbx,Pk.Sl_below (Tr.Bs_sl hv) hbx,hK⟩ _ hwx.size
end Rt
end Go.Proofs.YtlbdaccmnpcccaaGreatDoor
namespace Go.Proofs.YtlbdaccmnpcccaaGreatDoor
namespace Rt
open Nb Sp Pk Rs Go.RowKit
theorem codes_no (a1 a2 a3 : Option Addr) (n1 c1 n2 c2 n3 c3 : Nat) (w : World) (k : Int)
  (KG : Hid (∀ wx : World,Below w.heap.size w wx → Calls Tryz.prog 32 #[.agg #[.int .i64 k,.slice a1 n1 c1,.slice a2 n2 c2,.slice a3 n3 c3]] wx fun e w' => e = .returned (.bool false) ∧ Below wx.heap.size wx w')) :
  Calls Tryz.prog 15 #[.agg #[.int .i64 k,.slice a1 n1 c1,.slice a2 n2 c2,.slice a3 n3 c3]] w fun e w' => ∃ v,e = .returned (.tuple #[v,.int .i64 1]) ∧ CO w.heap.size (fun _ => True) [] v w' ∧ Below w.heap.size w w' := by
 have HB : Hid (Below w.heap.size w (w.alloc (.cells #[.int .i64 k,.slice a1 n1 c1,.slice a2 n2 c2,.slice a3 n3 c3] 25))) := (Below.refl _ _).alloc (Nat.le_refl _) _; have HA := heap_alloc_new w (.cells #[.int .i64 k,.slice a1 n1 c1,.slice a2 n2 c2,.slice a3 n3 c3] 25); have hsz : (w.alloc (.cells #[.int .i64 k,.slice a1 n1 c1,.slice a2 n2 c2,.slice a3 n3 c3] 25)).heap.size = w.heap.size + 1 := by simp
 have p0 : (w.alloc (.cells #[.int .i64 k,.slice a1 n1 c1,.slice a2 n2 c2,.slice a3 n3 c3] 25)).cell? ⟨w.heap.size,0,none⟩ = some (.int .i64 k) := by simp only [World.cell?,HA]; rfl
 have p1 : (w.alloc (.cells #[.int .i64 k,.slice a1 n1 c1,.slice a2 n2 c2,.slice a3 n3 c3] 25)).cell? ⟨w.heap.size,1,none⟩ = some (.slice a1 n1 c1) := by simp only [World.cell?,HA]; rfl
 have p2 : (w.alloc (.cells #[.int .i64 k,.slice a1 n1 c1,.slice a2 n2 c2,.slice a3 n3 c3] 25)).cell? ⟨w.heap.size,2,none⟩ = some (.slice a2 n2 c2) := by simp only [World.cell?,HA]; rfl
 have p3 : (w.alloc (.cells #[.int .i64 k,.slice a1 n1 c1,.slice a2 n2 c2,.slice a3 n3 c3] 25)).cell? ⟨w.heap.size,3,none⟩ = some (.slice a3 n3 c3) := by simp only [World.cell?,HA]; rfl
 clear HA; go_enter Tryz.func15,Tryz.ntmps15
 go_upto_region 1 with fail
 generalize w.alloc (.cells #[.int .i64 k,.slice a1 n1 c1,.slice a2 n2 c2,.slice a3 n3 c3] 25) = W0 at *; go_wp2_with fail
 refine (KG.out _ HB.out).mono ?_; rintro e w1 ⟨rfl,hb⟩; have HL1 : Hid (Below w.heap.size w w1) := HB.out.trans (hb.mono HB.out.size); have r0 := (hb.cell (p := ⟨w.heap.size,0,none⟩) (by show w.heap.size < _; omega)).trans p0
 have r1 := (hb.cell (p := ⟨w.heap.size,1,none⟩) (by show w.heap.size < _; omega)).trans p1
 have r2 := (hb.cell (p := ⟨w.heap.size,2,none⟩) (by show w.heap.size < _; omega)).trans p2
 have r3 := (hb.cell (p := ⟨w.heap.size,3,none⟩) (by show w.heap.size < _; omega)).trans p3
 have HW1 : Hid (w.heap.size < w1.heap.size) := by have := hb.size; show _ < _; omega
 clear hb KG HB p0 p1 p2 p3 hsz; go_wp2_with fail
 go_ret2
 exact ⟨_,rfl,CO_nil _ _ _,HL1.out⟩
theorem codes_none (a1 a2 a3 : Option Addr) (n1 c1 n2 c2 n3 c3 : Nat) (w : World) (C : List UInt8) (KW : Hid (∀ wx : World,Calls Tryz.prog 33 #[.agg #[.int .i64 0,.slice none 0 0,.slice none 0 0,.slice none 0 0]] wx fun e w' => ∃ v,e = .returned v ∧ Ty (wx.heap.size ≤ ·) C v w' ∧ Below wx.heap.size wx w'))
  (KG : Hid (∀ wx : World,Below w.heap.size w wx → Calls Tryz.prog 32 #[.agg #[.int .i64 0,.slice a1 n1 c1,.slice a2 n2 c2,.slice a3 n3 c3]] wx fun e w' => e = .returned (.bool true) ∧ Below wx.heap.size wx w')) :
  Calls Tryz.prog 15 #[.agg #[.int .i64 0,.slice a1 n1 c1,.slice a2 n2 c2,.slice a3 n3 c3]] w fun e w' => ∃ v,e = .returned (.tuple #[v,.int .i64 0]) ∧ CO w.heap.size (fun _ => True) [C] v w' ∧ Below w.heap.size w w' := by
 have HB : Hid (Below w.heap.size w (w.alloc (.cells #[.int .i64 0,.slice a1 n1 c1,.slice a2 n2 c2,.slice a3 n3 c3] 25))) := (Below.refl _ _).alloc (Nat.le_refl _) _; have HA := heap_alloc_new w (.cells #[.int .i64 0,.slice a1 n1 c1,.slice a2 n2 c2,.slice a3 n3 c3] 25); have hsz : (w.alloc (.cells #[.int .i64 0,.slice a1 n1 c1,.slice a2 n2 c2,.slice a3 n3 c3] 25)).heap.size = w.heap.size + 1 := by simp
 have p0 : (w.alloc (.cells #[.int .i64 0,.slice a1 n1 c1,.slice a2 n2 c2,.slice a3 n3 c3] 25)).cell? ⟨w.heap.size,0,none⟩ = some (.int .i64 0) := by simp only [World.cell?,HA]; rfl
 have p1 : (w.alloc (.cells #[.int .i64 0,.slice a1 n1 c1,.slice a2 n2 c2,.slice a3 n3 c3] 25)).cell? ⟨w.heap.size,1,none⟩ = some (.slice a1 n1 c1) := by simp only [World.cell?,HA]; rfl
 have p2 : (w.alloc (.cells #[.int .i64 0,.slice a1 n1 c1,.slice a2 n2 c2,.slice a3 n3 c3] 25)).cell? ⟨w.heap.size,2,none⟩ = some (.slice a2 n2 c2) := by simp only [World.cell?,HA]; rfl
 have p3 : (w.alloc (.cells #[.int .i64 0,.slice a1 n1 c1,.slice a2 n2 c2,.slice a3 n3 c3] 25)).cell? ⟨w.heap.size,3,none⟩ = some (.slice a3 n3 c3) := by simp only [World.cell?,HA]; rfl
 clear HA; go_enter Tryz.func15,Tryz.ntmps15
 go_upto_region 1 with fail
 generalize w.alloc (.cells #[.int .i64 0,.slice a1 n1 c1,.slice a2 n2 c2,.slice a3 n3 c3] 25) = W0 at *; go_wp2_with fail
 refine (KG.out _ HB.out).mono ?_; rintro e w1 ⟨rfl,hb⟩; have HL1 : Hid (Below w.heap.size w w1) := HB.out.trans (hb.mono HB.out.size); have r0 := (hb.cell (p := ⟨w.heap.size,0,none⟩) (by show w.heap.size < _; omega)).trans p0
 have r1 := (hb.cell (p := ⟨w.heap.size,1,none⟩) (by show w.heap.size < _; omega)).trans p1
 have r2 := (hb.cell (p := ⟨w.heap.size,2,none⟩) (by show w.heap.size < _; omega)).trans p2
 have r3 := (hb.cell (p := ⟨w.heap.size,3,none⟩) (by show w.heap.size < _; omega)).trans p3
 have HW1 : Hid (w.heap.size < w1.heap.size) := by have := hb.size; show _ < _; omega
 clear hb KG HB p0 p1 p2 p3 hsz; go_wp2_with fail
 refine (KW.out _).mono ?_; rintro e w2 ⟨v,rfl,ty,b2⟩; have l2 : Below w.heap.size w w2 := HL1.out.trans (b2.mono HL1.out.size); obtain ⟨ca,cc,rfl⟩ := Sl_fm (Ty_sl ty); have co : CO w.heap.size (fun _ => True) [C] (.slice (some ⟨w2.heap.size,0,none⟩) 1 1) (w2.alloc (.cells #[.slice ca C.length cc] 22)) := CO_one l2.size (Ty_mono ty (fun k hk _ => Nat.le_trans HL1.out.size hk))
 have HR : Hid (CO w.heap.size (fun _ => True) [C] (.slice (some ⟨w2.heap.size,0,none⟩) 1 1) (w2.alloc (.cells #[.slice ca C.length cc] 22)) ∧ Below w.heap.size w (w2.alloc (.cells #[.slice ca C.length cc] 22))) := ⟨co,l2.alloc l2.size _⟩
 clear ty b2 l2 co KW; generalize C.length = cl at *; go_wp2_with fail
 go_ret2
 exact ⟨_,rfl,HR.out⟩
theorem codes_yes (a1 a2 a3 : Option Addr) (n1 c1 n2 c2 n3 c3 : Nat) (w : World) (k : Int) (hk : Hid (k ≠ 0)) (l : List (List UInt8)) (KN : Hid (∀ wx : World,Below w.heap.size w wx → Calls Tryz.prog 34 #[.pointer (some ⟨wx.heap.size,0,none⟩),.agg #[.int .i64 k,.slice a1 n1 c1,.slice a2 n2 c2,.slice a3 n3 c3]] (wx.alloc (.cells #[.slice none 0 0] 73)) fun e w' => ∃ sv cv,e = .returned sv ∧ w'.cell? ⟨wx.heap.size,0,none⟩ = some cv ∧ CO w.heap.size (fun _ => True) l cv w' ∧ Below wx.heap.size wx w'))
  (KG : Hid (∀ wx : World,Below w.heap.size w wx → Calls Tryz.prog 32 #[.agg #[.int .i64 k,.slice a1 n1 c1,.slice a2 n2 c2,.slice a3 n3 c3]] wx fun e w' => e = .returned (.bool true) ∧ Below wx.heap.size wx w')) :
  Calls Tryz.prog 15 #[.agg #[.int .i64 k,.slice a1 n1 c1,.slice a2 n2 c2,.slice a3 n3 c3]] w fun e w' => ∃ v,e = .returned (.tuple #[v,.int .i64 0]) ∧ CO w.heap.size (fun _ => True) l v w' ∧ Below w.heap.size w w' := by
 have HB : Hid (Below w.heap.size w (w.alloc (.cells #[.int .i64 k,.slice a1 n1 c1,.slice a2 n2 c2,.slice a3 n3 c3] 25))) := (Below.refl _ _).alloc (Nat.le_refl _) _; have HA := heap_alloc_new w (.cells #[.int .i64 k,.slice a1 n1 c1,.slice a2 n2 c2,.slice a3 n3 c3] 25); have hsz : (w.alloc (.cells #[.int .i64 k,.slice a1 n1 c1,.slice a2 n2 c2,.slice a3 n3 c3] 25)).heap.size = w.heap.size + 1 := by simp
 have p0 : (w.alloc (.cells #[.int .i64 k,.slice a1 n1 c1,.slice a2 n2 c2,.slice a3 n3 c3] 25)).cell? ⟨w.heap.size,0,none⟩ = some (.int .i64 k) := by simp only [World.cell?,HA]; rfl
 have p1 : (w.alloc (.cells #[.int .i64 k,.slice a1 n1 c1,.slice a2 n2 c2,.slice a3 n3 c3] 25)).cell? ⟨w.heap.size,1,none⟩ = some (.slice a1 n1 c1) := by simp only [World.cell?,HA]; rfl
 have p2 : (w.alloc (.cells #[.int .i64 k,.slice a1 n1 c1,.slice a2 n2 c2,.slice a3 n3 c3] 25)).cell? ⟨w.heap.size,2,none⟩ = some (.slice a2 n2 c2) := by simp only [World.cell?,HA]; rfl
 have p3 : (w.alloc (.cells #[.int .i64 k,.slice a1 n1 c1,.slice a2 n2 c2,.slice a3 n3 c3] 25)).cell? ⟨w.heap.size,3,none⟩ = some (.slice a3 n3 c3) := by simp only [World.cell?,HA]; rfl
 clear HA; go_enter Tryz.func15,Tryz.ntmps15
 go_upto_region 1 with fail
 generalize w.alloc (.cells #[.int .i64 k,.slice a1 n1 c1,.slice a2 n2 c2,.slice a3 n3 c3] 25) = W0 at *; go_wp2_with fail
 refine (KG.out _ HB.out).mono ?_; rintro e w1 ⟨rfl,hb⟩; have HL1 : Hid (Below w.heap.size w w1) := HB.out.trans (hb.mono HB.out.size); have r0 := (hb.cell (p := ⟨w.heap.size,0,none⟩) (by show w.heap.size < _; omega)).trans p0
 have r1 := (hb.cell (p := ⟨w.heap.size,1,none⟩) (by show w.heap.size < _; omega)).trans p1
 have r2 := (hb.cell (p := ⟨w.heap.size,2,none⟩) (by show w.heap.size < _; omega)).trans p2
 have r3 := (hb.cell (p := ⟨w.heap.size,3,none⟩) (by show w.heap.size < _; omega)).trans p3
 have HW1 : Hid (w.heap.size < w1.heap.size) := by have := hb.size; show _ < _; omega
 clear hb KG HB p0 p1 p2 p3 hsz; have e0 : (k == 0) = false := beq_eq_false_iff_ne.2 hk.out; have bA : Below w1.heap.size w1 (w1.alloc (.cells #[.slice none 0 0] 73)) := (Below.refl _ _).alloc (Nat.le_refl _) _; have s0 := (bA.cell (p := ⟨w.heap.size,0,none⟩) HW1.out).trans r0; have s1 := (bA.cell (p := ⟨w.heap.size,1,none⟩) HW1.out).trans r1; have s2 := (bA.cell (p := ⟨w.heap.size,2,none⟩) HW1.out).trans r2; have s3 := (bA.cell (p := ⟨w.heap.size,3,none⟩) HW1.out).trans r3; have KN2 : Hid _ := KN.out w1 HL1.out; clear KN bA; go_upto_region 6 with fail
 generalize w1.alloc (.cells #[.slice none 0 0] 73) = w2 at *; clear r0 r1 r2 r3; go_wp2_with fail
 refine Calls.mono KN2.out ?_; rintro e w3 ⟨sv,cv,rfl,hc,co,b3⟩; obtain ⟨va,vc,rfl,_⟩ := CO_form co; have HR : Hid (CO w.heap.size (fun _ => True) l (.slice va l.length vc) w3 ∧ Below w.heap.size w w3) := ⟨co,HL1.out.trans (b3.mono HL1.out.size)⟩
 clear co b3 KN2 s0 s1 s2 s3; generalize l.length = ll at *; go_wp2_with fail
 go_ret2
 exact ⟨_,rfl,HR.out⟩
end Rt
end Go.Proofs.YtlbdaccmnpcccaaGreatDoor
namespace Go.Proofs.YtlbdaccmnpcccaaGreatDoor
namespace Tr
open Nb Go.RowKit
theorem info16 : (Tryz.prog.info? 139).map (·.size) = some 16 := by kernel_rfl
theorem cell_fork {w : World} {g : Nat} {c : Array Value} {ty : TypeId} {fz : Nat × Nat} (hb : w.heap[g]? = some (.cells c ty fz)) (j : Nat) (hj : j < c.size) : w.cell? ⟨g,j,none⟩ = some (c.getD j undef) := by
 simp only [World.cell?,hb]; simp [hj]
theorem range16 {w : World} {g : Nat} {c : Array Value} {ty : TypeId} {fz : Nat × Nat} (hb : w.heap[g]? = some (.cells c ty fz)) (hc : c.size = 17) : w.rangeAt g 1 (c.toList.drop 1) := fun j v hv => by
 have hj : j < 16 := by
  have := (List.getElem?_eq_some_iff.1 hv).1; simpa [hc] using this
 rw [cell_fork hb (1 + j) (by omega)]; rw [List.getElem?_drop] at hv; rw [← hv]; have h1 : 1 + j < c.size := by omega
 simp [h1]
theorem run_index16 (L : List Value) (k : Nat) (x : Value) (hk : k < 16) (hx : L[k]? = some x) (w : World) : (Instr.index 139 (.agg L.toArray) (.int .i64 (k : Int))).run Tryz.prog w = .ok x w := by
 have h1 : ((k : Int).toNat * 1) = k := by omega
 have h2 : (0 : Int) ≤ (k : Int) ∧ (k : Int) < ((16 : Nat) : Int) := by omega
 unfold Instr.index
 simp only [Sem.run_bind,run_under Tryz.underlying139,asIntOf,Sem.run_pure,Result.andThen_ok]; rw [if_pos h2]; simp only [Sem.run_bind,Tryz.sizeOf68,Result.andThen_ok,h1,part,Tryz.isAgg68]; have h3 : L.toArray[k]? = some x := by simpa using hx
 simp [h3]
theorem cnt_take (ks : List Nd) (k : Nat) (h : k < ks.length) : cnt (ks.take (k + 1)) = cnt (ks.take k) + (if (ks.getD k Nd.no).kind = 0 then 0 else 1) := by
 induction ks generalizing k with
 | nil => simp at h
 | cons t r ih =>
  cases k with
  | zero => simp [cnt]
  | succ k =>
   rw [List.take_succ_cons,List.take_succ_cons,cnt,cnt,List.getD_cons_succ,ih k (by simpa using h)]; omega
theorem cnt_le : ∀ ks : List Nd,cnt ks ≤ ks.length
 | [] => Nat.le_refl _
 | t :: r => by
  have := cnt_le r; rw [cnt,List.length_cons]; split <;> omega
theorem parts_any (v : By) (ks : List Nd) (g : Nat) (c : Array Value) (w : World) (ao : Option Addr) (cap : Nat) (hl : ks.length = 16) (hb : w.heap[g]? = some (.cells c 141 (0,0))) (hc : c.size = 17) (hv : c.getD 0 undef = .slice ao v.length cap)
  (hN : Hid (∀ j,j < 16 → ∀ w2 : World,Calls Tryz.prog 85 #[c.getD (j + 1) undef] w2 fun e w' => e = .returned (.bool (decide ((ks.getD j Nd.no).kind = 0))) ∧ Below w2.heap.size w2 w')) :
  Calls Tryz.prog 73 #[.pointer (some ⟨g,0,none⟩)] w fun e w' => e = .returned (.int .i64 (pts v ks : Nat)) ∧ Below w.heap.size w w' := by
 have c0 : w.cell? ⟨g,0,none⟩ = some (.slice ao v.length cap) := by rw [cell_fork hb 0 (by omega),hv]
 have R := range16 hb hc; have RL : (Tryz.prog.info? 139).map (·.size) = some (c.toList.drop 1).length := by rw [info16]; simp [hc]
 have HX : Hid (∀ (j : Nat) (w : World),j < 16 → (Instr.index 139 (.agg (c.toList.drop 1).toArray) (.int .i64 (j : Int))).run Tryz.prog w = .ok (c.getD (j + 1) undef) w) := fun j w hj => run_index16 _ j _ hj (by
  have h1 : j + 1 < c.size := by omega
  rw [List.getElem?_drop,Nat.add_comm]; simp [h1]) w
 generalize c.toList.drop 1 = L at R RL HX; obtain ⟨n0,hn0⟩ : ∃ n0 : Nat,n0 = if v = [] then 0 else 1 := ⟨_,rfl⟩
 have hpt : Hid (pts v ks = n0 + cnt (ks.take 16)) := by
  show _ = _
  rw [← hl,List.take_length,hn0]; rfl
 have hn1 : Hid (n0 ≤ 1) := by show _ ≤ _; rw [hn0]; split <;> omega
 have hvn : v.length = 0 ↔ v = [] := List.length_eq_zero_iff; generalize v.length = n at *; by_cases h0 : n = 0
 ·have e0 : n0 = 0 := by rw [hn0,if_pos (hvn.1 h0)]
  have d0 : decide ((0 : Int) < (n : Int)) = false := decide_eq_false (by omega); have d0' : decide (0 < n) = false := decide_eq_false (by omega); have E0 : Hid (n0 = 0) := e0; clear hn0 hvn hb hv e0; go_enter Tryz.func73,Tryz.ntmps73
  go_upto_region 4 with fail
  go_wp2_with (refine wpList_load_mid rfl 139 (.tmp 16) rfl g 1 rfl L _ R Tryz.underlying139 rfl RL ?_)
  clear R RL c0; go_loopw [3,18] (fun m i wr => ∃ k : Nat,k ≤ 16 ∧ i = .int .i64 (k : Int) ∧ m = .int .i64 ((n0 + cnt (ks.take k) : Nat) : Int) ∧ Below w.heap.size w wr) (fun _ i _ => ((16 : Int) - intOf i).toNat)
  case atStart => exact ⟨0,Nat.zero_le _,rfl,by rw [E0.out]; simp [cnt],Below.refl _ _⟩
  case round =>
   obtain ⟨k,hk,rfl,rfl,hB⟩ := hrel; by_cases hlt : k < 16
   ·have d1 : decide ((k : Int) < 16) = true := decide_eq_true (by omega); have d2 : (0 : Int) ≤ (k : Int) := by omega
    have d3 : (k : Int) < 16 := by omega
    have hx := fun w => HX.out k w hlt
    have HS : Hid (cnt (ks.take (k + 1)) = cnt (ks.take k) + (if (ks.getD k Nd.no).kind = 0 then 0 else 1)) := cnt_take ks k (by omega); have hcl : Hid (cnt (ks.take k) ≤ 16) := by have := cnt_le (ks.take k); rw [List.length_take] at this; show _ ≤ _; omega
    have HK := hN.out k hlt; generalize c.getD (k + 1) undef = xk at *; have e5 : wrap64 ((k : Int) + 1) = ((k + 1 : Nat) : Int) := by unfold wrap64; omega
    have E5 : Hid (wrap64 ((k : Int) + 1) = ((k + 1 : Nat) : Int)) := e5; clear e5; generalize cnt (ks.take k) = m at *; have E6 : Hid (wrap64 ((n0 : Int) + (m : Int) + 1) = ((n0 + (m + 1) : Nat) : Int)) := by have := hcl.out; have := hn1.out; show _ = _; unfold wrap64; omega
    by_cases hkd : (ks.getD k Nd.no).kind = 0
    ·have HKd : Hid ((ks.getD k Nd.no).kind = 0) := hkd; have HK2 : Hid (∀ w2 : World,Calls Tryz.prog 85 #[xk] w2 fun e w' => e = .returned (.bool true) ∧ Below w2.heap.size w2 w') := fun w2 => (HK w2).mono (fun e w' h => ⟨by rw [h.1,decide_eq_true hkd],h.2⟩)
     clear HK hkd; go_wp2_with fail
     refine (HK2.out _).mono ?_; rintro e w1 ⟨rfl,hb1⟩; go_wp2_with fail
     exact ⟨⟨k + 1,hlt,by rw [Int.natCast_succ],by rw [HS.out,if_pos HKd.out,Nat.add_zero,Int.natCast_add],hB.trans (hb1.mono hB.size)⟩,by simp only [intOf]; omega⟩
    ·have HKd : Hid (¬ (ks.getD k Nd.no).kind = 0) := hkd; have HK2 : Hid (∀ w2 : World,Calls Tryz.prog 85 #[xk] w2 fun e w' => e = .returned (.bool false) ∧ Below w2.heap.size w2 w') := fun w2 => (HK w2).mono (fun e w' h => ⟨by rw [h.1,decide_eq_false hkd],h.2⟩)
     clear HK hkd; go_wp2_with fail
     refine (HK2.out _).mono ?_; rintro e w1 ⟨rfl,hb1⟩; go_wp2_with fail
     rw [E6.out]; exact ⟨⟨k + 1,hlt,by rw [Int.natCast_succ],by rw [HS.out,if_neg HKd.out],hB.trans (hb1.mono hB.size)⟩,by simp only [intOf]; omega⟩
   ·have d1 : decide ((k : Int) < 16) = false := decide_eq_false (by omega); have ek : k = 16 := by omega
    have HE : Hid (pts v ks = n0 + cnt (ks.take k)) := by rw [ek]; exact hpt.out
    clear ek; go_wp2_with fail
    go_ret
    exact ⟨by rw [HE.out,Int.natCast_add]; rfl,hB⟩
 ·have e0 : n0 = 1 := by rw [hn0,if_neg (fun h => h0 (hvn.2 h))]
  have d0 : decide ((0 : Int) < (n : Int)) = true := decide_eq_true (by omega); have d0' : decide (0 < n) = true := decide_eq_true (by omega); have E0 : Hid (n0 = 1) := e0; clear hn0 hvn hb hv e0; go_enter Tryz.func73,Tryz.ntmps73
  go_upto_region 4 with fail
  go_wp2_with (refine wpList_load_mid rfl 139 (.tmp 16) rfl g 1 rfl L _ R Tryz.underlying139 rfl RL ?_)
  clear R RL c0; go_loopw [3,18] (fun m i wr => ∃ k : Nat,k ≤ 16 ∧ i = .int .i64 (k : Int) ∧ m = .int .i64 ((n0 + cnt (ks.take k) : Nat) : Int) ∧ Below w.heap.size w wr) (fun _ i _ => ((16 : Int) - intOf i).toNat)
  case atStart => exact ⟨0,Nat.zero_le _,rfl,by rw [E0.out]; simp [cnt],Below.refl _ _⟩
  case round =>
   obtain ⟨k,hk,rfl,rfl,hB⟩ := hrel; by_cases hlt : k < 16
   ·have d1 : decide ((k : Int) < 16) = true := decide_eq_true (by omega); have d2 : (0 : Int) ≤ (k : Int) := by omega
    have d3 : (k : Int) < 16 := by omega
    have hx := fun w => HX.out k w hlt
    have HS : Hid (cnt (ks.take (k + 1)) = cnt (ks.take k) + (if (ks.getD k Nd.no).kind = 0 then 0 else 1)) := cnt_take ks k (by omega); have hcl : Hid (cnt (ks.take k) ≤ 16) := by have := cnt_le (ks.take k); rw [List.length_take] at this; show _ ≤ _; omega
    have HK := hN.out k hlt; generalize c.getD (k + 1) undef = xk at *; have e5 : wrap64 ((k : Int) + 1) = ((k + 1 : Nat) : Int) := by unfold wrap64; omega
    have E5 : Hid (wrap64 ((k : Int) + 1) = ((k + 1 : Nat) : Int)) := e5; clear e5; generalize cnt (ks.take k) = m at *; have E6 : Hid (wrap64 ((n0 : Int) + (m : Int) + 1) = ((n0 + (m + 1) : Nat) : Int)) := by have := hcl.out; have := hn1.out; show _ = _; unfold wrap64; omega
    by_cases hkd : (ks.getD k Nd.no).kind = 0
    ·have HKd : Hid ((ks.getD k Nd.no).kind = 0) := hkd; have HK2 : Hid (∀ w2 : World,Calls Tryz.prog 85 #[xk] w2 fun e w' => e = .returned (.bool true) ∧ Below w2.heap.size w2 w') := fun w2 => (HK w2).mono (fun e w' h => ⟨by rw [h.1,decide_eq_true hkd],h.2⟩)
     clear HK hkd; go_wp2_with fail
     refine (HK2.out _).mono ?_; rintro e w1 ⟨rfl,hb1⟩; go_wp2_with fail
     exact ⟨⟨k + 1,hlt,by rw [Int.natCast_succ],by rw [HS.out,if_pos HKd.out,Nat.add_zero,Int.natCast_add],hB.trans (hb1.mono hB.size)⟩,by simp only [intOf]; omega⟩
    ·have HKd : Hid (¬ (ks.getD k Nd.no).kind = 0) := hkd; have HK2 : Hid (∀ w2 : World,Calls Tryz.prog 85 #[xk] w2 fun e w' => e = .returned (.bool false) ∧ Below w2.heap.size w2 w') := fun w2 => (HK w2).mono (fun e w' h => ⟨by rw [h.1,decide_eq_false hkd],h.2⟩)
     clear HK hkd; go_wp2_with fail
     refine (HK2.out _).mono ?_; rintro e w1 ⟨rfl,hb1⟩; go_wp2_with fail
     rw [E6.out]; exact ⟨⟨k + 1,hlt,by rw [Int.natCast_succ],by rw [HS.out,if_neg HKd.out],hB.trans (hb1.mono hB.size)⟩,by simp only [intOf]; omega⟩
   ·have d1 : decide ((k : Int) < 16) = false := decide_eq_false (by omega); have ek : k = 16 := by omega
    have HE : Hid (pts v ks = n0 + cnt (ks.take k)) := by rw [ek]; exact hpt.out
    clear ek; go_wp2_with fail
    go_ret
    exact ⟨by rw [HE.out,Int.natCast_add]; rfl,hB⟩
end Tr
end Go.Proofs.YtlbdaccmnpcccaaGreatDoor
namespace Go.Proofs.YtlbdaccmnpcccaaGreatDoor
namespace Tr
open Nb Go.RowKit
structure RL (h : Nat) (u : V4) (p : By) (ap : Option Addr) (W wx : World) : Prop where
 bx : Bx h u wx
 vw : Sp.Vw p ap wx
 b : Below W.heap.size W wx
theorem RL_below {h : Nat} {u : V4} {p : By} {ap : Option Addr} {W wx w2 : World} (k : RL h u p ap W wx) (b : Below wx.heap.size wx w2) : RL h u p ap W w2 := ⟨Bx_below k.bx b,Sp.Vw_below k.vw b,k.b.trans (b.mono k.b.size)⟩
theorem eq_below {w w' : World} (h : w' = w) : Below w.heap.size w w' := by subst h; exact Below.refl _ _
theorem wrap_add (a b : Nat) (ha : a ≤ 1099511627776) (hb : b ≤ 1099511627776) : IntKind.i64.wrap ((a : Int) + (b : Int)) = ((a + b : Nat) : Int) := by rw [IntKind.wrap_i64]; omega
theorem read_none (ap av ak : Option Addr) (np cp nv cv nk ck hh : Nat) (w : World) :
  Calls Tryz.prog 30 #[.agg #[.int .i64 0,.slice ap np cp,.slice av nv cv,.slice ak nk ck],.int .i64 (hh : Int)] w fun e w' => e = .returned (.tuple #[.iface 97 (.agg #[]),.bool true]) ∧ Below w.heap.size w w' := by
 have HB : Hid (Below w.heap.size w (w.alloc (.cells #[.int .i64 0,.slice ap np cp,.slice av nv cv,.slice ak nk ck] 25))) := (Below.refl _ _).alloc (Nat.le_refl _) _; go_enter Tryz.func30,Tryz.ntmps30
 go_wp2_with fail
 go_ret2
 exact ⟨rfl,HB.out⟩
theorem read_other (k : Int) (ap av ak : Option Addr) (np cp nv cv nk ck hh : Nat) (w : World) (k0 : k ≠ 0) (k1 : k ≠ 1) (k2 : k ≠ 2) (k3 : k ≠ 3) :
  Calls Tryz.prog 30 #[.agg #[.int .i64 k,.slice ap np cp,.slice av nv cv,.slice ak nk ck],.int .i64 (hh : Int)] w fun e w' => e = .returned (.tuple #[.iface 97 (.agg #[]),.bool false]) ∧ Below w.heap.size w w' := by
 have HB : Hid (Below w.heap.size w (w.alloc (.cells #[.int .i64 k,.slice ap np cp,.slice av nv cv,.slice ak nk ck] 25))) := (Below.refl _ _).alloc (Nat.le_refl _) _; have e0 : (k == 0) = false := beq_eq_false_iff_ne.2 k0; have e1 : (k == 1) = false := beq_eq_false_iff_ne.2 k1; have e2 : (k == 2) = false := beq_eq_false_iff_ne.2 k2; have e3 : (k == 3) = false := beq_eq_false_iff_ne.2 k3; go_enter Tryz.func30,Tryz.ntmps30
 go_wp2_with fail
 go_ret2
 exact ⟨rfl,HB.out⟩
theorem read_leaf_ok (ap av ak : Option Addr) (np cp nv cv nk ck hh : Nat) (w : World) (p v : By) (hn : np = p.length) (hz : np ≤ 4194304) (hnv : nv = v.length) (hh6 : hh ≤ 4194304) (vw : Sp.Vw p ap w) (hp : ptb p = true) :
  Calls Tryz.prog 30 #[.agg #[.int .i64 1,.slice ap np cp,.slice av nv cv,.slice ak nk ck],.int .i64 (hh : Int)] w fun e w' => e = .returned (.tuple #[.iface 111 (.agg #[.slice ap np cp,.slice av nv cv]),.bool (may v (hh + np))]) ∧ Below w.heap.size w w' := by
 have HB : Below w.heap.size w (w.alloc (.cells #[.int .i64 1,.slice ap np cp,.slice av nv cv,.slice ak nk ck] 25)) := (Below.refl _ _).alloc (Nat.le_refl _) _; have E1 : Hid (IntKind.i64.wrap ((hh : Int) + (np : Int)) = ((hh + np : Nat) : Int)) := wrap_add _ _ (by omega) (by omega); have KP : Hid (∀ wx : World,Sp.Vw p ap wx → Calls Tryz.prog 52 #[.slice ap np cp] wx fun e w' => e = .returned (.bool true) ∧ Below wx.heap.size wx w') := fun wx hv => by
  subst hn; refine (ispath_any p ap cp wx (by show (_ : Int) ≤ _; omega) hv).mono fun e w' h => ⟨?_,eq_below h.2⟩
  rw [h.1,show pb p = true from hp]
 have KM : Hid (∀ wx : World,Calls Tryz.prog 53 #[.slice av nv cv,.int .i64 ((hh + np : Nat) : Int)] wx fun e w' => e = .returned (.bool (may v (hh + np))) ∧ Below wx.heap.size wx w') := fun wx => by
  subst hnv; exact (mayhave_any v (hh + np) av cv wx).mono fun e w' h => ⟨h.1,eq_below h.2⟩
 have R0 : RL w.heap.size (.int .i64 1,.slice ap np cp,.slice av nv cv,.slice ak nk ck) p ap (w.alloc (.cells #[.int .i64 1,.slice ap np cp,.slice av nv cv,.slice ak nk ck] 25)) (w.alloc (.cells #[.int .i64 1,.slice ap np cp,.slice av nv cv,.slice ak nk ck] 25)).drew := ⟨Bx_below (Bx_new w (.int .i64 1,.slice ap np cp,.slice av nv cv,.slice ak nk ck)) (Below.refl _ _).drew,Sp.Vw_drew (Sp.Vw_al vw _),(Below.refl _ _).drew⟩; clear hn hz hnv hh6 vw hp; generalize may v (hh + np) = mv at *; go_enter Tryz.func30,Tryz.ntmps30
 go_upto_region 5 with fail
 generalize (w.alloc (.cells #[.int .i64 1,.slice ap np cp,.slice av nv cv,.slice ak nk ck] 25)) = W0 at *; have HG : Hid (w.heap.size ≤ W0.heap.size) := HB.size; generalize hg0 : w.heap.size = g0 at *; refine RS.wp_region_one (RL g0 (.int .i64 1,.slice ap np cp,.slice av nv cv,.slice ak nk ck) p ap W0) (by kernel_rfl) (by kernel_rfl) (R0) ?_; dsimp only [List.toList_toArray]; refine RS.go1 (v := ?_) (a' := ?_) rfl ?_ ?_ ?_; rotate_left 2
 ·intro K wx hS hK; go_simp; exact hK _ hS
 ·simp only [Act.put,zA,zB,zC]; rfl
 refine RS.go1 (v := ?_) (a' := ?_) rfl ?_ ?_ ?_; rotate_left 2
 ·intro K wx hS hK; have m1 := hS.bx.2.2.1; go_simp; exact hK _ hS
 ·simp only [Act.put,zA,zB,zC]; rfl
 refine RS.go1 (v := ?_) (a' := ?_) rfl ?_ ?_ ?_; rotate_left 2
 ·intro K wx hS hK; go_simp; exact hK _ hS
 ·simp only [Act.put,zA,zB,zC]; rfl
 refine RS.go1 (v := ?_) (a' := ?_) rfl ?_ ?_ ?_; rotate_left 2
 ·intro K wx hS hK; have m2 := hS.bx.2.2.2.1; go_simp; exact hK _ hS
 ·simp only [Act.put,zA,zB,zC]; rfl
 iterate 3
  refine RS.go1 (v := ?_) (a' := ?_) rfl ?_ ?_ ?_; rotate_left 2
  ·intro K wx hS hK; go_simp; exact hK _ hS
  ·simp only [Act.put,zA,zB,zC]; rfl
 refine RS.go1 (v := ?_) (a' := ?_) rfl ?_ ?_ ?_; rotate_left 2
 ·intro K wx hS hK; have m1 := hS.bx.2.2.1; go_simp; exact hK _ hS
 ·simp only [Act.put,zA,zB,zC]; rfl
 refine RS.go1 (v := ?_) (a' := ?_) rfl ?_ ?_ ?_; rotate_left 2
 ·intro K wx hS hK; go_simp; refine (KP.out _ hS.vw).mono (fun e w2 he => ?_)
  refine ⟨_,he.1,?_⟩; exact hK _ (RL_below hS he.2)
 ·simp only [Act.put,zA,zB,zC]; rfl
 refine RS.go1 (v := ?_) (a' := ?_) rfl ?_ ?_ ?_; rotate_left 2
 ·intro K wx hS hK; go_simp; exact hK _ hS
 ·simp only [Act.put,zA,zB,zC]; rfl
 refine RS.go1g (v := ?_) (a' := ?_) (by kernel_rfl) ?_ ?_ ?_; rotate_left 2
 ·intro K wx hS hK; go_simp; exact hK _ hS
 ·simp only [Act.put,zA,zB,zC]; rfl
 refine RS.go1g (v := ?_) (a' := ?_) (by kernel_rfl) ?_ ?_ ?_; rotate_left 2
 ·intro K wx hS hK; have m2 := hS.bx.2.2.2.1; go_simp; exact hK _ hS
 ·simp only [Act.put,zA,zB,zC]; rfl
 iterate 2
  refine RS.go1g (v := ?_) (a' := ?_) (by kernel_rfl) ?_ ?_ ?_; rotate_left 2
  ·intro K wx hS hK; go_simp; exact hK _ hS
  ·simp only [Act.put,zA,zB,zC]; rfl
 refine RS.go1g (v := ?_) (a' := ?_) (by kernel_rfl) ?_ ?_ ?_; rotate_left 2
 ·intro K wx hS hK; have m1 := hS.bx.2.2.1; go_simp; exact hK _ hS
 ·simp only [Act.put,zA,zB,zC]; rfl
 refine RS.go1g (v := ?_) (a' := ?_) (by kernel_rfl) ?_ ?_ ?_; rotate_left 2
 ·intro K wx hS hK; go_simp; exact hK _ hS
 ·simp only [Act.put,zA,zB,zC]; rfl
 refine RS.go1g (v := ?_) (a' := ?_) (by kernel_rfl) ?_ ?_ ?_; rotate_left 2
 ·intro K wx hS hK; have e1 := E1.out; go_simp; exact hK _ hS
 ·simp only [Act.put,zA,zB,zC]; rfl
 refine RS.go1g (v := ?_) (a' := ?_) (by kernel_rfl) ?_ ?_ ?_; rotate_left 2
 ·intro K wx hS hK; go_simp; refine (KM.out _).mono (fun e w2 he => ?_)
  refine ⟨_,he.1,?_⟩; exact hK _ (RL_below hS he.2)
 ·simp only [Act.put,zA,zB,zC]; rfl
 iterate 3
  refine RS.go1 (v := ?_) (a' := ?_) rfl ?_ ?_ ?_; rotate_left 2
  ·intro K wx hS hK; go_simp; exact hK _ hS
  ·simp only [Act.put,zA,zB,zC]; rfl
 refine RS.go_end ?_; intro w9 m9; have HZ : Hid (Below w.heap.size w w9) := by show Below _ _ _; rw [hg0]; exact HB.trans (m9.b.mono HG.out)
 clear m9 R0; go_wp2_with fail
 go_ret2
 exact ⟨rfl,HZ.out⟩
theorem read_leaf_no (ap av ak : Option Addr) (np cp nv cv nk ck hh : Nat) (w : World) (p v : By) (hn : np = p.length) (hz : np ≤ 4194304) (hnv : nv = v.length) (hh6 : hh ≤ 4194304) (vw : Sp.Vw p ap w) (hp : ptb p = false) :
  Calls Tryz.prog 30 #[.agg #[.int .i64 1,.slice ap np cp,.slice av nv cv,.slice ak nk ck],.int .i64 (hh : Int)] w fun e w' => e = .returned (.tuple #[.iface 111 (.agg #[.slice ap np cp,.slice av nv cv]),.bool (false)]) ∧ Below w.heap.size w w' := by
 have HB : Below w.heap.size w (w.alloc (.cells #[.int .i64 1,.slice ap np cp,.slice av nv cv,.slice ak nk ck] 25)) := (Below.refl _ _).alloc (Nat.le_refl _) _; have E1 : Hid (IntKind.i64.wrap ((hh : Int) + (np : Int)) = ((hh + np : Nat) : Int)) := wrap_add _ _ (by omega) (by omega); have KP : Hid (∀ wx : World,Sp.Vw p ap wx → Calls Tryz.prog 52 #[.slice ap np cp] wx fun e w' => e = .returned (.bool false) ∧ Below wx.heap.size wx w') := fun wx hv => by
  subst hn; refine (ispath_any p ap cp wx (by show (_ : Int) ≤ _; omega) hv).mono fun e w' h => ⟨?_,eq_below h.2⟩
  rw [h.1,show pb p = false from hp]
 have KM : Hid (∀ wx : World,Calls Tryz.prog 53 #[.slice av nv cv,.int .i64 ((hh + np : Nat) : Int)] wx fun e w' => e = .returned (.bool (may v (hh + np))) ∧ Below wx.heap.size wx w') := fun wx => by
  subst hnv; exact (mayhave_any v (hh + np) av cv wx).mono fun e w' h => ⟨h.1,eq_below h.2⟩
 have R0 : RL w.heap.size (.int .i64 1,.slice ap np cp,.slice av nv cv,.slice ak nk ck) p ap (w.alloc (.cells #[.int .i64 1,.slice ap np cp,.slice av nv cv,.slice ak nk ck] 25)) (w.alloc (.cells #[.int .i64 1,.slice ap np cp,.slice av nv cv,.slice ak nk ck] 25)).drew := ⟨Bx_below (Bx_new w (.int .i64 1,.slice ap np cp,.slice av nv cv,.slice ak nk ck)) (Below.refl _ _).drew,Sp.Vw_drew (Sp.Vw_al vw _),(Below.refl _ _).drew⟩; clear hn hz hnv hh6 vw hp; generalize may v (hh + np) = mv at *; go_enter Tryz.func30,Tryz.ntmps30
 go_upto_region 5 with fail
 generalize (w.alloc (.cells #[.int .i64 1,.slice ap np cp,.slice av nv cv,.slice ak nk ck] 25)) = W0 at *; have HG : Hid (w.heap.size ≤ W0.heap.size) := HB.size; generalize hg0 : w.heap.size = g0 at *; refine RS.wp_region_one (RL g0 (.int .i64 1,.slice ap np cp,.slice av nv cv,.slice ak nk ck) p ap W0) (by kernel_rfl) (by kernel_rfl) (R0) ?_; dsimp only [List.toList_toArray]; refine RS.go1 (v := ?_) (a' := ?_) rfl ?_ ?_ ?_; rotate_left 2
 ·intro K wx hS hK; go_simp; exact hK _ hS
 ·simp only [Act.put,zA,zB,zC]; rfl
 refine RS.go1 (v := ?_) (a' := ?_) rfl ?_ ?_ ?_; rotate_left 2
 ·intro K wx hS hK; have m1 := hS.bx.2.2.1; go_simp; exact hK _ hS
 ·simp only [Act.put,zA,zB,zC]; rfl
 refine RS.go1 (v := ?_) (a' := ?_) rfl ?_ ?_ ?_; rotate_left 2
 ·intro K wx hS hK; go_simp; exact hK _ hS
 ·simp only [Act.put,zA,zB,zC]; rfl
 refine RS.go1 (v := ?_) (a' := ?_) rfl ?_ ?_ ?_; rotate_left 2
 ·intro K wx hS hK; have m2 := hS.bx.2.2.2.1; go_simp; exact hK _ hS
 ·simp only [Act.put,zA,zB,zC]; rfl
 iterate 3
  refine RS.go1 (v := ?_) (a' := ?_) rfl ?_ ?_ ?_; rotate_left 2
  ·intro K wx hS hK; go_simp; exact hK _ hS
  ·simp only [Act.put,zA,zB,zC]; rfl
 refine RS.go1 (v := ?_) (a' := ?_) rfl ?_ ?_ ?_; rotate_left 2
 ·intro K wx hS hK; have m1 := hS.bx.2.2.1; go_simp; exact hK _ hS
 ·simp only [Act.put,zA,zB,zC]; rfl
 refine RS.go1 (v := ?_) (a' := ?_) rfl ?_ ?_ ?_; rotate_left 2
 ·intro K wx hS hK; go_simp; refine (KP.out _ hS.vw).mono (fun e w2 he => ?_)
  refine ⟨_,he.1,?_⟩; exact hK _ (RL_below hS he.2)
 ·simp only [Act.put,zA,zB,zC]; rfl
 refine RS.go1 (v := ?_) (a' := ?_) rfl ?_ ?_ ?_; rotate_left 2
 ·intro K wx hS hK; go_simp; exact hK _ hS
 ·simp only [Act.put,zA,zB,zC]; rfl
 iterate 8
  refine RS.go0 (a' := ?_) (by kernel_rfl) ?_ ?_; rotate_left 1
  ·simp only [Act.put,zA,zB,zC]; rfl
 iterate 3
  refine RS.go1 (v := ?_) (a' := ?_) rfl ?_ ?_ ?_; rotate_left 2
  ·intro K wx hS hK; go_simp; exact hK _ hS
  ·simp only [Act.put,zA,zB,zC]; rfl
 refine RS.go_end ?_; intro w9 m9; have HZ : Hid (Below w.heap.size w w9) := by show Below _ _ _; rw [hg0]; exact HB.trans (m9.b.mono HG.out)
 clear m9 R0; go_wp2_with fail
 go_ret2
 exact ⟨rfl,HZ.out⟩
theorem read_road (ap av ak : Option Addr) (np cp nv cv nk ck hh : Nat) (w : World) (ok : Bool) (Q : Value → World → Prop) (KR : Hid (∀ wx : World,Below w.heap.size w wx → Calls Tryz.prog 54 #[.agg #[.int .i64 2,.slice ap np cp,.slice av nv cv,.slice ak nk ck],.int .i64 (hh : Int)] wx fun e w' => ∃ x,e = .returned (.tuple #[x,.bool ok]) ∧ Q x w' ∧ Below wx.heap.size wx w')) :
  Calls Tryz.prog 30 #[.agg #[.int .i64 2,.slice ap np cp,.slice av nv cv,.slice ak nk ck],.int .i64 (hh : Int)] w fun e w' => ∃ x,e = .returned (.tuple #[x,.bool ok]) ∧ Q x w' ∧ Below w.heap.size w w' := by
 have HB : Hid (Below w.heap.size w (w.alloc (.cells #[.int .i64 2,.slice ap np cp,.slice av nv cv,.slice ak nk ck] 25))) := (Below.refl _ _).alloc (Nat.le_refl _) _; have BX := Bx_new w (.int .i64 2,.slice ap np cp,.slice av nv cv,.slice ak nk ck); obtain ⟨_,q0,q1,q2,q3⟩ := BX; dsimp only at q0 q1 q2 q3; go_enter Tryz.func30,Tryz.ntmps30
 go_wp2_with fail
 refine (KR.out _ HB.out).mono ?_; rintro e w1 ⟨x,rfl,hq,hb1⟩; have HQ : Hid (Q x w1) := hq; have HZ : Hid (Below w.heap.size w w1) := HB.out.trans (hb1.mono HB.out.size); clear hq hb1; go_wp2_with fail
 go_ret2
 exact ⟨x,rfl,HQ.out,HZ.out⟩
theorem read_fork (ap av ak : Option Addr) (np cp nv cv nk ck hh : Nat) (w : World) (ok : Bool) (Q : Option Addr → World → Prop) (KR : Hid (∀ wx : World,Below w.heap.size w wx → Calls Tryz.prog 55 #[.agg #[.int .i64 3,.slice ap np cp,.slice av nv cv,.slice ak nk ck],.int .i64 (hh : Int)] wx fun e w' => ∃ x,e = .returned (.tuple #[.pointer x,.bool ok]) ∧ Q x w' ∧ Below wx.heap.size wx w')) :
  Calls Tryz.prog 30 #[.agg #[.int .i64 3,.slice ap np cp,.slice av nv cv,.slice ak nk ck],.int .i64 (hh : Int)] w fun e w' => ∃ x,e = .returned (.tuple #[.iface 113 (.pointer x),.bool ok]) ∧ Q x w' ∧ Below w.heap.size w w' := by
 have HB : Hid (Below w.heap.size w (w.alloc (.cells #[.int .i64 3,.slice ap np cp,.slice av nv cv,.slice ak nk ck] 25))) := (Below.refl _ _).alloc (Nat.le_refl _) _; have BX := Bx_new w (.int .i64 3,.slice ap np cp,.slice av nv cv,.slice ak nk ck); obtain ⟨_,q0,q1,q2,q3⟩ := BX; dsimp only at q0 q1 q2 q3; go_enter Tryz.func30,Tryz.ntmps30
 go_wp2_with fail
 refine (KR.out _ HB.out).mono ?_; rintro e w1 ⟨x,rfl,hq,hb1⟩; have HQ : Hid (Q x w1) := hq; have HZ : Hid (Below w.heap.size w w1) := HB.out.trans (hb1.mono HB.out.size); clear hq hb1; go_wp2_with fail
 go_ret2
 exact ⟨x,rfl,HQ.out,HZ.out⟩
end Tr
end Go.Proofs.YtlbdaccmnpcccaaGreatDoor
namespace Go.Proofs.YtlbdaccmnpcccaaGreatDoor
namespace Tr
open Nb Go.RowKit
theorem rroad_empty (ap av ak : Option Addr) (cp nv cv nk ck hh : Nat) (w : World)  :
  Calls Tryz.prog 54 #[.agg #[.int .i64 2,.slice ap 0 cp,.slice av nv cv,.slice ak nk ck],.int .i64 (hh : Int)] w fun e w' => (∃ x,e = .returned (.tuple #[x,.bool false])) ∧ Below w.heap.size w w' := by
 have HB : Hid (Below w.heap.size w (w.alloc (.cells #[.int .i64 2,.slice ap 0 cp,.slice av nv cv,.slice ak nk ck] 25))) := (Below.refl _ _).alloc (Nat.le_refl _) _; obtain ⟨hh0,q0,q1,q2,q3⟩ := Bx_new w (.int .i64 2,.slice ap 0 cp,.slice av nv cv,.slice ak nk ck); dsimp only at q0 q1 q2 q3; go_enter Tryz.func54,Tryz.ntmps54
 go_wp2_with fail
 go_ret2
 exact ⟨⟨_,rfl⟩,HB.out⟩
theorem rroad_path (ap av ak : Option Addr) (np cp nv cv nk ck hh : Nat) (w : World) (p : By) (hn : np = p.length) (hz : np ≤ 4194304) (h0 : 0 < np) (vw : Sp.Vw p ap w) (hp : ptb p = false) :
  Calls Tryz.prog 54 #[.agg #[.int .i64 2,.slice ap np cp,.slice av nv cv,.slice ak nk ck],.int .i64 (hh : Int)] w fun e w' => (∃ x,e = .returned (.tuple #[x,.bool false])) ∧ Below w.heap.size w w' := by
 have HB : Hid (Below w.heap.size w (w.alloc (.cells #[.int .i64 2,.slice ap np cp,.slice av nv cv,.slice ak nk ck] 25))) := (Below.refl _ _).alloc (Nat.le_refl _) _; obtain ⟨hh0,q0,q1,q2,q3⟩ := Bx_new w (.int .i64 2,.slice ap np cp,.slice av nv cv,.slice ak nk ck); dsimp only at q0 q1 q2 q3; have e0 : ((np : Int) == 0) = false := beq_eq_false_iff_ne.2 (by omega); have e0' : (np == 0) = false := beq_eq_false_iff_ne.2 (by omega); have VW : Sp.Vw p ap (w.alloc (.cells #[.int .i64 2,.slice ap np cp,.slice av nv cv,.slice ak nk ck] 25)) := Sp.Vw_al vw _; have KP : Hid (∀ wx : World,Sp.Vw p ap wx → Calls Tryz.prog 52 #[.slice ap np cp] wx fun e w' => e = .returned (.bool false) ∧ w' = wx) := fun wx hv => by
  subst hn; refine (ispath_any p ap cp wx (by show (_ : Int) ≤ _; omega) hv).mono fun e w' h => ⟨?_,h.2⟩
  rw [h.1,show pb p = false from hp]
 clear hn hz h0 vw hp; go_enter Tryz.func54,Tryz.ntmps54
 go_wp2_with fail
 refine (KP.out _ VW).mono ?_; rintro e w1 ⟨rfl,rfl⟩; go_wp2_with fail
 go_ret2
 exact ⟨⟨_,rfl⟩,HB.out⟩
theorem rroad_kids (ap av ak : Option Addr) (np cp nv cv nk ck hh : Nat) (w : World) (p : By) (hn : np = p.length) (hz : np ≤ 4194304) (h0 : 0 < np) (vw : Sp.Vw p ap w) (hp : ptb p = true) (hk : nk ≠ 1) :
  Calls Tryz.prog 54 #[.agg #[.int .i64 2,.slice ap np cp,.slice av nv cv,.slice ak nk ck],.int .i64 (hh : Int)] w fun e w' => (∃ x,e = .returned (.tuple #[x,.bool false])) ∧ Below w.heap.size w w' := by
 have HB : Hid (Below w.heap.size w (w.alloc (.cells #[.int .i64 2,.slice ap np cp,.slice av nv cv,.slice ak nk ck] 25))) := (Below.refl _ _).alloc (Nat.le_refl _) _; obtain ⟨hh0,q0,q1,q2,q3⟩ := Bx_new w (.int .i64 2,.slice ap np cp,.slice av nv cv,.slice ak nk ck); dsimp only at q0 q1 q2 q3; have e0 : ((np : Int) == 0) = false := beq_eq_false_iff_ne.2 (by omega); have e0' : (np == 0) = false := beq_eq_false_iff_ne.2 (by omega); have VW : Sp.Vw p ap (w.alloc (.cells #[.int .i64 2,.slice ap np cp,.slice av nv cv,.slice ak nk ck] 25)) := Sp.Vw_al vw _; have KP : Hid (∀ wx : World,Sp.Vw p ap wx → Calls Tryz.prog 52 #[.slice ap np cp] wx fun e w' => e = .returned (.bool true) ∧ w' = wx) := fun wx hv => by
  subst hn; refine (ispath_any p ap cp wx (by show (_ : Int) ≤ _; omega) hv).mono fun e w' h => ⟨?_,h.2⟩
  rw [h.1,show pb p = true from hp]
 have e1 : ((nk : Int) == 1) = false := beq_eq_false_iff_ne.2 (by omega); have e2 : (nk == 1) = false := beq_eq_false_iff_ne.2 hk; have e3 : ((nk : Int) != 1) = true := bne_iff_ne.2 (by omega); have e4 : (nk != 1) = true := bne_iff_ne.2 hk; clear hn hz h0 vw hp; go_enter Tryz.func54,Tryz.ntmps54
 go_wp2_with fail
 refine (KP.out _ VW).mono ?_; rintro e w1 ⟨rfl,rfl⟩; go_wp2_with fail
 go_ret2
 exact ⟨⟨_,rfl⟩,HB.out⟩
theorem rroad_kind (ap av : Option Addr) (np cp nv cv ck hh gk off : Nat) (w : World) (p : By) (hn : np = p.length) (hz : np ≤ 4194304) (h0 : 0 < np) (vw : Sp.Vw p ap w) (hp : ptb p = true) (q : Int) (hgk0 : gk < w.heap.size) (c0 : w.cell? ⟨gk,off,none⟩ = some (.int .i64 q)) (hq : q ≠ 3) :
  Calls Tryz.prog 54 #[.agg #[.int .i64 2,.slice ap np cp,.slice av nv cv,.slice (some ⟨gk,off,none⟩) 1 ck],.int .i64 (hh : Int)] w fun e w' => (∃ x,e = .returned (.tuple #[x,.bool false])) ∧ Below w.heap.size w w' := by
 have HB : Hid (Below w.heap.size w (w.alloc (.cells #[.int .i64 2,.slice ap np cp,.slice av nv cv,.slice (some ⟨gk,off,none⟩) 1 ck] 25))) := (Below.refl _ _).alloc (Nat.le_refl _) _; obtain ⟨hh0,q0,q1,q2,q3⟩ := Bx_new w (.int .i64 2,.slice ap np cp,.slice av nv cv,.slice (some ⟨gk,off,none⟩) 1 ck); dsimp only at q0 q1 q2 q3; have e0 : ((np : Int) == 0) = false := beq_eq_false_iff_ne.2 (by omega); have e0' : (np == 0) = false := beq_eq_false_iff_ne.2 (by omega); have VW : Sp.Vw p ap (w.alloc (.cells #[.int .i64 2,.slice ap np cp,.slice av nv cv,.slice (some ⟨gk,off,none⟩) 1 ck] 25)) := Sp.Vw_al vw _; have KP : Hid (∀ wx : World,Sp.Vw p ap wx → Calls Tryz.prog 52 #[.slice ap np cp] wx fun e w' => e = .returned (.bool true) ∧ w' = wx) := fun wx hv => by
  subst hn; refine (ispath_any p ap cp wx (by show (_ : Int) ≤ _; omega) hv).mono fun e w' h => ⟨?_,h.2⟩
  rw [h.1,show pb p = true from hp]
 have k0 := (HB.out.cell (p := ⟨gk,off,none⟩) hgk0).trans c0; have e3 : (q != 3) = true := bne_iff_ne.2 hq; clear hn hz h0 vw hp c0; go_enter Tryz.func54,Tryz.ntmps54
 go_wp2_with fail
 refine (KP.out _ VW).mono ?_; rintro e w1 ⟨rfl,rfl⟩; go_wp2_with fail
 go_ret2
 exact ⟨⟨_,rfl⟩,HB.out⟩
inductive RRI (W0 : World) (G : Option Addr → World → Prop) (ok : Bool) (ap av : Option Addr) (np cp nv cv ck hh gk off g0 : Nat) (b1 b2 b3 : Option Addr) (m1 d1 m2 d2 m3 d3 : Nat) (d : Nat → Bool) (x : Act) (wx : World) : Prop where
 | mk (u6 u7 u34 u35 u36 u37 u38 u39 u40 u41 u42 u43 u44 u45 u46 : Value) (hx : x = { tmps := #[.agg #[.int .i64 2,.slice ap np cp,.slice av nv cv,.slice (some ⟨gk,off,none⟩) 1 ck],.int .i64 (hh : Int),.pointer (some ⟨g0,0,none⟩),undef,.nilIface,.bool false,u6,u7,.pointer (some ⟨g0,1,none⟩),.slice ap np cp,.int .i64 (np : Int),.bool false,.bool false,.pointer (some ⟨g0,1,none⟩),.slice ap np cp,.bool true,.bool false,.bool false,undef,undef,.pointer (some ⟨g0,3,none⟩),.slice (some ⟨gk,off,none⟩) 1 ck,.int .i64 1,.bool false,.bool false,.pointer (some ⟨g0,3,none⟩),.slice (some ⟨gk,off,none⟩) 1 ck,.pointer (some ⟨gk,off,none⟩),.pointer (some ⟨gk,off,none⟩),.int .i64 3,.bool false,.bool false,undef,undef,u34,u35,u36,u37,u38,u39,u40,u41,u42,u43,u44,u45,u46,undef,undef,undef,undef,undef,undef],defers := [] }) (hw : Below W0.heap.size W0 wx) (p0 : d 0 = true → u35 = .pointer (some ⟨g0,3,none⟩)) (p1 : d 1 = true → u36 = .slice (some ⟨gk,off,none⟩) 1 ck) (p2 : d 2 = true → u37 = .pointer (some ⟨gk,off,none⟩)) (p3 : d 3 = true → u38 = .agg #[.int .i64 3,.slice b1 m1 d1,.slice b2 m2 d2,.slice b3 m3 d3]) (p4 : d 4 = true → u39 = .int .i64 (hh : Int)) (p5 : d 5 = true → u40 = .pointer (some ⟨g0,1,none⟩)) (p6 : d 6 = true → u41 = .slice ap np cp) (p7 : d 7 = true → u42 = .int .i64 (np : Int)) (p8 : d 8 = true → u43 = .int .i64 ((hh + np : Nat) : Int)) (p12 : d 12 = true → u46 = .bool ok) (p14 : d 14 = true → u7 = .bool ok) (z9 : d 9 = true → ∃ x,u44 = .tuple #[.pointer x,.bool ok] ∧ G x wx) (z10 : d 10 = true → ∃ x,u34 = .tuple #[.pointer x,.bool ok] ∧ G x wx) (z11 : d 11 = true → ∃ x,u45 = .pointer x ∧ G x wx) (z13 : d 13 = true → ∃ x,u6 = .pointer x ∧ G x wx) : RRI W0 G ok ap av np cp nv cv ck hh gk off g0 b1 b2 b3 m1 d1 m2 d2 m3 d3 d x wx
theorem rroad_fork (ap av : Option Addr) (np cp nv cv ck hh gk off : Nat) (w : World) (p : By) (hn : np = p.length) (hz : np ≤ 4194304) (h0 : 0 < np) (vw : Sp.Vw p ap w) (hp : ptb p = true) (hh6 : hh ≤ 4194304) (b1 b2 b3 : Option Addr) (m1 d1 m2 d2 m3 d3 : Nat) (hgk0 : gk < w.heap.size) (c0 : w.cell? ⟨gk,off,none⟩ = some (.int .i64 3)) (c1 : w.cell? ⟨gk,off + 1,none⟩ = some (.slice b1 m1 d1)) (c2 : w.cell? ⟨gk,off + 2,none⟩ = some (.slice b2 m2 d2)) (c3 : w.cell? ⟨gk,off + 3,none⟩ = some (.slice b3 m3 d3)) (ok : Bool) (G : Option Addr → World → Prop) (GB : Hid (∀ x w w',G x w → Below w.heap.size w w' → G x w')) (KR0 : Hid (∀ wx : World,Below w.heap.size w wx → Calls Tryz.prog 55 #[.agg #[.int .i64 3,.slice b1 m1 d1,.slice b2 m2 d2,.slice b3 m3 d3],.int .i64 ((hh + np : Nat) : Int)] wx fun e w' => ∃ x,e = .returned (.tuple #[.pointer x,.bool ok]) ∧ G x w' ∧ Below wx.heap.size wx w')) :
  Calls Tryz.prog 54 #[.agg #[.int .i64 2,.slice ap np cp,.slice av nv cv,.slice (some ⟨gk,off,none⟩) 1 ck],.int .i64 (hh : Int)] w fun e w' => ∃ x,e = .returned (.tuple #[.iface 125 (.agg #[.slice ap np cp,.pointer x]),.bool ok]) ∧ G x w' ∧ Below w.heap.size w w' := by
 have HB : Hid (Below w.heap.size w (w.alloc (.cells #[.int .i64 2,.slice ap np cp,.slice av nv cv,.slice (some ⟨gk,off,none⟩) 1 ck] 25))) := (Below.refl _ _).alloc (Nat.le_refl _) _; obtain ⟨hh0,q0,q1,q2,q3⟩ := Bx_new w (.int .i64 2,.slice ap np cp,.slice av nv cv,.slice (some ⟨gk,off,none⟩) 1 ck); dsimp only at q0 q1 q2 q3; have e0 : ((np : Int) == 0) = false := beq_eq_false_iff_ne.2 (by omega); have e0' : (np == 0) = false := beq_eq_false_iff_ne.2 (by omega); have VW : Sp.Vw p ap (w.alloc (.cells #[.int .i64 2,.slice ap np cp,.slice av nv cv,.slice (some ⟨gk,off,none⟩) 1 ck] 25)) := Sp.Vw_al vw _; have KP : Hid (∀ wx : World,Sp.Vw p ap wx → Calls Tryz.prog 52 #[.slice ap np cp] wx fun e w' => e = .returned (.bool true) ∧ w' = wx) := fun wx hv => by
  subst hn; refine (ispath_any p ap cp wx (by show (_ : Int) ≤ _; omega) hv).mono fun e w' h => ⟨?_,h.2⟩
  rw [h.1,show pb p = true from hp]
 have k0 := (HB.out.cell (p := ⟨gk,off,none⟩) hgk0).trans c0; have k1 := (HB.out.cell (p := ⟨gk,off + 1,none⟩) hgk0).trans c1; have k2 := (HB.out.cell (p := ⟨gk,off + 2,none⟩) hgk0).trans c2; have k3 := (HB.out.cell (p := ⟨gk,off + 3,none⟩) hgk0).trans c3; have hgk : gk < (w.alloc (.cells #[.int .i64 2,.slice ap np cp,.slice av nv cv,.slice (some ⟨gk,off,none⟩) 1 ck] 25)).heap.size := Nat.lt_of_lt_of_le hgk0 HB.out.size; have E1 : Hid (IntKind.i64.wrap ((hh : Int) + (np : Int)) = ((hh + np : Nat) : Int)) := wrap_add _ _ (by omega) (by omega); have KR : Hid (∀ wx : World,Below (w.alloc (.cells #[.int .i64 2,.slice ap np cp,.slice av nv cv,.slice (some ⟨gk,off,none⟩) 1 ck] 25)).heap.size (w.alloc (.cells #[.int .i64 2,.slice ap np cp,.slice av nv cv,.slice (some ⟨gk,off,none⟩) 1 ck] 25)) wx → Calls Tryz.prog 55 #[.agg #[.int .i64 3,.slice b1 m1 d1,.slice b2 m2 d2,.slice b3 m3 d3],.int .i64 ((hh + np : Nat) : Int)] wx fun e w' => ∃ x,e = .returned (.tuple #[.pointer x,.bool ok]) ∧ G x w' ∧ Below wx.heap.size wx w') := fun wx hb => KR0.out wx (HB.out.trans (hb.mono HB.out.size))
 clear hn hz h0 vw hp c0 c1 c2 c3 KR0 hgk0 hh6; go_enter Tryz.func54,Tryz.ntmps54
 go_wp2_with fail
 refine (KP.out _ VW).mono ?_; rintro e w1 ⟨rfl,rfl⟩; go_upto_region 5 with fail
 have HB' := HB.out; generalize (w.alloc (.cells #[.int .i64 2,.slice ap np cp,.slice av nv cv,.slice (some ⟨gk,off,none⟩) 1 ck] 25)) = W0 at *; have HG : Hid (w.heap.size ≤ W0.heap.size) := HB'.size; have hw0 : Below W0.heap.size W0 W0.drew := (Below.refl _ _).drew; generalize hg0 : w.heap.size = g0 at *; refine RI.wp_region_inv (RRI W0 G ok ap av np cp nv cv ck hh gk off g0 b1 b2 b3 m1 d1 m2 d2 m3 d3) (by kernel_rfl) (by kernel_rfl) ?_ ?_ ?_
 ·exact ⟨undef,undef,undef,undef,undef,undef,undef,undef,undef,undef,undef,undef,undef,undef,undef,rfl,hw0,nofun,nofun,nofun,nofun,nofun,nofun,nofun,nofun,nofun,nofun,nofun,nofun,nofun,nofun,nofun⟩
 ·skip
  intro d x wx i hI hi hm; obtain ⟨u6,u7,u34,u35,u36,u37,u38,u39,u40,u41,u42,u43,u44,u45,u46,rfl,hw,p0,p1,p2,p3,p4,p5,p6,p7,p8,p12,p14,z9,z10,z11,z13⟩ := hI; have hi' : i = 0 ∨ i = 1 ∨ i = 2 ∨ i = 3 ∨ i = 4 ∨ i = 5 ∨ i = 6 ∨ i = 7 ∨ i = 8 ∨ i = 9 ∨ i = 10 ∨ i = 11 ∨ i = 12 ∨ i = 13 ∨ i = 14 := by simp at hi; omega
  have hd := hm.2; have hf := hm.1; clear hm hi; rcases hi' with rfl | rfl | rfl | rfl | rfl | rfl | rfl | rfl | rfl | rfl | rfl | rfl | rfl | rfl | rfl
  ·refine RI.wpOp_plain rfl rfl ?_; go_simp; exact ⟨u6,u7,u34,_,u36,u37,u38,u39,u40,u41,u42,u43,u44,u45,u46,rfl,hw,fun _ => rfl,p1,p2,p3,p4,p5,p6,p7,p8,p12,p14,z9,z10,z11,z13⟩
  ·have hd := hd _ rfl; simp [Region.binds] at hd
   obtain rfl := p0 (by simp [hd]); refine RI.wpOp_plain rfl rfl ?_; have x0 := (hw.cell (p := ⟨g0,3,none⟩) hh0).trans q3; go_simp; exact ⟨u6,u7,u34,_,_,u37,u38,u39,u40,u41,u42,u43,u44,u45,u46,rfl,hw,p0,fun _ => rfl,p2,p3,p4,p5,p6,p7,p8,p12,p14,z9,z10,z11,z13⟩
  ·have hd := hd _ rfl; simp [Region.binds] at hd
   obtain rfl := p1 (by simp [hd]); refine RI.wpOp_plain rfl rfl ?_; go_simp; exact ⟨u6,u7,u34,u35,_,_,u38,u39,u40,u41,u42,u43,u44,u45,u46,rfl,hw,p0,p1,fun _ => rfl,p3,p4,p5,p6,p7,p8,p12,p14,z9,z10,z11,z13⟩
  ·have hd := hd _ rfl; simp [Region.binds] at hd
   obtain rfl := p2 (by simp [hd]); refine RI.wpOp_plain rfl rfl ?_; have x0 := (hw.cell (p := ⟨gk,off,none⟩) hgk).trans k0; have x1 := (hw.cell (p := ⟨gk,off + 1,none⟩) hgk).trans k1; have x2 := (hw.cell (p := ⟨gk,off + 2,none⟩) hgk).trans k2; have x3 := (hw.cell (p := ⟨gk,off + 3,none⟩) hgk).trans k3; go_simp; exact ⟨u6,u7,u34,u35,u36,_,_,u39,u40,u41,u42,u43,u44,u45,u46,rfl,hw,p0,p1,p2,fun _ => rfl,p4,p5,p6,p7,p8,p12,p14,z9,z10,z11,z13⟩
  ·refine RI.wpOp_plain rfl rfl ?_; go_simp; exact ⟨u6,u7,u34,u35,u36,u37,u38,_,u40,u41,u42,u43,u44,u45,u46,rfl,hw,p0,p1,p2,p3,fun _ => rfl,p5,p6,p7,p8,p12,p14,z9,z10,z11,z13⟩
  ·refine RI.wpOp_plain rfl rfl ?_; go_simp; exact ⟨u6,u7,u34,u35,u36,u37,u38,u39,_,u41,u42,u43,u44,u45,u46,rfl,hw,p0,p1,p2,p3,p4,fun _ => rfl,p6,p7,p8,p12,p14,z9,z10,z11,z13⟩
  ·have hd := hd _ rfl; simp [Region.binds] at hd
   obtain rfl := p5 (by simp [hd]); refine RI.wpOp_plain rfl rfl ?_; have x0 := (hw.cell (p := ⟨g0,1,none⟩) hh0).trans q1; go_simp; exact ⟨u6,u7,u34,u35,u36,u37,u38,u39,_,_,u42,u43,u44,u45,u46,rfl,hw,p0,p1,p2,p3,p4,p5,fun _ => rfl,p7,p8,p12,p14,z9,z10,z11,z13⟩
  ·have hd := hd _ rfl; simp [Region.binds] at hd
   obtain rfl := p6 (by simp [hd]); refine RI.wpOp_plain rfl rfl ?_; go_simp; exact ⟨u6,u7,u34,u35,u36,u37,u38,u39,u40,_,_,u43,u44,u45,u46,rfl,hw,p0,p1,p2,p3,p4,p5,p6,fun _ => rfl,p8,p12,p14,z9,z10,z11,z13⟩
  ·have hd := hd _ rfl; simp [Region.binds] at hd
   obtain rfl := p4 (by simp [hd]); obtain rfl := p7 (by simp [hd]); refine RI.wpOp_plain rfl rfl ?_; have e1 := E1.out; go_simp; exact ⟨u6,u7,u34,u35,u36,u37,u38,_,u40,u41,_,_,u44,u45,u46,rfl,hw,p0,p1,p2,p3,p4,p5,p6,p7,fun _ => rfl,p12,p14,z9,z10,z11,z13⟩
  ·have hd := hd _ rfl; simp [Region.binds] at hd
   obtain rfl := p3 (by simp [hd]); obtain rfl := p8 (by simp [hd]); refine RI.wpOp_plain rfl rfl ?_; go_simp; refine (KR.out _ hw).mono ?_; rintro e w1 ⟨x9,rfl,g9,hb1⟩; exact ⟨u6,u7,u34,u35,u36,u37,_,u39,u40,u41,u42,_,_,u45,u46,rfl,hw.trans (hb1.mono hw.size),p0,p1,p2,p3,p4,p5,p6,p7,p8,p12,p14,fun _ => ⟨_,rfl,g9⟩,(fun h => (z10 h).imp fun x hx => ⟨hx.1,GB.out _ _ _ hx.2 hb1⟩),(fun h => (z11 h).imp fun x hx => ⟨hx.1,GB.out _ _ _ hx.2 hb1⟩),(fun h => (z13 h).imp fun x hx => ⟨hx.1,GB.out _ _ _ hx.2 hb1⟩)⟩
  ·have hd := hd _ rfl; simp [Region.binds] at hd
   refine RI.wpOp_plain rfl rfl ?_; obtain ⟨x9,rfl,g9⟩ := z9 (by simp [hd]); go_simp; exact ⟨u6,u7,_,u35,u36,u37,u38,u39,u40,u41,u42,u43,_,u45,u46,rfl,hw,p0,p1,p2,p3,p4,p5,p6,p7,p8,p12,p14,z9,fun _ => ⟨_,rfl,g9⟩,z11,z13⟩
  ·have hd := hd _ rfl; simp [Region.binds] at hd
   refine RI.wpOp_plain rfl rfl ?_; obtain ⟨x9,rfl,g9⟩ := z10 (by simp [hd]); go_simp; exact ⟨u6,u7,_,u35,u36,u37,u38,u39,u40,u41,u42,u43,u44,_,u46,rfl,hw,p0,p1,p2,p3,p4,p5,p6,p7,p8,p12,p14,z9,z10,fun _ => ⟨_,rfl,g9⟩,z13⟩
  ·have hd := hd _ rfl; simp [Region.binds] at hd
   refine RI.wpOp_plain rfl rfl ?_; obtain ⟨x9,rfl,g9⟩ := z10 (by simp [hd]); go_simp; exact ⟨u6,u7,_,u35,u36,u37,u38,u39,u40,u41,u42,u43,u44,u45,_,rfl,hw,p0,p1,p2,p3,p4,p5,p6,p7,p8,fun _ => rfl,p14,z9,z10,z11,z13⟩
  ·have hd := hd _ rfl; simp [Region.binds] at hd
   obtain rfl := p0 (by simp [hd]); obtain rfl := p1 (by simp [hd]); obtain rfl := p2 (by simp [hd]); obtain rfl := p3 (by simp [hd]); obtain rfl := p4 (by simp [hd]); obtain rfl := p5 (by simp [hd]); obtain rfl := p6 (by simp [hd]); obtain rfl := p7 (by simp [hd]); obtain rfl := p8 (by simp [hd]); refine RI.wpOp_plain rfl rfl ?_; obtain ⟨x9,rfl,g9⟩ := z11 (by simp [hd]); go_simp; exact ⟨_,u7,u34,_,_,_,_,_,_,_,_,_,u44,_,u46,rfl,hw,p0,p1,p2,p3,p4,p5,p6,p7,p8,p12,p14,z9,z10,z11,fun _ => ⟨_,rfl,g9⟩⟩
  ·have hd := hd _ rfl; simp [Region.binds] at hd
   obtain rfl := p0 (by simp [hd]); obtain rfl := p1 (by simp [hd]); obtain rfl := p2 (by simp [hd]); obtain rfl := p3 (by simp [hd]); obtain rfl := p4 (by simp [hd]); obtain rfl := p5 (by simp [hd]); obtain rfl := p6 (by simp [hd]); obtain rfl := p7 (by simp [hd]); obtain rfl := p8 (by simp [hd]); obtain rfl := p12 (by simp [hd]); refine RI.wpOp_plain rfl rfl ?_; go_simp; exact ⟨u6,_,u34,_,_,_,_,_,_,_,_,_,u44,u45,_,rfl,hw,p0,p1,p2,p3,p4,p5,p6,p7,p8,p12,fun _ => rfl,z9,z10,z11,z13⟩
 ·skip
  intro d x wx hI hd; obtain ⟨u6,u7,u34,u35,u36,u37,u38,u39,u40,u41,u42,u43,u44,u45,u46,rfl,hw,p0,p1,p2,p3,p4,p5,p6,p7,p8,p12,p14,z9,z10,z11,z13⟩ := hI; obtain ⟨x6,rfl,g6⟩ := z13 (hd 13 (by decide)); obtain rfl := p14 (hd 14 (by decide)); clear p0 p1 p2 p3 p4 p5 p6 p7 p8 p12 z9 z10 z11 z13 p14; have x0 := (hw.cell (p := ⟨g0,1,none⟩) hh0).trans q1; have HG6 : Hid (G x6 wx) := g6; have HZ : Hid (Below w.heap.size w wx) := by show Below _ _ _; rw [hg0]; exact HB'.trans (hw.mono HG.out)
  clear g6 hw HB HB'; go_wp2_with fail
  go_ret2
  exact ⟨x6,rfl,HG6.out,HZ.out⟩
end Tr
end Go.Proofs.YtlbdaccmnpcccaaGreatDoor
namespace Go.Proofs.YtlbdaccmnpcccaaGreatDoor
namespace Tr
open Nb Go.RowKit
def FL (lo g : Nat) (vv : Value) (ks : List Nd) (k : Nat) (wr : World) : Prop :=
 ∃ (c : Array Value) (D : Nat → Nat → Prop),wr.heap[g]? = some (.cells c 141 (0,0)) ∧ c.size = 17 ∧ c.getD 0 undef = vv ∧ (∀ j,j < k → In lo wr (ks.getD j Nd.no) (c.getD (j + 1) undef) (D j)) ∧ (∀ j x,j < k → D j x → g < x ∧ x < wr.heap.size) ∧ ∀ i j x,i < k → j < k → D i x → D j x → i = j
theorem heap_setCell_same {w : World} {g o : Nat} {c : Array Value} {ty : TypeId} {fz : Nat × Nat} (h : w.heap[g]? = some (.cells c ty fz)) (x : Value) : (w.setCell ⟨g,o,none⟩ x).heap[g]? = some (.cells (c.setIfInBounds o x) ty fz) := by
 unfold World.setCell
 simp only [Array.getElem?_modify,h]; simp
theorem heap_setCell_other {w : World} {g o k : Nat} (x : Value) (h : k ≠ g) : (w.setCell ⟨g,o,none⟩ x).heap[k]? = w.heap[k]? := by
 unfold World.setCell
 simp only [Array.getElem?_modify]; rw [if_neg (fun e => h e.symm)]
theorem setCell_size {w : World} {a : Addr} (x : Value) : (w.setCell a x).heap.size = w.heap.size := by
 unfold World.setCell
 simp
theorem ch_set {lo g o : Nat} {w : World} {c : Array Value} (x : Value) (hlo : lo ≤ g) (h : w.heap[g]? = some (.cells c 141 (0,0))) : Ch lo (· = g) w (w.setCell ⟨g,o,none⟩ x) := by
 refine ⟨rfl,rfl,rfl,by rw [setCell_size]; exact Nat.le_refl _,fun k hk hn => ?_⟩
 by_cases e : k = g
 ·subst e; exact absurd ⟨rfl,hlo,c,h⟩ hn
 ·exact heap_setCell_other x e
theorem FL_below {lo g : Nat} {vv : Value} {ks : List Nd} {k : Nat} {wr w' : World} (h : FL lo g vv ks k wr) (hb : Below wr.heap.size wr w') : FL lo g vv ks k w' := by
 obtain ⟨c,D,h1,h2,h3,h4,h5,h6⟩ := h; refine ⟨c,D,by rw [hb.block g (Pk.lt_of_heap h1)]; exact h1,h2,h3,fun j hj => In_below (h4 j hj) hb,fun j x hj hx => ⟨(h5 j x hj hx).1,Nat.lt_of_lt_of_le (h5 j x hj hx).2 hb.size⟩,h6⟩
theorem FL_lt {lo g : Nat} {vv : Value} {ks : List Nd} {k : Nat} {wr : World} (h : FL lo g vv ks k wr) : g < wr.heap.size := by
 obtain ⟨c,D,h1,_⟩ := h; exact Pk.lt_of_heap h1
theorem getD_setIf (c : Array Value) (i j : Nat) (x : Value) (hi : i < c.size) : (c.setIfInBounds i x).getD j undef = if j = i then x else c.getD j undef := by
 rw [Array.getD_eq_getD_getElem?,Array.getD_eq_getD_getElem?,Array.getElem?_setIfInBounds]; by_cases e : i = j
 ·rw [if_pos e,if_pos e.symm,if_pos hi]; rfl
 ·rw [if_neg e,if_neg (fun h => e h.symm)]
theorem FL_step {lo g : Nat} {vv x : Value} {ks : List Nd} {k : Nat} {wa w1 : World} (hk : k < 16) (hlo : lo ≤ g) (h : FL lo g vv ks k wa) (hb : Below wa.heap.size wa w1) (hx : In lo w1 (ks.getD k Nd.no) x (fun y => wa.heap.size ≤ y)) : FL lo g vv ks (k + 1) (w1.setCell ⟨g,1 + k,none⟩ x) := by
 have hga := FL_lt h; obtain ⟨c,D,h1,h2,h3,h4,h5,h6⟩ := h; have b1 : w1.heap[g]? = some (.cells c 141 (0,0)) := by rw [hb.block g hga]; exact h1
 have hch : Ch lo (· = g) w1 (w1.setCell ⟨g,1 + k,none⟩ x) := ch_set x hlo b1; have hx' := In_lt hx; refine ⟨c.setIfInBounds (1 + k) x,fun j y => if j = k then (wa.heap.size ≤ y ∧ y < w1.heap.size) else D j y,heap_setCell_same b1 x,by simp [h2],by rw [getD_setIf _ _ _ _ (by omega),if_neg (by omega)]; exact h3,fun j hj => ?_,fun j y hj hy => ?_,fun i j y hi hj hy hz => ?_⟩
 ·rw [getD_setIf _ _ _ _ (by omega)]; by_cases e : j = k
  ·subst e; rw [if_pos (by omega)]; simp only [if_true]; exact In_ch hx' hch (fun y _ hy e => by have := hy.1; omega)
  ·rw [if_neg (by omega)]; simp only [if_neg e]; exact In_ch (In_below (h4 j (by omega)) hb) hch (fun y _ hy e => by have := (h5 j y (by omega) hy).1; omega)
 ·rw [setCell_size]; by_cases e : j = k
  ·simp only [if_pos e] at hy; omega
  ·simp only [if_neg e] at hy; have := h5 j y (by omega) hy; have := hb.size; omega
 ·by_cases e : i = k
  ·by_cases e2 : j = k
   ·omega
   ·simp only [if_pos e,if_neg e2] at hy hz; have := (h5 j y (by omega) hz).2; omega
  ·by_cases e2 : j = k
   ·simp only [if_neg e,if_pos e2] at hy hz; have := (h5 i y (by omega) hy).2; omega
   ·simp only [if_neg e,if_neg e2] at hy hz; exact h6 i j y (by omega) (by omega) hy hz
theorem FL_start {lo g : Nat} {vv : Value} {ks : List Nd} {w : World} {c : Array Value} (h1 : w.heap[g]? = some (.cells c 141 (0,0))) (h2 : c.size = 17) (h3 : c.getD 0 undef = vv) : FL lo g vv ks 0 w :=
 ⟨c,fun _ _ => False,h1,h2,h3,fun j hj => absurd hj (by omega),fun j x hj => absurd hj (by omega),fun i j x hi => absurd hi (by omega)⟩
theorem FL_in {lo g : Nat} {p v : By} {vv : Value} {ks : List Nd} {w : World} {B : Nat} (h : FL lo g vv ks 16 w) (hl : ks.length = 16) (hlo : lo ≤ g) (hv : Bs (Sb lo w) v vv w) (hB : B ≤ g) : In lo w (.mk 3 p v ks) (.iface 113 (.pointer (some ⟨g,0,none⟩))) (fun x => B ≤ x) := by
 obtain ⟨c,D,h1,h2,h3,h4,h5,h6⟩ := h; exact .fork p v ks g c _ D hl hlo h1 h2 hB (by rw [h3]; exact hv) h4 (fun j hj hg => by have := (h5 j g hj hg).1; omega) h6 (fun j x hj hx => by have := (h5 j x hj hx).1; omega)
theorem dec2 (n : Nat) : decide (2 ≤ n) = decide ((2 : Int) ≤ (n : Int)) := by
 rw [decide_eq_decide]; omega
theorem FL_cell {lo g : Nat} {vv : Value} {ks : List Nd} {k : Nat} {w : World} (h : FL lo g vv ks k w) {j : Nat} (hj : j < 16) : ∃ x,w.cell? ⟨g,1 + j,none⟩ = some x := by
 obtain ⟨c,D,h1,h2,_⟩ := h; exact ⟨_,cell_fork h1 (1 + j) (by omega)⟩
theorem FL_frozen {lo g : Nat} {vv : Value} {ks : List Nd} {k : Nat} {w : World} (h : FL lo g vv ks k w) (o : Nat) : w.frozen? ⟨g,o,none⟩ = false := by
 obtain ⟨c,D,h1,h2,_⟩ := h; unfold World.frozen?
 simp [h1]
theorem all_no {okf : Nat → Bool} {k : Nat} {b : Bool} (hk : k < 16) (h : okf k = false) : ((List.range 16).all okf && b) = false := by
 rw [Bool.and_eq_false_iff]; left
 rw [List.all_eq_false]; exact ⟨k,List.mem_range.2 hk,by rw [h]; decide⟩
theorem rfork_ok (ap av : Option Addr) (np cp nv cv ck hh gk off : Nat) (w : World) (lo : Nat) (hlo : lo ≤ w.heap.size) (ks : List Nd) (vs : List V4) (p v : By) (hl : ks.length = 16) (hh6 : hh ≤ 64) (hnv : nv = v.length) (hmv : v = [] ∨ may v hh = true)
  (hv : Bs (· < lo) v (.slice av nv cv) w) (hgk : gk < w.heap.size)
  (hc : Hid (∀ j,j < 16 → w.cell? ⟨gk,off + 4 * j,none⟩ = some (vs.getD j n4).1 ∧ w.cell? ⟨gk,off + 4 * j + 1,none⟩ = some (vs.getD j n4).2.1 ∧ w.cell? ⟨gk,off + 4 * j + 2,none⟩ = some (vs.getD j n4).2.2.1 ∧ w.cell? ⟨gk,off + 4 * j + 3,none⟩ = some (vs.getD j n4).2.2.2))
  (okf : Nat → Bool) (hf : Hid (∀ j,j < 16 → ∃ k a1 n1 c1 a2 n2 c2 a3 n3 c3,vs.getD j n4 = (.int .i64 k,.slice a1 n1 c1,.slice a2 n2 c2,.slice a3 n3 c3)))
  (KR : Hid (∀ j,j < 16 → ∀ wx : World,Below w.heap.size w wx → Calls Tryz.prog 30 #[v4 (vs.getD j n4),.int .i64 ((hh + 1 : Nat) : Int)] wx fun e w' => ∃ x,e = .returned (.tuple #[x,.bool (okf j)]) ∧ (okf j = true → In lo w' (ks.getD j Nd.no) x (fun y => wx.heap.size ≤ y)) ∧ Below wx.heap.size wx w')) :
  Calls Tryz.prog 55 #[.agg #[.int .i64 3,.slice ap np cp,.slice av nv cv,.slice (some ⟨gk,off,none⟩) 16 ck],.int .i64 (hh : Int)] w fun e w' => ∃ x,e = .returned (.tuple #[.pointer x,.bool ((List.range 16).all okf && decide (2 ≤ pts v ks))]) ∧ (((List.range 16).all okf && decide (2 ≤ pts v ks)) = true → ∃ g,x = some ⟨g,0,none⟩ ∧ In lo w' (.mk 3 p v ks) (.iface 113 (.pointer (some ⟨g,0,none⟩))) (fun y => w.heap.size ≤ y)) ∧ Below w.heap.size w w' := by
 have HB : Below w.heap.size w (w.alloc (.cells #[.int .i64 3,.slice ap np cp,.slice av nv cv,.slice (some ⟨gk,off,none⟩) 16 ck] 25)) := (Below.refl _ _).alloc (Nat.le_refl _) _; obtain ⟨hh0,q0,q1,q2,q3⟩ := Bx_new w (.int .i64 3,.slice ap np cp,.slice av nv cv,.slice (some ⟨gk,off,none⟩) 16 ck); dsimp only at q0 q1 q2 q3; have d64 : decide ((64 : Int) < (hh : Int)) = false := decide_eq_false (by omega); have E1 : Hid (wrap64 ((hh : Int) + 1) = ((hh + 1 : Nat) : Int)) := by show _ = _; unfold wrap64; omega
 have KM : Hid (∀ wx : World,Calls Tryz.prog 53 #[.slice av nv cv,.int .i64 (hh : Int)] wx fun e w' => e = .returned (.bool (may v hh)) ∧ w' = wx) := fun wx => by
  subst hnv; exact mayhave_any v hh av cv wx
 have hS1 : (w.alloc (.cells #[.int .i64 3,.slice ap np cp,.slice av nv cv,.slice (some ⟨gk,off,none⟩) 16 ck] 25)).heap.size = w.heap.size + 1 := by simp
 have HB2 : Hid (Below w.heap.size w ((w.alloc (.cells #[.int .i64 3,.slice ap np cp,.slice av nv cv,.slice (some ⟨gk,off,none⟩) 16 ck] 25)).alloc (.cells #[.slice av nv cv,.nilIface,.nilIface,.nilIface,.nilIface,.nilIface,.nilIface,.nilIface,.nilIface,.nilIface,.nilIface,.nilIface,.nilIface,.nilIface,.nilIface,.nilIface,.nilIface] 141))) := HB.alloc (by rw [hS1]; omega) _
 have HA := heap_alloc_new (w.alloc (.cells #[.int .i64 3,.slice ap np cp,.slice av nv cv,.slice (some ⟨gk,off,none⟩) 16 ck] 25)) (.cells #[.slice av nv cv,.nilIface,.nilIface,.nilIface,.nilIface,.nilIface,.nilIface,.nilIface,.nilIface,.nilIface,.nilIface,.nilIface,.nilIface,.nilIface,.nilIface,.nilIface,.nilIface] 141); rw [hS1] at HA; have F0 : FL lo (w.heap.size + 1) (.slice av nv cv) ks 0 ((w.alloc (.cells #[.int .i64 3,.slice ap np cp,.slice av nv cv,.slice (some ⟨gk,off,none⟩) 16 ck] 25)).alloc (.cells #[.slice av nv cv,.nilIface,.nilIface,.nilIface,.nilIface,.nilIface,.nilIface,.nilIface,.nilIface,.nilIface,.nilIface,.nilIface,.nilIface,.nilIface,.nilIface,.nilIface,.nilIface] 141)) := FL_start HA rfl rfl; have HV : Hid (Bs (· < lo) v (.slice av nv cv) w) := hv; have HN : Hid (nv = v.length) := hnv; have KP : Hid (∀ wx : World,FL lo (w.heap.size + 1) (.slice av nv cv) ks 16 wx → Calls Tryz.prog 73 #[.pointer (some ⟨w.heap.size + 1,0,none⟩)] wx fun e w' => e = .returned (.int .i64 (pts v ks : Nat)) ∧ Below wx.heap.size wx w') := fun wx hF => by
  obtain ⟨c,D,h1,h2,h3,h4,h5,h6⟩ := hF; exact parts_any v ks (w.heap.size + 1) c wx av cv hl h1 h2 (by rw [h3,hnv]) (fun j hj w2 => isnone_in (h4 j hj) w2)
 have HR : Hid (lo ≤ w.heap.size) := hlo; have HL : Hid (ks.length = 16) := hl; clear hv HA hnv hlo hl; by_cases h0 : nv = 0
 ·have dn : decide ((0 : Int) < (nv : Int)) = false := decide_eq_false (by omega); have dn' : decide (0 < nv) = false := decide_eq_false (by omega); clear h0 hmv KM; go_enter Tryz.func55,Tryz.ntmps55
  go_wp2_with fail
  generalize (w.alloc (.cells #[.int .i64 3,.slice ap np cp,.slice av nv cv,.slice (some ⟨gk,off,none⟩) 16 ck] 25)).alloc (.cells #[.slice av nv cv,.nilIface,.nilIface,.nilIface,.nilIface,.nilIface,.nilIface,.nilIface,.nilIface,.nilIface,.nilIface,.nilIface,.nilIface,.nilIface,.nilIface,.nilIface,.nilIface] 141) = W1 at *; clear q0 q1 q2 q3 hh0 HB hS1; go_loopw [37] (fun i wr => ∃ k : Nat,k ≤ 16 ∧ i = .int .i64 (k : Int) ∧ FL lo (w.heap.size + 1) (.slice av nv cv) ks k wr ∧ Below w.heap.size w wr ∧ ∀ j,j < k → okf j = true) (fun i _ => ((16 : Int) - intOf i).toNat)
  case atStart => exact ⟨0,Nat.zero_le _,rfl,F0,HB2.out,fun j hj => absurd hj (by omega)⟩
  case round =>
   obtain ⟨k,hk,rfl,hF,hB,hok⟩ := hrel; by_cases hlt : k < 16
   ·have d1 : decide ((k : Int) < 16) = true := decide_eq_true (by omega); have d2 : (0 : Int) ≤ (k : Int) := by omega
    have d3 : (k : Int) < 16 := by omega
    obtain ⟨y0,y1,y2,y3⟩ := hc.out k hlt; obtain ⟨kk,b1,m1,d1',b2,m2,d2',b3,m3,d3',eF⟩ := hf.out k hlt; have KRk := KR.out k hlt; rw [eF] at y0 y1 y2 y3 KRk; dsimp only [v4] at y0 y1 y2 y3 KRk; have ec : ((hh + 1 : Nat) : Int) = (hh : Int) + 1 := by omega
    rw [ec] at KRk; clear ec; have z0 := (hB.cell (p := ⟨gk,off + 4 * k,none⟩) hgk).trans y0; have z1 := (hB.cell (p := ⟨gk,off + 4 * k + 1,none⟩) hgk).trans y1; have z2 := (hB.cell (p := ⟨gk,off + 4 * k + 2,none⟩) hgk).trans y2; have z3 := (hB.cell (p := ⟨gk,off + 4 * k + 3,none⟩) hgk).trans y3; rw [Nat.mul_comm 4 k] at z0 z1 z2 z3; have HK : Hid (∀ wx : World,Below w.heap.size w wx → Calls Tryz.prog 30 #[.agg #[.int .i64 kk,.slice b1 m1 d1',.slice b2 m2 d2',.slice b3 m3 d3'],.int .i64 ((hh : Int) + 1)] wx fun e w' => ∃ x,e = .returned (.tuple #[x,.bool (okf k)]) ∧ (okf k = true → In lo w' (ks.getD k Nd.no) x (fun y => wx.heap.size ≤ y)) ∧ Below wx.heap.size wx w') := KRk
    have E5 : Hid (wrap64 ((k : Int) + 1) = ((k + 1 : Nat) : Int)) := by show _ = _; unfold wrap64; omega
    have HFk : Hid (FL lo (w.heap.size + 1) (.slice av nv cv) ks k wr) := hF; have bA : Below wr.heap.size wr (wr.alloc (.cells #[.int .i64 kk,.slice b1 m1 d1',.slice b2 m2 d2',.slice b3 m3 d3'] 25)) := (Below.refl _ _).alloc (Nat.le_refl _) _; have HFa : Hid (FL lo (w.heap.size + 1) (.slice av nv cv) ks k (wr.alloc (.cells #[.int .i64 kk,.slice b1 m1 d1',.slice b2 m2 d2',.slice b3 m3 d3'] 25))) := FL_below hF bA; have HBa : Hid (Below w.heap.size w (wr.alloc (.cells #[.int .i64 kk,.slice b1 m1 d1',.slice b2 m2 d2',.slice b3 m3 d3'] 25))) := hB.trans (bA.mono hB.size); have HOK : Hid (∀ j,j < k → okf j = true) := hok; clear y0 y1 y2 y3 KRk eF hF hok bA hB; go_wp2_with fail
    refine (HK.out _ HBa.out).mono ?_; rintro e w1 ⟨x,rfl,hi,hb1⟩; have HI : Hid (okf k = true → In lo w1 (ks.getD k Nd.no) x (fun y => (wr.alloc (.cells #[.int .i64 kk,.slice b1 m1 d1',.slice b2 m2 d2',.slice b3 m3 d3'] 25)).heap.size ≤ y)) := hi
    have HB1 : Hid (Below (wr.alloc (.cells #[.int .i64 kk,.slice b1 m1 d1',.slice b2 m2 d2',.slice b3 m3 d3'] 25)).heap.size (wr.alloc (.cells #[.int .i64 kk,.slice b1 m1 d1',.slice b2 m2 d2',.slice b3 m3 d3'] 25)) w1) := hb1; clear hi hb1 HK z0 z1 z2 z3; generalize (wr.alloc (.cells #[.int .i64 kk,.slice b1 m1 d1',.slice b2 m2 d2',.slice b3 m3 d3'] 25)) = wa at *; have HZ : Hid (Below w.heap.size w w1) := HBa.out.trans (HB1.out.mono HBa.out.size); cases hkk : okf k with
    | false =>
     have HA : Hid (((List.range 16).all okf && decide (2 ≤ pts v ks)) = false) := all_no hlt hkk; go_wp2_with fail
     go_ret2
     exact ⟨none,by rw [HA.out]; rfl,fun h => absurd (HA.out.symm.trans h) (by decide),HZ.out⟩
    | true =>
     obtain ⟨ty,y,rfl⟩ := In_form (HI.out hkk); have HS : Hid (FL lo (w.heap.size + 1) (.slice av nv cv) ks (k + 1) (w1.setCell ⟨w.heap.size + 1,1 + k,none⟩ (.iface ty y))) := FL_step hlt (by have := HR.out; omega) HFa.out HB1.out (HI.out hkk)
     have HBs : Hid (Below w.heap.size w (w1.setCell ⟨w.heap.size + 1,1 + k,none⟩ (.iface ty y))) := HZ.out.setCell (by dsimp only; omega) _
     obtain ⟨cc,hcc⟩ := FL_cell (FL_below HFa.out HB1.out) hlt; have hz := FL_frozen (FL_below HFa.out HB1.out) (1 + k); go_wp2_with fail
     exact ⟨⟨k + 1,hlt,by rw [Int.natCast_succ],HS.out,HBs.out,fun j hj => by
      by_cases e : j = k
      ·rw [e]; exact hkk
      ·exact HOK.out j (by omega)⟩,by simp only [intOf]; omega⟩
   ·have d1 : decide ((k : Int) < 16) = false := decide_eq_false (by omega); have ek : k = 16 := by omega
    subst ek; have HFk : Hid (FL lo (w.heap.size + 1) (.slice av nv cv) ks 16 wr) := hF; have HBk : Hid (Below w.heap.size w wr) := hB; have HOK : Hid ((List.range 16).all okf = true) := List.all_eq_true.2 (fun j hj => hok j (List.mem_range.1 hj))
    clear hF hB hok d1; go_wp2_with fail
    refine (KP.out _ HFk.out).mono ?_; rintro e w1 ⟨rfl,hb1⟩; have HF1 : Hid (FL lo (w.heap.size + 1) (.slice av nv cv) ks 16 w1) := FL_below HFk.out hb1; have HZ : Hid (Below w.heap.size w w1) := HBk.out.trans (hb1.mono HBk.out.size); clear hb1; go_wp2_with fail
    go_ret2
    exact ⟨some ⟨w.heap.size + 1,0,none⟩,by rw [HOK.out,Bool.true_and,dec2]; rfl,fun _ => ⟨_,rfl,FL_in HF1.out HL.out (by have := HR.out; omega) (Bs_lo (Bs_below HV.out HZ.out)) (by omega)⟩,HZ.out⟩
 ·have hm : may v hh = true := by
   rcases hmv with h | h
   ·have := HN.out; rw [h] at this; exact absurd this h0
   ·exact h
  rw [hm] at KM; have dn : decide ((0 : Int) < (nv : Int)) = true := decide_eq_true (by omega); have dn' : decide (0 < nv) = true := decide_eq_true (by omega); clear h0 hmv hm; go_enter Tryz.func55,Tryz.ntmps55
  go_wp2_with fail
  refine (KM.out _).mono ?_; rintro e w1 ⟨rfl,rfl⟩; go_wp2_with fail
  generalize (w.alloc (.cells #[.int .i64 3,.slice ap np cp,.slice av nv cv,.slice (some ⟨gk,off,none⟩) 16 ck] 25)).alloc (.cells #[.slice av nv cv,.nilIface,.nilIface,.nilIface,.nilIface,.nilIface,.nilIface,.nilIface,.nilIface,.nilIface,.nilIface,.nilIface,.nilIface,.nilIface,.nilIface,.nilIface,.nilIface] 141) = W1 at *; clear q0 q1 q2 q3 hh0 HB hS1; go_loopw [37] (fun i wr => ∃ k : Nat,k ≤ 16 ∧ i = .int .i64 (k : Int) ∧ FL lo (w.heap.size + 1) (.slice av nv cv) ks k wr ∧ Below w.heap.size w wr ∧ ∀ j,j < k → okf j = true) (fun i _ => ((16 : Int) - intOf i).toNat)
  case atStart => exact ⟨0,Nat.zero_le _,rfl,F0,HB2.out,fun j hj => absurd hj (by omega)⟩
  case round =>
   obtain ⟨k,hk,rfl,hF,hB,hok⟩ := hrel; by_cases hlt : k < 16
   ·have d1 : decide ((k : Int) < 16) = true := decide_eq_true (by omega); have d2 : (0 : Int) ≤ (k : Int) := by omega
    have d3 : (k : Int) < 16 := by omega
    obtain ⟨y0,y1,y2,y3⟩ := hc.out k hlt; obtain ⟨kk,b1,m1,d1',b2,m2,d2',b3,m3,d3',eF⟩ := hf.out k hlt; have KRk := KR.out k hlt; rw [eF] at y0 y1 y2 y3 KRk; dsimp only [v4] at y0 y1 y2 y3 KRk; have ec : ((hh + 1 : Nat) : Int) = (hh : Int) + 1 := by omega
    rw [ec] at KRk; clear ec; have z0 := (hB.cell (p := ⟨gk,off + 4 * k,none⟩) hgk).trans y0; have z1 := (hB.cell (p := ⟨gk,off + 4 * k + 1,none⟩) hgk).trans y1; have z2 := (hB.cell (p := ⟨gk,off + 4 * k + 2,none⟩) hgk).trans y2; have z3 := (hB.cell (p := ⟨gk,off + 4 * k + 3,none⟩) hgk).trans y3; rw [Nat.mul_comm 4 k] at z0 z1 z2 z3; have HK : Hid (∀ wx : World,Below w.heap.size w wx → Calls Tryz.prog 30 #[.agg #[.int .i64 kk,.slice b1 m1 d1',.slice b2 m2 d2',.slice b3 m3 d3'],.int .i64 ((hh : Int) + 1)] wx fun e w' => ∃ x,e = .returned (.tuple #[x,.bool (okf k)]) ∧ (okf k = true → In lo w' (ks.getD k Nd.no) x (fun y => wx.heap.size ≤ y)) ∧ Below wx.heap.size wx w') := KRk
    have E5 : Hid (wrap64 ((k : Int) + 1) = ((k + 1 : Nat) : Int)) := by show _ = _; unfold wrap64; omega
    have HFk : Hid (FL lo (w.heap.size + 1) (.slice av nv cv) ks k wr) := hF; have bA : Below wr.heap.size wr (wr.alloc (.cells #[.int .i64 kk,.slice b1 m1 d1',.slice b2 m2 d2',.slice b3 m3 d3'] 25)) := (Below.refl _ _).alloc (Nat.le_refl _) _; have HFa : Hid (FL lo (w.heap.size + 1) (.slice av nv cv) ks k (wr.alloc (.cells #[.int .i64 kk,.slice b1 m1 d1',.slice b2 m2 d2',.slice b3 m3 d3'] 25))) := FL_below hF bA; have HBa : Hid (Below w.heap.size w (wr.alloc (.cells #[.int .i64 kk,.slice b1 m1 d1',.slice b2 m2 d2',.slice b3 m3 d3'] 25))) := hB.trans (bA.mono hB.size); have HOK : Hid (∀ j,j < k → okf j = true) := hok; clear y0 y1 y2 y3 KRk eF hF hok bA hB; go_wp2_with fail
    refine (HK.out _ HBa.out).mono ?_; rintro e w1 ⟨x,rfl,hi,hb1⟩; have HI : Hid (okf k = true → In lo w1 (ks.getD k Nd.no) x (fun y => (wr.alloc (.cells #[.int .i64 kk,.slice b1 m1 d1',.slice b2 m2 d2',.slice b3 m3 d3'] 25)).heap.size ≤ y)) := hi
    have HB1 : Hid (Below (wr.alloc (.cells #[.int .i64 kk,.slice b1 m1 d1',.slice b2 m2 d2',.slice b3 m3 d3'] 25)).heap.size (wr.alloc (.cells #[.int .i64 kk,.slice b1 m1 d1',.slice b2 m2 d2',.slice b3 m3 d3'] 25)) w1) := hb1; clear hi hb1 HK z0 z1 z2 z3; generalize (wr.alloc (.cells #[.int .i64 kk,.slice b1 m1 d1',.slice b2 m2 d2',.slice b3 m3 d3'] 25)) = wa at *; have HZ : Hid (Below w.heap.size w w1) := HBa.out.trans (HB1.out.mono HBa.out.size); cases hkk : okf k with
    | false =>
     have HA : Hid (((List.range 16).all okf && decide (2 ≤ pts v ks)) = false) := all_no hlt hkk; go_wp2_with fail
     go_ret2
     exact ⟨none,by rw [HA.out]; rfl,fun h => absurd (HA.out.symm.trans h) (by decide),HZ.out⟩
    | true =>
     obtain ⟨ty,y,rfl⟩ := In_form (HI.out hkk); have HS : Hid (FL lo (w.heap.size + 1) (.slice av nv cv) ks (k + 1) (w1.setCell ⟨w.heap.size + 1,1 + k,none⟩ (.iface ty y))) := FL_step hlt (by have := HR.out; omega) HFa.out HB1.out (HI.out hkk)
     have HBs : Hid (Below w.heap.size w (w1.setCell ⟨w.heap.size + 1,1 + k,none⟩ (.iface ty y))) := HZ.out.setCell (by dsimp only; omega) _
     obtain ⟨cc,hcc⟩ := FL_cell (FL_below HFa.out HB1.out) hlt; have hz := FL_frozen (FL_below HFa.out HB1.out) (1 + k); go_wp2_with fail
     exact ⟨⟨k + 1,hlt,by rw [Int.natCast_succ],HS.out,HBs.out,fun j hj => by
      by_cases e : j = k
      ·rw [e]; exact hkk
      ·exact HOK.out j (by omega)⟩,by simp only [intOf]; omega⟩
   ·have d1 : decide ((k : Int) < 16) = false := decide_eq_false (by omega); have ek : k = 16 := by omega
    subst ek; have HFk : Hid (FL lo (w.heap.size + 1) (.slice av nv cv) ks 16 wr) := hF; have HBk : Hid (Below w.heap.size w wr) := hB; have HOK : Hid ((List.range 16).all okf = true) := List.all_eq_true.2 (fun j hj => hok j (List.mem_range.1 hj))
    clear hF hB hok d1; go_wp2_with fail
    refine (KP.out _ HFk.out).mono ?_; rintro e w1 ⟨rfl,hb1⟩; have HF1 : Hid (FL lo (w.heap.size + 1) (.slice av nv cv) ks 16 w1) := FL_below HFk.out hb1; have HZ : Hid (Below w.heap.size w w1) := HBk.out.trans (hb1.mono HBk.out.size); clear hb1; go_wp2_with fail
    go_ret2
    exact ⟨some ⟨w.heap.size + 1,0,none⟩,by rw [HOK.out,Bool.true_and,dec2]; rfl,fun _ => ⟨_,rfl,FL_in HF1.out HL.out (by have := HR.out; omega) (Bs_lo (Bs_below HV.out HZ.out)) (by omega)⟩,HZ.out⟩
theorem rfork_deep (ap av ak : Option Addr) (np cp nv cv nk ck hh : Nat) (w : World) (h : 64 < hh) :
  Calls Tryz.prog 55 #[.agg #[.int .i64 3,.slice ap np cp,.slice av nv cv,.slice ak nk ck],.int .i64 (hh : Int)] w fun e w' => e = .returned (.tuple #[.pointer none,.bool false]) ∧ Below w.heap.size w w' := by
 have HB : Hid (Below w.heap.size w (w.alloc (.cells #[.int .i64 3,.slice ap np cp,.slice av nv cv,.slice ak nk ck] 25))) := (Below.refl _ _).alloc (Nat.le_refl _) _; obtain ⟨hh0,q0,q1,q2,q3⟩ := Bx_new w (.int .i64 3,.slice ap np cp,.slice av nv cv,.slice ak nk ck); dsimp only at q0 q1 q2 q3; have d64 : decide ((64 : Int) < (hh : Int)) = true := decide_eq_true (by omega); go_enter Tryz.func55,Tryz.ntmps55
 go_wp2_with fail
 go_ret2
 exact ⟨rfl,HB.out⟩
theorem rfork_kids (ap av ak : Option Addr) (np cp nv cv nk ck hh : Nat) (w : World) (h : hh ≤ 64) (hk : nk ≠ 16) :
  Calls Tryz.prog 55 #[.agg #[.int .i64 3,.slice ap np cp,.slice av nv cv,.slice ak nk ck],.int .i64 (hh : Int)] w fun e w' => e = .returned (.tuple #[.pointer none,.bool false]) ∧ Below w.heap.size w w' := by
 have HB : Hid (Below w.heap.size w (w.alloc (.cells #[.int .i64 3,.slice ap np cp,.slice av nv cv,.slice ak nk ck] 25))) := (Below.refl _ _).alloc (Nat.le_refl _) _; obtain ⟨hh0,q0,q1,q2,q3⟩ := Bx_new w (.int .i64 3,.slice ap np cp,.slice av nv cv,.slice ak nk ck); dsimp only at q0 q1 q2 q3; have d64 : decide ((64 : Int) < (hh : Int)) = false := decide_eq_false (by omega); have e3 : ((nk : Int) != 16) = true := bne_iff_ne.2 (by omega); have e4 : (nk != 16) = true := bne_iff_ne.2 hk; clear hk; go_enter Tryz.func55,Tryz.ntmps55
 go_wp2_with fail
 go_ret2
 exact ⟨rfl,HB.out⟩
theorem rfork_value (ap av ak : Option Addr) (np cp nv cv nk ck hh : Nat) (w : World) (h : hh ≤ 64) (hk : nk = 16) (v : By) (hnv : nv = v.length) (h0 : v ≠ []) (hm : may v hh = false) :
  Calls Tryz.prog 55 #[.agg #[.int .i64 3,.slice ap np cp,.slice av nv cv,.slice ak nk ck],.int .i64 (hh : Int)] w fun e w' => e = .returned (.tuple #[.pointer none,.bool false]) ∧ Below w.heap.size w w' := by
 have HB : Hid (Below w.heap.size w (w.alloc (.cells #[.int .i64 3,.slice ap np cp,.slice av nv cv,.slice ak nk ck] 25))) := (Below.refl _ _).alloc (Nat.le_refl _) _; obtain ⟨hh0,q0,q1,q2,q3⟩ := Bx_new w (.int .i64 3,.slice ap np cp,.slice av nv cv,.slice ak nk ck); dsimp only at q0 q1 q2 q3; have d64 : decide ((64 : Int) < (hh : Int)) = false := decide_eq_false (by omega); subst hk; have KM : Hid (∀ wx : World,Calls Tryz.prog 53 #[.slice av nv cv,.int .i64 (hh : Int)] wx fun e w' => e = .returned (.bool false) ∧ w' = wx) := fun wx => by
  subst hnv; rw [← hm]; exact mayhave_any v hh av cv wx
 have h1 : 0 < nv := by rw [hnv]; exact List.length_pos_iff.2 h0
 have dn : decide ((0 : Int) < (nv : Int)) = true := decide_eq_true (by omega); have dn' : decide (0 < nv) = true := decide_eq_true h1; clear hnv h1; go_enter Tryz.func55,Tryz.ntmps55
 go_wp2_with fail
 refine (KM.out _).mono ?_; rintro e w1 ⟨rfl,rfl⟩; go_wp2_with fail
 go_ret2
 exact ⟨rfl,HB.out⟩
end Tr
end Go.Proofs.YtlbdaccmnpcccaaGreatDoor
namespace Go.Proofs.YtlbdaccmnpcccaaGreatDoor
namespace Tr
open Nb Go.RowKit
def RP (lo h : Nat) (t : Nd) (w : World) (e : Ending) (w' : World) : Prop := ∃ x,e = .returned (.tuple #[x,.bool (rd h t)]) ∧ (rd h t = true → In lo w' t x (fun y => w.heap.size ≤ y)) ∧ Below w.heap.size w w'
def FP (lo h : Nat) (t : Nd) (w : World) (e : Ending) (w' : World) : Prop := ∃ x,e = .returned (.tuple #[.pointer x,.bool (rd h t)]) ∧ (rd h t = true → ∃ g,x = some ⟨g,0,none⟩ ∧ In lo w' t (.iface 113 (.pointer (some ⟨g,0,none⟩))) (fun y => w.heap.size ≤ y)) ∧ Below w.heap.size w w'
theorem rda_range (ks : List Nd) (h : Nat) (hl : ks.length = 16) : rda h ks = (List.range 16).all (fun j => rd h (ks.getD j Nd.no)) := by
 rw [Bool.eq_iff_iff,rda_iff,List.all_eq_true,hl]; constructor
 ·intro hh j hj; exact hh j (List.mem_range.1 hj)
 ·intro hh j hj; exact hh j (List.mem_range.2 hj)
theorem rd_three (h : Nat) (p v : By) (ks : List Nd) : rd h (.mk 3 p v ks) = (decide (h ≤ 64) && decide (ks.length = 16) && (decide (v = []) || may v h) && rda (h + 1) ks && decide (2 ≤ pts v ks)) := by
 rw [rd,if_neg (by decide),if_neg (by decide),if_neg (by decide),if_pos rfl]
theorem rd_two (h : Nat) (p v : By) (ks : List Nd) : rd h (.mk 2 p v ks) = (decide (p ≠ []) && ptb p && decide (ks.length = 1) && rd1 (h + p.length) ks) := by
 rw [rd,if_neg (by decide),if_neg (by decide),if_pos rfl]
theorem rd_one (h : Nat) (p v : By) (ks : List Nd) : rd h (.mk 1 p v ks) = (ptb p && may v (h + p.length)) := by
 rw [rd,if_neg (by decide),if_pos rfl]
theorem rd_zero (h : Nat) (p v : By) (ks : List Nd) : rd h (.mk 0 p v ks) = true := by
 rw [rd,if_pos rfl]
theorem rd_else (h : Nat) (k : Int) (p v : By) (ks : List Nd) (h0 : k ≠ 0) (h1 : k ≠ 1) (h2 : k ≠ 2) (h3 : k ≠ 3) : rd h (.mk k p v ks) = false := by
 rw [rd,if_neg h0,if_neg h1,if_neg h2,if_neg h3]
theorem fp_bad {lo h : Nat} {t : Nd} {w : World} (hr : rd h t = false) {f : FuncId} {a : Array Value} (hc : Calls Tryz.prog f a w fun e w' => e = .returned (.tuple #[.pointer none,.bool false]) ∧ Below w.heap.size w w') : Calls Tryz.prog f a w (FP lo h t w) :=
 hc.mono fun e w' he => ⟨none,by rw [hr]; exact he.1,fun hh => absurd (hr.symm.trans hh) (by decide),he.2⟩
theorem rp_bad {lo h : Nat} {t : Nd} {w : World} (hr : rd h t = false) {f : FuncId} {a : Array Value} (hc : Calls Tryz.prog f a w fun e w' => (∃ x,e = .returned (.tuple #[x,.bool false])) ∧ Below w.heap.size w w') : Calls Tryz.prog f a w (RP lo h t w) :=
 hc.mono fun e w' ⟨⟨x,h1⟩,h2⟩ => ⟨x,by rw [hr]; exact h1,fun hh => absurd (hr.symm.trans hh) (by decide),h2⟩
theorem wn_kid {k : Int} {p v : By} {ks : List Nd} {j N : Nat} (h : wn (.mk k p v ks) ≤ N) (hj : j < ks.length) : wn (ks.getD j Nd.no) ≤ N := by
 have := wnk_one ks j hj; unfold wn at h
 omega
theorem rfork_all (lo h : Nat) (p v : By) (ks : List Nd) (u : V4) (w : World) (hu : Nv (· < lo) w (.mk 3 p v ks) u) (hlo : lo ≤ w.heap.size)
  (KR : ∀ j,j < ks.length → h ≤ 64 → ∀ (x : V4) (wx : World),Nv (· < lo) wx (ks.getD j Nd.no) x → lo ≤ wx.heap.size → Calls Tryz.prog 30 #[v4 x,.int .i64 ((h + 1 : Nat) : Int)] wx (RP lo (h + 1) (ks.getD j Nd.no) wx)) :
  Calls Tryz.prog 55 #[v4 u,.int .i64 (h : Int)] w (FP lo h (.mk 3 p v ks) w) := by
 cases hu with
 | mk _ _ _ _ pv vv kv vs hp hv hl hk hi =>
  have hv' := hv; obtain ⟨a1,c1,rfl,-,-⟩ := hp; obtain ⟨a2,c2,rfl,-,-⟩ := hv; obtain ⟨a3,c3,rfl,-,hq⟩ := hk; show Calls Tryz.prog _ #[.agg #[.int .i64 3,_,_,_],_] w _
  by_cases h64 : h ≤ 64
  case neg =>
   exact fp_bad (by rw [rd_three,decide_eq_false h64]; simp) (rfork_deep a1 a2 a3 _ c1 _ c2 _ c3 h w (by omega))
  by_cases h16 : ks.length = 16
  case neg =>
   exact fp_bad (by rw [rd_three,decide_eq_false h16]; simp) (rfork_kids a1 a2 a3 _ c1 _ c2 _ c3 h w h64 (by omega))
  by_cases hmv : v = [] ∨ may v h = true
  case neg =>
   have h1 : v ≠ [] := fun e => hmv (.inl e)
   have h2 : may v h = false := by cases e : may v h with | false => rfl | true => exact absurd (.inr e) hmv
   exact fp_bad (by rw [rd_three,decide_eq_false h1,h2]; simp) (rfork_value a1 a2 a3 _ c1 _ c2 _ c3 h w h64 (by omega) v rfl h1 h2)
  obtain ⟨gk,off,rfl,hgl,hgk,hc⟩ := hq (by omega); have er : rd h (.mk 3 p v ks) = ((List.range 16).all (fun j => rd (h + 1) (ks.getD j Nd.no)) && decide (2 ≤ pts v ks)) := by
   rw [rd_three,decide_eq_true h64,decide_eq_true h16,← rda_range ks _ h16]; have : (decide (v = []) || may v h) = true := by
    rcases hmv with e | e
    ·rw [decide_eq_true e]; rfl
    ·rw [e]; simp
   rw [this]; simp
  have el : vs.length = 16 := by omega
  rw [el]; refine (rfork_ok a1 a2 _ c1 _ c2 c3 h gk off w lo hlo ks vs p v h16 h64 rfl hmv hv' hgk (fun j hj => hc j (by omega)) (fun j => rd (h + 1) (ks.getD j Nd.no)) (fun j hj => Nv_form (hi j (by omega))) ?_).mono fun e w' he => ?_
  ·intro j hj wx hb; refine (KR j (by omega) h64 _ wx (Nv_below (hi j (by omega)) hb) (Nat.le_trans hlo hb.size)).mono fun e w' he => ?_
   exact he
  ·unfold FP
   rw [er]; exact he
theorem read_all (lo : Nat) {t : Nd} (ht : Wf t) :
  (∀ (h : Nat) (u : V4) (w : World),h ≤ 65 → Nv (· < lo) w t u → lo ≤ w.heap.size → wn t ≤ 4194304 → Calls Tryz.prog 30 #[v4 u,.int .i64 (h : Int)] w (RP lo h t w)) ∧
  (t.kind = 3 → ∀ (h : Nat) (u : V4) (w : World),Nv (· < lo) w t u → lo ≤ w.heap.size → wn t ≤ 4194304 → Calls Tryz.prog 55 #[v4 u,.int .i64 (h : Int)] w (FP lo h t w)) := by
 induction ht with
 | mk k p v ks _ ih =>
  have HF : k = 3 → ∀ (h : Nat) (u : V4) (w : World),Nv (· < lo) w (.mk k p v ks) u → lo ≤ w.heap.size → wn (.mk k p v ks) ≤ 4194304 → Calls Tryz.prog 55 #[v4 u,.int .i64 (h : Int)] w (FP lo h (.mk k p v ks) w) := by
   intro hk h u w hu hlo hw; subst hk; exact rfork_all lo h p v ks u w hu hlo (fun j hj h64 x wx hx hl => (ih j hj).1 (h + 1) x wx (by omega) hx hl (wn_kid hw hj))
  refine ⟨fun h u w h65 hu hlo hw => ?_,HF⟩
  have hu' := hu; cases hu with
  | mk _ _ _ _ pv vv kv vs hp hv hl hk hi =>
   have hp' := hp; have hv' := hv; have sp := Bs_sl hp; obtain ⟨a1,c1,rfl,-,-⟩ := hp; obtain ⟨a2,c2,rfl,-,-⟩ := hv; obtain ⟨a3,c3,rfl,-,hq⟩ := hk; have hz : p.length ≤ 4194304 := by unfold wn at hw; omega
   obtain ⟨ax,cx,ex,-,vw⟩ := sp; injection ex with e1 e2 e3
   subst e1; by_cases k0 : k = 0
   ·subst k0; refine (read_none a1 a2 a3 _ c1 _ c2 _ c3 h w).mono fun e w' he => ⟨_,by rw [rd_zero]; exact he.1,fun _ => .none p v ks _,he.2⟩
   by_cases k1 : k = 1
   ·subst k1; cases hpt : ptb p with
    | true =>
     refine (read_leaf_ok a1 a2 a3 _ c1 _ c2 _ c3 h w p v rfl hz rfl (by omega) vw hpt).mono fun e w' he => ⟨_,by rw [rd_one,hpt,Bool.true_and]; exact he.1,fun _ => ?_,he.2⟩
     exact .leaf p v ks _ _ _ (Bs_lo (Bs_below hp' he.2)) (Bs_lo (Bs_below hv' he.2))
    | false => exact rp_bad (by rw [rd_one,hpt]; rfl) ((read_leaf_no a1 a2 a3 _ c1 _ c2 _ c3 h w p v rfl hz rfl (by omega) vw hpt).mono fun e w' he => ⟨⟨_,he.1⟩,he.2⟩)
   by_cases k2 : k = 2
   ·subst k2; show Calls Tryz.prog _ #[.agg #[.int .i64 2,_,_,_],_] w _
    refine read_road a1 a2 a3 _ c1 _ c2 _ c3 h w (rd h (.mk 2 p v ks)) (fun x w' => rd h (.mk 2 p v ks) = true → In lo w' (.mk 2 p v ks) x (fun y => w.heap.size ≤ y)) ?_
    intro wx hbx; have vwx := Sp.Vw_below vw hbx; have key : Calls Tryz.prog 54 #[.agg #[.int .i64 2,.slice a1 p.length c1,.slice a2 v.length c2,.slice a3 vs.length c3],.int .i64 (h : Int)] wx (RP lo h (.mk 2 p v ks) wx) := by
     by_cases p0 : p = []
     ·subst p0; exact rp_bad (by rw [rd_two]; simp) (rroad_empty a1 a2 a3 c1 _ c2 _ c3 h wx)
     have hp0 : 0 < p.length := List.length_pos_iff.2 p0; cases hpt : ptb p with
     | false => exact rp_bad (by rw [rd_two,hpt]; simp) (rroad_path a1 a2 a3 _ c1 _ c2 _ c3 h wx p rfl hz hp0 vwx hpt)
     | true =>
      by_cases hk1 : ks.length = 1
      case neg => exact rp_bad (by rw [rd_two,decide_eq_false hk1]; simp) (rroad_kids a1 a2 a3 _ c1 _ c2 _ c3 h wx p rfl hz hp0 vwx hpt (by omega))
      obtain ⟨t,rfl⟩ := List.length_eq_one_iff.1 hk1; have el : vs.length = 1 := hl; obtain ⟨gk,off,rfl,hgl,hgk,hc⟩ := hq (by omega); obtain ⟨y0,y1,y2,y3⟩ := hc 0 (by omega); have hn := hi 0 (by simp); rw [List.getD_cons_zero] at hn; obtain ⟨kk,b1,m1,d1,b2,m2,d2,b3,m3,d3,eF⟩ := Nv_form hn; rw [eF] at y0 y1 y2 y3; simp only [Nat.mul_zero,Nat.add_zero] at y0 y1 y2 y3; have z0 := (hbx.cell (p := ⟨gk,off,none⟩) hgk).trans y0; have z1 := (hbx.cell (p := ⟨gk,off + 1,none⟩) hgk).trans y1; have z2 := (hbx.cell (p := ⟨gk,off + 2,none⟩) hgk).trans y2; have z3 := (hbx.cell (p := ⟨gk,off + 3,none⟩) hgk).trans y3; have hgx : gk < wx.heap.size := Nat.lt_of_lt_of_le hgk hbx.size; have ekk : t.kind = kk := by
       rw [eF] at hn; cases hn
       rfl
      rw [el]; by_cases hkk : kk = 3
      case neg => exact rp_bad (by rw [rd_two,rd1,decide_eq_false (show ¬ t.kind = 3 by rw [ekk]; exact hkk)]; simp) (rroad_kind a1 a2 _ c1 _ c2 c3 h gk off wx p rfl hz hp0 vwx hpt kk hgx z0 hkk)
      subst hkk; have er : rd h (.mk 2 p v [t]) = rd (h + p.length) t := by
       rw [rd_two,rd1,hpt,decide_eq_true (show p ≠ [] from p0),decide_eq_true ekk]; simp
      have GBt : ∀ (x : Option Addr) (w1 w2 : World),(rd (h + p.length) t = true → ∃ g,x = some ⟨g,0,none⟩ ∧ In lo w1 t (.iface 113 (.pointer (some ⟨g,0,none⟩))) (fun y => wx.heap.size ≤ y)) → Below w1.heap.size w1 w2 → rd (h + p.length) t = true → ∃ g,x = some ⟨g,0,none⟩ ∧ In lo w2 t (.iface 113 (.pointer (some ⟨g,0,none⟩))) (fun y => wx.heap.size ≤ y) := fun x w1 w2 hx hb hr => by
       obtain ⟨g,h1,h2⟩ := hx hr; exact ⟨g,h1,In_below h2 hb⟩
      have KF := (ih 0 (by simp)).2; rw [List.getD_cons_zero] at KF; refine (rroad_fork a1 a2 _ c1 _ c2 c3 h gk off wx p rfl hz hp0 vwx hpt (by omega) b1 b2 b3 m1 d1 m2 d2 m3 d3 hgx z0 z1 z2 z3 (rd (h + p.length) t) _ GBt ?_).mono fun e w' he => ?_
      ·intro wy hby; have hn2 : Nv (· < lo) wy t (.int .i64 3,.slice b1 m1 d1,.slice b2 m2 d2,.slice b3 m3 d3) := by
        rw [eF] at hn; exact Nv_below (Nv_below hn hbx) hby
       refine (KF ekk (h + p.length) _ wy hn2 (Nat.le_trans hlo (Nat.le_trans hbx.size hby.size)) (by have := wn_kid (j := 0) hw (by simp); rwa [List.getD_cons_zero] at this)).mono fun e w' he => ?_
       obtain ⟨x,h1,h2,h3⟩ := he; refine ⟨x,h1,fun hr => ?_,h3⟩
       obtain ⟨g,h4,h5⟩ := h2 hr; exact ⟨g,h4,In_mono h5 (fun y hy => Nat.le_trans hby.size hy)⟩
      ·obtain ⟨x,h1,h2,h3⟩ := he; refine ⟨_,by rw [er]; exact h1,fun hr => ?_,h3⟩
       rw [er] at hr; obtain ⟨g,rfl,h5⟩ := h2 hr; exact .road p v t _ g _ (Bs_lo (Bs_below (Bs_below hp' hbx) h3)) h5
    refine key.mono fun e w' he => ?_
    obtain ⟨x,h1,h2,h3⟩ := he; exact ⟨x,h1,fun hr => In_mono (h2 hr) (fun y hy => Nat.le_trans hbx.size hy),h3⟩
   by_cases k3 : k = 3
   ·subst k3; show Calls Tryz.prog _ #[.agg #[.int .i64 3,_,_,_],_] w _
    refine (read_fork a1 a2 a3 _ c1 _ c2 _ c3 h w (rd h (.mk 3 p v ks)) (fun x w' => rd h (.mk 3 p v ks) = true → ∃ g,x = some ⟨g,0,none⟩ ∧ In lo w' (.mk 3 p v ks) (.iface 113 (.pointer (some ⟨g,0,none⟩))) (fun y => w.heap.size ≤ y)) ?_).mono fun e w' he => ?_
    ·intro wx hbx; refine (HF rfl h _ wx (Nv_below hu' hbx) (Nat.le_trans hlo hbx.size) hw).mono fun e w' he => ?_
     obtain ⟨x,h1,h2,h3⟩ := he; refine ⟨x,h1,fun hr => ?_,h3⟩
     obtain ⟨g,h4,h5⟩ := h2 hr; exact ⟨g,h4,In_mono h5 (fun y hy => Nat.le_trans hbx.size hy)⟩
    ·obtain ⟨x,h1,h2,h3⟩ := he; refine ⟨_,h1,fun hr => ?_,h3⟩
     obtain ⟨g,rfl,h5⟩ := h2 hr; exact h5
   ·exact rp_bad (rd_else h k p v ks k0 k1 k2 k3) ((read_other k a1 a2 a3 _ c1 _ c2 _ c3 h w k0 k1 k2 k3).mono fun e w' he => ⟨⟨_,he.1⟩,he.2⟩)
end Tr
end Go.Proofs.YtlbdaccmnpcccaaGreatDoor
namespace Go.Proofs.YtlbdaccmnpcccaaGreatDoor
namespace Tr
open Nb Go.RowKit
structure NB (h : Nat) (u : V4) (t : Nd) (lo : Nat) (W wx : World) : Prop where
 bx : Bx h u wx
 n : Nv (· < lo) wx t u
 l : lo ≤ wx.heap.size
 b : Below W.heap.size W wx
theorem NB_new {u : V4} {t : Nd} {lo : Nat} {w : World} (hn : Nv (· < lo) w t u) (hl : lo ≤ w.heap.size) : NB w.heap.size u t lo w (w.alloc (.cells #[u.1,u.2.1,u.2.2.1,u.2.2.2] 25)) := by
 have b : Below w.heap.size w (w.alloc (.cells #[u.1,u.2.1,u.2.2.1,u.2.2.2] 25)) := (Below.refl _ _).alloc (Nat.le_refl _) _; exact ⟨Bx_new w u,Nv_below hn b,Nat.le_trans hl b.size,b⟩
theorem right_any (t : Nd) (lo : Nat) (x : V4) (w : World) (hx : Nv (· < lo) w t x) (hlo : lo ≤ w.heap.size) (hw : wn t ≤ 4194304) :
  Calls Tryz.prog 32 #[v4 x] w fun e w' => e = .returned (.bool (rd 0 t)) ∧ Below w.heap.size w w' := by
 obtain ⟨k,a1,n1,c1,a2,m2,c2,a3,n3,c3,rfl⟩ := Nv_form hx; have N0 := NB_new hx hlo; obtain ⟨_,q0,q1,q2,q3⟩ := N0.bx; dsimp only at q0 q1 q2 q3; have KR : Hid (∀ wx : World,NB w.heap.size (.int .i64 k,.slice a1 n1 c1,.slice a2 m2 c2,.slice a3 n3 c3) t lo w wx → Calls Tryz.prog 30 #[.agg #[.int .i64 k,.slice a1 n1 c1,.slice a2 m2 c2,.slice a3 n3 c3],.int .i64 0] wx fun e w' => ∃ y,e = .returned (.tuple #[y,.bool (rd 0 t)]) ∧ Below wx.heap.size wx w') := fun wx hn => by
  refine ((read_all lo (wf_any t)).1 0 (.int .i64 k,.slice a1 n1 c1,.slice a2 m2 c2,.slice a3 n3 c3) wx (by omega) hn.n hn.l hw).mono fun e w' he => ?_
  obtain ⟨y,h1,_,h3⟩ := he; exact ⟨y,h1,h3⟩
 have HN : Hid (NB w.heap.size (.int .i64 k,.slice a1 n1 c1,.slice a2 m2 c2,.slice a3 n3 c3) t lo w (w.alloc (.cells #[.int .i64 k,.slice a1 n1 c1,.slice a2 m2 c2,.slice a3 n3 c3] 25))) := N0; clear N0 hx hlo hw; show Calls Tryz.prog _ #[.agg #[.int .i64 k,.slice a1 n1 c1,.slice a2 m2 c2,.slice a3 n3 c3]] w _
 generalize rd 0 t = r at *; go_enter Tryz.func32,Tryz.ntmps32
 go_wp2_with fail
 refine (KR.out _ HN.out).mono ?_; rintro e w1 ⟨y,rfl,hb1⟩; have HZ : Hid (Below w.heap.size w w1) := HN.out.b.trans (hb1.mono HN.out.b.size); clear hb1; go_wp2_with fail
 go_ret
 exact ⟨rfl,HZ.out⟩
end Tr
end Go.Proofs.YtlbdaccmnpcccaaGreatDoor
namespace Go.Proofs.YtlbdaccmnpcccaaGreatDoor
namespace Rt
open Nb Sp Pk Rs Go.RowKit
theorem right_hr {t : Nd} (h : Tr.Right t) : Hr t := ⟨h.1,fun q => by
 by_cases e : Tr.gt t q = []
 ·rw [e]; simp
 ·have := h.2 q e; unfold Tr.Okr at this
  simp at this
  omega⟩
theorem rd_gr (t : Nd) : Tr.rd 0 t = Tr.gr t := by
 rw [Bool.eq_iff_iff,Tr.rd_right,Tr.gr_right]
theorem fr2_new {wx W w' : World} {o : Obj} (hW : W = wx.alloc o) (f : Fr2 W w' wx.heap.size none) : Below wx.heap.size wx w' := by
 have hb : Below wx.heap.size wx W := hW ▸ (Below.refl _ _).alloc (Nat.le_refl _) _; have hs := hb.size; exact ⟨f.os.trans hb.os,f.tape.trans hb.tape,f.output.trans hb.output,Nat.le_trans hb.size f.size,fun j hj => (f.block j (by omega) (by omega) nofun).trans (hb.block j hj)⟩
theorem codes_any (t : Nd) (S : Nat → Prop) (x : Tr.V4) (w : World) (hx : Tr.Nv S w t x) (hw : Tr.wn t ≤ 1048576) :
  Calls Tryz.prog 15 #[Tr.v4 x] w fun e w' => ∃ v,e = .returned (.tuple #[v,.int .i64 (coe t)]) ∧ CO w.heap.size (fun _ => True) (cod t) v w' ∧ Below w.heap.size w w' := by
 have KG : ∀ wx : World,Below w.heap.size w wx → Calls Tryz.prog 32 #[Tr.v4 x] wx fun e w' => e = .returned (.bool (Tr.gr t)) ∧ Below wx.heap.size wx w' := fun wx hb => by
  have := Tr.right_any t wx.heap.size x wx (Tr.Nv_mono (Tr.Nv_below hx hb) (fun k _ h => h)) (Nat.le_refl _) (by omega)
  rwa [rd_gr] at this
 have KN := fun (hr : Hr t) (wx : World) (hb : Below w.heap.size w wx) => node_any (Tr.wf_any t) hw hr S x w hx wx.heap.size (fun i => i ≠ wx.heap.size) [] (.slice none 0 0) (wx.alloc (.cells #[.slice none 0 0] 73)) (hb.trans ((Below.refl _ _).alloc (by exact hb.size) _)) hb.size
 have hcd := cds_wn t; cases hx with
 | mk k p v ks pv vv kv vs hp hv hl hk hi =>
  obtain ⟨a1,c1,rfl,_⟩ := id hp; obtain ⟨a2,c2,rfl,_⟩ := id hv; obtain ⟨a3,c3,rfl,_,_⟩ := id hk; cases hg : Tr.gr (.mk k p v ks)
  ·have e1 : cod (.mk k p v ks) = [] := by unfold cod; rw [hg]; rfl
   have e2 : coe (.mk k p v ks) = 1 := by unfold coe; rw [hg]; rfl
   rw [hg] at KG; rw [e1,e2]; exact codes_no a1 a2 a3 _ c1 _ c2 _ c3 w k KG
  ·have e1 : cod (.mk k p v ks) = cds (.mk k p v ks) := by unfold cod; rw [hg]; rfl
   have e2 : coe (.mk k p v ks) = 0 := by unfold coe; rw [hg]; rfl
   have hr := right_hr ((Tr.gr_right _).1 hg); rw [hg] at KG; rw [e1,e2]; by_cases k0 : k = 0
   ·subst k0; have es : shN (.mk 0 p v ks) = zS := by rw [shN,if_neg (by decide),if_neg (by decide)]
    have hsh := hr_shape hr; rw [es] at hsh; have e3 : cds (.mk 0 p v ks) = [hc zS] := by rw [cds,if_neg (by decide),cd_eq,es]
    rw [e3]; exact codes_none a1 a2 a3 _ c1 _ c2 _ c3 w (hc zS) (fun wx => write_sh zS hsh (by decide) (.int .i64 0,.slice none 0 0,.slice none 0 0,.slice none 0 0) wx ⟨rfl,Sl_nil _,Sl_nil _,⟨none,0,rfl,fun h => absurd h (by decide)⟩⟩ wx.heap.size (Nat.le_refl _)) KG
   ·refine codes_yes a1 a2 a3 _ c1 _ c2 _ c3 w k k0 _ (fun wx hb => ?_) KG
    have ec : ccs (.mk k p v ks) = cds (.mk k p v ks) := if_neg (show ¬ (Tr.Nd.mk k p v ks).kind = 0 from k0); have hn := heap_alloc_new wx (.cells #[.slice none 0 0] 73); have hsz : (wx.alloc (.cells #[.slice none 0 0] 73)).heap.size = wx.heap.size + 1 := by simp
    refine (KN hr wx hb ⟨by omega,by simp only [World.cell?,hn]; rfl,fun o => by simp only [World.frozen?,hn]; simp,CO_nil _ _ _,nofun⟩ (fun i hi => by omega) (fun i hi => hi) (by rw [ec]; simp only [List.length_nil]; omega)).mono ?_
    rintro e w' ⟨sv,cv,rfl,hW,_,hF,_⟩; rw [ec,List.nil_append] at hW; exact ⟨sv,cv,rfl,hW.c,CO_mono hW.co (fun _ _ _ _ => trivial),fr2_new rfl hF⟩
end Rt
end Go.Proofs.YtlbdaccmnpcccaaGreatDoor
namespace Go.Proofs.YtlbdaccmnpcccaaGreatDoor
namespace Ct
open Go.RowKit
end Ct
end Go.Proofs.YtlbdaccmnpcccaaGreatDoor
