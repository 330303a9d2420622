import Derived.Test.YtlbdaccmnpcccaaGreatDoorPackE
import Derived.Test.YtlbdaccmnpcccaaGreatDoorPackA
import Derived.RangeFuncNested
import Derived.RangeFuncBound
import Derived.RangeFuncCalls
import Derived.RangeFuncLeaves
import Derived.RangeFuncBox
import Derived.Shelf.Abstract
import Derived.Shelf.RegionOpen
import Derived.WalkKit
import Derived.OwnWalkIn
import Derived.TacticsInMore
import Derived.LoopNIn
import Derived.LoopIn
import Derived.Test.YtlbdaccmnpcccaaGreatDoorPackC
import Derived.OrdersIn
import Derived.ControlIn
import Derived.Test.YtlbdaccmnpcccaaGreatDoorPackD
import Derived.Deep.AppendLies
import Derived.Test.YtlbdaccmnpcccaaGreatDoorPackB
import Derived.Lib.ConvBytes
import Derived.Laws.Concat
set_option maxRecDepth 100000
set_option maxHeartbeats 4000000
namespace Go.Proofs.YtlbdaccmnpcccaaGreatDoor
namespace Rs
open Nb Sp Pk Go.RowKit
def IA (w9 : World) (gi : Nat) (xs : List Value) (k : Nat) (wr : World) : Prop := ∃ kv,GL w9 gi kv ((xs.take k).map tv) wr
theorem own_form {B e z n : Nat} {v : Value} {xs : List Value} {w : World} (h : w.ownsRow B e z v n xs) : ∃ a m c,v = .slice a m c := by
 rcases h.2 with ⟨h3,_⟩ | ⟨g,cap,cur,h3,_⟩
 ·exact ⟨_,_,_,h3⟩
 ·exact ⟨_,_,_,h3⟩
theorem own_cells {B e n : Nat} {v : Value} {xs : List Value} {w : World} (h : w.ownsRow B e 1 v n xs) (h0 : 0 < n) : ∃ g cap,v = .slice (some ⟨g,0,none⟩) n cap ∧ B ≤ g ∧ g < w.heap.size ∧ ∀ j u,xs[j]? = some u → w.cell? ⟨g,j,none⟩ = some u := by
 have hl := h.1; rcases h.2 with ⟨h3,h4⟩ | ⟨g,cap,cur,h3,h4,h5,h6,h7,h8,h9⟩
 ·omega
 ·refine ⟨g,cap,h3,h4,Pk.lt_of_heap h5,fun j u hj => ?_⟩
  have hj' := (List.getElem?_eq_some_iff.1 hj).1; have e : w.cell? ⟨g,j,none⟩ = cur[j]? := by
   simp only [World.cell?,h5]; exact if_neg (by simp)
  rw [e,← Array.getElem?_toList,← hj,← h9,List.getElem?_take]; exact (if_pos (by omega)).symm
theorem own_len {B e z n : Nat} {v : Value} {xs : List Value} {w : World} (h : w.ownsRow B e z v n xs) : ∃ a c,v = .slice a n c := by
 rcases h.2 with ⟨h3,rfl⟩ | ⟨g,cap,cur,h3,_⟩
 ·exact ⟨_,_,h3⟩
 ·exact ⟨_,_,h3⟩
theorem si_fork (a1 a2 a3 : Option Addr) (n c1 n2 c2 n3 c3 : Nat) (p : List UInt8) (w : World) (hn : Hid (n = p.length)) (hz : Hid (n ≤ 4194300)) (vp : Hid (∀ W,Below w.heap.size w W → Vw p a1 W)) (KT : Hid (∀ (a : Option Addr) (m c : Nat) (wx : World),Calls Tryz.prog 97 #[.slice a m c] wx fun e w' => e = .returned (.agg #[.bool false,.slice a m c,.slice none 0 0]) ∧ Below wx.heap.size wx w')) (KL : Hid (∀ (a : Option Addr) (m c : Nat) (wx : World),Calls Tryz.prog 99 #[.slice a m c] wx fun e w' => e = .returned (.agg #[.bool true,.slice none 0 0,.slice a m c]) ∧ Below wx.heap.size wx w')) (ks : List (List UInt8)) (u : List UInt8) (hs : List Value) (hk : Hid (Hds ks hs w)) (hv : Hid (Vl hs (.slice a3 n3 c3) w)) (hu : Hid (Sl u (.slice a2 n2 c2) w)) (h3 : Hid (n3 = 16)) (h2 : Hid (n2 ≤ 1024)) :
  Calls Tryz.prog 86 #[.agg #[.int .i64 3,.slice a1 n c1,.slice a2 n2 c2,.slice a3 n3 c3]] w fun e w' => ∃ v,e = .returned (.tuple #[v3 v,.bool (ks.all sm && decide (2 ≤ np (ks ++ [u])))]) ∧ ((ks.all sm && decide (2 ≤ np (ks ++ [u]))) = true → Iv (fun _ => True) w' (.mk true [] ((ks ++ [u]).map fun b => .mk false b [])) v) ∧ Below w.heap.size w w' ∧ Fm v := by
 have l0 : Below w.heap.size w ((w.alloc (.cells #[.int .i64 3,.slice a1 n c1,.slice a2 n2 c2,.slice a3 n3 c3] 63)).alloc (.cells #[.bool false,.slice none 0 0,.slice none 0 0] 119)) := ((Below.refl _ _).alloc (Nat.le_refl _) _).alloc (by simp) _; have hs1 : (w.alloc (.cells #[.int .i64 3,.slice a1 n c1,.slice a2 n2 c2,.slice a3 n3 c3] 63)).heap.size = w.heap.size + 1 := by simp
 have x0 : B3 (w.heap.size + 1) ((w.alloc (.cells #[.int .i64 3,.slice a1 n c1,.slice a2 n2 c2,.slice a3 n3 c3] 63)).alloc (.cells #[.bool false,.slice none 0 0,.slice none 0 0] 119)) := hs1 ▸ B3_new (w.alloc (.cells #[.int .i64 3,.slice a1 n c1,.slice a2 n2 c2,.slice a3 n3 c3] 63)); have nb0 : NB (w.heap.size + 1) ((w.alloc (.cells #[.int .i64 3,.slice a1 n c1,.slice a2 n2 c2,.slice a3 n3 c3] 63)).alloc (.cells #[.bool false,.slice none 0 0,.slice none 0 0] 119)) := hs1 ▸ NB_new (w.alloc (.cells #[.int .i64 3,.slice a1 n c1,.slice a2 n2 c2,.slice a3 n3 c3] 63)); have HA := heap_alloc_new w (.cells #[.int .i64 3,.slice a1 n c1,.slice a2 n2 c2,.slice a3 n3 c3] 63); have bB : Below (w.heap.size + 1) (w.alloc (.cells #[.int .i64 3,.slice a1 n c1,.slice a2 n2 c2,.slice a3 n3 c3] 63)) ((w.alloc (.cells #[.int .i64 3,.slice a1 n c1,.slice a2 n2 c2,.slice a3 n3 c3] 63)).alloc (.cells #[.bool false,.slice none 0 0,.slice none 0 0] 119)) := (Below.refl _ _).alloc (by omega) _; have q0 : ((w.alloc (.cells #[.int .i64 3,.slice a1 n c1,.slice a2 n2 c2,.slice a3 n3 c3] 63)).alloc (.cells #[.bool false,.slice none 0 0,.slice none 0 0] 119)).cell? ⟨w.heap.size,0,none⟩ = some (.int .i64 3) := (bB.cell (p := ⟨w.heap.size,0,none⟩) (by show w.heap.size < _; omega)).trans (by simp only [World.cell?,HA]; rfl)
 have q1 : ((w.alloc (.cells #[.int .i64 3,.slice a1 n c1,.slice a2 n2 c2,.slice a3 n3 c3] 63)).alloc (.cells #[.bool false,.slice none 0 0,.slice none 0 0] 119)).cell? ⟨w.heap.size,1,none⟩ = some (.slice a1 n c1) := (bB.cell (p := ⟨w.heap.size,1,none⟩) (by show w.heap.size < _; omega)).trans (by simp only [World.cell?,HA]; rfl)
 have q2 : ((w.alloc (.cells #[.int .i64 3,.slice a1 n c1,.slice a2 n2 c2,.slice a3 n3 c3] 63)).alloc (.cells #[.bool false,.slice none 0 0,.slice none 0 0] 119)).cell? ⟨w.heap.size,2,none⟩ = some (.slice a2 n2 c2) := (bB.cell (p := ⟨w.heap.size,2,none⟩) (by show w.heap.size < _; omega)).trans (by simp only [World.cell?,HA]; rfl)
 have q3 : ((w.alloc (.cells #[.int .i64 3,.slice a1 n c1,.slice a2 n2 c2,.slice a3 n3 c3] 63)).alloc (.cells #[.bool false,.slice none 0 0,.slice none 0 0] 119)).cell? ⟨w.heap.size,3,none⟩ = some (.slice a3 n3 c3) := (bB.cell (p := ⟨w.heap.size,3,none⟩) (by show w.heap.size < _; omega)).trans (by simp only [World.cell?,HA]; rfl)
 have hsz : ((w.alloc (.cells #[.int .i64 3,.slice a1 n c1,.slice a2 n2 c2,.slice a3 n3 c3] 63)).alloc (.cells #[.bool false,.slice none 0 0,.slice none 0 0] 119)).heap.size = w.heap.size + 2 := by simp
 clear HA bB hs1; go_enter Tryz.func86,Tryz.ntmps86
 go_wp2_with fail
 generalize ((w.alloc (.cells #[.int .i64 3,.slice a1 n c1,.slice a2 n2 c2,.slice a3 n3 c3] 63)).alloc (.cells #[.bool false,.slice none 0 0,.slice none 0 0] 119)) = W0 at *; have VP : Hid (Vw p a1 W0) := vp.out W0 l0; obtain ⟨h,eh⟩ : ∃ h,h = w.heap.size := ⟨_,rfl⟩; have EH : Hid (h = w.heap.size) := eh; have L0 : Hid (Below w.heap.size w W0) := l0; have X0 : Hid (B3 (h + 1) W0) := eh ▸ x0; have NB0 : Hid (NB (h + 1) W0) := eh ▸ nb0; have HSZ : Hid (W0.heap.size = h + 2) := by show _ = _; rw [eh]; exact hsz
 rw [← eh] at q0 q1 q2 q3 ⊢; clear eh l0 x0 nb0 vp hsz; go_loopw [4,20] (fun B s wr => ∃ k : Nat,k ≤ n ∧ s = .int .i64 (k : Int) ∧ B = .bool (pb (p.take k)) ∧ W0 = wr) (fun _ s _ => ((n : Int) - intOf s).toNat)
 case atStart => exact ⟨0,Nat.zero_le _,rfl,rfl,rfl⟩
 case round =>
  obtain ⟨k,hk,rfl,rfl,rfl⟩ := hrel; by_cases h1 : k < n
  ·have d1 : decide ((k : Int) < (n : Int)) = true := decide_eq_true (by omega); have d2 : decide (k < n) = true := decide_eq_true h1; obtain ⟨g,off,rfl,hg,hc⟩ := VP.out (by have := hn.out; omega)
   have c0 := hc k (by have := hn.out; omega)
   have hw := Nb.stp k (by have := hz.out; show _ ≤ _; omega)
   have HP : Hid (pb (p.take (k + 1)) = (pb (p.take k) && decide (bz p k < 16))) := pb_snoc p k (by have := hn.out; omega)
   clear hc hg; generalize bz p k = X at *; obtain ⟨B1,hB1⟩ : ∃ B1,B1 = pb (p.take (k + 1)) := ⟨_,rfl⟩; have HB1 : Hid (B1 = pb (p.take (k + 1))) := hB1; rw [← hB1] at HP; clear hB1; generalize pb (p.take k) = B0 at *; cases B0 with
   | false =>
    have e : Hid (B1 = false) := HP.out; clear HP; go_wp2_with fail
    have hw := hw.out; go_roundw
    case rel => exact ⟨k + 1,h1,Nb.step_v k _ hw,by rw [← HB1.out,e.out],trivial⟩
    case measure => exact Nb.msr k n h1 _ hw
   | true =>
    by_cases hx : X < 16
    ·have t1 : decide (X < 16) = true := decide_eq_true hx; have e : Hid (B1 = true) := by have := HP.out; rwa [t1] at this
     clear HP hx; go_wp2_with fail
     have hw := hw.out; go_roundw
     case rel => exact ⟨k + 1,h1,Nb.step_v k _ hw,by rw [← HB1.out,e.out],trivial⟩
     case measure => exact Nb.msr k n h1 _ hw
    ·have t1 : decide (X < 16) = false := decide_eq_false hx; have e : Hid (B1 = false) := by have := HP.out; rwa [t1] at this
     clear HP hx; go_wp2_with fail
     have hw := hw.out; go_roundw
     case rel => exact ⟨k + 1,h1,Nb.step_v k _ hw,by rw [← HB1.out,e.out],trivial⟩
     case measure => exact Nb.msr k n h1 _ hw
  ·have hkl : k = n := by omega
   subst hkl; have ep : Hid (p.take k = p) := by show _ = _; rw [hn.out,List.take_length]
   rw [ep.out]; clear ep h1 hk; generalize pb p = B at *; have HLEN : Hid (hs.length = 16) := by
    obtain ⟨_,_,e,_⟩ := hv.out; injection e with _ e _
    show _ = _
    rw [← e]; exact h3.out
   obtain rfl := h3.out; have t1 : (n2 : Int) ≤ 1024 := by have := h2.out; omega
   have t2 : decide ((n2 : Int) ≤ 1024) = true := decide_eq_true t1; have L00 := L0.out; go_wp2_with fail
   refine (KL.out _ _ _ _).mono (fun e w1 he => ?_)
   obtain ⟨rfl,b1⟩ := he; have l1 : Below w.heap.size w w1 := L00.trans (b1.mono L00.size); have bA : Below w1.heap.size w1 (w1.alloc (.cells #[.bool true,.slice none 0 0,.slice none 0 0] 119)) := (Below.refl _ _).alloc (Nat.le_refl _) _; have HL2 : Hid (Below w.heap.size w (w1.alloc (.cells #[.bool true,.slice none 0 0,.slice none 0 0] 119))) := l1.trans (bA.mono l1.size); have HX2 : Hid (B3 (h + 1) (w1.alloc (.cells #[.bool true,.slice none 0 0,.slice none 0 0] 119))) := B3_gb (r := none) (B3_gb (r := none) X0.out (gb_below b1) nofun) (gb_below bA) nofun; have HNB : Hid (NB (h + 1) (w1.alloc (.cells #[.bool true,.slice none 0 0,.slice none 0 0] 119))) := NB_below (NB_below NB0.out b1) bA; have HLN : Hid (LN w1.heap.size (w1.alloc (.cells #[.bool true,.slice none 0 0,.slice none 0 0] 119))) := LN_new w1; have HNI : Hid (NB w1.heap.size (w1.alloc (.cells #[.bool true,.slice none 0 0,.slice none 0 0] 119))) := NB_newT w1; have b2 := b1.trans (bA.mono b1.size); have hh : h < W0.heap.size := by have := HSZ.out; omega
   have R2 : Hid (_ = some _) := (b2.cell (p := ⟨h,2,none⟩) hh).trans q2; have R3 : Hid (_ = some _) := (b2.cell (p := ⟨h,3,none⟩) hh).trans q3; have HW1 : Hid (h + 1 < w1.heap.size) := by have := HSZ.out; have := b1.size; show h + 1 < _; omega
   have HW2 : Hid (h < (w1.alloc (.cells #[.bool true,.slice none 0 0,.slice none 0 0] 119)).heap.size) := by have := HW1.out; have := bA.size; show h < _; omega
   clear b1 l1 bA b2 hh q0 q1 q2 q3 L00 KL X0 NB0 HSZ VP L0 t1 t2 hn hz; go_upto_region 17 with fail
   generalize w1.alloc (.cells #[.bool true,.slice none 0 0,.slice none 0 0] 119) = w2 at *; generalize w1.heap.size = gi at *; have HVL : Hid (∀ wx,Below w2.heap.size w2 wx → Vl hs (.slice a3 16 c3) wx) := fun wx hb => Vl_below (Vl_below hv.out HL2.out) hb
   have HL17 : Hid ((hs ++ [Value.slice a2 n2 c2]).length = 17) := by show _ = _; rw [List.length_append,HLEN.out]; rfl
   have HONE : Hid (∀ v ∈ hs,v.oneCell' = true) := Hds_one' hk.out; refine RH.wp_region_genI (F7 w2.heap.size w2 hs (.slice a2 n2 c2)) [1,0,0,1,0,0,1,1,1,0] (by kernel_rfl) (by kernel_rfl) (⟨(Below.refl _ _).drew,Nat.le_refl _,nofun,nofun,nofun,nofun,nofun,nofun,nofun⟩) ?_; dsimp only [List.toList_toArray]; refine RH.goN (f' := ?_) rfl ?_ ?_ ?_; rotate_left 1
   ·intro U K d wx hI hmay hK; go_simp; exact hK _ _ (F7.step0 hI hmay.1)
   ·intro U; simp only [Act.put,zA,zB,zC]; rfl
   refine RH.goD (v := ?_) (f' := ?_) rfl ?_ ?_ ?_; rotate_left 2
   ·intro U K d wx hI hmay hK; go_simp; exact hK _ (F7.keep (by decide) hI)
   ·intro U; simp only [Act.put,zA,zB,zC]; rfl
   refine RH.goD (v := ?_) (f' := ?_) rfl ?_ ?_ ?_; rotate_left 2
   ·intro U K d wx hI hmay hK; have y0 := (hI.b.cell (p := ⟨h,3,none⟩) (by have := HW2.out; show h < _; omega)).trans R3.out
    go_simp; exact hK _ (F7.keep (by decide) hI)
   ·intro U; simp only [Act.put,zA,zB,zC]; rfl
   refine RH.goN (f' := ?_) rfl ?_ ?_ ?_; rotate_left 1
   ·intro U K d wx hI hmay hK; have hd := hmay.2 _ rfl; simp [Region.binds] at hd
    obtain ⟨v',w',hr,hI'⟩ := F7.step3 26 hI (by simp [hd]) hmay.1 (HVL.out _ hI.b) HONE.out (by rw [HLEN.out]; decide) (by rw [HLEN.out]; decide)
    exact upv_ap rfl rfl rfl hr (hK _ _ hI')
   ·intro U; simp only [Act.put,zA,zB,zC]; rfl
   refine RH.goD (v := ?_) (f' := ?_) rfl ?_ ?_ ?_; rotate_left 2
   ·intro U K d wx hI hmay hK; go_simp; exact hK _ (F7.keep (by decide) hI)
   ·intro U; simp only [Act.put,zA,zB,zC]; rfl
   refine RH.goD (v := ?_) (f' := ?_) rfl ?_ ?_ ?_; rotate_left 2
   ·intro U K d wx hI hmay hK; have y0 := (hI.b.cell (p := ⟨h,2,none⟩) (by have := HW2.out; show h < _; omega)).trans R2.out
    go_simp; exact hK _ (F7.keep (by decide) hI)
   ·intro U; simp only [Act.put,zA,zB,zC]; rfl
   refine RH.goN (f' := ?_) rfl ?_ ?_ ?_; rotate_left 1
   ·intro U K d wx hI hmay hK; go_simp; exact hK _ _ (F7.step6 hI hmay.1)
   ·intro U; simp only [Act.put,zA,zB,zC]; rfl
   refine RH.goN (f' := ?_) rfl ?_ ?_ ?_; rotate_left 1
   ·intro U K d wx hI hmay hK; have hd := hmay.2 _ rfl; simp [Region.binds] at hd
    obtain ⟨v',w',hr,hI'⟩ := F7.step7 26 hI (by simp [hd]) (by simp [hd]) hmay.1 rfl (by rw [HLEN.out]; decide)
    exact upv_ap rfl rfl rfl hr (hK _ _ hI')
   ·intro U; simp only [Act.put,zA,zB,zC]; rfl
   refine RH.goN (f' := ?_) rfl ?_ ?_ ?_; rotate_left 1
   ·intro U K d wx hI hmay hK; have hd := hmay.2 _ rfl; simp [Region.binds] at hd
    obtain ⟨aU,cU,eU⟩ := own_len (hI.p7 (by simp [hd])); rw [List.length_append,List.length_singleton] at eU; have hK2 := hK _ _ (F7.step8 hI); generalize hs.length + 1 = m17 at *; go_simp; exact hK2
   ·intro U; simp only [Act.put,zA,zB,zC]; rfl
   refine RH.goD (v := ?_) (f' := ?_) rfl ?_ ?_ ?_; rotate_left 2
   ·intro U K d wx hI hmay hK; go_simp; exact hK _ (F7.keep (by decide) hI)
   ·intro U; simp only [Act.put,zA,zB,zC]; rfl
   refine RH.go_end ?_; intro d U w9 hI hall; simp +decide only [RH.tl,if_false]
   have HB9 : Hid (Below w2.heap.size w2 w9) := hI.b; have h7 := hI.p7 (by rw [hall 7 (by decide)]; rfl)
   have h8 := hI.p8 (by rw [hall 8 (by decide)]; rfl)
   rw [HLEN.out] at h8; obtain ⟨gV,cV,eV,hgV,hgW,hcV⟩ := own_cells h7 (by rw [HL17.out]; decide)
   rw [HL17.out] at eV; have HCV : Hid (w2.heap.size ≤ gV ∧ gV < w9.heap.size ∧ ∀ j u,(hs ++ [Value.slice a2 n2 c2])[j]? = some u → w9.cell? ⟨gV,j,none⟩ = some u) := ⟨hgV,hgW,hcV⟩; have HHD : Hid (Hds (ks ++ [u]) (hs ++ [.slice a2 n2 c2]) w) := Hds_app hk.out (Hds_one hu.out); have HGI : Hid (gi < w2.heap.size) := HLN.out.y.hi; have G0 : Hid (GL w9 gi (.slice none 0 0) [] w9) := GL_new (LN_below HLN.out HB9.out); have HNG : Hid (NB (h + 1) w9) := NB_below HNB.out HB9.out; have HNI9 : Hid (NB gi w9) := NB_below HNI.out HB9.out; have HL9 : Hid (Below w.heap.size w w9) := HL2.out.trans (HB9.out.mono HL2.out.size); have HX9 : Hid (B3 (h + 1) w9) := B3_gb (r := none) HX2.out (gb_below HB9.out) nofun; have HLL : Hid ((ks ++ [u]).length = 17) := by show _ = _; rw [← HHD.out.l]; exact HL17.out
   have R39 : Hid (w9.cell? ⟨h,3,none⟩ = some (.slice a3 16 c3)) := (HB9.out.cell (p := ⟨h,3,none⟩) HW2.out).trans R3.out; have HHI : Hid (h + 1 < gi) := HW1.out; clear hI hall h7 hgV hgW hcV HNB HNI HL2 HX2 R2 R3 HVL HONE HLN; obtain ⟨l,hl⟩ : ∃ l,l = ks ++ [u] := ⟨_,rfl⟩; obtain ⟨xs,hxs⟩ : ∃ xs,xs = hs ++ [Value.slice a2 n2 c2] := ⟨_,rfl⟩; rw [← hl,← hxs] at HHD; rw [← hxs] at HCV HL17; rw [← hl] at HLL; have EL : Hid (l = ks ++ [u]) := hl; have EX : Hid (xs = hs ++ [Value.slice a2 n2 c2]) := hxs; clear hl hxs; rw [eV,h8]; clear eV h8; generalize U 0 = V0 at *; generalize U 3 = V3 at *; generalize U 6 = V6 at *; clear HW2; go_wp2_with fail
   go_loopw [12,135] (fun m s wr => ∃ k : Nat,k ≤ 17 ∧ s = .int .i64 (k : Int) ∧ m = .int .i64 (np (l.take k) : Int) ∧ IA w9 gi xs k wr) (fun _ s _ => ((17 : Int) - intOf s).toNat)
   case atStart => exact ⟨0,Nat.zero_le _,rfl,by rw [List.take_zero]; rfl,⟨_,G0.out⟩⟩
   case round =>
    clear G0; obtain ⟨k,hk1,rfl,rfl,kv,hG⟩ := hrel; have HG : Hid (GL w9 gi kv ((xs.take k).map tv) wr) := hG; obtain ⟨ak,nk,ck,rfl⟩ := own_form hG.o; clear hG; by_cases h1 : k < 17
    ·have hkl : k < l.length := by rw [HLL.out]; exact h1
     have d1 : decide ((k : Int) < 17) = true := decide_eq_true (by omega); have d2 : (k : Int) < 17 := by omega
     have d0 : (0 : Int) ≤ (k : Int) := by omega
     have hw := Nb.stp k (by show _ ≤ _; omega)
     have hsl := HHD.out.s k hkl; obtain ⟨x,hx⟩ : ∃ x,x = xs.getD k undef := ⟨_,rfl⟩; obtain ⟨tx,htx⟩ : ∃ tx,tx = l.getD k [] := ⟨_,rfl⟩; rw [← hx,← htx] at hsl; obtain ⟨ax,cx,ex⟩ := Sl_fm hsl; have hxk : xs[k]? = some x := by
      have : k < xs.length := by rw [HL17.out]; exact h1
      rw [hx,List.getD_eq_getElem?_getD,List.getElem?_eq_getElem this]; rfl
     have c9 := HCV.out.2.2 k x hxk; have cr : wr.cell? ⟨gV,k,none⟩ = some x := (World.cell?_of_block (a := ⟨gV,k,none⟩) (HG.out.b.block gV HCV.out.2.1 (fun e => by injection e with e; have := HCV.out.1; have := HGI.out; omega))).trans c9
     rw [ex] at cr; have HTK : Hid ((xs.take (k + 1)).map tv = (xs.take k).map tv ++ [(.bool false,.slice ax tx.length cx,.slice none 0 0)]) := by
      show _ = _
      rw [List.take_add_one,hxk,List.map_append,ex]; rfl
     have HNP : Hid (np (l.take (k + 1)) = np (l.take k) + if 0 < tx.length then 1 else 0) := by rw [htx]; exact np_snoc l k hkl
     have HNW : Hid (wrap64 ((np (l.take k) : Int) + 1) = (np (l.take k) : Int) + 1) := by
      show _ = _
      have := np_le (l.take k); rw [List.length_take] at this; unfold wrap64
      omega
     have HZ : Hid (((xs.take k).map tv).length ≤ 4194304) := by show _ ≤ _; rw [List.length_map,List.length_take]; omega
     have HK1 : Hid (k < 17) := h1; clear hsl hx htx ex hxk c9 hkl hk1 h1; generalize np (l.take k) = q at *; obtain ⟨q2,hq2⟩ : ∃ q2,q2 = np (l.take (k + 1)) := ⟨_,rfl⟩; have HQ : Hid (q2 = np (l.take (k + 1))) := hq2; rw [← hq2] at HNP; clear hq2; generalize tx.length = mk at *; have c2r : Hid (wr.cell? ⟨gi,2,none⟩ = some (.slice ak nk ck)) := HG.out.c2; have HGR : Hid (gi < wr.heap.size) := HG.out.y.hi; have hL : RG.Lasts (fun wx => Below wr.heap.size wr wx) (fun _ v wx => ∃ g,v = .slice (some ⟨g,0,none⟩) 1 1 ∧ g < wx.heap.size ∧ wx.cell? ⟨g,0,none⟩ = some (.bool false) ∧ wx.cell? ⟨g,1,none⟩ = some (.slice ax mk cx) ∧ wx.cell? ⟨g,2,none⟩ = some (.slice none 0 0)) := ⟨fun _ _ h hb => h.trans (hb.mono h.size),fun _ _ _ _ h hb => by
      obtain ⟨g,g1,g2,g3,g4,g5⟩ := h; exact ⟨g,g1,Nat.lt_of_lt_of_le g2 hb.size,(hb.cell (p := ⟨g,0,none⟩) g2).trans g3,(hb.cell (p := ⟨g,1,none⟩) g2).trans g4,(hb.cell (p := ⟨g,2,none⟩) g2).trans g5⟩⟩
     go_upto_region 20 with fail
     refine RG.wp_region_gen (fun wx => Below wr.heap.size wr wx) (fun _ v wx => ∃ g,v = .slice (some ⟨g,0,none⟩) 1 1 ∧ g < wx.heap.size ∧ wx.cell? ⟨g,0,none⟩ = some (.bool false) ∧ wx.cell? ⟨g,1,none⟩ = some (.slice ax mk cx) ∧ wx.cell? ⟨g,2,none⟩ = some (.slice none 0 0)) (fun _ _ => True) [0,0,0,0,1,2,2,2] (by kernel_rfl) (by kernel_rfl) ((Below.refl _ _).drew) ?_
     dsimp only [List.toList_toArray]; refine RG.go1 (v := ?_) (a' := ?_) hL (by decide) rfl ?_ ?_ ?_; rotate_left 2
     ·intro K wx hS hK; go_simp; exact hK _ (Below.refl _ _)
     ·simp only [Act.put,zA,zB,zC]; rfl
     refine RG.go1 (v := ?_) (a' := ?_) hL (by decide) rfl ?_ ?_ ?_; rotate_left 2
     ·intro K wx hS hK; have z0 := (hS.cell (p := ⟨gi,2,none⟩) HGR.out).trans c2r.out; go_simp; exact hK _ (Below.refl _ _)
     ·simp only [Act.put,zA,zB,zC]; rfl
     refine RG.go1 (v := ?_) (a' := ?_) hL (by decide) rfl ?_ ?_ ?_; rotate_left 2
     ·intro K wx hS hK; go_simp; exact hK _ (Below.refl _ _)
     ·simp only [Act.put,zA,zB,zC]; rfl
     refine RG.go1 (v := ?_) (a' := ?_) hL (by decide) rfl ?_ ?_ ?_; rotate_left 2
     ·intro K wx hS hK; go_simp; refine (KT.out _ _ _ _).mono (fun e w2 he => ?_)
      refine ⟨_,he.1,?_⟩; exact hK _ he.2
     ·simp only [Act.put,zA,zB,zC]; rfl
     refine RG.goN hL rfl ?_ ?_
     ·intro K wx hS hK; have hn := heap_alloc_new wx (.cells #[.bool false,.slice ax mk cx,.slice none 0 0] 119); go_simp; exact hK _ _ ((Below.refl _ _).alloc (Nat.le_refl _) _) ⟨_,rfl,by simp,by simp only [World.cell?,hn]; rfl,by simp only [World.cell?,hn]; rfl,by simp only [World.cell?,hn]; rfl⟩ (fun _ _ _ => ⟨trivial,trivial⟩)
     iterate 3
      refine RG.goT ?_
     refine RG.go_end ?_; intro U w8 m8 y8 x8; simp +decide (maxSteps := 1000000) only [RG.tl,RG.putN,if_true,if_false,Act.put,List.setIfInBounds_toArray,List.set_cons_succ,List.set_cons_zero,Nat.reduceAdd]
     obtain ⟨g4,e4,_,y0,y1,y2⟩ := y8 4 rfl; obtain ⟨kv',w7,hap,⟨ck7,fz7⟩,hI7⟩ := GL_step 117 HG.out m8 y0 y1 y2 HZ.out; obtain ⟨ak2,nk2,ck2,rfl⟩ := own_form hI7.o; rw [e4]; have HI7 : Hid (GL w9 gi (.slice ak2 nk2 ck2) ((xs.take (k + 1)).map tv) (w7.setCell ⟨gi,2,none⟩ (.slice ak2 nk2 ck2))) := by show GL _ _ _ _ _; rw [HTK.out]; exact hI7
     clear hI7 y0 y1 y2 y8 x8 m8 hL HG HTK c2r e4; go_upto_region 21 with (at_builtin; refine wpList_apw rfl rfl rfl rfl hap ?_)
     generalize w7.setCell ⟨gi,2,none⟩ (.slice ak2 nk2 ck2) = w8' at *; by_cases m0 : mk = 0
     ·subst m0; have e : Hid (q2 = q) := by have := HNP.out; rwa [if_neg (by decide)] at this
      clear HNP HNW hap ck7 fz7; go_wp2_with fail
      have hw := hw.out; go_roundw
      case rel =>
       refine ⟨_,_,_,_,_,_,_,_,_,_,_,_,_,_,_,_,_,_,_,?_,rfl⟩; exact ⟨k + 1,HK1.out,Nb.step_v k _ rfl,by rw [← HQ.out,e.out],⟨_,HI7.out⟩⟩
      case measure => exact Nb.msr k 17 HK1.out _ rfl
     ·have e : Hid (q2 = q + 1) := by have := HNP.out; rwa [if_pos (by omega)] at this
      have t0 : (0 : Int) < (mk : Int) := by omega
      have t1 : 0 < mk := by omega
      clear HNP m0 hap ck7 fz7; go_wp2_with fail
      have hw := hw.out; go_roundw
      case rel =>
       refine ⟨_,_,_,_,_,_,_,_,_,_,_,_,_,_,_,_,_,_,_,?_,rfl⟩; exact ⟨k + 1,HK1.out,Nb.step_v k _ rfl,by rw [← HQ.out,e.out]; first | rfl | (rw [HNW.out]; rfl),⟨_,HI7.out⟩⟩
      case measure => exact Nb.msr k 17 HK1.out _ rfl
    ·have hkl : k = 17 := by omega
     subst hkl; have el : Hid (l.take 17 = l) := by show _ = _; rw [← HLL.out,List.take_length]
     have ex : Hid (xs.take 17 = xs) := by show _ = _; rw [← HL17.out,List.take_length]
     rw [el.out]; rw [ex.out] at HG; clear el ex h1 hk1; generalize hq : np l = q at *; have HQ : Hid (np l = q) := hq; clear hq; have R3r : wr.cell? ⟨h,3,none⟩ = some (.slice a3 16 c3) := (World.cell?_of_block (a := ⟨h,3,none⟩) (HG.out.b.block h (by have := HHI.out; have := HG.out.g; omega) (fun e => by injection e with e; have := HHI.out; omega))).trans R39.out
     go_wp2_with fail
     have XR : Hid (B3 (h + 1) wr) := B3_gb HX9.out HG.out.b (fun e => by injection e with e; have := HHI.out; omega)
     have hgb := HG.out.b; have hgb2 := HL9.out; have LR : Hid (Below w.heap.size w wr) := ⟨hgb.os.trans hgb2.os,hgb.tape.trans hgb2.tape,hgb.output.trans hgb2.output,Nat.le_trans hgb2.size hgb.size,fun j hj => (hgb.block j (Nat.lt_of_lt_of_le hj hgb2.size) (fun e => by injection e with e; have := HHI.out; have := EH.out; omega)).trans (hgb2.block j hj)⟩
     obtain ⟨aK,cK,eK,hK0⟩ := hv.out; obtain ⟨gK,offK,eK2,hgK,hcK⟩ := hK0 (by rw [HLEN.out]; decide)
     have eA : a3 = some ⟨gK,offK,none⟩ := by
      injection eK with e1 _ _
      rw [e1,eK2]
     clear hgb hgb2 hK0 eK eK2; subst eA; have HCK : Hid (gK < w.heap.size ∧ ∀ j,j < hs.length → w.cell? ⟨gK,offK + j,none⟩ = hs[j]?) := ⟨hgK,hcK⟩; clear hgK hcK R3r; go_loopw [155] (fun s w5 => ∃ j : Nat,j ≤ 16 ∧ s = .int .i64 (j : Int) ∧ Hid (∀ i,i < j → sm (ks.getD i []) = true) ∧ wr = w5) (fun s _ => ((16 : Int) - intOf s).toNat)
     case atStart => exact ⟨0,Nat.zero_le _,rfl,fun j hj => absurd hj (Nat.not_lt_zero _),rfl⟩
     case round =>
      obtain ⟨j,hj,rfl,hA,rfl⟩ := hrel; have HKL : Hid (ks.length = 16) := by show _ = _; rw [← hk.out.l]; exact HLEN.out
      by_cases j1 : j < 16
      ·have d1 : decide ((j : Int) < 16) = true := decide_eq_true (by omega); have hw := Nb.stp j (by show _ ≤ _; omega)
       have hsl := hk.out.s j (by rw [HKL.out]; exact j1)
       have hjl : j < hs.length := by rw [HLEN.out]; exact j1
       have cw := HCK.out.2 j hjl; rw [List.getElem?_eq_getElem hjl] at cw; have eg : hs.getD j undef = hs[j] := by rw [List.getD_eq_getElem?_getD,List.getElem?_eq_getElem hjl]; rfl
       rw [eg] at hsl; obtain ⟨ax,cx,ex⟩ := Sl_fm hsl; rw [ex] at cw; have cr := (LR.out.cell (p := ⟨gK,offK + j,none⟩) HCK.out.1).trans cw; clear cw hsl ex eg hjl; have HS : Hid (sm (ks.getD j []) = (decide ((ks.getD j []).length = 0) || decide ((ks.getD j []).length = 32))) := by
        show _ = _
        unfold sm
        rw [Bool.eq_iff_iff]; simp
       have HJ : Hid (j < ks.length) := by show _ < _; rw [HKL.out]; exact j1
       obtain ⟨x,hx⟩ : ∃ x,x = ks.getD j [] := ⟨_,rfl⟩; rw [← hx] at HS cr; have HX : Hid (x = ks.getD j []) := hx; clear hx; obtain ⟨m,hm⟩ : ∃ m,m = x.length := ⟨_,rfl⟩; rw [← hm] at HS cr; clear hm; have HT : sm x = true → Hid (∀ i,i < j + 1 → sm (ks.getD i []) = true) := fun e i hi => by
        by_cases e2 : i = j
        ·subst e2; rw [← HX.out]; exact e
        ·exact hA.out i (by omega)
       by_cases m0 : m = 0
       ·subst m0; have H1 := HT (by rw [HS.out]; rfl)
        clear HS hA HT; go_wp2_with fail
        have hw := hw.out; go_roundw
        case rel => exact ⟨j + 1,j1,Nb.step_v j _ rfl,H1,trivial⟩
        case measure => exact Nb.msr j 16 j1 _ rfl
       ·by_cases m1 : m = 32
        ·subst m1; have H1 := HT (by rw [HS.out]; rfl)
         clear HS hA HT m0; go_wp2_with fail
         have hw := hw.out; go_roundw
         case rel => exact ⟨j + 1,j1,Nb.step_v j _ rfl,H1,trivial⟩
         case measure => exact Nb.msr j 16 j1 _ rfl
        ·have H1 : Hid (ks.all sm = false) := by
          show _ = _
          rw [List.all_eq_false]; refine ⟨x,?_,?_⟩
          ·rw [HX.out,List.getD_eq_getElem?_getD,List.getElem?_eq_getElem HJ.out]; exact List.getElem_mem _
          ·rw [HS.out]; simp [m0,m1]
         have t0 : ((m : Int) != 0) = true := bne_iff_ne.2 (by omega); have t1 : ((m : Int) != 32) = true := bne_iff_ne.2 (by omega); clear HS hA HT hw; go_upto_region 28 with fail
         go_wp2_with (refine wpList_st3b rfl rfl rfl rfl XR.out ?_)
         intro w6 g6 b6 z0 z1 z2; have l6 : Hid (Below w.heap.size w w6) := LR.out.trans ⟨g6.os,g6.tape,g6.output,g6.size,fun j hj => g6.block j (by have := LR.out.size; omega) (fun e => by injection e with e; have := EH.out; omega)⟩
         clear g6 b6; go_wp2_with fail
         exact bodyPost_ret (v := .tuple #[.agg #[.bool false,.slice none 0 0,.slice none 0 0],.bool false]) (resI2 _ _ _ (h + 1) 2 3 _ _ _ _ rfl rfl rfl z0 z1 z2) rfl ⟨(.bool false,.slice none 0 0,.slice none 0 0),by rw [H1.out]; rfl,by rw [H1.out]; nofun,l6.out,⟨_,_,_,_,_,_,_,rfl⟩⟩
      ·have hkl : j = 16 := by omega
       subst hkl; have H1 : Hid (ks.all sm = true) := by
        show _ = _
        rw [List.all_eq_true]; intro x hx; obtain ⟨i,hi,rfl⟩ := List.mem_iff_getElem.1 hx; have := hA.out i (by have := HKL.out; omega)
        rwa [List.getD_eq_getElem?_getD,List.getElem?_eq_getElem hi] at this
       have g0 := HG.out.c0; have g1 := HG.out.c1; have g2 := HG.out.c2; have IV0 : Hid (Iv (· ≠ h + 1) wr (.mk true [] (l.map fun b => .mk false b [])) (.bool true,.slice none 0 0,.slice ak nk ck)) := GL_ivS HG.out ⟨HHD.out.l,fun i hi => Sl_below (HHD.out.s i hi) HL9.out⟩ HNG.out HNI9.out
       clear hA HG j1 hj; obtain ⟨D,hD⟩ : ∃ D,D = decide (1 < q) := ⟨_,rfl⟩; have HD : Hid (D = decide (2 ≤ np (ks ++ [u]))) := by
        show _ = _
        rw [hD,← EL.out,HQ.out]; exact decide_eq_decide.2 (by omega)
       have hD2 : decide ((1 : Int) < (q : Int)) = D := by rw [hD]; exact decide_eq_decide.2 (by omega)
       have hD3 : decide ((q : Int) > 1) = D := hD2; clear hD; go_upto_region 30 with fail
       go_wp2_with (refine wpList_st3b rfl rfl rfl rfl XR.out ?_)
       intro w6 g6 b6 z0 z1 z2; have l6 : Hid (Below w.heap.size w w6) := LR.out.trans ⟨g6.os,g6.tape,g6.output,g6.size,fun j hj => g6.block j (by have := LR.out.size; omega) (fun e => by injection e with e; have := EH.out; omega)⟩
       have IV6 : Hid (Iv (fun _ => True) w6 (.mk true [] ((ks ++ [u]).map fun b => .mk false b [])) (.bool true,.slice none 0 0,.slice ak nk ck)) := by
        rw [← EL.out]; exact Iv_mono (Iv_gb IV0.out g6 (fun k hk e => by injection e with e; exact hk e)) (fun _ _ _ => trivial)
       clear g6 b6 IV0; go_wp2_with fail
       exact bodyPost_ret (v := .tuple #[.agg #[.bool true,.slice none 0 0,.slice ak nk ck],.bool D]) (resI2 _ _ _ (h + 1) 2 3 _ _ _ _ rfl rfl rfl z0 z1 z2) rfl ⟨(.bool true,.slice none 0 0,.slice ak nk ck),by rw [H1.out,← HD.out]; rfl,fun _ => IV6.out,l6.out,⟨_,_,_,_,_,_,_,rfl⟩⟩
end Rs
end Go.Proofs.YtlbdaccmnpcccaaGreatDoor
namespace Go.Proofs.YtlbdaccmnpcccaaGreatDoor
namespace Pk
open Go.RowKit Go.Shelf
attribute [local go_sem] Oper.semAt_some
def upto {α : Type} (f : Nat → α) (k : Nat) : List α := (List.range k).map f
theorem upto_succ {α : Type} (f : Nat → α) (k : Nat) : upto f (k + 1) = upto f k ++ [f k] := by simp [upto,List.range_succ]
theorem upto_length {α : Type} (f : Nat → α) (k : Nat) : (upto f k).length = k := by simp [upto]
def bwd (zs : List UInt8) (k : Nat) : Int × UInt8 := (((zs.length - 1 - k : Nat) : Int),zs.getD (zs.length - 1 - k) 0)
def Kp2 (Bs b : Nat) (W W' : World) : Prop := ∀ o,W'.cell? ⟨Bs,o,none⟩ = W.cell? ⟨Bs,o,none⟩ ∧ W'.cell? ⟨b,o,none⟩ = W.cell? ⟨b,o,none⟩
theorem Kp2_t {Bs b : Nat} {A B C : World} (h : Kp2 Bs b A B) (k : Kp2 Bs b B C) : Kp2 Bs b A C := fun o => ⟨(k o).1.trans (h o).1,(k o).2.trans (h o).2⟩
theorem bwd_wrap (a : Nat) (h : a ≤ 4194304) : Hid (wrap64 ((a : Int) - 1) = (a : Int) - 1) := by
 show _ = _
 unfold wrap64; omega
theorem bwd1_in (F : Fence) (n : Nat) (hf : F.fn 126) (hro : F.round = none) (hn : 1 ≤ n) (l Bs b off cap : Nat) (zs : List UInt8) (hreach : zs.length ≤ 4194304) (J Jx : List (Int × UInt8) → World → Prop)
  (hY : ∀ pre x W,J pre W → pre.length < zs.length → YieldAt F (n - 1) Tryz.prog l #[.int .i64 x.1,.int .u8 (x.2.toNat : Int)] W fun e W' =>
   (e = .returned (.bool true) ∧ J (pre ++ [x]) W' ∧ Kp2 Bs b W W') ∨ (e = .returned (.bool false) ∧ Jx (pre ++ [x]) W'))
  (W : World) (hBs : W.cell? ⟨Bs,0,none⟩ = some (.slice (some ⟨b,off,none⟩) zs.length cap)) (hc : ∀ j,j < zs.length → W.cell? ⟨b,off + j,none⟩ = some (.int .u8 (Sp.bz zs j))) (h0 : J [] W) :
  CallsIn F n Tryz.prog 126 #[.func (.yield l) #[] #[],.pointer (some ⟨Bs,0,none⟩)] W fun e W' => (∃ v,e = .returned v) ∧
   ((∃ ys,ys = upto (bwd zs) zs.length ∧ J ys W') ∨ (∃ pre,(∃ k,k ≤ zs.length ∧ pre = upto (bwd zs) k) ∧ Jx pre W')) := by
 refine callsIn_of_wp Tryz.func126 rfl hf ?_ hro; simp only [Tryz.ntmps126,List.size_toArray,List.length_cons,List.length_nil,Nat.reduceAdd,Nat.reduceSub,Array.replicate_succ,Array.replicate_zero,List.push_toArray,List.append_toArray,List.nil_append,List.cons_append]; have hw0 := (bwd_wrap zs.length hreach).out; gi_wp2
 clear hw0; gi_loopw [3] (fun i wr => ∃ k : Nat,k ≤ zs.length ∧ i = .int .i64 ((zs.length - k : Nat) - 1 : Int) ∧ J (upto (bwd zs) k) wr ∧ Kp2 Bs b W wr)
  (fun i _ => (intOf i + 1).toNat)
 case atStart => exact ⟨0,Nat.zero_le _,by simp,h0,fun o => ⟨rfl,rfl⟩⟩
 case round =>
  obtain ⟨k,hk,rfl,hJs,hkp⟩ := hrel; have hBs' : wr.cell? ⟨Bs,0,none⟩ = some (.slice (some ⟨b,off,none⟩) zs.length cap) := (hkp 0).1.trans hBs; by_cases hlt : k < zs.length
  ·obtain ⟨j,hj⟩ : ∃ j,zs.length - k = j + 1 := ⟨zs.length - k - 1,by omega⟩; have ei : (((zs.length - k : Nat) : Int) - 1) = (j : Int) := by omega
   have HJ : Hid (zs.length - k = j + 1) := hj; have hjl : (j : Int) < (zs.length : Int) := by omega
   have hj0 : (0 : Int) ≤ (j : Int) := by omega
   have hjd : decide ((0 : Int) ≤ (j : Int)) = true := decide_eq_true hj0; obtain ⟨c,hcc⟩ : ∃ c,c = zs.getD j 0 := ⟨_,rfl⟩; have hcx : wr.cell? ⟨b,off + j,none⟩ = some (.int .u8 (c.toNat : Int)) := by rw [hcc]; exact (hkp (off + j)).2.trans (hc j (by omega))
   have HB : Hid (upto (bwd zs) (k + 1) = upto (bwd zs) k ++ [((j : Int),c)]) := by
    show _ = _
    rw [upto_succ]; unfold bwd
    rw [show zs.length - 1 - k = j by omega,hcc]
   obtain ⟨fn,tmps,assign,body,hy,hR⟩ := hY _ ((j : Int),c) wr hJs (by rw [upto_length]; exact hlt)
   dsimp only at hy; have hw := (bwd_wrap j (by omega)).out; rw [ei]; clear hj hcc ei; gi_wp2
   refine hR.mono ?_; rintro e W3 (⟨rfl,hJ3,hk3⟩ | ⟨rfl,hJx3⟩)
   ·gi_wp2
    go_roundw
    case rel => exact ⟨k + 1,hlt,by have := HJ.out; first | rfl | (congr 1; omega) | (rw [hw]; congr 1; omega),by rw [HB.out]; exact hJ3,Kp2_t hkp hk3⟩
    case measure => simp [intOf] <;> omega
   ·gi_wp2
    refine bodyPost_ret (results_none rfl _ _ _) rfl ?_; exact ⟨⟨_,rfl⟩,.inr ⟨_,⟨k + 1,hlt,HB.out.symm⟩,hJx3⟩⟩
  ·obtain rfl : k = zs.length := by omega
   have ei : (((zs.length - zs.length : Nat) : Int) - 1) = -1 := by omega
   rw [ei]; gi_wp2
   go_end0
   exact ⟨⟨_,rfl⟩,.inl ⟨_,rfl,hJs⟩⟩
theorem bwd1_nil_in (F : Fence) (n : Nat) (hf : F.fn 126) (hro : F.round = none) (l Bs : Nat) (a : Option Addr) (cap : Nat) (J : List (Int × UInt8) → World → Prop) (W : World) (hBs : W.cell? ⟨Bs,0,none⟩ = some (.slice a 0 cap)) (h0 : J [] W) :
  CallsIn F n Tryz.prog 126 #[.func (.yield l) #[] #[],.pointer (some ⟨Bs,0,none⟩)] W fun e W' => (∃ v,e = .returned v) ∧ J [] W' := by
 refine callsIn_of_wp Tryz.func126 rfl hf ?_ hro; simp only [Tryz.ntmps126,List.size_toArray,List.length_cons,List.length_nil,Nat.reduceAdd,Nat.reduceSub,Array.replicate_succ,Array.replicate_zero,List.push_toArray,List.append_toArray,List.nil_append,List.cons_append]; gi_wp2
 gi_loopw [3] (fun i wr => i = .int .i64 (-1) ∧ J [] wr) (fun _ _ => 0)
 case atStart => exact ⟨rfl,h0⟩
 case round =>
  obtain ⟨rfl,hJs⟩ := hrel; gi_wp2
  go_end0
  exact ⟨⟨_,rfl⟩,hJs⟩
theorem bwd_in (F : Fence) (n : Nat) (hf : F.fn 119) (hro : F.round = none) (a : Option Addr) (len cap : Nat) (w : World) :
  CallsIn F n Tryz.prog 119 #[.slice a len cap] w fun e w' => e = .returned (.func (.func 126) #[] #[.pointer (some ⟨w.heap.size,0,none⟩)]) ∧ w' = w.alloc (.cells #[.slice a len cap] 22) := by
 refine callsIn_of_wp Tryz.func119 rfl hf ?_ hro; simp only [Tryz.ntmps119,List.size_toArray,List.length_cons,List.length_nil,Nat.reduceAdd,Nat.reduceSub,Array.replicate_succ,Array.replicate_zero,List.push_toArray,List.append_toArray,List.nil_append,List.cons_append]; gi_wp2
 go_ret
 exact ⟨rfl,rfl⟩
theorem upto_bwd (zs : List UInt8) : (upto (bwd zs) zs.length).map (·.2) = zs.reverse := by
 apply List.ext_getElem
 ·simp [upto]
 ·intro i h1 h2; have hi : i < zs.length := by simpa [upto] using h1
  simp only [upto,List.map_map,List.getElem_map,List.getElem_range,Function.comp,bwd,List.getElem_reverse]; rw [List.getD_eq_getElem?_getD,List.getElem?_eq_getElem (by omega)]; rfl
theorem bwd_stops (F : Fence) (n : Nat) (hf : F.fn 126) (hro : F.round = none) (hn : 1 ≤ n) (Bs b cap : Nat) (ao : Option Addr) (zs : List UInt8) (hreach : zs.length ≤ 4194304) (w : World) (hBs : Bs < w.heap.size)
  (hc : w.cell? ⟨Bs,0,none⟩ = some (.slice ao zs.length cap)) (hv : Sp.Vw zs ao w) (hb : 0 < zs.length → ∃ off,ao = some ⟨b,off,none⟩) :
  SeqStopsK F n Tryz.prog 126 #[.pointer (some ⟨Bs,0,none⟩)] (fun x : Int × UInt8 => #[Value.int .i64 x.1,.int .u8 (x.2.toNat : Int)]) (Kp2 Bs b) (fun ys => ys.map (·.2) = zs.reverse) (fun _ => True) zs.length w := fun l J Jx W hW _ _ hY h0 => by
 have hc' := (hW.cell (p := ⟨Bs,0,none⟩) hBs).trans hc; by_cases h1 : 0 < zs.length
 ·obtain ⟨g,off,e1,hg,hcs⟩ := hv h1; obtain ⟨off',e2⟩ := hb h1; rw [e1] at e2; injection e2 with e2
  injection e2 with e3 e4 _
  subst e3 e4 e1; refine (bwd1_in F n hf hro hn l Bs g off cap zs hreach J Jx hY W hc' (fun j hj => (hW.cell (p := ⟨g,off + j,none⟩) hg).trans (hcs j hj)) h0).mono ?_
  rintro e W' ⟨he,⟨ys,rfl,hj⟩ | ⟨pre,_,hj⟩⟩
  ·exact ⟨he,.inl ⟨_,upto_bwd zs,hj⟩⟩
  ·exact ⟨he,.inr ⟨_,trivial,hj⟩⟩
 ·have e : zs = [] := List.length_eq_zero_iff.1 (by omega); subst e; exact (bwd1_nil_in F n hf hro l Bs ao cap J W hc' h0).mono fun e W' ⟨he,hj⟩ => ⟨he,.inl ⟨[],rfl,hj⟩⟩
end Pk
end Go.Proofs.YtlbdaccmnpcccaaGreatDoor
namespace Go.Proofs.YtlbdaccmnpcccaaGreatDoor
namespace RI
section
variable {F : Fence} {n : Nat} {P : Program} {ops : Array Oper} {Q : Exit → Act → World → Prop}
theorem wpAnyIn_inv (I : (Nat → Bool) → Act → World → Prop) (he : early ops = true)
  (hstep : ∀ d a w i,I d a w → i < ops.size → may ops d i → wpOpIn F n P ops Q i (I (don d i)) a w)
  (hend : ∀ d a w,I d a w → (∀ i,i < ops.size → d i = true) → Q .normal a w) :
  ∀ fuel l a w,l.size = ops.size → un (dof l) ops.size ≤ fuel → I (dof l) a w → wpAnyIn F n P .any ops Q fuel l a w
 | 0,l,a,w,hl,hu,hI => by
  have hd := un_zero (dof l) ops.size (by omega); refine ⟨?_,hend _ a w hI hd⟩; rw [List.eq_nil_iff_forall_not_mem]; intro i hi; obtain ⟨h1,h2⟩ := (ready_iff ops l i hl).1 hi; have := hd i h1; rw [h2.1] at this; cases this
 | fuel + 1,l,a,w,hl,hu,hI => by
  refine ⟨fun hr => hend _ a w hI (all_done ops he _ fun i h1 h2 => ?_),fun i hi => ?_⟩
  ·have := (ready_iff ops l i hl).2 ⟨h1,h2⟩; rw [hr] at this; cases this
  ·obtain ⟨h1,h2⟩ := (ready_iff ops l i hl).1 hi; refine wpOpIn_mono (fun a' w' h => ?_) (hstep _ a w i hI h1 h2)
   have e := dof_set l i (by omega); refine wpAnyIn_inv I he hstep hend fuel _ a' w' (by simpa using hl) ?_ (by rw [e]; exact h)
   rw [e]; have := (un_don (dof l) i ops.size).2 h1 h2.1; omega
theorem wpIn_region_inv {id : Nat} {a : Act} {w : World} (I : (Nat → Bool) → Act → World → Prop) (hm : P.follows .mixedOrders = true) (he : early ops = true) (h0 : I (fun _ => false) a w.drew)
  (hstep : ∀ d a w i,I d a w → i < ops.size → may ops d i → wpOpIn F n P ops Q i (I (don d i)) a w)
  (hend : ∀ d a w,I d a w → (∀ i,i < ops.size → d i = true) → Q .normal a w) : (Code.region id ops true).wpIn F n P Q a w := by
 refine wpIn_region_any hm (wpAnyIn_inv I he hstep hend ops.size _ a _ (by simp) ?_ ?_)
 ·have e : dof (Array.replicate ops.size false) = fun _ => false := by
   funext j
   unfold dof
   by_cases h : j < ops.size <;> simp [h]
  rw [e,un_all]; exact Nat.le_refl _
 ·have e : dof (Array.replicate ops.size false) = fun _ => false := by
   funext j
   unfold dof
   by_cases h : j < ops.size <;> simp [h]
  rw [e]; exact h0
theorem wpOpIn_plain {i : Nat} {o : Oper} {K : Act → World → Prop} {a : Act} {w : World} (ho : ops[i]? = some o) (hg : o.guard = none) (h : o.wpIn F n P a w K Q) : wpOpIn F n P ops Q i K a w := by
 unfold wpOpIn
 rw [ho]; have hw : Region.wanted o (yielded ops a.tmps) = true := by simp [Region.wanted,hg]
 simp only [hw,if_true]; exact h
end
def upw (P : Program) (K : Value → World → Prop) : Result Next → Prop
 | .ok (.value v) w => K v w
 | .ok .skip w => K undef w
 | .ok (.enter f args) w => Calls P f args w fun e w' => ∃ v,e = .returned v ∧ K v w'
 | _ => False
@[simp] theorem upw_value (P : Program) (K : Value → World → Prop) (v : Value) (w : World) : upw P K (.ok (.value v) w) = K v w := rfl
@[simp] theorem upw_skip (P : Program) (K : Value → World → Prop) (w : World) : upw P K (.ok .skip w) = K undef w := rfl
@[simp] theorem upw_enter (P : Program) (K : Value → World → Prop) (f : FuncId) (args : Array Value) (w : World) : upw P K (.ok (.enter f args) w) = Calls P f args w fun e w' => ∃ v,e = .returned v ∧ K v w' := rfl
theorem wpIn_round {P : Program} {o : Oper} {a : Act} {w : World} {K : Act → World → Prop} {Q : Exit → Act → World → Prop} {l n : Nat} (hd : ∀ c,o.op ≠ .defer c) (h : upw P (fun v w => K (a.put o.dst v) w) ((execOp a.eval o).run P w)) : o.wpIn (Fence.wide.inRound l) n P a w K Q := by
 refine ⟨fun _ _ => trivial,?_⟩
 rw [Oper.semAt_eq _ _ _ hd]; generalize (execOp a.eval o).run P w = r at h; match r,h with
 | .ok (.value _) _,h => exact h
 | .ok .skip _,h => exact h
 | .ok (.enter f args) w',h =>
  refine ⟨fun h2 => (by cases h2),CallsIn.inRound l (callsIn_wide.2 (Calls.mono h fun e w' he => ?_))⟩
  obtain ⟨v,rfl,hk⟩ := he; exact hk
end RI
end Go.Proofs.YtlbdaccmnpcccaaGreatDoor
namespace Go.Proofs.YtlbdaccmnpcccaaGreatDoor
namespace Pk
open Go.RowKit Go.Shelf
attribute [local go_sem] Oper.semAt_some
def WS (WA WB WC WD : World) (d : Nat → Bool) (wx : World) : Prop :=
 (wx = WA ∧ d 6 = false ∧ d 7 = false ∧ d 10 = false) ∨ (wx = WB ∧ d 6 = true ∧ d 7 = false ∧ d 10 = false) ∨ (wx = WC ∧ d 6 = true ∧ d 7 = true ∧ d 10 = false) ∨ (wx = WD ∧ d 10 = true ∧ ∀ j,j < 8 → d j = true)
theorem WS_keep {WA WB WC WD : World} {d : Nat → Bool} {wx : World} (i : Nat) (h6 : 6 ≠ i) (h7 : 7 ≠ i) (h10 : 10 ≠ i) (h : WS WA WB WC WD d wx) : WS WA WB WC WD (RI.don d i) wx := by
 unfold WS
 rw [RI.don_other _ _ _ h6,RI.don_other _ _ _ h7,RI.don_other _ _ _ h10]; rcases h with h | h | h | ⟨h1,h2,h3⟩
 ·exact .inl h
 ·exact .inr (.inl h)
 ·exact .inr (.inr (.inl h))
 ·refine .inr (.inr (.inr ⟨h1,h2,fun j hj => ?_⟩))
  unfold RI.don
  split
  ·rfl
  ·exact h3 j hj
theorem WS_rd {WA WB WC WD : World} {d : Nat → Bool} {wx : World} {p : Addr} {v : Value} {i : Nat} (h : WS WA WB WC WD d wx) (hi : d i = false) (h10 : i < 8) (hA : WA.cell? p = some v) (hB : WB.cell? p = some v) (hC : WC.cell? p = some v) : wx.cell? p = some v := by
 rcases h with ⟨rfl,_⟩ | ⟨rfl,_⟩ | ⟨rfl,_⟩ | ⟨_,_,h3⟩
 ·exact hA
 ·exact hB
 ·exact hC
 ·rw [h3 i h10] at hi; cases hi
theorem WS_A {WA WB WC WD : World} {d : Nat → Bool} {wx : World} (h : WS WA WB WC WD d wx) (h6 : d 6 = false) : wx = WA ∧ d 7 = false ∧ d 10 = false := by
 rcases h with ⟨rfl,_,h⟩ | ⟨_,h,_⟩ | ⟨_,h,_⟩ | ⟨_,_,h⟩
 ·exact ⟨rfl,h⟩
 ·rw [h6] at h; cases h
 ·rw [h6] at h; cases h
 ·rw [h 6 (by decide)] at h6; cases h6
theorem WS_B {WA WB WC WD : World} {d : Nat → Bool} {wx : World} (h : WS WA WB WC WD d wx) (h7 : d 7 = false) (h6 : d 6 = true) : wx = WB ∧ d 10 = false := by
 rcases h with ⟨_,h,_⟩ | ⟨rfl,_,_,h⟩ | ⟨_,_,h,_⟩ | ⟨_,_,h⟩
 ·rw [h6] at h; cases h
 ·exact ⟨rfl,h⟩
 ·rw [h7] at h; cases h
 ·rw [h 7 (by decide)] at h7; cases h7
theorem WS_C {WA WB WC WD : World} {d : Nat → Bool} {wx : World} (h : WS WA WB WC WD d wx) (h10 : d 10 = false) (h7 : d 7 = true) : wx = WC := by
 rcases h with ⟨_,_,h,_⟩ | ⟨_,_,h,_⟩ | ⟨rfl,_⟩ | ⟨_,h,_⟩
 ·rw [h7] at h; cases h
 ·rw [h7] at h; cases h
 ·rfl
 ·rw [h10] at h; cases h
theorem WS_D {WA WB WC WD : World} {d : Nat → Bool} {wx : World} (h : WS WA WB WC WD d wx) (h10 : d 10 = true) : wx = WD := by
 rcases h with ⟨_,_,_,h⟩ | ⟨_,_,_,h⟩ | ⟨_,_,_,h⟩ | ⟨rfl,_⟩
 ·rw [h10] at h; cases h
 ·rw [h10] at h; cases h
 ·rw [h10] at h; cases h
 ·rfl
theorem upw_app {P : Program} {o : Oper} {a : Act} {s x : Operand} {t u : TypeId} {v v2 v' : Value} {w w' : World} {K : Value → World → Prop} (ho : o.op = .call { callee := .builtin .append,args := #[s,x],argTypes := #[t,u] }) (hs : a.eval s = v) (hx : a.eval x = v2)
  (hr : (Builtin.append_ #[t,u] o.type #[v,v2]).run P w = .ok v' w') (h : K v' w') : RI.upw P K ((execOp a.eval o).run P w) := by
 unfold execOp
 simp only [ho,resolve,invoke,builtin,Sem.run_bind,Sem.run_pure,Result.andThen_ok,List.map_toArray,List.map_cons,List.map_nil,hs,hx,hr]; exact h
def LB (h2 g GB : Nat) (c : Int) (a1 a2 : Option Addr) (n1 p1 n2 p2 : Nat) (c0 c1 c3 c4 c6 c7 c8 c9 : Value) (WA WB WC WD : World) (d : Nat → Bool) (x : Act) (wx : World) : Prop :=
 ∃ (u10 u11 u12 u13 u14 u15 u16 u17 u18 u19 : Value),x = { tmps := #[c0,c1,.pointer (some ⟨h2,0,none⟩),c3,c4,.int .u8 c,c6,c7,c8,c9,u10,u11,u12,u13,u14,u15,u16,u17,u18,u19],defers := [] } ∧ WS WA WB WC WD d wx ∧ (d 0 = true → u10 = .pointer (some ⟨g,0,none⟩)) ∧ (d 1 = true → u11 = .pointer (some ⟨g,0,none⟩)) ∧ (d 2 = true → u12 = .pointer (some ⟨g,0,none⟩)) ∧ (d 3 = true → u13 = .pointer (some ⟨g,0,none⟩)) ∧ (d 4 = true → u14 = .slice a1 n1 p1) ∧ (d 5 = true → u15 = .int .u8 c) ∧ (d 6 = true → u16 = .slice (some ⟨GB,0,none⟩) 1 1) ∧ (d 7 = true → u17 = .slice a2 n2 p2) ∧ (d 8 = true → u18 = .pointer (some ⟨g,0,none⟩)) ∧ (d 9 = true → u19 = .pointer (some ⟨g,0,none⟩))
end Pk
end Go.Proofs.YtlbdaccmnpcccaaGreatDoor
namespace Go.Proofs.YtlbdaccmnpcccaaGreatDoor
namespace Pk
open Go.RowKit Go.Shelf
structure Wt (g : Nat) (bs : List UInt8) (v : Value) (w : World) : Prop where
 hi : g < w.heap.size
 f : w.frozen? ⟨g,0,none⟩ = false
 c : w.cell? ⟨g,0,none⟩ = some v
 o : w.ownsRow (g + 1) 5 1 v bs.length (bcs bs)
structure Fw (g : Nat) (v v' : Value) (w W : World) : Prop where
 os : W.os = w.os
 tape : W.tape = w.tape
 output : W.output = w.output
 size : w.heap.size ≤ W.heap.size
 block : ∀ j,j < w.heap.size → j ≠ g → some j ≠ v.ownBlock → W.heap[j]? = w.heap[j]?
 own : v'.ownBlock = v.ownBlock ∨ ∀ k,v'.ownBlock = some k → w.heap.size ≤ k
theorem Fw_trans {g : Nat} {v v' v'' : Value} {a b c : World} (h : Fw g v v' a b) (k : Fw g v' v'' b c) : Fw g v v'' a c := by
 refine ⟨k.os.trans h.os,k.tape.trans h.tape,k.output.trans h.output,Nat.le_trans h.size k.size,fun j hj hg hv => ?_,?_⟩
 ·refine (k.block j (Nat.lt_of_lt_of_le hj h.size) hg (fun e => ?_)).trans (h.block j hj hg hv)
  rcases h.own with h1 | h1
  ·rw [h1] at e; exact hv e
  ·have := h1 j e.symm; omega
 ·rcases k.own with h2 | h2
  ·rcases h.own with h1 | h1
   ·exact .inl (h2.trans h1)
   ·exact .inr (fun x e => h1 x (by rw [← h2]; exact e))
  ·exact .inr (fun x e => Nat.le_trans h.size (h2 x e))
theorem app_one {B : Nat} {bs : List UInt8} {v : Value} {w : World} (c : UInt8) (h : w.ownsRow B 5 1 v bs.length (bcs bs)) (hB : B ≤ w.heap.size) (hlen : bs.length + 1 ≤ 4398046511104) :
  ∃ G cap w',(Builtin.append_ #[22,22] 22 #[v,.slice (some ⟨w.heap.size,0,none⟩) 1 1]).run Tryz.prog (w.alloc (.cells #[.int .u8 (c.toNat : Int)] 5)) = .ok (.slice (some ⟨G,0,none⟩) (bs.length + 1) cap) w' ∧ w'.ownsRow B 5 1 (.slice (some ⟨G,0,none⟩) (bs.length + 1) cap) (bs ++ [c]).length (bcs (bs ++ [c])) ∧ (w.alloc (.cells #[.int .u8 (c.toNat : Int)] 5)).grownBy w' v.ownBlock ∧ (v.ownBlock = some G ∨ (w.alloc (.cells #[.int .u8 (c.toNat : Int)] 5)).heap.size ≤ G) := by
 obtain ⟨i0,hi0,hz0,hz1,hz2⟩ := info_parts Tryz.infoU8'; have hnew := heap_alloc_new w (.cells #[.int .u8 (c.toNat : Int)] 5); have hsz : (w.alloc (.cells #[.int .u8 (c.toNat : Int)] 5)).heap.size = w.heap.size + 1 := by simp
 obtain ⟨G,cap,w',hr,h7,hgr,hG,_⟩ := run_append_lies (P := Tryz.prog) (w.alloc (.cells #[.int .u8 (c.toNat : Int)] 5)) 22 22 B 5 i0 (.int .u8 0) 1 1 Tryz.underlying22 hi0 hz0 hz1 hz2 rfl (by decide) v bs.length (bcs bs) (h.alloc _) ⟨w.heap.size,0,none⟩ 1 1 [.int .u8 (c.toNat : Int)] rfl
  (fun j u hj => by
   have ea : (⟨w.heap.size,0,none⟩ : Addr).add j = ⟨w.heap.size,j,none⟩ := by unfold Addr.add; split <;> simp_all
   rw [ea]; simp only [World.cell?,hnew]; simpa using hj) (fun u hu => by
    simp only [List.mem_cons,List.not_mem_nil,or_false] at hu; subst hu; rfl) (by decide) (by unfold maxLen; omega) (by omega) (by omega) _ rfl
 refine ⟨G,cap,w',hr,?_,hgr,hG.imp id (fun e => Nat.le_of_eq e.symm)⟩
 rw [List.length_append,bcs_app]; exact h7
def Lw (w : World) (g : Nat) (v : Value) (h2 : Nat) (bs : List UInt8) (W : World) : Prop :=
 ∃ v',Wt g bs v' W ∧ W.cell? ⟨h2,0,none⟩ = some (.pointer (some ⟨g,0,none⟩)) ∧ w.heap.size + 2 ≤ W.heap.size ∧ Fw g v v' w W ∧ (∀ k,v'.ownBlock = some k → k < w.heap.size ∨ w.heap.size + 2 ≤ k)
theorem row_cells {B e z n : Nat} {v : Value} {xs : List Value} {W : World} {k : Nat} (h : W.ownsRow B e z v n xs) (hk : v.ownBlock = some k) : ∃ o,W.heap[k]? = some o ∧ o.isCells = true := by
 rcases h.2 with ⟨h3,_⟩ | ⟨g,cap,cur,h3,h5⟩
 ·subst h3; cases hk
 ·subst h3; cases hk
  exact ⟨_,h5.2.1,rfl⟩
theorem Lw_own (w : World) (g : Nat) (v : Value) (h2 B : Nat) (hB : w.heap.size ≤ B) {β : Type} (f : β → List UInt8) : OwnFrom B (fun s W => Lw w g v h2 (f s) W) := by
 rintro s W W' row ⟨v',hw,hc,hh,hf,hx⟩ hg hr; have hr' : ∀ r,row = some r → ∃ o : Obj,W.heap[r]? = some o ∧ o.isCells = false := fun r e => (hr r e).2
 refine ⟨v',⟨Nat.lt_of_lt_of_le hw.hi hg.size,(frozen_kept hw.c hg hr').trans hw.f,cell_kept hw.c hg hr',hw.o.kept hg ?_⟩,cell_kept hc hg hr',Nat.le_trans hh hg.size,⟨hg.os.trans hf.os,hg.tape.trans hf.tape,hg.output.trans hf.output,Nat.le_trans hf.size hg.size,fun j hj h1 h3 => (hg.block j (Nat.lt_of_lt_of_le hj hf.size) (fun e => ?_)).trans (hf.block j hj h1 h3),hf.own⟩,hx⟩
 ·cases hv : v'.ownBlock with
  | none => exact .inl rfl
  | some k =>
   right
   intro e; obtain ⟨o,h4,h5⟩ := row_cells hw.o hv; obtain ⟨o',h6,h7⟩ := hr' k e.symm; rw [h4] at h6; injection h6 with h6
   subst h6; rw [h5] at h7; cases h7
 ·have := (hr j e.symm).1; omega
theorem Lw_step {w W WC : World} {g b G pq n1 p1 : Nat} {v : Value} {a1 : Option Addr} {bs : List UInt8} (c : UInt8) (hw1 : Wt g bs (.slice a1 n1 p1) W) (hc1 : W.cell? ⟨w.heap.size,0,none⟩ = some (.pointer (some ⟨g,0,none⟩))) (hsz : w.heap.size + 2 ≤ W.heap.size) (hgw : g < w.heap.size) (hbw : b < w.heap.size) (hbg : b ≠ g) (hbv : some b ≠ v.ownBlock) (hf1 : Fw g v (.slice a1 n1 p1) w W) (hx1 : ∀ k,(Value.slice a1 n1 p1).ownBlock = some k → k < w.heap.size ∨ w.heap.size + 2 ≤ k)
  (own2 : WC.ownsRow (g + 1) 5 1 (.slice (some ⟨G,0,none⟩) (bs.length + 1) pq) (bs ++ [c]).length (bcs (bs ++ [c]))) (hgr : (W.drew.alloc (.cells #[.int .u8 (c.toNat : Int)] 5)).grownBy WC (Value.slice a1 n1 p1).ownBlock) (hG : (Value.slice a1 n1 p1).ownBlock = some G ∨ (W.drew.alloc (.cells #[.int .u8 (c.toNat : Int)] 5)).heap.size ≤ G) :
  (W.drew.alloc (.cells #[.int .u8 (c.toNat : Int)] 5)).cell? ⟨w.heap.size,0,none⟩ = some (.pointer (some ⟨g,0,none⟩)) ∧ WC.cell? ⟨w.heap.size,0,none⟩ = some (.pointer (some ⟨g,0,none⟩)) ∧ (W.drew.alloc (.cells #[.int .u8 (c.toNat : Int)] 5)).cell? ⟨g,0,none⟩ = some (.slice a1 n1 p1) ∧ WC.cell? ⟨g,0,none⟩ = some (.slice a1 n1 p1) ∧ WC.frozen? ⟨g,0,none⟩ = false ∧
  KeepsOthers W (WC.setCell ⟨g,0,none⟩ (.slice (some ⟨G,0,none⟩) (bs.length + 1) pq)) ∧ Kp2 (w.heap.size + 1) b W (WC.setCell ⟨g,0,none⟩ (.slice (some ⟨G,0,none⟩) (bs.length + 1) pq)) ∧ Lw w g v w.heap.size (bs ++ [c]) (WC.setCell ⟨g,0,none⟩ (.slice (some ⟨G,0,none⟩) (bs.length + 1) pq)) := by
 have hlo := hw1.o.lt; have bB : Below W.heap.size W (W.drew.alloc (.cells #[.int .u8 (c.toNat : Int)] 5)) := ((Below.refl _ _).drew).alloc (Nat.le_refl _) _; have kO : KeepsOthers W (W.drew.alloc (.cells #[.int .u8 (c.toNat : Int)] 5)) := (KeepsOthers.drew W).trans (KeepsOthers.alloc _ _); have hrc : ∀ (j : Nat) (o : Obj),(Value.slice a1 n1 p1).ownBlock = some j → (W.drew.alloc (.cells #[.int .u8 (c.toNat : Int)] 5)).heap[j]? = some o → o.isCells = true := fun j o hj ho => by
  obtain ⟨o',h4,h5⟩ := row_cells (ownb hw1.o bB) hj; rw [h4] at ho; injection ho with ho
  subst ho; exact h5
 have hsB := bB.size; generalize W.drew.alloc (.cells #[.int .u8 (c.toNat : Int)] 5) = WB at *; have gs := gb_set WC g 0 (.slice (some ⟨G,0,none⟩) (bs.length + 1) pq); have hgi := hw1.hi; have ng : some g ≠ (Value.slice a1 n1 p1).ownBlock := fun e => by have := (hlo g e.symm).1; omega
 have nh : some w.heap.size ≠ (Value.slice a1 n1 p1).ownBlock := fun e => by have := hx1 _ e.symm; omega
 have nB : some (w.heap.size + 1) ≠ (Value.slice a1 n1 p1).ownBlock := fun e => by have := hx1 _ e.symm; omega
 have nb : some b ≠ (Value.slice a1 n1 p1).ownBlock := fun e => by
  rcases hf1.own with h | h
  ·exact hbv (e.trans h)
  ·have := h b e.symm; omega
 have cBg : WB.cell? ⟨g,0,none⟩ = some (.slice a1 n1 p1) := (bB.cell (p := ⟨g,0,none⟩) hgi).trans hw1.c; have cBh : WB.cell? ⟨w.heap.size,0,none⟩ = some (.pointer (some ⟨g,0,none⟩)) := (bB.cell (p := ⟨w.heap.size,0,none⟩) (by show w.heap.size < _; omega)).trans hc1
 have kp : ∀ j,j < W.heap.size → some j ≠ (Value.slice a1 n1 p1).ownBlock → ∀ o,WC.cell? ⟨j,o,none⟩ = W.cell? ⟨j,o,none⟩ := fun j hj hn o => (World.cell?_of_block (a := ⟨j,o,none⟩) (hgr.block j (by omega) hn)).trans (bB.cell (p := ⟨j,o,none⟩) hj)
 have cCg : WC.cell? ⟨g,0,none⟩ = some (.slice a1 n1 p1) := (kp g hgi ng 0).trans hw1.c; have cCh : WC.cell? ⟨w.heap.size,0,none⟩ = some (.pointer (some ⟨g,0,none⟩)) := (kp _ (by omega) nh 0).trans hc1; have fCg : WC.frozen? ⟨g,0,none⟩ = false := (World.frozen?_of_block (a := ⟨g,0,none⟩) (hgr.block g (by omega) ng)).trans ((bB.frozen (p := ⟨g,0,none⟩) hgi).trans hw1.f); have hGg : G ≠ g := by
  rcases hG with h | h
  ·have := (hlo G h).1; omega
  ·omega
 have sD : ∀ j,j ≠ g → ∀ o,(WC.setCell ⟨g,0,none⟩ (.slice (some ⟨G,0,none⟩) (bs.length + 1) pq)).cell? ⟨j,o,none⟩ = WC.cell? ⟨j,o,none⟩ := fun j hj o => World.cell?_setCell_other WC _ _ _ (fun e => hj (by injection e with e1 _ _; exact e1.symm))
 have szD : (WC.setCell ⟨g,0,none⟩ (.slice (some ⟨G,0,none⟩) (bs.length + 1) pq)).heap.size = WC.heap.size := by simp [World.setCell]
 have hsC := hgr.size; refine ⟨cBh,cCh,cBg,cCg,fCg,(kO.trans (KeepsOthers.of_grownBy hgr hrc)).trans (KeepsOthers.setCell _ _ _),fun o => ⟨(sD _ (by omega) o).trans (kp _ (by omega) nB o),(sD b hbg o).trans (kp b (by omega) nb o)⟩,⟨_,⟨by rw [szD]; omega,by rw [World.frozen?_setCell]; exact fCg,World.cell?_setCell_same WC ⟨g,0,none⟩ _ cCg,own2.kept gs (.inr (fun e => by
  have e2 : (some G : Option Nat) = some g := e; injection e2 with e2
  exact hGg e2))⟩,(sD _ (by omega) 0).trans cCh,by rw [szD]; omega,Fw_trans hf1 ⟨gs.os.trans (hgr.os.trans bB.os),gs.tape.trans (hgr.tape.trans bB.tape),gs.output.trans (hgr.output.trans bB.output),by rw [szD]; omega,fun j hj h1 h2 => (gs.block j (by omega) (fun e => h1 (by injection e))).trans ((hgr.block j (by omega) h2).trans (bB.block j hj)),?_⟩,fun k hk => ?_⟩⟩
 ·rcases hG with h | h
  ·exact .inl h.symm
  ·right
   intro k hk; have e2 : (some G : Option Nat) = some k := hk; injection e2 with e2
   omega
 ·have e2 : (some G : Option Nat) = some k := hk; injection e2 with e2
  subst e2; rcases hG with h | h
  ·exact hx1 G h
  ·right; omega
end Pk
end Go.Proofs.YtlbdaccmnpcccaaGreatDoor
namespace Go.Proofs.YtlbdaccmnpcccaaGreatDoor
namespace Pk
open Go.RowKit Go.Shelf
attribute [local go_sem] Oper.semAt_some
theorem lay_any (g : Nat) (bs zs : List UInt8) (v : Value) (ao : Option Addr) (cap b : Nat) (w : World) (hw : Wt g bs v w) (hz : zs.length ≤ 1048576) (hlen : bs.length + zs.length ≤ 4398046511103) (vw : Sp.Vw zs ao w) (hb : 0 < zs.length → ∃ off,ao = some ⟨b,off,none⟩) (hbw : b < w.heap.size) (hbg : b ≠ g) (hbv : some b ≠ v.ownBlock) :
  Calls Tryz.prog 107 #[.pointer (some ⟨g,0,none⟩),.slice ao zs.length cap] w fun e w' => e = .returned (.tuple #[]) ∧ ∃ v',Wt g (bs ++ zs.reverse) v' w' ∧ Fw g v v' w w' := by
 refine (callsIn_wide (n := 5)).1 ?_; refine callsIn_of_wp_marks Tryz.func107 rfl trivial ?_ rfl; simp only [Tryz.ntmps107,List.size_toArray,List.length_cons,List.length_nil,Nat.reduceAdd,Nat.reduceSub,Array.replicate_succ,Array.replicate_zero,List.push_toArray,List.append_toArray,List.nil_append,List.cons_append]; gi_wp2_with (refine ⟨trivial,?_⟩; gi_at_call 119; refine (bwd_in _ _ trivial rfl _ _ _ _).mono ?_; rintro e w' ⟨rfl,rfl⟩)
 have b1 : Below w.heap.size w (w.alloc (.cells #[.pointer (some ⟨g,0,none⟩)] 164)) := (Below.refl _ _).alloc (Nat.le_refl _) _; have b2 : Below w.heap.size w ((w.alloc (.cells #[.pointer (some ⟨g,0,none⟩)] 164)).alloc (.cells #[.slice ao zs.length cap] 22)) := b1.alloc b1.size _; have k1 : ((w.alloc (.cells #[.pointer (some ⟨g,0,none⟩)] 164)).alloc (.cells #[.slice ao zs.length cap] 22)).cell? ⟨w.heap.size,0,none⟩ = some (.pointer (some ⟨g,0,none⟩)) := by simp [go_sem]
 have k2 : ((w.alloc (.cells #[.pointer (some ⟨g,0,none⟩)] 164)).alloc (.cells #[.slice ao zs.length cap] 22)).cell? ⟨w.heap.size + 1,0,none⟩ = some (.slice ao zs.length cap) := by simp [go_sem]
 have k3 : ((w.alloc (.cells #[.pointer (some ⟨g,0,none⟩)] 164)).alloc (.cells #[.slice ao zs.length cap] 22)).heap.size = w.heap.size + 2 := by simp
 generalize (w.alloc (.cells #[.pointer (some ⟨g,0,none⟩)] 164)).alloc (.cells #[.slice ao zs.length cap] 22) = W0 at *; have g0 : Wt g bs v W0 := ⟨Nat.lt_of_lt_of_le hw.hi b2.size,(b2.frozen (p := ⟨g,0,none⟩) hw.hi).trans hw.f,(b2.cell (p := ⟨g,0,none⟩) hw.hi).trans hw.c,ownb hw.o b2⟩; have L0 : Lw w g v w.heap.size (bs ++ ([] : List (Int × UInt8)).map (·.2)) W0 := by
  rw [List.map_nil,List.append_nil]; exact ⟨v,g0,k1,by omega,⟨b2.os,b2.tape,b2.output,b2.size,fun j hj _ _ => b2.block j hj,.inl rfl⟩,fun k hk => .inl (hw.o.lt k hk).2⟩
 refine wpIn_rangeFunc_ownF (F := Fence.wide) rfl (by decide) (gf := 126) (lb := #[.pointer (some ⟨w.heap.size + 1,0,none⟩)]) rfl trivial (enters_of Tryz.func126 (by kernel_rfl) rfl)
  (bwd_stops Fence.wide 4 trivial rfl (by decide) (w.heap.size + 1) b cap ao zs (by omega) W0 (by omega) k2 (Sp.Vw_below vw b2) hb) Kp2_t ?hKb (Below.refl _ _) (fun _ => rfl)
  (fun pre W => Lw w g v w.heap.size (bs ++ pre.map (·.2)) W) (fun _ _ _ => False) (Lw_own w g v w.heap.size W0.heap.size (by omega) _) (fun _ _ _ _ _ h _ _ => h) L0
  (fun x => { tmps := #[.pointer (some ⟨g,0,none⟩),.slice ao zs.length cap,.pointer (some ⟨w.heap.size,0,none⟩),undef,undef,.int .u8 (x.2.toNat : Int),.slice ao zs.length cap,.func (.func 126) #[] #[.pointer (some ⟨w.heap.size + 1,0,none⟩)],.int .i64 x.1,.int .u8 (x.2.toNat : Int),undef,undef,undef,undef,undef,undef,undef,undef,undef,undef],defers := [] }) ?assign ?body ?done ?stop
 case hKb =>
  intro W l o o' hl _ _ _ i; have e1 : (W.putObj l o').heap[w.heap.size + 1]? = W.heap[w.heap.size + 1]? := World.putObj_heap_other (fun e => by omega)
  have e2 : (W.putObj l o').heap[b]? = W.heap[b]? := World.putObj_heap_other (fun e => by omega)
  exact ⟨World.cell?_of_block (a := ⟨w.heap.size + 1,i,none⟩) e1,World.cell?_of_block (a := ⟨b,i,none⟩) e2⟩
 case assign =>
  intro l x W K hK; gi_wp2
  exact hK
 case body =>
  rintro l pre x W hI hN; obtain ⟨v1,hw1,hc1,hh1,hf1,hx1⟩ := hI; obtain ⟨a1,n1,p1,rfl⟩ : ∃ a1 n1 p1,v1 = .slice a1 n1 p1 := by
   rcases hw1.o.2 with ⟨h3,_⟩ | ⟨g3,cap3,cur,h3,_⟩
   ·exact ⟨_,_,_,h3⟩
   ·exact ⟨_,_,_,h3⟩
  obtain ⟨G,pq,WC,hap,own2,hgr,hG⟩ := app_one (w := W.drew) x.2 hw1.o.drew (by have := hw1.hi; show g + 1 ≤ W.heap.size; omega) (by rw [List.length_append,List.length_map]; omega)
  obtain ⟨kB,kC,mB,mC,fC,kO,kP,hL⟩ := Lw_step (w := w) (b := b) (v := v) x.2 hw1 hc1 hh1 hw.hi hbw hbg hbv hf1 hx1 own2 hgr hG; have kA : W.drew.cell? ⟨w.heap.size,0,none⟩ = some (.pointer (some ⟨g,0,none⟩)) := hc1; have mA : W.drew.cell? ⟨g,0,none⟩ = some (.slice a1 n1 p1) := hw1.c; have HL : Lw w g v w.heap.size (bs ++ (pre ++ [x]).map (·.2)) (WC.setCell ⟨g,0,none⟩ (.slice (some ⟨G,0,none⟩) ((bs ++ pre.map (·.2)).length + 1) pq)) := by
   rw [List.map_append,← List.append_assoc]; exact hL
  clear hL own2 hgr hG hf1 hx1; obtain ⟨nn,hnn⟩ : ∃ nn,nn = (bs ++ pre.map (·.2)).length + 1 := ⟨_,rfl⟩; rw [← hnn] at hap kO kP HL; obtain ⟨WD,hWD⟩ : ∃ WD,WD = WC.setCell ⟨g,0,none⟩ (.slice (some ⟨G,0,none⟩) nn pq) := ⟨_,rfl⟩; rw [← hWD] at kO kP HL; obtain ⟨cz,hcz⟩ : ∃ cz : Int,cz = (x.2.toNat : Int) := ⟨_,rfl⟩; rw [← hcz] at hap kB mB ⊢; obtain ⟨WA,hWA⟩ : ∃ WA,WA = W.drew := ⟨_,rfl⟩; obtain ⟨GB,hGB⟩ : ∃ GB,GB = WA.heap.size := ⟨_,rfl⟩; rw [← hWA] at hap kB mB kA mA; rw [← hGB] at hap; obtain ⟨WB,hWB⟩ : ∃ WB,WB = WA.alloc (.cells #[.int .u8 cz] 5) := ⟨_,rfl⟩; rw [← hWB] at hap kB mB; have HWA : Hid (WA = W.drew) := hWA; have HGB : Hid (GB = WA.heap.size) := hGB; have HWB : Hid (WB = WA.alloc (.cells #[.int .u8 cz] 5)) := hWB; have HWD : Hid (WD = WC.setCell ⟨g,0,none⟩ (.slice (some ⟨G,0,none⟩) nn pq)) := hWD; clear hcz hnn hWA hGB hWB hWD; refine wpIn_block ?_; refine RI.wpIn_region_inv (LB w.heap.size g GB cz a1 (some ⟨G,0,none⟩) n1 p1 nn pq (.pointer (some ⟨g,0,none⟩)) (.slice ao zs.length cap) undef undef (.slice ao zs.length cap) (.func (.func 126) #[] #[.pointer (some ⟨w.heap.size + 1,0,none⟩)]) (.int .i64 x.1) (.int .u8 cz) WA WB WC WD) (by kernel_rfl) (by kernel_rfl) ?_ ?_ ?_
  ·exact ⟨undef,undef,undef,undef,undef,undef,undef,undef,undef,undef,rfl,.inl ⟨HWA.out.symm,rfl,rfl,rfl⟩,nofun,nofun,nofun,nofun,nofun,nofun,nofun,nofun,nofun,nofun⟩
  ·intro d x wx i hI hi hm; obtain ⟨u10,u11,u12,u13,u14,u15,u16,u17,u18,u19,rfl,hw,p0,p1,p2,p3,p4,p5,p6,p7,p8,p9⟩ := hI; have hi' : i = 0 ∨ i = 1 ∨ i = 2 ∨ i = 3 ∨ i = 4 ∨ i = 5 ∨ i = 6 ∨ i = 7 ∨ i = 8 ∨ i = 9 ∨ i = 10 := by simp at hi; omega
   clear hi; rcases hi' with rfl | rfl | rfl | rfl | rfl | rfl | rfl | rfl | rfl | rfl | rfl
   ·have hi0 := hm.1; have hr := WS_rd hw hi0 (by decide) kA kB kC; clear hm; refine RI.wpOpIn_plain rfl rfl (RI.wpIn_round nofun ?_); go_simp; exact ⟨_,u11,u12,u13,u14,u15,u16,u17,u18,u19,rfl,WS_keep 0 (by decide) (by decide) (by decide) hw,fun _ => rfl,RI.keep (by decide) p1,RI.keep (by decide) p2,RI.keep (by decide) p3,RI.keep (by decide) p4,RI.keep (by decide) p5,RI.keep (by decide) p6,RI.keep (by decide) p7,RI.keep (by decide) p8,RI.keep (by decide) p9⟩
   ·have hi0 := hm.1; have hr := WS_rd hw hi0 (by decide) kA kB kC; clear hm; refine RI.wpOpIn_plain rfl rfl (RI.wpIn_round nofun ?_); go_simp; exact ⟨u10,_,u12,u13,u14,u15,u16,u17,u18,u19,rfl,WS_keep 1 (by decide) (by decide) (by decide) hw,RI.keep (by decide) p0,fun _ => rfl,RI.keep (by decide) p2,RI.keep (by decide) p3,RI.keep (by decide) p4,RI.keep (by decide) p5,RI.keep (by decide) p6,RI.keep (by decide) p7,RI.keep (by decide) p8,RI.keep (by decide) p9⟩
   ·have hd := hm.2 _ rfl; simp [Region.binds] at hd
    have hi0 := hm.1; obtain rfl := p1 (by simp [hd]); clear hm; refine RI.wpOpIn_plain rfl rfl (RI.wpIn_round nofun ?_); go_simp; exact ⟨u10,_,_,u13,u14,u15,u16,u17,u18,u19,rfl,WS_keep 2 (by decide) (by decide) (by decide) hw,RI.keep (by decide) p0,RI.keep (by decide) p1,fun _ => rfl,RI.keep (by decide) p3,RI.keep (by decide) p4,RI.keep (by decide) p5,RI.keep (by decide) p6,RI.keep (by decide) p7,RI.keep (by decide) p8,RI.keep (by decide) p9⟩
   ·have hd := hm.2 _ rfl; simp [Region.binds] at hd
    have hi0 := hm.1; obtain rfl := p2 (by simp [hd]); clear hm; refine RI.wpOpIn_plain rfl rfl (RI.wpIn_round nofun ?_); go_simp; exact ⟨u10,u11,_,_,u14,u15,u16,u17,u18,u19,rfl,WS_keep 3 (by decide) (by decide) (by decide) hw,RI.keep (by decide) p0,RI.keep (by decide) p1,RI.keep (by decide) p2,fun _ => rfl,RI.keep (by decide) p4,RI.keep (by decide) p5,RI.keep (by decide) p6,RI.keep (by decide) p7,RI.keep (by decide) p8,RI.keep (by decide) p9⟩
   ·have hd := hm.2 _ rfl; simp [Region.binds] at hd
    have hi0 := hm.1; obtain rfl := p3 (by simp [hd]); have hr := WS_rd hw hi0 (by decide) mA mB mC; clear hm; refine RI.wpOpIn_plain rfl rfl (RI.wpIn_round nofun ?_); go_simp; exact ⟨u10,u11,u12,_,_,u15,u16,u17,u18,u19,rfl,WS_keep 4 (by decide) (by decide) (by decide) hw,RI.keep (by decide) p0,RI.keep (by decide) p1,RI.keep (by decide) p2,RI.keep (by decide) p3,fun _ => rfl,RI.keep (by decide) p5,RI.keep (by decide) p6,RI.keep (by decide) p7,RI.keep (by decide) p8,RI.keep (by decide) p9⟩
   ·have hi0 := hm.1; clear hm; refine RI.wpOpIn_plain rfl rfl (RI.wpIn_round nofun ?_); go_simp; exact ⟨u10,u11,u12,u13,u14,_,u16,u17,u18,u19,rfl,WS_keep 5 (by decide) (by decide) (by decide) hw,RI.keep (by decide) p0,RI.keep (by decide) p1,RI.keep (by decide) p2,RI.keep (by decide) p3,RI.keep (by decide) p4,fun _ => rfl,RI.keep (by decide) p6,RI.keep (by decide) p7,RI.keep (by decide) p8,RI.keep (by decide) p9⟩
   ·have hd := hm.2 _ rfl; simp [Region.binds] at hd
    have hi0 := hm.1; obtain ⟨ew,h7,h10⟩ := WS_A hw hi0; subst ew; obtain rfl := p5 (by simp [hd]); clear hm; refine RI.wpOpIn_plain rfl rfl (RI.wpIn_round nofun ?_); go_simp; rw [← HGB.out,← HWB.out]; exact ⟨u10,u11,u12,u13,u14,_,_,u17,u18,u19,rfl,(.inr (.inl ⟨rfl,RI.don_same _ _,by rw [RI.don_other _ _ _ (by decide)]; exact h7,by rw [RI.don_other _ _ _ (by decide)]; exact h10⟩)),RI.keep (by decide) p0,RI.keep (by decide) p1,RI.keep (by decide) p2,RI.keep (by decide) p3,RI.keep (by decide) p4,RI.keep (by decide) p5,fun _ => rfl,RI.keep (by decide) p7,RI.keep (by decide) p8,RI.keep (by decide) p9⟩
   ·have hd := hm.2 _ rfl; simp [Region.binds] at hd
    have hi0 := hm.1; obtain ⟨ew,h10⟩ := WS_B hw hi0 (by simp [hd]); subst ew; obtain rfl := p4 (by simp [hd]); obtain rfl := p6 (by simp [hd]); clear hm; refine RI.wpOpIn_plain rfl rfl (RI.wpIn_round nofun ?_); refine upw_app rfl rfl rfl hap ?_; exact ⟨u10,u11,u12,u13,_,u15,_,_,u18,u19,rfl,(.inr (.inr (.inl ⟨rfl,by rw [RI.don_other _ _ _ (by decide)]; simp [hd],RI.don_same _ _,by rw [RI.don_other _ _ _ (by decide)]; exact h10⟩))),RI.keep (by decide) p0,RI.keep (by decide) p1,RI.keep (by decide) p2,RI.keep (by decide) p3,RI.keep (by decide) p4,RI.keep (by decide) p5,RI.keep (by decide) p6,fun _ => rfl,RI.keep (by decide) p8,RI.keep (by decide) p9⟩
   ·have hd := hm.2 _ rfl; simp [Region.binds] at hd
    have hi0 := hm.1; obtain rfl := p0 (by simp [hd]); obtain rfl := p1 (by simp [hd]); obtain rfl := p2 (by simp [hd]); obtain rfl := p3 (by simp [hd]); obtain rfl := p4 (by simp [hd]); obtain rfl := p5 (by simp [hd]); obtain rfl := p6 (by simp [hd]); obtain rfl := p7 (by simp [hd]); clear hm; refine RI.wpOpIn_plain rfl rfl (RI.wpIn_round nofun ?_); go_simp; exact ⟨_,_,_,_,_,_,_,_,_,u19,rfl,WS_keep 8 (by decide) (by decide) (by decide) hw,RI.keep (by decide) p0,RI.keep (by decide) p1,RI.keep (by decide) p2,RI.keep (by decide) p3,RI.keep (by decide) p4,RI.keep (by decide) p5,RI.keep (by decide) p6,RI.keep (by decide) p7,fun _ => rfl,RI.keep (by decide) p9⟩
   ·have hd := hm.2 _ rfl; simp [Region.binds] at hd
    have hi0 := hm.1; obtain rfl := p0 (by simp [hd]); obtain rfl := p1 (by simp [hd]); obtain rfl := p2 (by simp [hd]); obtain rfl := p3 (by simp [hd]); obtain rfl := p4 (by simp [hd]); obtain rfl := p5 (by simp [hd]); obtain rfl := p6 (by simp [hd]); obtain rfl := p7 (by simp [hd]); obtain rfl := p8 (by simp [hd]); clear hm; refine RI.wpOpIn_plain rfl rfl (RI.wpIn_round nofun ?_); go_simp; exact ⟨_,_,_,_,_,_,_,_,_,_,rfl,WS_keep 9 (by decide) (by decide) (by decide) hw,RI.keep (by decide) p0,RI.keep (by decide) p1,RI.keep (by decide) p2,RI.keep (by decide) p3,RI.keep (by decide) p4,RI.keep (by decide) p5,RI.keep (by decide) p6,RI.keep (by decide) p7,RI.keep (by decide) p8,fun _ => rfl⟩
   ·have hd := hm.2 _ rfl; simp [Region.binds] at hd
    have hi0 := hm.1; obtain ew := WS_C hw hi0 (by simp [hd]); subst ew; obtain rfl := p0 (by simp [hd]); obtain rfl := p1 (by simp [hd]); obtain rfl := p2 (by simp [hd]); obtain rfl := p3 (by simp [hd]); obtain rfl := p4 (by simp [hd]); obtain rfl := p5 (by simp [hd]); obtain rfl := p6 (by simp [hd]); obtain rfl := p7 (by simp [hd]); obtain rfl := p9 (by simp [hd]); clear hm; refine RI.wpOpIn_plain rfl rfl (RI.wpIn_round nofun ?_); go_simp; rw [← HWD.out]; exact ⟨_,_,_,_,_,_,_,_,u18,_,rfl,(.inr (.inr (.inr ⟨rfl,RI.don_same _ _,fun j hj => by
     rw [RI.don_other _ _ _ (by omega)]; have : j = 0 ∨ j = 1 ∨ j = 2 ∨ j = 3 ∨ j = 4 ∨ j = 5 ∨ j = 6 ∨ j = 7 := by omega
     rcases this with rfl | rfl | rfl | rfl | rfl | rfl | rfl | rfl <;> simp [hd]⟩))),RI.keep (by decide) p0,RI.keep (by decide) p1,RI.keep (by decide) p2,RI.keep (by decide) p3,RI.keep (by decide) p4,RI.keep (by decide) p5,RI.keep (by decide) p6,RI.keep (by decide) p7,RI.keep (by decide) p8,RI.keep (by decide) p9⟩
  ·intro d x wx hI hd; obtain ⟨u10,u11,u12,u13,u14,u15,u16,u17,u18,u19,rfl,hw,p0,p1,p2,p3,p4,p5,p6,p7,p8,p9⟩ := hI; obtain rfl := WS_D hw (hd 10 (by decide)); exact ⟨kO,kP,HL⟩
 case done =>
  rintro D ys W hD hS hI hK; have hI2 := (Lw_own w g v w.heap.size W0.heap.size (by omega) (fun pre : List (Int × UInt8) => bs ++ pre.map (·.2))).putObj (.deferred none) hI hD hK rfl
  rw [hS] at hI2; obtain ⟨v',hw',_,_,hf',_⟩ := hI2; gi_wp2
  refine ⟨by simp,.inl ⟨_,_,rfl,run_takeDeferred hK,?_⟩⟩; exact ⟨_,results_none rfl _ _ _,rfl,v',hw',hf'⟩
 case stop =>
  rintro D c pre W _ _ h _; exact h.elim
end Pk
end Go.Proofs.YtlbdaccmnpcccaaGreatDoor
namespace Go.Proofs.YtlbdaccmnpcccaaGreatDoor
namespace Pk
open Go.RowKit
def hdr (mark n : Nat) : List UInt8 := if n < 48 then [UInt8.ofNat (mark + n)] else UInt8.ofNat (mark + 47 + (nu n).length) :: nu n
mutual
def enc : It → List UInt8
 | .mk false t _ => if t.length = 1 ∧ Sp.bz t 0 < 128 then t else hdr 128 t.length ++ t
 | .mk true _ ks => hdr 192 (encs ks).length ++ encs ks
def encs : List It → List UInt8
 | [] => []
 | k :: r => enc k ++ encs r
end
theorem nu_8 (n : Nat) (h : n < 18446744073709551616) : (nu n).length ≤ 8 := by
 rcases Nat.lt_or_ge 8 (nu n).length with h1 | h1
 ·exfalso
  have k := cb_low (nu n) (nu_cb n) (by omega); have hv : vb 0 (nu n) = n := nu_vb n (Nat.lt_trans h (by decide)); rw [hv] at k; have k2 : 256 ^ 8 ≤ 256 ^ ((nu n).length - 1) := Nat.pow_le_pow_right (by decide) (by omega); have k3 : (256 : Nat) ^ 8 = 18446744073709551616 := by decide
  omega
 ·exact h1
theorem nu_pos (n : Nat) (h0 : 0 < n) (h : n < 18446744073709551616) : 0 < (nu n).length := by
 rcases Nat.eq_zero_or_pos (nu n).length with h1 | h1
 ·exfalso
  have e : nu n = [] := List.length_eq_zero_iff.1 h1; have hv : vb 0 (nu n) = n := nu_vb n (Nat.lt_trans h (by decide)); rw [e] at hv; have : vb 0 [] = 0 := rfl; omega
 ·exact h1
theorem u8_of (n : Nat) (h : n < 256) : (UInt8.ofNat n).toNat = n := by rw [UInt8.toNat_ofNat']; omega
theorem enc_pos (t : It) : 0 < (enc t).length := by
 cases t with
 | mk l t ks =>
  have hh : ∀ m n,0 < (hdr m n).length := fun m n => by unfold hdr; split <;> simp
  cases l
  ·unfold enc
   split
   ·rename_i h; omega
   ·rw [List.length_append]; have := hh 128 t.length; omega
  ·unfold enc
   rw [List.length_append]; have := hh 192 (encs ks).length; omega
end Pk
end Go.Proofs.YtlbdaccmnpcccaaGreatDoor
namespace Go.Proofs.YtlbdaccmnpcccaaGreatDoor
namespace Pk
open Go.RowKit Go.Shelf
theorem wt_form {g : Nat} {bs : List UInt8} {v : Value} {w : World} (h : Wt g bs v w) : ∃ a n c,v = .slice a n c := by
 rcases h.o.2 with ⟨h3,_⟩ | ⟨g3,cap3,cur,h3,_⟩
 ·exact ⟨_,_,_,h3⟩
 ·exact ⟨_,_,_,h3⟩
theorem Wt_step {W WC : World} {g G pq n1 p1 : Nat} {a1 : Option Addr} {bs : List UInt8} (c : UInt8) (hw1 : Wt g bs (.slice a1 n1 p1) W)
  (own2 : WC.ownsRow (g + 1) 5 1 (.slice (some ⟨G,0,none⟩) (bs.length + 1) pq) (bs ++ [c]).length (bcs (bs ++ [c]))) (hgr : (W.alloc (.cells #[.int .u8 (c.toNat : Int)] 5)).grownBy WC (Value.slice a1 n1 p1).ownBlock) (hG : (Value.slice a1 n1 p1).ownBlock = some G ∨ (W.alloc (.cells #[.int .u8 (c.toNat : Int)] 5)).heap.size ≤ G) :
  (W.alloc (.cells #[.int .u8 (c.toNat : Int)] 5)).cell? ⟨g,0,none⟩ = some (.slice a1 n1 p1) ∧ WC.cell? ⟨g,0,none⟩ = some (.slice a1 n1 p1) ∧ WC.frozen? ⟨g,0,none⟩ = false ∧
  Wt g (bs ++ [c]) (.slice (some ⟨G,0,none⟩) (bs.length + 1) pq) (WC.setCell ⟨g,0,none⟩ (.slice (some ⟨G,0,none⟩) (bs.length + 1) pq)) ∧ Fw g (.slice a1 n1 p1) (.slice (some ⟨G,0,none⟩) (bs.length + 1) pq) W (WC.setCell ⟨g,0,none⟩ (.slice (some ⟨G,0,none⟩) (bs.length + 1) pq)) := by
 have hlo := hw1.o.lt; have bB : Below W.heap.size W (W.alloc (.cells #[.int .u8 (c.toNat : Int)] 5)) := (Below.refl _ _).alloc (Nat.le_refl _) _; have hsB := bB.size; generalize W.alloc (.cells #[.int .u8 (c.toNat : Int)] 5) = WB at *; have gs := gb_set WC g 0 (.slice (some ⟨G,0,none⟩) (bs.length + 1) pq); have hgi := hw1.hi; have ng : some g ≠ (Value.slice a1 n1 p1).ownBlock := fun e => by have := (hlo g e.symm).1; omega
 have cBg : WB.cell? ⟨g,0,none⟩ = some (.slice a1 n1 p1) := (bB.cell (p := ⟨g,0,none⟩) hgi).trans hw1.c; have cCg : WC.cell? ⟨g,0,none⟩ = some (.slice a1 n1 p1) := (World.cell?_of_block (a := ⟨g,0,none⟩) (hgr.block g (by omega) ng)).trans cBg; have fCg : WC.frozen? ⟨g,0,none⟩ = false := (World.frozen?_of_block (a := ⟨g,0,none⟩) (hgr.block g (by omega) ng)).trans ((bB.frozen (p := ⟨g,0,none⟩) hgi).trans hw1.f); have hGg : G ≠ g := by
  rcases hG with h | h
  ·have := (hlo G h).1; omega
  ·omega
 have szD : (WC.setCell ⟨g,0,none⟩ (.slice (some ⟨G,0,none⟩) (bs.length + 1) pq)).heap.size = WC.heap.size := by simp [World.setCell]
 have hsC := hgr.size; refine ⟨cBg,cCg,fCg,⟨by rw [szD]; omega,by rw [World.frozen?_setCell]; exact fCg,World.cell?_setCell_same WC ⟨g,0,none⟩ _ cCg,own2.kept gs (.inr (fun e => by
  have e2 : (some G : Option Nat) = some g := e; injection e2 with e2
  exact hGg e2))⟩,⟨gs.os.trans (hgr.os.trans bB.os),gs.tape.trans (hgr.tape.trans bB.tape),gs.output.trans (hgr.output.trans bB.output),by rw [szD]; omega,fun j hj h1 h2 => (gs.block j (by omega) (fun e => h1 (by injection e))).trans ((hgr.block j (by omega) h2).trans (bB.block j hj)),?_⟩⟩
 rcases hG with h | h
 ·exact .inl h.symm
 ·right
  intro k hk; have e2 : (some G : Option Nat) = some k := hk; injection e2 with e2
  omega
theorem head_short (g mark n : Nat) (bs : List UInt8) (v : Value) (w : World) (hw : Wt g bs v w) (hn : n < 48) (hm : mark + 48 ≤ 256) (hl : bs.length + 1 ≤ 4398046511103) :
  Calls Tryz.prog 94 #[.pointer (some ⟨g,0,none⟩),.int .u8 (mark : Int),.int .i64 (n : Int)] w fun e w' => e = .returned (.tuple #[]) ∧ ∃ v',Wt g (bs ++ [UInt8.ofNat (mark + n)]) v' w' ∧ Fw g v v' w w' := by
 obtain ⟨a1,n1,p1,rfl⟩ := wt_form hw; have hu : (UInt8.ofNat (mark + n)).toNat = mark + n := u8_of _ (by omega); obtain ⟨G,pq,WC,hap,own2,hgr,hG⟩ := app_one (w := w) (UInt8.ofNat (mark + n)) hw.o (by have := hw.hi; omega) (by omega)
 obtain ⟨mB,mC,fC,HW,HF⟩ := Wt_step _ hw own2 hgr hG; have mA := hw.c; have ec : ((UInt8.ofNat (mark + n)).toNat : Int) = (mark : Int) + (n : Int) := by rw [hu]; omega
 rw [ec] at hap mB; have d0 : decide ((n : Int) < 48) = true := decide_eq_true (by omega); have e1 : IntKind.u8.wrap (n : Int) = (n : Int) := by rw [IntKind.wrap_u8]; omega
 have e2 : IntKind.u8.wrap ((mark : Int) + (n : Int)) = (mark : Int) + (n : Int) := by rw [IntKind.wrap_u8]; omega
 have HR : Hid (∃ v',Wt g (bs ++ [UInt8.ofNat (mark + n)]) v' (WC.setCell ⟨g,0,none⟩ (.slice (some ⟨G,0,none⟩) (bs.length + 1) pq)) ∧ Fw g (.slice a1 n1 p1) v' w (WC.setCell ⟨g,0,none⟩ (.slice (some ⟨G,0,none⟩) (bs.length + 1) pq))) := ⟨_,HW,HF⟩; clear HW HF own2 hgr hG hu ec hw hn hm hl; generalize bs.length + 1 = m2 at *; go_enter Tryz.func94,Tryz.ntmps94
 go_wp2_with (at_builtin; refine wpList_apw rfl rfl rfl rfl hap ?_)
 exact bodyPost_ret (results_none rfl _ _ _) rfl ⟨rfl,HR.out⟩
end Pk
end Go.Proofs.YtlbdaccmnpcccaaGreatDoor
namespace Go.Proofs.YtlbdaccmnpcccaaGreatDoor
namespace Pk
open Go.RowKit
theorem trimb_at (l : List UInt8) (g off cap : Nat) (hcap : l.length ≤ cap) (hc63 : (cap : Int) ≤ 9223372036854775807) (w : World) (hg : g < w.heap.size) (hc : ∀ j,j < l.length → w.cell? ⟨g,off + j,none⟩ = some (.int .u8 (Sp.bz l j))) :
  Calls Tryz.prog 127 #[.slice (some ⟨g,off,none⟩) l.length cap,.int .u8 0] w fun e w' => ∃ v,e = .returned v ∧ Ty (· = g) (nz l) v w ∧ w' = w := by
 go_enter Tryz.func127,Tryz.ntmps127
 go_wp2_with fail
 have HG : Hid (g < w.heap.size) := hg; go_loopw [0] (fun s wr => ∃ (l' : List UInt8) (ao : Option Addr) (o c : Nat),s = .slice ao l'.length c ∧ Hid (nz l' = nz l) ∧ l'.length ≤ c ∧ (c : Int) ≤ 9223372036854775807 ∧ (0 < l'.length → ao = some ⟨g,o,none⟩) ∧ Hid (∀ j,j < l'.length → w.cell? ⟨g,o + j,none⟩ = some (.int .u8 (Sp.bz l' j))) ∧ w = wr) (fun s _ => slen s)
 case atStart => exact ⟨l,_,off,cap,rfl,rfl,hcap,hc63,fun _ => rfl,hc,rfl⟩
 case round =>
  clear hc hcap hc63 hg; obtain ⟨l',ao,o,c,rfl,ht,hlc,hc63,hao,hc,rfl⟩ := hrel; cases l' with
  | nil =>
   simp only [List.length_nil]; clear hao hc; go_wp2
   go_ret
   exact ⟨_,rfl,by rw [← ht.out]; exact Ty_nil _ _,rfl⟩
  | cons x r =>
   obtain rfl := hao (by rw [List.length_cons]; omega)
   have c0 := hc.out 0 (by rw [List.length_cons]; omega)
   rw [Nat.add_zero,bz_head] at c0; rw [List.length_cons] at hlc; have hn : (x :: r).length = r.length + 1 := List.length_cons ..; have HT0 : Hid (nz (x :: r) = nz l) := ht; have HC0 : Hid (∀ j,j < (x :: r).length → w.cell? ⟨g,o + j,none⟩ = some (.int .u8 (Sp.bz (x :: r) j))) := hc; have HC : Hid (∀ j,j < r.length → w.cell? ⟨g,o + 1 + j,none⟩ = some (.int .u8 (Sp.bz r j))) := fun j hj => by
    have := hc.out (j + 1) (by rw [List.length_cons]; omega)
    rw [bz_cons] at this; rw [← this]; congr 2
    omega
   have HV : Hid (Ty (· = g) (x :: r) (.slice (some ⟨g,o,none⟩) (x :: r).length c) w) := ⟨_,c,rfl,by rw [hn]; exact hlc,fun _ => ⟨g,o,rfl,rfl,HG.out,hc.out⟩⟩
   clear ht hc hao; generalize (x :: r).length = n at *; have n0 : (0 : Int) < (n : Int) := by omega
   have n1 : (1 : Int) ≤ (n : Int) := by omega
   have n2 : (1 : Int) ≤ (c : Int) := by omega
   have n3 : (n : Int) ≤ (c : Int) := by omega
   have n4 : decide ((0 : Int) < (n : Int)) = true := decide_eq_true n0; have ne : Hid (n - 1 = r.length) := by show _ = _; omega
   have HN : Hid (n = r.length + 1) := hn; clear hn; by_cases hx : x = 0
   ·subst hx; have c1 : w.cell? ⟨g,o,none⟩ = some (.int .u8 0) := c0; have HT : Hid (nz r = nz l) := by rw [← HT0.out]; rfl
    clear c0 HT0 HC0 HV; by_cases hc1 : c = 1
    ·subst hc1; have hn1 : n = 1 := by have := HN.out; omega
     have hr : r = [] := List.length_eq_zero_iff.1 (by have := HN.out; omega)
     subst hr; clear hlc n0 n1 n2 n3 n4 ne HN hc63; subst hn1; go_wp2_with fail
     go_roundw
     case rel => exact ⟨[],_,o,0,rfl,HT,Nat.le_refl _,by decide,fun h => absurd h (by decide),fun j hj => absurd hj (by simp),trivial⟩
     case measure => exact Nat.zero_lt_one
    ·have n5 : (1 : Int) < (c : Int) := by omega
     go_wp2_with fail
     go_roundw
     case rel => exact ⟨r,_,o + 1,c - 1,by rw [← ne.out],HT,by omega,by omega,fun _ => rfl,HC,trivial⟩
     case measure => simp only [slen]; omega
   ·have hx2 : ¬ ((x.toNat : Int) = 0) := fun h => hx (UInt8.toNat_inj.1 (show x.toNat = (0 : UInt8).toNat by have : ((0 : UInt8).toNat) = 0 := rfl; omega))
    have hx3 : ((x.toNat : Int) == 0) = false := beq_false_of_ne hx2; have hx4 : decide ((x.toNat : Int) = 0) = false := decide_eq_false hx2; have n6 : ((n : Int) == 0) = false := beq_false_of_ne (by omega); have n7 : decide ((n : Int) = 0) = false := decide_eq_false (by omega); have hz : nz (x :: r) = x :: r := by rw [nz,if_neg hx]
    have HZ : Hid (nz l = x :: r) := HT0.out.symm.trans hz; clear HC HC0 HT0 hx2 hz HN ne; go_wp2
    go_ret
    exact ⟨_,rfl,by rw [HZ.out]; exact HV.out,rfl⟩
theorem trim_at (l : List UInt8) (g off cap : Nat) (h0 : 0 < l.length) (hcap : l.length ≤ cap) (hc63 : (cap : Int) ≤ 9223372036854775807) (w : World) (hg : g < w.heap.size) (hc : ∀ j,j < l.length → w.cell? ⟨g,off + j,none⟩ = some (.int .u8 (Sp.bz l j))) :
  Calls Tryz.prog 121 #[.slice (some ⟨g,off,none⟩) l.length cap,.string ⟨#[0]⟩] w fun e w' => ∃ v,e = .returned v ∧ Ty (· = g) (nz l) v w ∧ w' = w := by
 have K : Hid (Calls Tryz.prog 127 #[.slice (some ⟨g,off,none⟩) l.length cap,.int .u8 0] w fun e w' => ∃ v,e = .returned v ∧ Ty (· = g) (nz l) v w ∧ w' = w) := trimb_at l g off cap hcap hc63 w hg hc
 have n6 : ((l.length : Int) == 0) = false := beq_false_of_ne (by omega); have n7 : decide ((l.length : Int) = 0) = false := decide_eq_false (by omega); have e0 : (({ data := #[0] } : ByteArray)[0]).toNat = 0 := rfl; clear hc hg hcap hc63; generalize nz l = Z at *; generalize l.length = n at *; go_enter Tryz.func121,Tryz.ntmps121
 go_wp2_with fail
 refine K.out.mono (fun e w2 he => ?_)
 obtain ⟨v,rfl,hs,rfl⟩ := he; have HS : Hid (Ty (· = g) Z v w2) := hs; clear hs K n6 n7 h0; go_wp2
 go_ret
 exact ⟨_,rfl,HS.out,rfl⟩
theorem num_new (a : Nat) (w : World) :
  Calls Tryz.prog 109 #[Wd a] w fun e w' => ∃ v,e = .returned v ∧ Ty (w.heap.size ≤ ·) (nu a) v w' ∧ Below w.heap.size w w' := by
 have KT : Hid (∀ (g : Nat) (W3 : World),g < W3.heap.size → Sp.CK .u8 g 32 (bt a) W3 → Calls Tryz.prog 121 #[.slice (some ⟨g,0,none⟩) 32 32,.string ⟨#[0]⟩] W3 fun e w' => ∃ v,e = .returned v ∧ Ty (· = g) (nu a) v W3 ∧ w' = W3) := fun g W3 Z0 C0 => by
  have k := trim_at (wb a) g 0 32 (by rw [wb_len]; decide) (by rw [wb_len]; decide) (by decide) W3 Z0 (fun j hj => by
   rw [wb_len] at hj; rw [Nat.zero_add,wb_bz a j hj]; exact C0 j hj)
  rw [wb_len] at k; exact k
 generalize nu a = N at *; conv => arg 3; unfold Wd
 go_enter Tryz.func109,Tryz.ntmps109
 go_wp2_with fail
 have b0 : Below w.heap.size w (w.alloc (.cells #[.int .u64 (dg a 0),.int .u64 (dg a 1),.int .u64 (dg a 2),.int .u64 (dg a 3)] 185)) := (Below.refl _ _).alloc (Nat.le_refl _) _; generalize w.alloc (.cells #[.int .u64 (dg a 0),.int .u64 (dg a 1),.int .u64 (dg a 2),.int .u64 (dg a 3)] 185) = W0 at b0 ⊢; refine (bytes_any a W0).mono ?_; rintro e w1 ⟨rfl,hb1⟩; have b1 : Below w.heap.size w w1 := b0.trans (hb1.mono b0.size); clear b0 hb1; dsimp only
 go_step
 go_step
 go_step
 go_step
 have q2 := Sp.Vb_zero32 w.heap.size w1 34 b1.size; have b2 : Below w.heap.size w (w1.alloc (.cells #[.int .u8 0,.int .u8 0,.int .u8 0,.int .u8 0,.int .u8 0,.int .u8 0,.int .u8 0,.int .u8 0,.int .u8 0,.int .u8 0,.int .u8 0,.int .u8 0,.int .u8 0,.int .u8 0,.int .u8 0,.int .u8 0,.int .u8 0,.int .u8 0,.int .u8 0,.int .u8 0,.int .u8 0,.int .u8 0,.int .u8 0,.int .u8 0,.int .u8 0,.int .u8 0,.int .u8 0,.int .u8 0,.int .u8 0,.int .u8 0,.int .u8 0,.int .u8 0] 34)) := b1.alloc b1.size _; generalize w1.alloc (.cells #[.int .u8 0,.int .u8 0,.int .u8 0,.int .u8 0,.int .u8 0,.int .u8 0,.int .u8 0,.int .u8 0,.int .u8 0,.int .u8 0,.int .u8 0,.int .u8 0,.int .u8 0,.int .u8 0,.int .u8 0,.int .u8 0,.int .u8 0,.int .u8 0,.int .u8 0,.int .u8 0,.int .u8 0,.int .u8 0,.int .u8 0,.int .u8 0,.int .u8 0,.int .u8 0,.int .u8 0,.int .u8 0,.int .u8 0,.int .u8 0,.int .u8 0,.int .u8 0] 34) = W2 at q2 b2 ⊢; have hg9 : w.heap.size ≤ w1.heap.size := b1.size; clear b1; generalize w1.heap.size = g9 at q2 hg9 ⊢; have t1 : W2.there g9 0 (Sp.h32 (bt a)).toArray.size := Sp.there32a q2.c q2.f; have C0 : Sp.CK .u8 g9 32 (bt a) (W2.setCells g9 0 (Sp.h32 (bt a)).toArray.toList) := Sp.CK_set32 q2.c q2.f; have B0 : Below w.heap.size w (W2.setCells g9 0 (Sp.h32 (bt a)).toArray.toList) := Sp.Bel_sets hg9 _ _ _ b2; have Z0 : g9 < (W2.setCells g9 0 (Sp.h32 (bt a)).toArray.toList).heap.size := by rw [Sp.size_setCells]; exact q2.hi
 refine wpList_store_mid rfl 34 (.tmp 3) (.tmp 5) rfl g9 0 (Sp.h32 (bt a)).toArray rfl rfl t1 Sp.info32a (all_oneCell_toArray (Sp.h32_one (bt a))) ?_; refine wpList_nil ?_; clear q2 b2 t1; generalize W2.setCells g9 0 (Sp.h32 (bt a)).toArray.toList = W3 at C0 B0 Z0 ⊢; have KW : Hid (Calls Tryz.prog 121 #[.slice (some ⟨g9,0,none⟩) 32 32,.string ⟨#[0]⟩] W3 fun e w' => ∃ v,e = .returned v ∧ Ty (· = g9) N v W3 ∧ w' = W3) := KT.out g9 W3 Z0 C0
 clear C0 Z0 KT; generalize Sp.h32 (bt a) = hh at *; go_wp2_with fail
 refine KW.out.mono (fun e w4 he => ?_)
 obtain ⟨v,rfl,hs,rfl⟩ := he; have HS : Hid (Ty (w.heap.size ≤ ·) N v w4) := Ty_mono hs (fun k hk _ => by omega)
 have HB : Hid (Below w.heap.size w w4) := B0; clear hs B0 KW; go_wp2
 go_ret
 exact ⟨_,rfl,HS.out,HB.out⟩
end Pk
end Go.Proofs.YtlbdaccmnpcccaaGreatDoor
namespace Go.Proofs.YtlbdaccmnpcccaaGreatDoor
namespace Pk
open Go.RowKit Go.Shelf
theorem Wt_below {g : Nat} {bs : List UInt8} {v : Value} {w w' : World} (h : Wt g bs v w) (b : Below w.heap.size w w') : Wt g bs v w' :=
 ⟨Nat.lt_of_lt_of_le h.hi b.size,(b.frozen (p := ⟨g,0,none⟩) h.hi).trans h.f,(b.cell (p := ⟨g,0,none⟩) h.hi).trans h.c,ownb h.o b⟩
theorem Fw_below {g : Nat} {v : Value} {w w' : World} (b : Below w.heap.size w w') : Fw g v v w w' := ⟨b.os,b.tape,b.output,b.size,fun j hj _ _ => b.block j hj,.inl rfl⟩
theorem head_long (g mark n : Nat) (bs : List UInt8) (v : Value) (w : World) (hw : Wt g bs v w) (hn : 48 ≤ n) (hn2 : n ≤ 4194304) (hm : mark + 64 ≤ 256) (hl : bs.length + 16 ≤ 4398046511103) :
  Calls Tryz.prog 94 #[.pointer (some ⟨g,0,none⟩),.int .u8 (mark : Int),.int .i64 (n : Int)] w fun e w' => e = .returned (.tuple #[]) ∧ ∃ v',Wt g (bs ++ (nu n).reverse ++ [UInt8.ofNat (mark + 47 + (nu n).length)]) v' w' ∧ Fw g v v' w w' := by
 have l8 := nu_8 n (by omega); have l0 := nu_pos n (by omega) (by omega); have KI : Hid (∀ wx : World,Calls Tryz.prog 110 #[.int .u64 (n : Int)] wx fun e w' => e = .returned (Wd n) ∧ Below wx.heap.size wx w') := fun wx => (int_any n (by omega) wx).mono fun e w' he => by
  first | exact he | exact ⟨he.1,by rw [he.2]; exact Below.refl _ _⟩
 have KN : Hid (∀ wx : World,Calls Tryz.prog 109 #[Wd n] wx fun e w' => ∃ v,e = .returned v ∧ Ty (wx.heap.size ≤ ·) (nu n) v w' ∧ Below wx.heap.size wx w') := num_new n
 have KL : Hid (∀ (ao : Option Addr) (cap b : Nat) (wx : World),Below w.heap.size w wx → Sp.Vw (nu n) ao wx → (∃ off,ao = some ⟨b,off,none⟩) → w.heap.size ≤ b → b < wx.heap.size → Calls Tryz.prog 107 #[.pointer (some ⟨g,0,none⟩),.slice ao (nu n).length cap] wx fun e w' => e = .returned (.tuple #[]) ∧ ∃ v',Wt g (bs ++ (nu n).reverse) v' w' ∧ Fw g v v' w w') := fun ao cap b wx hb vw ho h1 h2 =>
  (lay_any g bs (nu n) v ao cap b wx (Wt_below hw hb) (by omega) (by omega) vw (fun _ => ho) h2 (by have := hw.hi; omega) (fun e => by have := (hw.o.lt b e.symm).2; omega)).mono fun e w' he => by
   obtain ⟨h3,v',h4,h5⟩ := he; exact ⟨h3,v',h4,Fw_trans (Fw_below hb) h5⟩
 have HS : Hid (∀ (v1 : Value) (W : World),Wt g (bs ++ (nu n).reverse) v1 W → Fw g v v1 w W → ∃ a1 n1 p1 G m2 pq WC,v1 = .slice a1 n1 p1 ∧ W.cell? ⟨g,0,none⟩ = some (.slice a1 n1 p1) ∧ (Builtin.append_ #[22,22] 22 #[.slice a1 n1 p1,.slice (some ⟨W.heap.size,0,none⟩) 1 1]).run Tryz.prog (W.alloc (.cells #[.int .u8 ((mark + 47 + (nu n).length : Nat) : Int)] 5)) = .ok (.slice (some ⟨G,0,none⟩) m2 pq) WC ∧ (W.alloc (.cells #[.int .u8 ((mark + 47 + (nu n).length : Nat) : Int)] 5)).cell? ⟨g,0,none⟩ = some (.slice a1 n1 p1) ∧ WC.cell? ⟨g,0,none⟩ = some (.slice a1 n1 p1) ∧ WC.frozen? ⟨g,0,none⟩ = false ∧ ∃ v',Wt g (bs ++ (nu n).reverse ++ [UInt8.ofNat (mark + 47 + (nu n).length)]) v' (WC.setCell ⟨g,0,none⟩ (.slice (some ⟨G,0,none⟩) m2 pq)) ∧ Fw g v v' w (WC.setCell ⟨g,0,none⟩ (.slice (some ⟨G,0,none⟩) m2 pq))) := fun v1 W h1 h2 => by
  obtain ⟨a1,n1,p1,rfl⟩ := wt_form h1; have hu : (UInt8.ofNat (mark + 47 + (nu n).length)).toNat = mark + 47 + (nu n).length := u8_of _ (by omega); obtain ⟨G,pq,WC,hap,own2,hgr,hG⟩ := app_one (w := W) (UInt8.ofNat (mark + 47 + (nu n).length)) h1.o (by have := h1.hi; omega) (by rw [List.length_append,List.length_reverse]; omega)
  obtain ⟨mB,mC,fC,HW,HF⟩ := Wt_step _ h1 own2 hgr hG; rw [hu] at hap mB; exact ⟨a1,n1,p1,G,_,pq,WC,rfl,h1.c,hap,mB,mC,fC,_,HW,Fw_trans h2 HF⟩
 have d0 : decide ((n : Int) < 48) = false := decide_eq_false (by omega); have e1 : IntKind.u64.wrap (n : Int) = (n : Int) := by rw [IntKind.wrap_u64]; omega
 obtain ⟨L,hL⟩ : ∃ L,L = (nu n).length := ⟨_,rfl⟩; have e2 : IntKind.u8.wrap ((mark : Int) + 48) = (mark : Int) + 48 := by rw [IntKind.wrap_u8]; omega
 have e3 : Hid (wrap64 ((L : Int) - 1) = (L : Int) - 1) := by show _ = _; unfold wrap64; omega
 have e4 : IntKind.u8.wrap ((L : Int) - 1) = (L : Int) - 1 := by rw [IntKind.wrap_u8]; omega
 have e5 : IntKind.u8.wrap ((mark : Int) + 48 + ((L : Int) - 1)) = ((mark + 47 + L : Nat) : Int) := by rw [IntKind.wrap_u8]; omega
 have HN : Hid (0 < (nu n).length) := l0; rw [← hL] at KL HS ⊢; have HLN : Hid (L = (nu n).length) := hL; clear hw hn hn2 hm hl l8 l0 hL; go_enter Tryz.func94,Tryz.ntmps94
 go_wp2_with fail
 refine (KI.out _).mono (fun e w1 he => ?_)
 obtain ⟨rfl,b1⟩ := he; go_wp2_with fail
 refine (KN.out _).mono (fun e w2 he => ?_)
 obtain ⟨vs,rfl,⟨ao,cap,rfl,hcap,hty⟩,b2'⟩ := he; have b2 := b1.trans (b2'.mono b1.size); obtain ⟨b,off,rfl,hb1,hb2,hcs⟩ := hty HN.out; have VW : Hid (Sp.Vw (nu n) (some ⟨b,off,none⟩) w2) := fun _ => ⟨b,off,rfl,hb2,hcs⟩
 have hbl : w.heap.size ≤ b := Nat.le_trans b1.size hb1; rw [← HLN.out]; clear KI KN hcap hty b2' hb1 hcs; go_wp2_with fail
 refine (KL.out (some ⟨b,off,none⟩) cap b _ b2 VW.out ⟨off,rfl⟩ hbl hb2).mono (fun e w3 he => ?_)
 obtain ⟨rfl,v1,hw3,hf3⟩ := he; obtain ⟨a1,n1,p1,G,m2,pq,WC,rfl,mA,hap,mB,mC,fC,HR⟩ := HS.out v1 w3 hw3 hf3; have HR : Hid (∃ v',Wt g (bs ++ (nu n).reverse ++ [UInt8.ofNat (mark + 47 + L)]) v' (WC.setCell ⟨g,0,none⟩ (.slice (some ⟨G,0,none⟩) m2 pq)) ∧ Fw g v v' w (WC.setCell ⟨g,0,none⟩ (.slice (some ⟨G,0,none⟩) m2 pq))) := HR; clear KL HS hw3 hf3 VW hbl hb2 b1 b2; have e3 := e3.out; go_wp2_with (at_builtin; refine wpList_apw rfl rfl rfl rfl hap ?_)
 go_end0
 exact ⟨rfl,HR.out⟩
theorem head_any (g mark n : Nat) (bs : List UInt8) (v : Value) (w : World) (hw : Wt g bs v w) (hn2 : n ≤ 4194304) (hm : mark + 64 ≤ 256) (hl : bs.length + 16 ≤ 4398046511103) :
  Calls Tryz.prog 94 #[.pointer (some ⟨g,0,none⟩),.int .u8 (mark : Int),.int .i64 (n : Int)] w fun e w' => e = .returned (.tuple #[]) ∧ ∃ v',Wt g (bs ++ (hdr mark n).reverse) v' w' ∧ Fw g v v' w w' := by
 by_cases h : n < 48
 ·have e : (hdr mark n).reverse = [UInt8.ofNat (mark + n)] := by unfold hdr; rw [if_pos h]; rfl
  rw [e]; exact head_short g mark n bs v w hw h (by omega) (by omega)
 ·have e : (hdr mark n).reverse = (nu n).reverse ++ [UInt8.ofNat (mark + 47 + (nu n).length)] := by unfold hdr; rw [if_neg h,List.reverse_cons]
  rw [e,← List.append_assoc]; exact head_long g mark n bs v w hw (by omega) hn2 hm hl
end Pk
end Go.Proofs.YtlbdaccmnpcccaaGreatDoor
namespace Go.Proofs.YtlbdaccmnpcccaaGreatDoor
namespace Pk
open Go.RowKit Go.Shelf
theorem text_w (g : Nat) (bs t : List UInt8) (ks : List It) (v : Value) (ao : Option Addr) (cap b : Nat) (w : World) (hw : Wt g bs v w) (hz : t.length ≤ 1048576) (hlen : bs.length + t.length + 16 ≤ 4398046511103) (vw : Sp.Vw t ao w) (hb : 0 < t.length → ∃ off,ao = some ⟨b,off,none⟩) (hbw : b < w.heap.size) (hbg : b ≠ g) (hbv : some b ≠ v.ownBlock) :
  Calls Tryz.prog 92 #[.pointer (some ⟨g,0,none⟩),.slice ao t.length cap] w fun e w' => e = .returned (.tuple #[]) ∧ ∃ v',Wt g (bs ++ (enc (.mk false t ks)).reverse) v' w' ∧ Fw g v v' w w' := by
 have KL : Hid (Calls Tryz.prog 107 #[.pointer (some ⟨g,0,none⟩),.slice ao t.length cap] w fun e w' => e = .returned (.tuple #[]) ∧ ∃ v',Wt g (bs ++ t.reverse) v' w' ∧ Fw g v v' w w') := lay_any g bs t v ao cap b w hw hz (by omega) vw hb hbw hbg hbv
 have KH : Hid (∀ (v1 : Value) (W : World),Wt g (bs ++ t.reverse) v1 W → Fw g v v1 w W → Calls Tryz.prog 94 #[.pointer (some ⟨g,0,none⟩),.int .u8 128,.int .i64 (t.length : Int)] W fun e w' => e = .returned (.tuple #[]) ∧ ∃ v',Wt g (bs ++ t.reverse ++ (hdr 128 t.length).reverse) v' w' ∧ Fw g v v' w w') := fun v1 W h1 h2 =>
  (head_any g 128 t.length (bs ++ t.reverse) v1 W h1 (by omega) (by decide) (by rw [List.length_append,List.length_reverse]; omega)).mono fun e w' he => by
   obtain ⟨h3,v',h4,h5⟩ := he; exact ⟨h3,v',h4,Fw_trans h2 h5⟩
 by_cases h1 : t.length = 1
 ·obtain ⟨off,rfl⟩ := hb (by omega); obtain ⟨g',off',e1,hg',hc⟩ := vw (by omega); injection e1 with e1
  injection e1 with e2 e3 _
  subst e2 e3; have c0 : w.cell? ⟨b,off,none⟩ = some (.int .u8 (Sp.bz t 0)) := hc 0 (by omega); have HB : Hid (∀ (v1 : Value) (W : World),Fw g v v1 w W → W.cell? ⟨b,off,none⟩ = some (.int .u8 (Sp.bz t 0))) := fun v1 W hf => (World.cell?_of_block (a := ⟨b,off,none⟩) (hf.block b hbw hbg hbv)).trans c0
  have d0 : ((t.length : Int) != 1) = false := by rw [h1]; rfl
  have l0 : (0 : Int) < (t.length : Int) := by omega
  by_cases h2 : Sp.bz t 0 < 128
  ·have e : enc (.mk false t ks) = t := by unfold enc; rw [if_pos ⟨h1,h2⟩]
   rw [e]; have d1 : decide ((128 : Int) ≤ Sp.bz t 0) = false := decide_eq_false (by omega); clear hw hz hlen vw hb hbw hbg hbv hc c0 h1 h2 e KH hg'; generalize Sp.bz t 0 = X at *; generalize t.length = n at *; go_enter Tryz.func92,Tryz.ntmps92
   go_wp2_with fail
   refine KL.out.mono (fun e w1 he => ?_)
   obtain ⟨rfl,v1,h3,h4⟩ := he; have cx := HB.out v1 w1 h4; have HR : Hid (∃ v',Wt g (bs ++ t.reverse) v' w1 ∧ Fw g v v' w w1) := ⟨v1,h3,h4⟩; clear h3 h4 HB KL; go_wp2_with fail
   go_end0
   exact ⟨rfl,HR.out⟩
  ·have e : (enc (.mk false t ks)).reverse = t.reverse ++ (hdr 128 t.length).reverse := by unfold enc; rw [if_neg (fun h => h2 h.2),List.reverse_append]
   rw [e,← List.append_assoc]; have d1 : decide ((128 : Int) ≤ Sp.bz t 0) = true := decide_eq_true (by omega); clear hw hz hlen vw hb hbw hbg hbv hc c0 h1 h2 e hg'; generalize Sp.bz t 0 = X at *; generalize bs ++ t.reverse ++ (hdr 128 t.length).reverse = Z at *; generalize t.length = n at *; go_enter Tryz.func92,Tryz.ntmps92
   go_wp2_with fail
   refine KL.out.mono (fun e w1 he => ?_)
   obtain ⟨rfl,v1,h3,h4⟩ := he; have cx := HB.out v1 w1 h4; have KK : Hid _ := KH.out v1 w1 h3 h4; clear h3 h4 HB KL KH; go_wp2_with fail
   refine Calls.mono KK.out (fun e w2 he => ?_)
   obtain ⟨rfl,hr⟩ := he; have HR : Hid _ := hr; clear hr; go_wp2_with fail
   go_end0
   exact ⟨rfl,HR.out⟩
 ·have e : (enc (.mk false t ks)).reverse = t.reverse ++ (hdr 128 t.length).reverse := by unfold enc; rw [if_neg (fun h => h1 h.1),List.reverse_append]
  rw [e,← List.append_assoc]; have d0 : ((t.length : Int) != 1) = true := bne_iff_ne.2 (by omega); clear hw hz hlen vw hb hbw hbg hbv h1 e; generalize bs ++ t.reverse ++ (hdr 128 t.length).reverse = Z at *; generalize t.length = n at *; go_enter Tryz.func92,Tryz.ntmps92
  go_wp2_with fail
  refine KL.out.mono (fun e w1 he => ?_)
  obtain ⟨rfl,v1,h3,h4⟩ := he; have KK : Hid _ := KH.out v1 w1 h3 h4; clear h3 h4 KL KH; go_wp2_with fail
  refine Calls.mono KK.out (fun e w2 he => ?_)
  obtain ⟨rfl,hr⟩ := he; have HR : Hid _ := hr; clear hr; go_wp2_with fail
  go_end0
  exact ⟨rfl,HR.out⟩
end Pk
end Go.Proofs.YtlbdaccmnpcccaaGreatDoor
namespace Go.Proofs.YtlbdaccmnpcccaaGreatDoor
namespace Pk
open Go.RowKit Go.Shelf
attribute [local go_sem] Oper.semAt_some
def dn (n : Nat) (k : Nat) : Nat := n - 1 - k
theorem upto_dn (n : Nat) : upto (dn n) n = (List.range n).reverse := by
 apply List.ext_getElem
 ·simp [upto]
 ·intro i h1 h2; simp [upto,dn]
def Fm (v : V3) : Prop := ∃ l b1 m1 q1 b2 m2 q2,v = (.bool l,.slice b1 m1 q1,.slice b2 m2 q2)
theorem bwi1_in (F : Fence) (n : Nat) (hf : F.fn 108) (hro : F.round = none) (hn : 1 ≤ n) (l Bs b off cap : Nat) (vs : List V3) (hreach : vs.length ≤ 4194304) (hfm : ∀ j,j < vs.length → Fm (vs.getD j n3)) (J Jx : List (Fin vs.length) → World → Prop)
  (hY : ∀ pre (x : Fin vs.length) W,J pre W → pre.length < vs.length → YieldAt F (n - 1) Tryz.prog l #[.int .i64 (x.1 : Int),v3 (vs.getD x.1 n3)] W fun e W' =>
   (e = .returned (.bool true) ∧ J (pre ++ [x]) W' ∧ Kp2 Bs b W W') ∨ (e = .returned (.bool false) ∧ Jx (pre ++ [x]) W'))
  (W : World) (hBs : W.cell? ⟨Bs,0,none⟩ = some (.slice (some ⟨b,off,none⟩) vs.length cap))
  (hc : ∀ j,j < vs.length → W.cell? ⟨b,off + 3 * j,none⟩ = some (vs.getD j n3).1 ∧ W.cell? ⟨b,off + 3 * j + 1,none⟩ = some (vs.getD j n3).2.1 ∧ W.cell? ⟨b,off + 3 * j + 2,none⟩ = some (vs.getD j n3).2.2) (h0 : J [] W) :
  CallsIn F n Tryz.prog 108 #[.func (.yield l) #[] #[],.pointer (some ⟨Bs,0,none⟩)] W fun e W' => (∃ v,e = .returned v) ∧
   ((∃ ys : List (Fin vs.length),ys.map (·.1) = upto (dn vs.length) vs.length ∧ J ys W') ∨ (∃ pre,Jx pre W')) := by
 refine callsIn_of_wp Tryz.func108 rfl hf ?_ hro; simp only [Tryz.ntmps108,List.size_toArray,List.length_cons,List.length_nil,Nat.reduceAdd,Nat.reduceSub,Array.replicate_succ,Array.replicate_zero,List.push_toArray,List.append_toArray,List.nil_append,List.cons_append]; have hw0 := (bwd_wrap vs.length hreach).out; gi_wp2
 clear hw0; gi_loopw [3] (fun i wr => ∃ k : Nat,k ≤ vs.length ∧ i = .int .i64 ((vs.length - k : Nat) - 1 : Int) ∧ (∃ pre : List (Fin vs.length),pre.map (·.1) = upto (dn vs.length) k ∧ J pre wr) ∧ Kp2 Bs b W wr)
  (fun i _ => (intOf i + 1).toNat)
 case atStart => exact ⟨0,Nat.zero_le _,by simp,⟨[],rfl,h0⟩,fun o => ⟨rfl,rfl⟩⟩
 case round =>
  obtain ⟨k,hk,rfl,⟨pre,hpre,hJs⟩,hkp⟩ := hrel; have hBs' : wr.cell? ⟨Bs,0,none⟩ = some (.slice (some ⟨b,off,none⟩) vs.length cap) := (hkp 0).1.trans hBs; by_cases hlt : k < vs.length
  ·obtain ⟨j,hj⟩ : ∃ j,vs.length - k = j + 1 := ⟨vs.length - k - 1,by omega⟩; have ei : (((vs.length - k : Nat) : Int) - 1) = (j : Int) := by omega
   have HJ : Hid (vs.length - k = j + 1) := hj; have hjn : j < vs.length := by omega
   have hjl : (j : Int) < (vs.length : Int) := by omega
   have hj0 : (0 : Int) ≤ (j : Int) := by omega
   have hjd : decide ((0 : Int) ≤ (j : Int)) = true := decide_eq_true hj0; have hpl : pre.length = k := by rw [← List.length_map (f := (·.1)),hpre,upto_length]
   have HB : Hid ((pre ++ [(⟨j,hjn⟩ : Fin vs.length)]).map (·.1) = upto (dn vs.length) (k + 1)) := by
    show _ = _
    rw [List.map_append,hpre,upto_succ]; congr 1
    show [j] = [dn vs.length k]
    unfold dn
    congr 1
    omega
   have Y := hY _ (⟨j,hjn⟩ : Fin vs.length) wr hJs (by omega); obtain ⟨c0,c1,c2⟩ := hc j hjn; obtain ⟨lb,b1,m1,q1,b2,m2,q2,ev⟩ := hfm j hjn; have x0 := ((hkp (off + 3 * j)).2.trans c0); have x1 := ((hkp (off + 3 * j + 1)).2.trans c1); have x2 := ((hkp (off + 3 * j + 2)).2.trans c2); dsimp only at Y; rw [ev] at x0 x1 x2 Y; rw [Nat.mul_comm 3 j] at x0 x1 x2; obtain ⟨fn,tmps,assign,body,hy,hR⟩ := Y; dsimp only [v3] at hy; have hw := (bwd_wrap j (by omega)).out; rw [ei]; have HPL : Hid (pre.length = k) := hpl; clear hj ei hpre hpl c0 c1 c2 ev; gi_wp2
   refine hR.mono ?_; rintro e W3 (⟨rfl,hJ3,hk3⟩ | ⟨rfl,hJx3⟩)
   ·gi_wp2
    go_roundw
    case rel => exact ⟨k + 1,hlt,by have := HJ.out; first | rfl | (congr 1; omega) | (rw [hw]; congr 1; omega),⟨_,HB.out,hJ3⟩,Kp2_t hkp hk3⟩
    case measure => simp [intOf] <;> omega
   ·gi_wp2
    refine bodyPost_ret (results_none rfl _ _ _) rfl ?_; exact ⟨⟨_,rfl⟩,.inr ⟨_,hJx3⟩⟩
  ·obtain rfl : k = vs.length := by omega
   have ei : (((vs.length - vs.length : Nat) : Int) - 1) = -1 := by omega
   rw [ei]; gi_wp2
   go_end0
   exact ⟨⟨_,rfl⟩,.inl ⟨_,hpre,hJs⟩⟩
theorem bwi1_nil_in (F : Fence) (n : Nat) (hf : F.fn 108) (hro : F.round = none) (l Bs : Nat) (a : Option Addr) (cap : Nat) {α : Type} (J : List α → World → Prop) (W : World) (hBs : W.cell? ⟨Bs,0,none⟩ = some (.slice a 0 cap)) (h0 : J [] W) :
  CallsIn F n Tryz.prog 108 #[.func (.yield l) #[] #[],.pointer (some ⟨Bs,0,none⟩)] W fun e W' => (∃ v,e = .returned v) ∧ J [] W' := by
 refine callsIn_of_wp Tryz.func108 rfl hf ?_ hro; simp only [Tryz.ntmps108,List.size_toArray,List.length_cons,List.length_nil,Nat.reduceAdd,Nat.reduceSub,Array.replicate_succ,Array.replicate_zero,List.push_toArray,List.append_toArray,List.nil_append,List.cons_append]; gi_wp2
 gi_loopw [3] (fun i wr => i = .int .i64 (-1) ∧ J [] wr) (fun _ _ => 0)
 case atStart => exact ⟨rfl,h0⟩
 case round =>
  obtain ⟨rfl,hJs⟩ := hrel; gi_wp2
  go_end0
  exact ⟨⟨_,rfl⟩,hJs⟩
theorem bwi_in (F : Fence) (n : Nat) (hf : F.fn 93) (hro : F.round = none) (a : Option Addr) (len cap : Nat) (w : World) :
  CallsIn F n Tryz.prog 93 #[.slice a len cap] w fun e w' => e = .returned (.func (.func 108) #[] #[.pointer (some ⟨w.heap.size,0,none⟩)]) ∧ w' = w.alloc (.cells #[.slice a len cap] 117) := by
 refine callsIn_of_wp Tryz.func93 rfl hf ?_ hro; simp only [Tryz.ntmps93,List.size_toArray,List.length_cons,List.length_nil,Nat.reduceAdd,Nat.reduceSub,Array.replicate_succ,Array.replicate_zero,List.push_toArray,List.append_toArray,List.nil_append,List.cons_append]; gi_wp2
 go_ret
 exact ⟨rfl,rfl⟩
theorem bwi_stops (F : Fence) (n : Nat) (hf : F.fn 108) (hro : F.round = none) (hn : 1 ≤ n) (Bs b cap : Nat) (ao : Option Addr) (vs : List V3) (hreach : vs.length ≤ 4194304) (hfm : ∀ j,j < vs.length → Fm (vs.getD j n3)) (w : World) (hBs : Bs < w.heap.size)
  (hc : w.cell? ⟨Bs,0,none⟩ = some (.slice ao vs.length cap)) (hb : 0 < vs.length → ∃ off,ao = some ⟨b,off,none⟩ ∧ b < w.heap.size ∧ ∀ j,j < vs.length → w.cell? ⟨b,off + 3 * j,none⟩ = some (vs.getD j n3).1 ∧ w.cell? ⟨b,off + 3 * j + 1,none⟩ = some (vs.getD j n3).2.1 ∧ w.cell? ⟨b,off + 3 * j + 2,none⟩ = some (vs.getD j n3).2.2) :
  SeqStopsK F n Tryz.prog 108 #[.pointer (some ⟨Bs,0,none⟩)] (fun x : Fin vs.length => #[Value.int .i64 (x.1 : Int),v3 (vs.getD x.1 n3)]) (Kp2 Bs b) (fun ys => ys.map (·.1) = (List.range vs.length).reverse) (fun _ => True) vs.length w := fun l J Jx W hW _ _ hY h0 => by
 have hc' := (hW.cell (p := ⟨Bs,0,none⟩) hBs).trans hc; by_cases h1 : 0 < vs.length
 ·obtain ⟨off,rfl,hg,hcs⟩ := hb h1; refine (bwi1_in F n hf hro hn l Bs b off cap vs hreach hfm J Jx hY W hc' (fun j hj => ⟨(hW.cell (p := ⟨b,off + 3 * j,none⟩) hg).trans (hcs j hj).1,(hW.cell (p := ⟨b,off + 3 * j + 1,none⟩) hg).trans (hcs j hj).2.1,(hW.cell (p := ⟨b,off + 3 * j + 2,none⟩) hg).trans (hcs j hj).2.2⟩) h0).mono ?_
  rintro e W' ⟨he,⟨ys,hy,hj⟩ | ⟨pre,hj⟩⟩
  ·exact ⟨he,.inl ⟨_,hy.trans (upto_dn _),hj⟩⟩
  ·exact ⟨he,.inr ⟨_,trivial,hj⟩⟩
 ·have e : vs = [] := List.length_eq_zero_iff.1 (by omega); subst e; exact (bwi1_nil_in F n hf hro l Bs ao cap J W hc' h0).mono fun e W' ⟨he,hj⟩ => ⟨he,.inl ⟨[],rfl,hj⟩⟩
end Pk
end Go.Proofs.YtlbdaccmnpcccaaGreatDoor
namespace Go.Proofs.YtlbdaccmnpcccaaGreatDoor
namespace Pk
open Go.RowKit Go.Shelf
def So (w : World) (g : Nat) (v : Value) (k : Nat) : Prop := k < w.heap.size ∧ k ≠ g ∧ some k ≠ v.ownBlock
theorem So_fw {w W : World} {g k : Nat} {v v' : Value} (h : So w g v k) (hf : Fw g v v' w W) : So W g v' k ∧ W.heap[k]? = w.heap[k]? := by
 refine ⟨⟨Nat.lt_of_lt_of_le h.1 hf.size,h.2.1,fun e => ?_⟩,hf.block k h.1 h.2.1 h.2.2⟩
 rcases hf.own with h1 | h1
 ·exact h.2.2 (e.trans h1)
 ·have := h1 k e.symm; have := h.1; omega
theorem Ty_fw {w W : World} {g : Nat} {v v' u : Value} {b : List UInt8} (h : Ty (So w g v) b u w) (hf : Fw g v v' w W) : Ty (So W g v') b u W := by
 obtain ⟨ao,cap,h1,h2,h4⟩ := h; refine ⟨ao,cap,h1,h2,fun h0 => ?_⟩
 obtain ⟨k,off,e,hne,hlt,hc⟩ := h4 h0; have hs := So_fw hne hf; exact ⟨k,off,e,hs.1,hs.1.1,fun j hj => (World.cell?_of_block (a := ⟨k,off + j,none⟩) hs.2).trans (hc j hj)⟩
theorem Kx_fw {w W : World} {g : Nat} {v v' u : Value} {vs : List V3} (h : Kx (So w g v) vs u w) (hf : Fw g v v' w W) : Kx (So W g v') vs u W := by
 obtain ⟨ao,cap,h1,h2,h4⟩ := h; refine ⟨ao,cap,h1,h2,fun h0 => ?_⟩
 obtain ⟨k,off,e,hne,hlt,hc⟩ := h4 h0; have hs := So_fw hne hf; exact ⟨k,off,e,hs.1,hs.1.1,fun j hj => ⟨(World.cell?_of_block (a := ⟨k,off + 3 * j,none⟩) hs.2).trans (hc j hj).1,(World.cell?_of_block (a := ⟨k,off + 3 * j + 1,none⟩) hs.2).trans (hc j hj).2.1,(World.cell?_of_block (a := ⟨k,off + 3 * j + 2,none⟩) hs.2).trans (hc j hj).2.2⟩⟩
theorem Iv_fw {w W : World} {g : Nat} {v v' : Value} {t : It} {u : V3} (h : Iv (So w g v) w t u) (hf : Fw g v v' w W) : Iv (So W g v') W t u := by
 induction h with
 | mk l t ks tv kv vs ht hl hk hi ih => exact .mk l t ks tv kv vs (Ty_fw ht hf) hl (Kx_fw hk hf) ih
inductive Wf : It → Prop where
 | mk (l : Bool) (t : List UInt8) (ks : List It) (h : ∀ j,j < ks.length → Wf (ks.getD j It.no)) : Wf (.mk l t ks)
mutual
theorem wf_any : ∀ t : It,Wf t
 | .mk l t ks => .mk l t ks (wf_all ks)
theorem wf_all : ∀ (ks : List It) (j : Nat),j < ks.length → Wf (ks.getD j It.no)
 | [],j,h => absurd h (by simp)
 | k :: _,0,_ => wf_any k
 | _ :: r,j + 1,h => wf_all r j (by simpa using h)
end
theorem enc_text_len (t : List UInt8) (ks : List It) : t.length ≤ (enc (.mk false t ks)).length := by
 unfold enc
 split
 ·omega
 ·rw [List.length_append]; omega
theorem encs_many : ∀ ks : List It,ks.length ≤ (encs ks).length
 | [] => Nat.zero_le _
 | k :: r => by
  have := encs_many r; have := enc_pos k; unfold encs
  rw [List.length_append,List.length_cons]; omega
theorem encs_one : ∀ (ks : List It) (j : Nat),j < ks.length → (enc (ks.getD j It.no)).length + (ks.length - 1) ≤ (encs ks).length
 | [],j,h => absurd h (by simp)
 | k :: r,0,_ => by
  have := encs_many r; unfold encs
  rw [List.length_append,List.length_cons,List.getD_cons_zero]; omega
 | k :: r,j + 1,h => by
  have := encs_one r j (by simpa using h); have := enc_pos k; have h2 : j < r.length := by simpa using h
  unfold encs
  rw [List.length_append,List.length_cons,List.getD_cons_succ]; omega
def flN (ks : List It) (ns : List Nat) : List UInt8 := (ns.map fun j => (enc (ks.getD j It.no)).reverse).flatten
theorem flN_app (ks : List It) (x : List Nat) (j : Nat) : flN ks (x ++ [j]) = flN ks x ++ (enc (ks.getD j It.no)).reverse := by simp [flN]
theorem flN_all : ∀ ks : List It,flN ks (List.range ks.length).reverse = (encs ks).reverse
 | [] => rfl
 | k :: r => by
  have ih := flN_all r; have e : ∀ l : List Nat,flN (k :: r) (l.map Nat.succ) = flN r l := fun l => by
   unfold flN
   rw [List.map_map]; rfl
  rw [List.length_cons,List.range_succ_eq_map,List.reverse_cons,← List.map_reverse,flN_app,e,ih,List.getD_cons_zero]; show _ = (enc k ++ encs r).reverse
  rw [List.reverse_append]
theorem flN_len (ks : List It) (M : Nat) (hM : ∀ j,j < ks.length → (enc (ks.getD j It.no)).length ≤ M) : ∀ ns : List Nat,(∀ j,j ∈ ns → j < ks.length) → (flN ks ns).length ≤ ns.length * M
 | [],_ => Nat.zero_le _
 | j :: r,h => by
  have ih := flN_len ks M hM r (fun i hi => h i (List.mem_cons_of_mem _ hi))
  have h1 := hM j (h j (List.mem_cons_self ..)); have e : flN ks (j :: r) = (enc (ks.getD j It.no)).reverse ++ flN ks r := rfl; rw [e,List.length_append,List.length_reverse,List.length_cons,Nat.add_mul,Nat.one_mul]; omega
theorem kid_room (ks : List It) (B : Nat) (h : B + (encs ks).length * (encs ks).length + 32 ≤ 4398046511103) (ns : List Nat) (hns : ∀ j,j ∈ ns → j < ks.length) (x : Nat) (hx : x < ks.length) (hp : ns.length < ks.length) :
  B + (flN ks ns).length + (enc (ks.getD x It.no)).length * (enc (ks.getD x It.no)).length + 32 ≤ 4398046511103 := by
 obtain ⟨E,hE⟩ : ∃ E,E = (encs ks).length := ⟨_,rfl⟩; obtain ⟨N,hN⟩ : ∃ N,ks.length = N + 1 := ⟨ks.length - 1,by omega⟩; have hM : ∀ j,j < ks.length → (enc (ks.getD j It.no)).length ≤ E - N := fun j hj => by have := encs_one ks j hj; omega
 have h1 := flN_len ks (E - N) hM ns hns; have h2 : ns.length * (E - N) ≤ N * (E - N) := Nat.mul_le_mul_right _ (by omega); have hx := hM x hx; have h3 := Nat.mul_le_mul hx hx; have h4 : N ≤ E := by have := encs_many ks; omega
 have h5 : N * (E - N) + (E - N) * (E - N) = E * (E - N) := by rw [← Nat.add_mul]; congr 1; omega
 have h6 : E * (E - N) ≤ E * E := Nat.mul_le_mul_left _ (by omega); rw [← hE] at h; omega
theorem itemw_text (g : Nat) (bs t : List UInt8) (ks : List It) (v tv : Value) (a2 : Option Addr) (n2 c2 : Nat) (w : World) (hw : Wt g bs v w) (ht : Ty (So w g v) t tv w) (hz : t.length ≤ 1048576) (hlen : bs.length + t.length + 16 ≤ 4398046511103) :
  Calls Tryz.prog 74 #[.pointer (some ⟨g,0,none⟩),.agg #[.bool false,tv,.slice a2 n2 c2]] w fun e w' => e = .returned (.tuple #[]) ∧ ∃ v',Wt g (bs ++ (enc (.mk false t ks)).reverse) v' w' ∧ Fw g v v' w w' := by
 obtain ⟨ao,cap,rfl,hcap,hty⟩ := ht; have KT : Hid (∀ wx : World,Below w.heap.size w wx → w.heap.size < wx.heap.size → Calls Tryz.prog 92 #[.pointer (some ⟨g,0,none⟩),.slice ao t.length cap] wx fun e w' => e = .returned (.tuple #[]) ∧ ∃ v',Wt g (bs ++ (enc (.mk false t ks)).reverse) v' w' ∧ Fw g v v' w w') := fun wx b hs => by
  have hn : ∀ k,v.ownBlock = some k → k < w.heap.size := fun k e => (hw.o.lt k e).2
  by_cases h0 : 0 < t.length
  ·obtain ⟨k,off,rfl,hne,hlt,hc⟩ := hty h0; refine (text_w g bs t ks v _ cap k wx (Wt_below hw b) hz hlen (fun _ => ⟨k,off,rfl,Nat.lt_of_lt_of_le hlt b.size,fun j hj => (b.cell (p := ⟨k,off + j,none⟩) hlt).trans (hc j hj)⟩) (fun _ => ⟨off,rfl⟩) (Nat.lt_of_lt_of_le hlt b.size) hne.2.1 hne.2.2).mono fun e w' he => ?_
   obtain ⟨h3,v',h4,h5⟩ := he; exact ⟨h3,v',h4,Fw_trans (Fw_below b) h5⟩
  ·refine (text_w g bs t ks v _ cap w.heap.size wx (Wt_below hw b) hz hlen (fun h => absurd h h0) (fun h => absurd h h0) hs (by have := hw.hi; omega) (fun e => by have := hn _ e.symm; omega)).mono fun e w' he => ?_
   obtain ⟨h3,v',h4,h5⟩ := he; exact ⟨h3,v',h4,Fw_trans (Fw_below b) h5⟩
 have B1 : Hid (Below w.heap.size w ((w.alloc (.cells #[.pointer (some ⟨g,0,none⟩)] 164)).alloc (.cells #[.bool false,.slice ao t.length cap,.slice a2 n2 c2] 119))) := ((Below.refl _ _).alloc (Nat.le_refl _) _).alloc (by simp) _; generalize bs ++ (enc (.mk false t ks)).reverse = Z at *; generalize t.length = n at *; clear hw hz hlen hcap hty; go_enter Tryz.func74,Tryz.ntmps74
 go_wp2_with fail
 refine (KT.out _ B1.out (by simp; omega)).mono (fun e w2 he => ?_)
 obtain ⟨rfl,hr⟩ := he; have HR : Hid _ := hr; clear hr; go_wp2_with fail
 exact bodyPost_ret (results_none rfl _ _ _) rfl ⟨rfl,HR.out⟩
end Pk
end Go.Proofs.YtlbdaccmnpcccaaGreatDoor
namespace Go.Proofs.YtlbdaccmnpcccaaGreatDoor
namespace Pk
open Go.RowKit
theorem lit_own2 (l : List UInt8) (w : World) (B : Nat) (h : B ≤ w.heap.size) (hl : l.length ≤ 64) : (w.alloc (.cells (bcs l).toArray 5)).ownsRow B 5 1 (.slice (some ⟨w.heap.size,0,none⟩) l.length l.length) l.length (bcs l) := by
 have k := World.ownsRow_lit (size := 1) (e := 5) w (bcs l).toArray l.length h (by unfold maxLen; omega) (by simp [bcs_len])
 simpa using k
def bst (l : List UInt8) : ByteArray := ⟨l.toArray⟩
theorem bst_size (l : List UInt8) : (bst l).size = l.length := by simp [bst,ByteArray.size]
theorem Sl_bst {b : List UInt8} {v : Value} {w : World} (h : Sl b v w) : (convert 22 9 v).run Tryz.prog w = .ok (.string (bst b)) w := Sl_conv h
theorem str_sl (l : List UInt8) (w : World) : ∃ c W,(convert 9 22 (.string (bst l))).run Tryz.prog w = .ok (.slice (some ⟨w.heap.size,0,none⟩) l.length c) W ∧ Sl l (.slice (some ⟨w.heap.size,0,none⟩) l.length c) W ∧ Below w.heap.size w W := by
 have h := Lib.run_convert_string_bytes w 9 22 5 (bst l) Tryz.underlying9 Tryz.underlying22 Tryz.underlying5; rw [bst_size] at h; refine ⟨_,_,h,⟨_,_,rfl,grownCap_ge _ _ _ _,fun h0 => ⟨_,_,rfl,?_,fun j hj => ?_⟩⟩,⟨?_,?_,?_,?_,fun k hk => Lib.bytesWorld_at_old w _ _ k hk⟩⟩
 ·rw [Lib.bytesWorld_size]; omega
 ·rw [Nat.zero_add,Lib.bytesWorld_cell w _ _ j (by rw [bst_size]; exact hj)]
  rfl
 ·rfl
 ·rfl
 ·rfl
 ·rw [Lib.bytesWorld_size]; omega
theorem cat_bst (l m : List UInt8) (hl : l.length ≤ 8388608) (hm : m.length ≤ 8388608) (w : World) : (Op.stringOp .add (bst l) (bst m)).run Tryz.prog w = .ok (.string (bst (l ++ m))) w := run_string_add_lists w l m (by omega) (by omega)
def mkh (l : Bool) : Nat := if l then 192 else 128
theorem lit_sl1 (c : UInt8) (w : World) : Sl [c] (.slice (some ⟨w.heap.size,0,none⟩) 1 1) (w.alloc (.cells #[.int .u8 (c.toNat : Int)] 5)) := own_sl (lit_own2 [c] w w.heap.size (Nat.le_refl _) (by simp))
theorem phead_short (l : Bool) (n : Nat) (w : World) (hn : n < 48) :
  Calls Tryz.prog 100 #[.int .i64 (n : Int),.bool l] w fun e w' => e = .returned (.string (bst (hdr (mkh l) n))) ∧ Below w.heap.size w w' := by
 have d0 : decide ((n : Int) < 48) = true := decide_eq_true (by omega); have eh : hdr (mkh l) n = [UInt8.ofNat (mkh l + n)] := by unfold hdr; rw [if_pos hn]
 have hm : mkh l ≤ 192 := by unfold mkh; split <;> omega
 have hu : (UInt8.ofNat (mkh l + n)).toNat = mkh l + n := u8_of _ (by omega); have hs := lit_sl1 (UInt8.ofNat (mkh l + n)) w; rw [hu] at hs; have hcv := Sl_bst hs; have B : Hid (Below w.heap.size w (w.alloc (.cells #[.int .u8 ((mkh l + n : Nat) : Int)] 5))) := (Below.refl _ _).alloc (Nat.le_refl _) _; rw [eh]; generalize bst [UInt8.ofNat (mkh l + n)] = X at *; clear eh hu hs hm; cases l with
 | false =>
  have ec : ((mkh false + n : Nat) : Int) = 128 + (n : Int) := by show ((128 + n : Nat) : Int) = _; omega
  rw [ec] at hcv B; have e1 : wrap64 (128 + (n : Int)) = 128 + (n : Int) := by unfold wrap64; omega
  have e2 : IntKind.u8.wrap (128 + (n : Int)) = 128 + (n : Int) := by rw [IntKind.wrap_u8]; omega
  clear ec hn; go_enter Tryz.func100,Tryz.ntmps100
  go_wp2_with fail
  go_ret
  exact ⟨rfl,B.out⟩
 | true =>
  have ec : ((mkh true + n : Nat) : Int) = 192 + (n : Int) := by show ((192 + n : Nat) : Int) = _; omega
  rw [ec] at hcv B; have e1 : wrap64 (192 + (n : Int)) = 192 + (n : Int) := by unfold wrap64; omega
  have e2 : IntKind.u8.wrap (192 + (n : Int)) = 192 + (n : Int) := by rw [IntKind.wrap_u8]; omega
  clear ec hn; go_enter Tryz.func100,Tryz.ntmps100
  go_wp2_with fail
  go_ret
  exact ⟨rfl,B.out⟩
theorem phead_long (l : Bool) (n : Nat) (w : World) (hn : 48 ≤ n) (hz : n ≤ 4194304) :
  Calls Tryz.prog 100 #[.int .i64 (n : Int),.bool l] w fun e w' => e = .returned (.string (bst (hdr (mkh l) n))) ∧ Below w.heap.size w w' := by
 have d0 : decide ((n : Int) < 48) = false := decide_eq_false (by omega); have hk := nu_8 n (by omega); have hm : mkh l ≤ 192 := by unfold mkh; split <;> omega
 have hu : (UInt8.ofNat (mkh l + 47 + (nu n).length)).toNat = mkh l + 47 + (nu n).length := u8_of _ (by omega); have eh : hdr (mkh l) n = [UInt8.ofNat (mkh l + 47 + (nu n).length)] ++ nu n := by
  unfold hdr
  rw [if_neg (by omega)]; rfl
 have HC : Hid (∀ W : World,(Op.stringOp .add (bst [UInt8.ofNat (mkh l + 47 + (nu n).length)]) (bst (nu n))).run Tryz.prog W = .ok (.string (bst ([UInt8.ofNat (mkh l + 47 + (nu n).length)] ++ nu n))) W) := fun W => cat_bst _ _ (by simp) (by omega) W
 have e0 : IntKind.u64.wrap (n : Int) = (n : Int) := by rw [IntKind.wrap_u64]; omega
 have KI : Hid (∀ w : World,Calls Tryz.prog 115 #[.int .u64 (n : Int)] w fun e w' => e = .returned (Wd n) ∧ Below w.heap.size w w') := fun w => wint_any n (by omega) w
 have KP : Hid (∀ w : World,Calls Tryz.prog 114 #[Wd n] w fun e w' => ∃ a c,e = .returned (.slice a (nu n).length c) ∧ Sl (nu n) (.slice a (nu n).length c) w' ∧ Below w.heap.size w w') := fun w => (pnum_any n w).mono fun e w' he => by
  obtain ⟨v,h1,h2,h3⟩ := he; obtain ⟨a,c,rfl,h4,h5⟩ := h2; exact ⟨a,c,h1,⟨a,c,rfl,h4,h5⟩,h3⟩
 have HL : Hid (∀ W : World,Sl [UInt8.ofNat (mkh l + 47 + (nu n).length)] (.slice (some ⟨W.heap.size,0,none⟩) 1 1) (W.alloc (.cells #[.int .u8 ((mkh l + 47 + (nu n).length : Nat) : Int)] 5))) := fun W => by
  have := lit_sl1 (UInt8.ofNat (mkh l + 47 + (nu n).length)) W; rw [hu] at this; exact this
 rw [eh]; generalize hm' : (nu n).length = m at *; generalize [UInt8.ofNat (mkh l + 47 + m)] = L at *; generalize nu n = M at *; clear eh hu hm hm' hn; cases l with
 | false =>
  have ec : ((mkh false + 47 + m : Nat) : Int) = 175 + (m : Int) := by show ((128 + 47 + m : Nat) : Int) = _; omega
  rw [ec] at HL; have e1 : wrap64 (175 + (m : Int)) = 175 + (m : Int) := by unfold wrap64; omega
  have e2 : IntKind.u8.wrap (175 + (m : Int)) = 175 + (m : Int) := by rw [IntKind.wrap_u8]; omega
  clear ec hz hk; go_enter Tryz.func100,Tryz.ntmps100
  go_wp2_with fail
  refine (KI.out _).mono (fun e w1 he => ?_)
  obtain ⟨rfl,b1⟩ := he; go_wp2_with fail
  refine (KP.out _).mono (fun e w2 he => ?_)
  obtain ⟨a,c,rfl,hs,b2⟩ := he; have bA : Below w2.heap.size w2 (w2.alloc (.cells #[.int .u8 (175 + (m : Int))] 5)) := (Below.refl _ _).alloc (Nat.le_refl _) _; have q1 := Sl_bst (HL.out w2); have q2 := Sl_bst (Sl_below hs bA); have B : Hid (Below w.heap.size w (w2.alloc (.cells #[.int .u8 (175 + (m : Int))] 5))) := (b1.trans (b2.mono b1.size)).trans (bA.mono (Nat.le_trans b1.size b2.size)); have q3 := HC.out (w2.alloc (.cells #[.int .u8 (175 + (m : Int))] 5)); clear b1 b2 bA hs KI KP HL HC; go_wp2_with fail
  go_ret
  exact ⟨rfl,B.out⟩
 | true =>
  have ec : ((mkh true + 47 + m : Nat) : Int) = 239 + (m : Int) := by show ((192 + 47 + m : Nat) : Int) = _; omega
  rw [ec] at HL; have e1 : wrap64 (239 + (m : Int)) = 239 + (m : Int) := by unfold wrap64; omega
  have e2 : IntKind.u8.wrap (239 + (m : Int)) = 239 + (m : Int) := by rw [IntKind.wrap_u8]; omega
  clear ec hz hk; go_enter Tryz.func100,Tryz.ntmps100
  go_wp2_with fail
  refine (KI.out _).mono (fun e w1 he => ?_)
  obtain ⟨rfl,b1⟩ := he; go_wp2_with fail
  refine (KP.out _).mono (fun e w2 he => ?_)
  obtain ⟨a,c,rfl,hs,b2⟩ := he; have bA : Below w2.heap.size w2 (w2.alloc (.cells #[.int .u8 (239 + (m : Int))] 5)) := (Below.refl _ _).alloc (Nat.le_refl _) _; have q1 := Sl_bst (HL.out w2); have q2 := Sl_bst (Sl_below hs bA); have B : Hid (Below w.heap.size w (w2.alloc (.cells #[.int .u8 (239 + (m : Int))] 5))) := (b1.trans (b2.mono b1.size)).trans (bA.mono (Nat.le_trans b1.size b2.size)); have q3 := HC.out (w2.alloc (.cells #[.int .u8 (239 + (m : Int))] 5)); clear b1 b2 bA hs KI KP HL HC; go_wp2_with fail
  go_ret
  exact ⟨rfl,B.out⟩
theorem phead_any (l : Bool) (n : Nat) (w : World) (hz : n ≤ 4194304) :
  Calls Tryz.prog 100 #[.int .i64 (n : Int),.bool l] w fun e w' => e = .returned (.string (bst (hdr (mkh l) n))) ∧ Below w.heap.size w w' := by
 rcases Nat.lt_or_ge n 48 with h | h
 ·exact phead_short l n w h
 ·exact phead_long l n w h hz
end Pk
end Go.Proofs.YtlbdaccmnpcccaaGreatDoor
namespace Go.Proofs.YtlbdaccmnpcccaaGreatDoor
namespace Pk
open Go.RowKit
theorem hdr_9 (m n : Nat) (h : n < 18446744073709551616) : (hdr m n).length ≤ 9 := by
 unfold hdr
 split
 ·simp
 ·have := nu_8 n h; rw [List.length_cons]; omega
theorem enc_one (c : UInt8) (ks : List It) (h : c.toNat < 128) : enc (.mk false [c] ks) = [c] := by
 unfold enc
 rw [if_pos]; exact ⟨rfl,by have : Sp.bz [c] 0 = (c.toNat : Int) := rfl; omega⟩
theorem pencode_one (c : UInt8) (a1 a2 : Option Addr) (n2 c1 c2 : Nat) (w : World) (hc : c.toNat < 128) (hs : Sl [c] (.slice a1 1 c1) w) :
  Calls Tryz.prog 87 #[.agg #[.bool false,.slice a1 1 c1,.slice a2 n2 c2]] w fun e w' => ∃ v,e = .returned v ∧ Sl [c] v w' ∧ Below w.heap.size w w' := by
 have B1 : Below w.heap.size w (w.alloc (.cells #[.bool false,.slice a1 1 c1,.slice a2 n2 c2] 119)) := (Below.refl _ _).alloc (Nat.le_refl _) _; have q1 : (convert 22 9 (.slice a1 1 c1)).run Tryz.prog (w.alloc (.cells #[.bool false,.slice a1 1 c1,.slice a2 n2 c2] 119)) = .ok (.string ⟨#[c]⟩) (w.alloc (.cells #[.bool false,.slice a1 1 c1,.slice a2 n2 c2] 119)) := Sl_conv (Sl_below hs B1); obtain ⟨k,W,hcv',h2,h3⟩ := str_sl [c] (w.alloc (.cells #[.bool false,.slice a1 1 c1,.slice a2 n2 c2] 119)); have hcv : (convert 9 22 (.string ⟨#[c]⟩)).run Tryz.prog (w.alloc (.cells #[.bool false,.slice a1 1 c1,.slice a2 n2 c2] 119)) = .ok (.slice (some ⟨(w.alloc (.cells #[.bool false,.slice a1 1 c1,.slice a2 n2 c2] 119)).heap.size,0,none⟩) 1 k) W := hcv'; have hsz : (w.alloc (.cells #[.bool false,.slice a1 1 c1,.slice a2 n2 c2] 119)).heap.size = w.heap.size + 1 := by simp
 rw [hsz] at h2; have HR : Hid (∃ v,Ending.returned (.slice (some ⟨w.heap.size + 1,0,none⟩) 1 k) = .returned v ∧ Sl [c] v W ∧ Below w.heap.size w W) := ⟨_,rfl,h2,B1.trans (h3.mono B1.size)⟩; have hx : ((⟨#[c]⟩ : ByteArray)[0]'Nat.zero_lt_one).toNat = c.toNat := rfl; have d0 : decide ((c.toNat : Int) < 128) = true := decide_eq_true (by omega); have d1 : (c.toNat : Int) < 128 := by omega
 clear hcv' h2 h3 B1 hs hc hsz; go_enter Tryz.func87,Tryz.ntmps87
 go_wp2_with fail
 go_ret
 exact HR.out
theorem pencode_head (t : List UInt8) (n : Nat) (a1 a2 : Option Addr) (n2 c1 c2 : Nat) (w : World) (hn : n = t.length) (hz : n ≤ 4194304) (hs : Sl t (.slice a1 n c1) w) (ht : n = 1 → ∃ c : UInt8,t = [c] ∧ 128 ≤ c.toNat) :
  Calls Tryz.prog 87 #[.agg #[.bool false,.slice a1 n c1,.slice a2 n2 c2]] w fun e w' => ∃ v,e = .returned v ∧ Sl (hdr 128 n ++ t) v w' ∧ Below w.heap.size w w' := by
 have B1 : Below w.heap.size w (w.alloc (.cells #[.bool false,.slice a1 n c1,.slice a2 n2 c2] 119)) := (Below.refl _ _).alloc (Nat.le_refl _) _; have q1 := Sl_bst (Sl_below hs B1); have hN := heap_alloc_new w (.cells #[.bool false,.slice a1 n c1,.slice a2 n2 c2] 119); have KH : Hid (∀ W : World,Calls Tryz.prog 100 #[.int .i64 (n : Int),.bool false] W fun e w' => e = .returned (.string (bst (hdr 128 n))) ∧ Below W.heap.size W w') := fun W => phead_any false n W hz
 have KC : Hid (∀ W : World,∃ c W',(convert 9 22 (.string (bst (hdr 128 n ++ t)))).run Tryz.prog W = .ok (.slice (some ⟨W.heap.size,0,none⟩) (hdr 128 n ++ t).length c) W' ∧ Sl (hdr 128 n ++ t) (.slice (some ⟨W.heap.size,0,none⟩) (hdr 128 n ++ t).length c) W' ∧ Below W.heap.size W W') := fun W => str_sl _ W
 have HC : Hid (∀ W : World,(Op.stringOp .add (bst (hdr 128 n)) (bst t)).run Tryz.prog W = .ok (.string (bst (hdr 128 n ++ t))) W) := fun W => cat_bst _ _ (by have := hdr_9 128 n (by omega); omega) (by omega) W
 by_cases h1 : n = 1
 ·obtain ⟨c,rfl,hc⟩ := ht h1; subst h1; have d0 : decide ((c.toNat : Int) < 128) = false := decide_eq_false (by omega); have d1 : ¬ (c.toNat : Int) < 128 := by omega
  have e1 : bst [c] = ⟨#[c]⟩ := rfl; rw [e1] at q1 HC; have BH : Hid _ := B1; generalize bst (hdr 128 1 ++ [c]) = Z at *; generalize hdr 128 1 ++ [c] = E at *; generalize bst (hdr 128 1) = H at *; clear e1 ht hz hs hn B1 hc; go_enter Tryz.func87,Tryz.ntmps87
  go_wp2_with fail
  refine (KH.out _).mono (fun e w2 he => ?_)
  obtain ⟨rfl,b2⟩ := he; obtain ⟨k,W,hcv,h2,h3⟩ := KC.out w2; have HR : Hid (Sl E (.slice (some ⟨w2.heap.size,0,none⟩) E.length k) W ∧ Below w.heap.size w W) := ⟨h2,(BH.out.trans (b2.mono BH.out.size)).trans (h3.mono (Nat.le_trans BH.out.size b2.size))⟩; generalize E.length = L at *; have q3 := HC.out w2; clear h2 h3 b2 KC KH BH HC; go_wp2_with fail
  go_ret
  exact ⟨_,rfl,HR.out⟩
 ·have hX : (bst t).size = n := by rw [bst_size,hn]
  have d0 : ((n : Int) == 1) = false := beq_eq_false_iff_ne.2 (by omega); have d1 : ¬ (n : Int) = 1 := by omega
  have d2 : (n == 1) = false := beq_eq_false_iff_ne.2 h1; have BH : Hid _ := B1; generalize bst (hdr 128 n ++ t) = Z at *; generalize hdr 128 n ++ t = E at *; generalize bst (hdr 128 n) = H at *; generalize bst t = X at *; clear ht hz hs hn B1; go_enter Tryz.func87,Tryz.ntmps87
  go_wp2_with fail
  refine (KH.out _).mono (fun e w2 he => ?_)
  obtain ⟨rfl,b2⟩ := he; obtain ⟨k,W,hcv,h2,h3⟩ := KC.out w2; have HR : Hid (Sl E (.slice (some ⟨w2.heap.size,0,none⟩) E.length k) W ∧ Below w.heap.size w W) := ⟨h2,(BH.out.trans (b2.mono BH.out.size)).trans (h3.mono (Nat.le_trans BH.out.size b2.size))⟩; generalize E.length = L at *; have q3 := HC.out w2; clear h2 h3 b2 KC KH BH HC; go_wp2_with fail
  go_ret
  exact ⟨_,rfl,HR.out⟩
theorem take_encs (ks : List It) (k : Nat) (h : k < ks.length) : encs (ks.take k) ++ enc (ks.getD k It.no) = encs (ks.take (k + 1)) := by
 induction ks generalizing k with
 | nil => exact absurd h (by simp)
 | cons x r ih =>
  cases k with
  | zero => simp [encs]
  | succ k =>
   have := ih k (by simpa using h); rw [List.take_succ_cons,List.take_succ_cons,List.getD_cons_succ]; unfold encs
   rw [List.append_assoc,this]
theorem encs_take (ks : List It) (k : Nat) : (encs (ks.take k)).length ≤ (encs ks).length := by
 induction ks generalizing k with
 | nil => simp
 | cons x r ih =>
  cases k with
  | zero => simp [encs]
  | succ k =>
   rw [List.take_succ_cons]; unfold encs
   rw [List.length_append,List.length_append]; have := ih k; omega
theorem pencode_list (S : Nat → Prop) (ks : List It) (vs : List V3) (a1 a2 : Option Addr) (n1 c1 c2 n N : Nat) (T : ByteArray) (w : World) (hn : Hid (n = vs.length)) (hl : Hid (vs.length = ks.length)) (hk : Hid (Kx S vs (.slice a2 n c2) w)) (hi : Hid (∀ j,j < ks.length → Iv S w (ks.getD j It.no) (vs.getD j n3)))
  (hT : Hid (∀ W : World,Below w.heap.size w W → (convert 22 9 (.slice a1 n1 c1)).run Tryz.prog W = .ok (.string T) W))
  (IH : Hid (∀ j,j < ks.length → ∀ (v : V3) (w : World),Iv S w (ks.getD j It.no) v → Calls Tryz.prog 87 #[v3 v] w fun e w' => ∃ v,e = .returned v ∧ Sl (enc (ks.getD j It.no)) v w' ∧ Below w.heap.size w w')) (hN : Hid (N = (encs ks).length)) (hz : Hid (N ≤ 4194304)) :
  Calls Tryz.prog 87 #[.agg #[.bool true,.slice a1 n1 c1,.slice a2 n c2]] w fun e w' => ∃ v,e = .returned v ∧ Sl (hdr 192 N ++ encs ks) v w' ∧ Below w.heap.size w w' := by
 have B0 : Below w.heap.size w (w.alloc (.cells #[.bool true,.slice a1 n1 c1,.slice a2 n c2] 119)) := (Below.refl _ _).alloc (Nat.le_refl _) _; have hT0 := hT.out _ B0; go_enter Tryz.func87,Tryz.ntmps87
 go_wp2_with fail
 clear hT hT0; have hA := heap_alloc_new w (.cells #[.bool true,.slice a1 n1 c1,.slice a2 n c2] 119); have ht : (w.alloc (.cells #[.bool true,.slice a1 n1 c1,.slice a2 n c2] 119)).cell? ⟨w.heap.size,0,none⟩ = some (.bool true) := by simp only [World.cell?,hA]; rfl
 have hs : w.heap.size < (w.alloc (.cells #[.bool true,.slice a1 n1 c1,.slice a2 n c2] 119)).heap.size := by simp
 clear hA; generalize w.alloc (.cells #[.bool true,.slice a1 n1 c1,.slice a2 n c2] 119) = W0 at *; obtain ⟨g,eg⟩ : ∃ g,g = w.heap.size := ⟨_,rfl⟩; have EG : Hid (g = w.heap.size) := eg; rw [← eg] at B0 ht hs ⊢; clear eg; go_loopw [3,14] (fun s i wr => ∃ k : Nat,k ≤ n ∧ s = .string (bst (encs (ks.take k))) ∧ i = .int .i64 (k : Int) ∧ Below W0.heap.size W0 wr) (fun _ i _ => ((n : Int) - intOf i).toNat)
 case atStart => exact ⟨0,Nat.zero_le _,rfl,rfl,Below.refl _ _⟩
 case round =>
  obtain ⟨k,hkn,rfl,rfl,hB⟩ := hrel; by_cases hlt : k < n
  ·have d0 : decide ((k : Int) < (n : Int)) = true := decide_eq_true (by omega); have d1 : (0 : Int) ≤ (k : Int) := by omega
   have d2 : (k : Int) < (n : Int) := by omega
   have hks : k < ks.length := by have := hn.out; have := hl.out; omega
   obtain ⟨ao,cap,e2,-,hq⟩ := hk.out; obtain ⟨gk,off,rfl,-,hgk,hcell⟩ := hq (by have := hn.out; omega)
   injection e2 with e2 e2' e2''
   subst e2; clear e2' e2''; obtain ⟨x0,x1,x2⟩ := hcell k (by have := hn.out; omega)
   have iv := hi.out k hks; obtain ⟨l,b1,m1,q1,b2,m2,q2,ev⟩ := Iv_form iv; rw [ev] at x0 x1 x2 iv; have HC : Hid (∀ W : World,(Op.stringOp .add (bst (encs (ks.take k))) (bst (enc (ks.getD k It.no)))).run Tryz.prog W = .ok (.string (bst (encs (ks.take (k + 1))))) W) := fun W => by
    have h1 := encs_take ks k; have h2 := encs_one ks k hks; have h3 := hz.out; have h4 := hN.out; rw [cat_bst _ _ (by omega) (by omega),take_encs ks k hks]
   have KB : Hid (∀ w : World,Iv S w (ks.getD k It.no) (.bool l,.slice b1 m1 q1,.slice b2 m2 q2) → Calls Tryz.prog 87 #[.agg #[.bool l,.slice b1 m1 q1,.slice b2 m2 q2]] w fun e w' => ∃ v,e = .returned v ∧ Sl (enc (ks.getD k It.no)) v w' ∧ Below w.heap.size w w') := IH.out k hks (.bool l,.slice b1 m1 q1,.slice b2 m2 q2)
   have BW : Below w.heap.size w wr := (EG.out ▸ B0).trans (hB.mono (by have := EG.out; omega))
   have y0 := (BW.cell (p := ⟨gk,off + 3 * k,none⟩) hgk).trans x0; have y1 := (BW.cell (p := ⟨gk,off + 3 * k + 1,none⟩) hgk).trans x1; have y2 := (BW.cell (p := ⟨gk,off + 3 * k + 2,none⟩) hgk).trans x2; have hgk2 : gk < wr.heap.size := Nat.lt_of_lt_of_le hgk BW.size; rw [Nat.mul_comm 3 k] at y0 y1 y2; have IW : Hid (Iv S (wr.alloc (.cells #[.bool l,.slice b1 m1 q1,.slice b2 m2 q2] 119)) (ks.getD k It.no) (.bool l,.slice b1 m1 q1,.slice b2 m2 q2)) := Iv_below (Iv_gb (r := none) iv (gb_below BW) (fun _ _ => nofun)) ((Below.refl _ _).alloc (Nat.le_refl _) _)
   have B2 : Hid (Below W0.heap.size W0 (wr.alloc (.cells #[.bool l,.slice b1 m1 q1,.slice b2 m2 q2] 119))) := hB.alloc hB.size _; have e5 : Hid (wrap64 ((k : Int) + 1) = ((k + 1 : Nat) : Int)) := by
    have := hz.out; have := hN.out; have := encs_many ks; have := hn.out; have := hl.out; show _ = _; unfold wrap64; omega
   obtain ⟨Y,hY⟩ : ∃ Y,Y = bst (encs (ks.take (k + 1))) := ⟨_,rfl⟩; have HY : Hid (Y = bst (encs (ks.take (k + 1)))) := hY; rw [← hY] at HC; generalize bst (encs (ks.take k)) = X at *; clear hq hcell x0 x1 x2 ev hks iv BW hY; go_wp2_with fail
   refine (KB.out _ IW.out).mono (fun e w5 he => ?_)
   obtain ⟨v,rfl,hs5,b5⟩ := he; have B5 : Hid (Below W0.heap.size W0 w5) := B2.out.trans (b5.mono B2.out.size); have q5 := Sl_bst hs5; have q6 := HC.out w5; obtain ⟨a5,n5,rfl,-,-⟩ := hs5; generalize bst (enc (ks.getD k It.no)) = E5 at *; generalize (enc (ks.getD k It.no)).length = n6 at *; clear KB IW B2 y0 y1 y2 b5 HC; go_wp2_with fail
   rw [e5.out]; exact ⟨⟨k + 1,hlt,by rw [HY.out],rfl,B5.out⟩,msr_up k n hlt⟩
  ·have d0 : decide ((k : Int) < (n : Int)) = false := decide_eq_false (by omega); have ek : ks.take k = ks := List.take_of_length_le (by have := hn.out; have := hl.out; omega)
   rw [ek]; have ht2 : wr.cell? ⟨g,0,none⟩ = some (.bool true) := (hB.cell (p := ⟨g,0,none⟩) hs).trans ht; have hgw : g < wr.heap.size := Nat.lt_of_lt_of_le hs hB.size; have BF : Hid (Below w.heap.size w wr) := (EG.out ▸ B0).trans (hB.mono (by have := EG.out; omega))
   have hX : (bst (encs ks)).size = N := by rw [bst_size,hN.out]
   have KH : Hid (∀ W : World,Calls Tryz.prog 100 #[.int .i64 (N : Int),.bool true] W fun e w' => e = .returned (.string (bst (hdr 192 N))) ∧ Below W.heap.size W w') := fun W => phead_any true N W hz.out
   have KC : Hid (∀ W : World,∃ c W',(convert 9 22 (.string (bst (hdr 192 N ++ encs ks)))).run Tryz.prog W = .ok (.slice (some ⟨W.heap.size,0,none⟩) (hdr 192 N ++ encs ks).length c) W' ∧ Sl (hdr 192 N ++ encs ks) (.slice (some ⟨W.heap.size,0,none⟩) (hdr 192 N ++ encs ks).length c) W' ∧ Below W.heap.size W W') := fun W => str_sl _ W
   have HC : Hid (∀ W : World,(Op.stringOp .add (bst (hdr 192 N)) (bst (encs ks))).run Tryz.prog W = .ok (.string (bst (hdr 192 N ++ encs ks))) W) := fun W => cat_bst _ _ (by have := hdr_9 192 N (by have := hz.out; omega); omega) (by have := hz.out; have := hN.out; omega) W
   generalize bst (hdr 192 N ++ encs ks) = Z at *; obtain ⟨E,hE⟩ : ∃ E,E = hdr 192 N ++ encs ks := ⟨_,rfl⟩; have HE : Hid (E = hdr 192 N ++ encs ks) := hE; rw [← hE] at KC; clear hE; generalize bst (encs ks) = X at *; generalize bst (hdr 192 N) = H at *; clear ek; go_wp2_with fail
   refine (KH.out _).mono (fun e w2 he => ?_)
   obtain ⟨rfl,b2⟩ := he; obtain ⟨k2,W,hcv,h2,h3⟩ := KC.out w2; have HR : Hid (Sl (hdr 192 N ++ encs ks) (.slice (some ⟨w2.heap.size,0,none⟩) E.length k2) W ∧ Below w.heap.size w W) := ⟨HE.out ▸ h2,(BF.out.trans (b2.mono BF.out.size)).trans (h3.mono (Nat.le_trans BF.out.size b2.size))⟩; clear HE; generalize E.length = L at *; have q3 := HC.out w2; clear h2 h3 b2 KC KH HC; go_wp2_with fail
   go_ret
   exact ⟨_,rfl,HR.out⟩
theorem enc_text (t : List UInt8) (ks : List It) (h : ¬ ∃ c : UInt8,t = [c] ∧ c.toNat < 128) : enc (.mk false t ks) = hdr 128 t.length ++ t := by
 unfold enc
 rw [if_neg]; intro h2; apply h
 match t,h2 with
 | [c],h2 => exact ⟨c,rfl,by have : Sp.bz [c] 0 = (c.toNat : Int) := rfl; have := h2.2; omega⟩
 | [],h2 => simp at h2
 | _ :: _ :: _,h2 => simp at h2
theorem pencode_any {t : It} (hb : Wf t) : (enc t).length ≤ 1048576 → ∀ (S : Nat → Prop) (v : V3) (w : World),Iv S w t v → Calls Tryz.prog 87 #[v3 v] w fun e w' => ∃ v,e = .returned v ∧ Sl (enc t) v w' ∧ Below w.heap.size w w' := by
 induction hb with
 | mk l t ks _ ih =>
  intro hz S v w h; cases h with
  | mk _ _ _ tv kv vs ht hl hk hi =>
   have h7 := Ty_sl ht; obtain ⟨a1,c1,rfl,-,-⟩ := ht; have hk2 := hk; obtain ⟨a2,c2,rfl,-,-⟩ := hk; cases l with
   | false =>
    have hlen := enc_text_len t ks; by_cases h1 : ∃ c : UInt8,t = [c] ∧ c.toNat < 128
    ·obtain ⟨c,rfl,hc⟩ := h1; rw [enc_one c ks hc]; exact pencode_one c a1 a2 _ c1 c2 w hc h7
    ·rw [enc_text t ks h1]; exact pencode_head t t.length a1 a2 _ c1 c2 w rfl (by omega) h7 (fun e => by
      obtain ⟨c,rfl⟩ := List.length_eq_one_iff.1 e; refine ⟨c,rfl,?_⟩; rcases Nat.lt_or_ge c.toNat 128 with h | h
      ·exact absurd ⟨c,rfl,h⟩ h1
      ·exact h)
   | true =>
    have h1 : (encs ks).length ≤ (enc (.mk true t ks)).length := by
     unfold enc
     rw [List.length_append]; omega
    have e : enc (.mk true t ks) = hdr 192 (encs ks).length ++ encs ks := by unfold enc; rfl
    rw [e]; exact pencode_list S ks vs a1 a2 _ c1 c2 vs.length (encs ks).length (bst t) w rfl hl hk2 hi (fun W hW => Sl_bst (Sl_below h7 hW)) (fun j hj v w h => ih j hj (by have := encs_one ks j hj; omega) S v w h) rfl (by show _ ≤ _; omega)
end Pk
end Go.Proofs.YtlbdaccmnpcccaaGreatDoor
namespace Go.Proofs.YtlbdaccmnpcccaaGreatDoor
namespace Rs
open Nb Sp Pk Go.RowKit
theorem pt1 : Hid (∀ (a : Option Addr) (m c : Nat) (wx : World),Calls Tryz.prog 97 #[.slice a m c] wx fun e w' => e = .returned (.agg #[.bool false,.slice a m c,.slice none 0 0]) ∧ Below wx.heap.size wx w') := fun a m c wx => ptext_any a m c wx
theorem pl1 : Hid (∀ (a : Option Addr) (m c : Nat) (wx : World),Calls Tryz.prog 99 #[.slice a m c] wx fun e w' => e = .returned (.agg #[.bool true,.slice none 0 0,.slice a m c]) ∧ Below wx.heap.size wx w') := fun a m c wx => plist_sl a m c wx
theorem shapeitem_any (s : Shp) (x : V4) (w : World) (h : Sh s x w) (hp : s.2.1.length ≤ 4194300) :
  Calls Tryz.prog 86 #[v4 x] w fun e w' => ∃ v,e = .returned (.tuple #[v3 v,.bool (isS s)]) ∧ (isS s = true → Iv (fun _ => True) w' (itS s) v) ∧ Below w.heap.size w w' ∧ Fm v := by
 obtain ⟨a1,c1,a2,c2,a3,c3,rfl⟩ := Sh_form h; obtain ⟨kk,p,v,ks⟩ := s; dsimp only at hp; have vw : Hid (∀ W,Below w.heap.size w W → Vw p a1 W) := fun W hb => by
  obtain ⟨ao,cap,e,_,hv⟩ := (Sh_below h hb).2.1; injection e with e1 _ _
  rwa [← e1] at hv
 have hc1 : p.length ≤ c1 := by
  obtain ⟨ao,cap,e,hc,_⟩ := h.2.1; injection e with _ _ e3
  rw [e3]; exact hc
 have KN : ∀ leaf,Hid (∀ wx : World,Below w.heap.size w wx → Calls Tryz.prog 98 #[.slice a1 p.length c1,.bool leaf] wx fun e w' => ∃ v z,e = .returned (.tuple #[v,.int .i64 z]) ∧ Sl (jl (tg p leaf)) v w' ∧ Below wx.heap.size wx w') := fun leaf wx hb =>
  (ntag_sl p leaf a1 c1 wx (by show _ ≤ _; omega) hc1 (vw.out wx hb)).mono fun e w' he => by
   obtain ⟨v,h1,h2,h3⟩ := he; exact ⟨v,_,h1,h2,h3⟩
 have hz : Hid (p.length ≤ 4194300) := hp; have hu : Hid (∀ W,Below w.heap.size w W → Sl v (.slice a2 v.length c2) W) := fun W hb => (Sh_below h hb).2.2.1
 by_cases k0 : kk = 0
 ·subst k0; have e1 : isS (0,p,v,ks) = true := rfl; rw [e1]; exact si_none a1 a2 a3 _ c1 _ c2 _ c3 p w rfl hz vw (fun wx => pt1.out _ _ _ wx)
 by_cases k1 : kk = 1
 ·subst k1; have e0 : isS (1,p,v,ks) = (pb p && (decide (0 < v.length) && decide (v.length ≤ 1024))) := rfl; cases hB : pb p with
  | false =>
   rw [show isS (1,p,v,ks) = false by rw [e0,hB]; rfl]
   exact (si_leaf_b a1 a2 a3 _ c1 _ c2 _ c3 p w rfl hz vw hB).mono fun e w' he => by obtain ⟨v,h1,_,h2⟩ := he; exact ⟨v,h1,nofun,h2⟩
  | true =>
   by_cases h0 : v.length = 0
   ·rw [show isS (1,p,v,ks) = false by rw [e0,h0]; simp]
    exact (si_leaf_0 a1 a2 a3 _ c1 _ c2 _ c3 p w rfl hz vw hB h0).mono fun e w' he => by obtain ⟨v,h1,_,h2⟩ := he; exact ⟨v,h1,nofun,h2⟩
   ·by_cases hm : v.length ≤ 1024
    ·have hv0 : 0 < v.length := by omega
     rw [show isS (1,p,v,ks) = true by rw [e0,hB]; simp [hv0,hm]]
     exact si_leaf a1 a2 a3 _ c1 _ c2 _ c3 p w rfl hz vw (jl (tg p true)) hB pt1 pl1 (KN true) v hu hv0 hm
    ·rw [show isS (1,p,v,ks) = false by rw [e0]; simp [hm]]
     exact (si_leaf_m a1 a2 a3 _ c1 _ c2 _ c3 p w rfl hz vw hB (by show 1024 < v.length; omega)).mono fun e w' he => by obtain ⟨v,h1,_,h2⟩ := he; exact ⟨v,h1,nofun,h2⟩
 by_cases k2 : kk = 2
 ·subst k2; have e0 : isS (2,p,v,ks) = (decide (0 < p.length) && (pb p && (decide (ks.length = 1) && decide ((ks.getD 0 []).length = 32)))) := rfl; cases hB : pb p with
  | false =>
   rw [show isS (2,p,v,ks) = false by rw [e0,hB]; simp]
   exact (si_road_b a1 a2 a3 _ c1 _ c2 _ c3 p w rfl hz vw hB).mono fun e w' he => by obtain ⟨v,h1,_,h2⟩ := he; exact ⟨v,h1,nofun,h2⟩
  | true =>
   by_cases hn : p.length = 0
   ·rw [show isS (2,p,v,ks) = false by rw [e0,hn]; simp]
    exact (si_road_0 a1 a2 a3 _ c1 _ c2 _ c3 p w rfl hz vw hB hn).mono fun e w' he => by obtain ⟨v,h1,_,h2⟩ := he; exact ⟨v,h1,nofun,h2⟩
   ·have hn0 : 0 < p.length := by omega
    by_cases h3 : ks.length = 1
    ·obtain ⟨ao,cap,e2,hL⟩ := h.2.2.2; dsimp only at e2 hL; obtain ⟨g,off,rfl,hg,hc⟩ := hL (by omega); obtain ⟨vi,q1,q2⟩ := hc 0 (by omega); obtain ⟨ai,ci,rfl⟩ := Sl_fm q2; injection e2 with e3 _ _
     by_cases hm : (ks.getD 0 []).length = 32
     ·rw [show isS (2,p,v,ks) = true by rw [e0,hB,decide_eq_true hn0,decide_eq_true h3,decide_eq_true hm]; rfl]
      rw [hm] at q1 q2; exact si_road a1 a2 a3 _ c1 _ c2 _ c3 p w rfl hz vw (jl (tg p false)) hB pt1 pl1 (KN false) (ks.getD 0 []) g off ci ai e3 ⟨hg,q1⟩ (fun W hb => Sl_below q2 hb) hn0 h3
     ·rw [show isS (2,p,v,ks) = false by rw [e0,decide_eq_false hm]; simp]
      exact (si_road_s a1 a2 a3 _ c1 _ c2 _ c3 p w rfl hz vw hB hn0 h3 _ hm (fun W hb => ⟨g,off,ai,ci,e3,(hb.cell (p := ⟨g,off,none⟩) hg).trans q1⟩)).mono fun e w' he => by obtain ⟨v,h1,_,h2⟩ := he; exact ⟨v,h1,nofun,h2⟩
    ·rw [show isS (2,p,v,ks) = false by rw [e0]; simp [h3]]
     exact (si_road_k a1 a2 a3 _ c1 _ c2 _ c3 p w rfl hz vw hB hn0 h3).mono fun e w' he => by obtain ⟨v,h1,_,h2⟩ := he; exact ⟨v,h1,nofun,h2⟩
 by_cases k3 : kk = 3
 ·subst k3; have e0 : isS (3,p,v,ks) = (decide (ks.length = 16) && (decide (v.length ≤ 1024) && (ks.all sm && decide (2 ≤ np (ks ++ [v]))))) := rfl; by_cases h3 : ks.length = 16
  ·by_cases hm : v.length ≤ 1024
   ·rw [show isS (3,p,v,ks) = (ks.all sm && decide (2 ≤ np (ks ++ [v]))) by rw [e0]; simp [h3,hm]]
    obtain ⟨hs,hh,hvl⟩ := ls_heads h.2.2.2; exact si_fork a1 a2 a3 _ c1 _ c2 _ c3 p w rfl hz vw pt1 pl1 ks v hs hh hvl h.2.2.1 h3 hm
   ·rw [show isS (3,p,v,ks) = false by rw [e0]; simp [hm]]
    exact (si_fork_v a1 a2 a3 _ c1 _ c2 _ c3 p w rfl hz vw h3 (by show 1024 < v.length; omega)).mono fun e w' he => by obtain ⟨v,h1,_,h2⟩ := he; exact ⟨v,h1,nofun,h2⟩
  ·rw [show isS (3,p,v,ks) = false by rw [e0]; simp [h3]]
   exact (si_fork_k a1 a2 a3 _ c1 _ c2 _ c3 p w rfl hz vw h3).mono fun e w' he => by obtain ⟨v,h1,_,h2⟩ := he; exact ⟨v,h1,nofun,h2⟩
 ·have e : isS (kk,p,v,ks) = false := by unfold isS; simp [k0,k1,k2,k3]
  rw [e]; exact (si_other a1 a2 a3 _ c1 _ c2 _ c3 p w rfl hz vw kk k0 k1 k2 k3).mono fun e w' he => by obtain ⟨v,h1,_,h2⟩ := he; exact ⟨v,h1,nofun,h2⟩
theorem enc_t9 (t : List UInt8) (ks : List It) (h : t.length < 18446744073709551616) : (enc (.mk false t ks)).length ≤ t.length + 9 := by
 unfold enc
 split
 ·omega
 ·rw [List.length_append]; have := hdr_9 128 t.length h; omega
theorem encs_texts : ∀ l : List (List UInt8),(∀ t ∈ l,t.length ≤ 1024) → (encs (l.map fun b => .mk false b [])).length ≤ 1033 * l.length
 | [],_ => by simp [encs]
 | t :: r,h => by
  have h1 := enc_t9 t [] (by have := h t (List.mem_cons_self ..); omega)
  have h2 := encs_texts r (fun u hu => h u (List.mem_cons_of_mem _ hu))
  have h3 := h t (List.mem_cons_self ..); rw [List.map_cons,encs,List.length_append,List.length_cons]; omega
theorem jn_ln : ∀ p : List UInt8,(jn p).length ≤ p.length / 2
 | [] => by simp [jn]
 | [_] => by simp [jn]
 | x :: y :: r => by
  have := jn_ln r; rw [jn,List.length_cons]; simp only [List.length_cons]; omega
theorem jl_ln (p : List UInt8) : (jl p).length ≤ p.length / 2 := by
 unfold jl
 split
 ·exact jn_ln p
 ·simp
theorem enc_two (a b : List UInt8) (ha : a.length ≤ 600000) (hb : b.length ≤ 1024) : (enc (.mk true [] [.mk false a [],.mk false b []])).length ≤ 1048576 := by
 have h1 := enc_t9 a [] (by omega); have h2 := enc_t9 b [] (by omega); have e : encs [.mk false a [],.mk false b []] = enc (.mk false a []) ++ (enc (.mk false b []) ++ []) := by simp [encs]
 unfold enc
 rw [e,List.length_append]; have h3 : (enc (.mk false a []) ++ (enc (.mk false b []) ++ [])).length ≤ 700000 := by simp only [List.length_append,List.length_nil]; omega
 have := hdr_9 192 (enc (.mk false a []) ++ (enc (.mk false b []) ++ [])).length (by omega); omega
theorem encS_len (s : Shp) (h : isS s = true) (hp : s.2.1.length ≤ 1048576) : (enc (itS s)).length ≤ 1048576 := by
 obtain ⟨kk,p,v,ks⟩ := s; dsimp only at hp; have ht : ∀ leaf,(jl (tg p leaf)).length ≤ 600000 := fun leaf => by
  have h1 := jl_ln (tg p leaf); have h2 := tg_len p leaf; omega
 unfold itS
 dsimp only
 by_cases k1 : kk = 1
 ·subst k1; rw [if_pos rfl]; have e0 : isS (1,p,v,ks) = (pb p && (decide (0 < v.length) && decide (v.length ≤ 1024))) := rfl; rw [e0] at h; simp only [Bool.and_eq_true,decide_eq_true_iff] at h; exact enc_two _ _ (ht true) h.2.2
 rw [if_neg k1]; by_cases k2 : kk = 2
 ·subst k2; rw [if_pos rfl]; have e0 : isS (2,p,v,ks) = (decide (0 < p.length) && (pb p && (decide (ks.length = 1) && decide ((ks.getD 0 []).length = 32)))) := rfl; rw [e0] at h; simp only [Bool.and_eq_true,decide_eq_true_iff] at h; exact enc_two _ _ (ht false) (by omega)
 rw [if_neg k2]; by_cases k3 : kk = 3
 ·subst k3; rw [if_pos rfl]; have e0 : isS (3,p,v,ks) = (decide (ks.length = 16) && (decide (v.length ≤ 1024) && (ks.all sm && decide (2 ≤ np (ks ++ [v]))))) := rfl; rw [e0] at h; simp only [Bool.and_eq_true,decide_eq_true_iff,List.all_eq_true] at h; have h1 := encs_texts (ks ++ [v]) (fun t ht => by
   rcases List.mem_append.1 ht with ht | ht
   ·have := h.2.2.1 t ht; unfold sm at this
    simp at this
    rcases this with this | this
    ·rw [this]; simp
    ·omega
   ·rw [List.mem_singleton.1 ht]; exact h.2.1)
  rw [List.length_append,h.1,List.length_singleton] at h1; unfold enc
  rw [List.length_append]; have := hdr_9 192 (encs ((ks ++ [v]).map fun b => .mk false b [])).length (by omega)
  omega
 ·rw [if_neg k3]; have := enc_t9 [] [] (by simp); simp at this
  omega
end Rs
end Go.Proofs.YtlbdaccmnpcccaaGreatDoor
namespace Go.Proofs.YtlbdaccmnpcccaaGreatDoor
namespace Rs
open Nb Sp Pk Go.RowKit
def hc (s : Shp) : List UInt8 := if isS s then enc (itS s) else []
def he (s : Shp) : Int := if isS s then 0 else 1
end Rs
end Go.Proofs.YtlbdaccmnpcccaaGreatDoor
namespace Go.Proofs.YtlbdaccmnpcccaaGreatDoor
namespace Nb
open Go.RowKit
end Nb
end Go.Proofs.YtlbdaccmnpcccaaGreatDoor
namespace Go.Proofs.YtlbdaccmnpcccaaGreatDoor
namespace Nb
open Go.RowKit
end Nb
end Go.Proofs.YtlbdaccmnpcccaaGreatDoor
namespace Go.Proofs.YtlbdaccmnpcccaaGreatDoor
namespace Pk
open Go.RowKit
end Pk
end Go.Proofs.YtlbdaccmnpcccaaGreatDoor
