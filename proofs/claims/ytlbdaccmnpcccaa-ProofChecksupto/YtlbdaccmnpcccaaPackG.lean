import Derived.Test.YtlbdaccmnpcccaaPackF
import Derived.Test.YtlbdaccmnpcccaaPackA
import Derived.RangeFuncNested
import Derived.RangeFuncBound
import Derived.RangeFuncCalls
import Derived.RangeFuncLeaves
import Derived.RangeFuncBox
import Derived.Shelf.Abstract
import Derived.Shelf.RegionOpen
import Derived.WalkKit
import Derived.OwnWalkIn
import Derived.TacticsInMore
import Derived.LoopNIn
import Derived.LoopIn
import Derived.Test.YtlbdaccmnpcccaaPackB
import Derived.OrdersIn
import Derived.ControlIn
import Derived.Test.YtlbdaccmnpcccaaPackC
import Derived.Deep.AppendLies
import Derived.Test.YtlbdaccmnpcccaaPackE
import Derived.Test.YtlbdaccmnpcccaaPackD
import Derived.Lib.ConvBytes
import Derived.Laws.Concat
namespace Go.Proofs.Ytlbdaccmnpcccaa
namespace Rs
open Nb Sp Pk Go.RowKit
def IA (w9 : World) (gi : Nat) (xs : List Value) (k : Nat) (wr : World) : Prop := ∃ kv, GL w9 gi kv ((xs.take k).map tv) wr
theorem own_form {B e z n : Nat} {v : Value} {xs : List Value} {w : World} (h : w.ownsRow B e z v n xs) : ∃ a m c, v = .slice a m c := by
 rcases h.2 with ⟨h3, _⟩ | ⟨g, cap, cur, h3, _⟩
 ·exact ⟨_, _, _, h3⟩
 ·exact ⟨_, _, _, h3⟩
theorem own_cells {B e n : Nat} {v : Value} {xs : List Value} {w : World} (h : w.ownsRow B e 1 v n xs) (h0 : 0 < n) : ∃ g cap, v = .slice (some ⟨g, 0, none⟩) n cap ∧ B ≤ g ∧ g < w.heap.size ∧ ∀ j u, xs[j]? = some u → w.cell? ⟨g, j, none⟩ = some u := by
 have hl := h.1; rcases h.2 with ⟨h3, h4⟩ | ⟨g, cap, cur, h3, h4, h5, h6, h7, h8, h9⟩
 ·omega
 ·refine ⟨g, cap, h3, h4, Pk.lt_of_heap h5, fun j u hj => ?_⟩
  have hj' := (List.getElem?_eq_some_iff.1 hj).1; have e : w.cell? ⟨g, j, none⟩ = cur[j]? := by
   simp only [World.cell?, h5]; exact if_neg (by simp)
  rw [e, ← Array.getElem?_toList, ← hj, ← h9, List.getElem?_take]; exact (if_pos (by omega)).symm
theorem own_len {B e z n : Nat} {v : Value} {xs : List Value} {w : World} (h : w.ownsRow B e z v n xs) : ∃ a c, v = .slice a n c := by
 rcases h.2 with ⟨h3, rfl⟩ | ⟨g, cap, cur, h3, _⟩
 ·exact ⟨_, _, h3⟩
 ·exact ⟨_, _, h3⟩
set_option maxHeartbeats 4000000 in
set_option maxRecDepth 100000 in
theorem si_fork (a1 a2 a3 : Option Addr) (n c1 n2 c2 n3 c3 : Nat) (p : List UInt8) (w : World) (hn : Hid (n = p.length)) (hz : Hid (n ≤ 4194300)) (vp : Hid (∀ W, Below w.heap.size w W → Vw p a1 W)) (KT : Hid (∀ (a : Option Addr) (m c : Nat) (wx : World), Calls Try.prog 49 #[.slice a m c] wx fun e w' => e = .returned (.agg #[.bool false, .slice a m c, .slice none 0 0]) ∧ Below wx.heap.size wx w')) (KL : Hid (∀ (a : Option Addr) (m c : Nat) (wx : World), Calls Try.prog 50 #[.slice a m c] wx fun e w' => e = .returned (.agg #[.bool true, .slice none 0 0, .slice a m c]) ∧ Below wx.heap.size wx w')) (ks : List (List UInt8)) (u : List UInt8) (hs : List Value) (hk : Hid (Hds ks hs w)) (hv : Hid (Vl hs (.slice a3 n3 c3) w)) (hu : Hid (Sl u (.slice a2 n2 c2) w)) (h3 : Hid (n3 = 16)) (h2 : Hid (n2 ≤ 1024)) :
  Calls Try.prog 37 #[.agg #[.int .i64 3, .slice a1 n c1, .slice a2 n2 c2, .slice a3 n3 c3]] w fun e w' => ∃ v, e = .returned (.tuple #[v3 v, .bool (ks.all sm && decide (2 ≤ np (ks ++ [u])))]) ∧ ((ks.all sm && decide (2 ≤ np (ks ++ [u]))) = true → Iv (fun _ => True) w' (.mk true [] ((ks ++ [u]).map fun b => .mk false b [])) v) ∧ Below w.heap.size w w' ∧ Fm v := by
 have l0 : Below w.heap.size w ((w.alloc (.cells #[.int .i64 3, .slice a1 n c1, .slice a2 n2 c2, .slice a3 n3 c3] 34)).alloc (.cells #[.bool false, .slice none 0 0, .slice none 0 0] 59)) := ((Below.refl _ _).alloc (Nat.le_refl _) _).alloc (by simp) _; have hs1 : (w.alloc (.cells #[.int .i64 3, .slice a1 n c1, .slice a2 n2 c2, .slice a3 n3 c3] 34)).heap.size = w.heap.size + 1 := by simp
 have x0 : B3 (w.heap.size + 1) ((w.alloc (.cells #[.int .i64 3, .slice a1 n c1, .slice a2 n2 c2, .slice a3 n3 c3] 34)).alloc (.cells #[.bool false, .slice none 0 0, .slice none 0 0] 59)) := hs1 ▸ B3_new (w.alloc (.cells #[.int .i64 3, .slice a1 n c1, .slice a2 n2 c2, .slice a3 n3 c3] 34)); have nb0 : NB (w.heap.size + 1) ((w.alloc (.cells #[.int .i64 3, .slice a1 n c1, .slice a2 n2 c2, .slice a3 n3 c3] 34)).alloc (.cells #[.bool false, .slice none 0 0, .slice none 0 0] 59)) := hs1 ▸ NB_new (w.alloc (.cells #[.int .i64 3, .slice a1 n c1, .slice a2 n2 c2, .slice a3 n3 c3] 34)); have HA := heap_alloc_new w (.cells #[.int .i64 3, .slice a1 n c1, .slice a2 n2 c2, .slice a3 n3 c3] 34); have bB : Below (w.heap.size + 1) (w.alloc (.cells #[.int .i64 3, .slice a1 n c1, .slice a2 n2 c2, .slice a3 n3 c3] 34)) ((w.alloc (.cells #[.int .i64 3, .slice a1 n c1, .slice a2 n2 c2, .slice a3 n3 c3] 34)).alloc (.cells #[.bool false, .slice none 0 0, .slice none 0 0] 59)) := (Below.refl _ _).alloc (by omega) _; have q0 : ((w.alloc (.cells #[.int .i64 3, .slice a1 n c1, .slice a2 n2 c2, .slice a3 n3 c3] 34)).alloc (.cells #[.bool false, .slice none 0 0, .slice none 0 0] 59)).cell? ⟨w.heap.size, 0, none⟩ = some (.int .i64 3) := (bB.cell (p := ⟨w.heap.size, 0, none⟩) (by show w.heap.size < _; omega)).trans (by simp only [World.cell?, HA]; rfl)
 have q1 : ((w.alloc (.cells #[.int .i64 3, .slice a1 n c1, .slice a2 n2 c2, .slice a3 n3 c3] 34)).alloc (.cells #[.bool false, .slice none 0 0, .slice none 0 0] 59)).cell? ⟨w.heap.size, 1, none⟩ = some (.slice a1 n c1) := (bB.cell (p := ⟨w.heap.size, 1, none⟩) (by show w.heap.size < _; omega)).trans (by simp only [World.cell?, HA]; rfl)
 have q2 : ((w.alloc (.cells #[.int .i64 3, .slice a1 n c1, .slice a2 n2 c2, .slice a3 n3 c3] 34)).alloc (.cells #[.bool false, .slice none 0 0, .slice none 0 0] 59)).cell? ⟨w.heap.size, 2, none⟩ = some (.slice a2 n2 c2) := (bB.cell (p := ⟨w.heap.size, 2, none⟩) (by show w.heap.size < _; omega)).trans (by simp only [World.cell?, HA]; rfl)
 have q3 : ((w.alloc (.cells #[.int .i64 3, .slice a1 n c1, .slice a2 n2 c2, .slice a3 n3 c3] 34)).alloc (.cells #[.bool false, .slice none 0 0, .slice none 0 0] 59)).cell? ⟨w.heap.size, 3, none⟩ = some (.slice a3 n3 c3) := (bB.cell (p := ⟨w.heap.size, 3, none⟩) (by show w.heap.size < _; omega)).trans (by simp only [World.cell?, HA]; rfl)
 have hsz : ((w.alloc (.cells #[.int .i64 3, .slice a1 n c1, .slice a2 n2 c2, .slice a3 n3 c3] 34)).alloc (.cells #[.bool false, .slice none 0 0, .slice none 0 0] 59)).heap.size = w.heap.size + 2 := by simp
 clear HA bB hs1; go_enter Try.func37, Try.ntmps37
 go_wp2_with fail
 generalize ((w.alloc (.cells #[.int .i64 3, .slice a1 n c1, .slice a2 n2 c2, .slice a3 n3 c3] 34)).alloc (.cells #[.bool false, .slice none 0 0, .slice none 0 0] 59)) = W0 at *; have VP : Hid (Vw p a1 W0) := vp.out W0 l0; obtain ⟨h, eh⟩ : ∃ h, h = w.heap.size := ⟨_, rfl⟩; have EH : Hid (h = w.heap.size) := eh; have L0 : Hid (Below w.heap.size w W0) := l0; have X0 : Hid (B3 (h + 1) W0) := eh ▸ x0; have NB0 : Hid (NB (h + 1) W0) := eh ▸ nb0; have HSZ : Hid (W0.heap.size = h + 2) := by show _ = _; rw [eh]; exact hsz
 rw [← eh] at q0 q1 q2 q3 ⊢; clear eh l0 x0 nb0 vp hsz; go_loopw [4, 20] (fun B s wr => ∃ k : Nat, k ≤ n ∧ s = .int .i64 (k : Int) ∧ B = .bool (pb (p.take k)) ∧ W0 = wr) (fun _ s _ => ((n : Int) - intOf s).toNat)
 case atStart => exact ⟨0, Nat.zero_le _, rfl, rfl, rfl⟩
 case round =>
  obtain ⟨k, hk, rfl, rfl, rfl⟩ := hrel; by_cases h1 : k < n
  ·have d1 : decide ((k : Int) < (n : Int)) = true := decide_eq_true (by omega); have d2 : decide (k < n) = true := decide_eq_true h1; obtain ⟨g, off, rfl, hg, hc⟩ := VP.out (by have := hn.out; omega)
   have c0 := hc k (by have := hn.out; omega)
   have hw := Nb.stp k (by have := hz.out; show _ ≤ _; omega)
   have HP : Hid (pb (p.take (k + 1)) = (pb (p.take k) && decide (bz p k < 16))) := pb_snoc p k (by have := hn.out; omega)
   clear hc hg; generalize bz p k = X at *; obtain ⟨B1, hB1⟩ : ∃ B1, B1 = pb (p.take (k + 1)) := ⟨_, rfl⟩; have HB1 : Hid (B1 = pb (p.take (k + 1))) := hB1; rw [← hB1] at HP; clear hB1; generalize pb (p.take k) = B0 at *; cases B0 with
   | false =>
    have e : Hid (B1 = false) := HP.out; clear HP; go_wp2_with fail
    have hw := hw.out; go_roundw
    case rel => exact ⟨k + 1, h1, Nb.step_v k _ hw, by rw [← HB1.out, e.out], trivial⟩
    case measure => exact Nb.msr k n h1 _ hw
   | true =>
    by_cases hx : X < 16
    ·have t1 : decide (X < 16) = true := decide_eq_true hx; have e : Hid (B1 = true) := by have := HP.out; rwa [t1] at this
     clear HP hx; go_wp2_with fail
     have hw := hw.out; go_roundw
     case rel => exact ⟨k + 1, h1, Nb.step_v k _ hw, by rw [← HB1.out, e.out], trivial⟩
     case measure => exact Nb.msr k n h1 _ hw
    ·have t1 : decide (X < 16) = false := decide_eq_false hx; have e : Hid (B1 = false) := by have := HP.out; rwa [t1] at this
     clear HP hx; go_wp2_with fail
     have hw := hw.out; go_roundw
     case rel => exact ⟨k + 1, h1, Nb.step_v k _ hw, by rw [← HB1.out, e.out], trivial⟩
     case measure => exact Nb.msr k n h1 _ hw
  ·have hkl : k = n := by omega
   subst hkl; have ep : Hid (p.take k = p) := by show _ = _; rw [hn.out, List.take_length]
   rw [ep.out]; clear ep h1 hk; generalize pb p = B at *; have HLEN : Hid (hs.length = 16) := by
    obtain ⟨_, _, e, _⟩ := hv.out; injection e with _ e _
    show _ = _
    rw [← e]; exact h3.out
   obtain rfl := h3.out; have t1 : (n2 : Int) ≤ 1024 := by have := h2.out; omega
   have t2 : decide ((n2 : Int) ≤ 1024) = true := decide_eq_true t1; have L00 := L0.out; go_wp2_with fail
   refine (KL.out _ _ _ _).mono (fun e w1 he => ?_)
   obtain ⟨rfl, b1⟩ := he; have l1 : Below w.heap.size w w1 := L00.trans (b1.mono L00.size); have bA : Below w1.heap.size w1 (w1.alloc (.cells #[.bool true, .slice none 0 0, .slice none 0 0] 59)) := (Below.refl _ _).alloc (Nat.le_refl _) _; have HL2 : Hid (Below w.heap.size w (w1.alloc (.cells #[.bool true, .slice none 0 0, .slice none 0 0] 59))) := l1.trans (bA.mono l1.size); have HX2 : Hid (B3 (h + 1) (w1.alloc (.cells #[.bool true, .slice none 0 0, .slice none 0 0] 59))) := B3_gb (r := none) (B3_gb (r := none) X0.out (gb_below b1) nofun) (gb_below bA) nofun; have HNB : Hid (NB (h + 1) (w1.alloc (.cells #[.bool true, .slice none 0 0, .slice none 0 0] 59))) := NB_below (NB_below NB0.out b1) bA; have HLN : Hid (LN w1.heap.size (w1.alloc (.cells #[.bool true, .slice none 0 0, .slice none 0 0] 59))) := LN_new w1; have HNI : Hid (NB w1.heap.size (w1.alloc (.cells #[.bool true, .slice none 0 0, .slice none 0 0] 59))) := NB_newT w1; have b2 := b1.trans (bA.mono b1.size); have hh : h < W0.heap.size := by have := HSZ.out; omega
   have R2 : Hid (_ = some _) := (b2.cell (p := ⟨h, 2, none⟩) hh).trans q2; have R3 : Hid (_ = some _) := (b2.cell (p := ⟨h, 3, none⟩) hh).trans q3; have HW1 : Hid (h + 1 < w1.heap.size) := by have := HSZ.out; have := b1.size; show h + 1 < _; omega
   have HW2 : Hid (h < (w1.alloc (.cells #[.bool true, .slice none 0 0, .slice none 0 0] 59)).heap.size) := by have := HW1.out; have := bA.size; show h < _; omega
   clear b1 l1 bA b2 hh q0 q1 q2 q3 L00 KL X0 NB0 HSZ VP L0 t1 t2 hn hz; go_upto_region 17 with fail
   generalize w1.alloc (.cells #[.bool true, .slice none 0 0, .slice none 0 0] 59) = w2 at *; generalize w1.heap.size = gi at *; have HVL : Hid (∀ wx, Below w2.heap.size w2 wx → Vl hs (.slice a3 16 c3) wx) := fun wx hb => Vl_below (Vl_below hv.out HL2.out) hb
   have HL17 : Hid ((hs ++ [Value.slice a2 n2 c2]).length = 17) := by show _ = _; rw [List.length_append, HLEN.out]; rfl
   have HONE : Hid (∀ v ∈ hs, v.oneCell' = true) := Hds_one' hk.out; refine RH.wp_region_genI (F7 w2.heap.size w2 hs (.slice a2 n2 c2)) [1, 0, 0, 1, 0, 0, 1, 1, 1, 0] (by kernel_rfl) (by kernel_rfl) (⟨(Below.refl _ _).drew, Nat.le_refl _, nofun, nofun, nofun, nofun, nofun, nofun, nofun⟩) ?_; dsimp only [List.toList_toArray]; refine RH.goN (f' := ?_) rfl ?_ ?_ ?_; rotate_left 1
   ·intro U K d wx hI hmay hK; go_simp; exact hK _ _ (F7.step0 hI hmay.1)
   ·intro U; simp only [Act.put, zA, zB, zC]; rfl
   refine RH.goD (v := ?_) (f' := ?_) rfl ?_ ?_ ?_; rotate_left 2
   ·intro U K d wx hI hmay hK; go_simp; exact hK _ (F7.keep (by decide) hI)
   ·intro U; simp only [Act.put, zA, zB, zC]; rfl
   refine RH.goD (v := ?_) (f' := ?_) rfl ?_ ?_ ?_; rotate_left 2
   ·intro U K d wx hI hmay hK; have y0 := (hI.b.cell (p := ⟨h, 3, none⟩) (by have := HW2.out; show h < _; omega)).trans R3.out
    go_simp; exact hK _ (F7.keep (by decide) hI)
   ·intro U; simp only [Act.put, zA, zB, zC]; rfl
   refine RH.goN (f' := ?_) rfl ?_ ?_ ?_; rotate_left 1
   ·intro U K d wx hI hmay hK; have hd := hmay.2 _ rfl; simp [Region.binds] at hd
    obtain ⟨v', w', hr, hI'⟩ := F7.step3 25 hI (by simp [hd]) hmay.1 (HVL.out _ hI.b) HONE.out (by rw [HLEN.out]; decide) (by rw [HLEN.out]; decide)
    exact upv_ap rfl rfl rfl hr (hK _ _ hI')
   ·intro U; simp only [Act.put, zA, zB, zC]; rfl
   refine RH.goD (v := ?_) (f' := ?_) rfl ?_ ?_ ?_; rotate_left 2
   ·intro U K d wx hI hmay hK; go_simp; exact hK _ (F7.keep (by decide) hI)
   ·intro U; simp only [Act.put, zA, zB, zC]; rfl
   refine RH.goD (v := ?_) (f' := ?_) rfl ?_ ?_ ?_; rotate_left 2
   ·intro U K d wx hI hmay hK; have y0 := (hI.b.cell (p := ⟨h, 2, none⟩) (by have := HW2.out; show h < _; omega)).trans R2.out
    go_simp; exact hK _ (F7.keep (by decide) hI)
   ·intro U; simp only [Act.put, zA, zB, zC]; rfl
   refine RH.goN (f' := ?_) rfl ?_ ?_ ?_; rotate_left 1
   ·intro U K d wx hI hmay hK; go_simp; exact hK _ _ (F7.step6 hI hmay.1)
   ·intro U; simp only [Act.put, zA, zB, zC]; rfl
   refine RH.goN (f' := ?_) rfl ?_ ?_ ?_; rotate_left 1
   ·intro U K d wx hI hmay hK; have hd := hmay.2 _ rfl; simp [Region.binds] at hd
    obtain ⟨v', w', hr, hI'⟩ := F7.step7 25 hI (by simp [hd]) (by simp [hd]) hmay.1 rfl (by rw [HLEN.out]; decide)
    exact upv_ap rfl rfl rfl hr (hK _ _ hI')
   ·intro U; simp only [Act.put, zA, zB, zC]; rfl
   refine RH.goN (f' := ?_) rfl ?_ ?_ ?_; rotate_left 1
   ·intro U K d wx hI hmay hK; have hd := hmay.2 _ rfl; simp [Region.binds] at hd
    obtain ⟨aU, cU, eU⟩ := own_len (hI.p7 (by simp [hd])); rw [List.length_append, List.length_singleton] at eU; have hK2 := hK _ _ (F7.step8 hI); generalize hs.length + 1 = m17 at *; go_simp; exact hK2
   ·intro U; simp only [Act.put, zA, zB, zC]; rfl
   refine RH.goD (v := ?_) (f' := ?_) rfl ?_ ?_ ?_; rotate_left 2
   ·intro U K d wx hI hmay hK; go_simp; exact hK _ (F7.keep (by decide) hI)
   ·intro U; simp only [Act.put, zA, zB, zC]; rfl
   refine RH.go_end ?_; intro d U w9 hI hall; simp +decide only [RH.tl, if_false]
   have HB9 : Hid (Below w2.heap.size w2 w9) := hI.b; have h7 := hI.p7 (by rw [hall 7 (by decide)]; rfl)
   have h8 := hI.p8 (by rw [hall 8 (by decide)]; rfl)
   rw [HLEN.out] at h8; obtain ⟨gV, cV, eV, hgV, hgW, hcV⟩ := own_cells h7 (by rw [HL17.out]; decide)
   rw [HL17.out] at eV; have HCV : Hid (w2.heap.size ≤ gV ∧ gV < w9.heap.size ∧ ∀ j u, (hs ++ [Value.slice a2 n2 c2])[j]? = some u → w9.cell? ⟨gV, j, none⟩ = some u) := ⟨hgV, hgW, hcV⟩; have HHD : Hid (Hds (ks ++ [u]) (hs ++ [.slice a2 n2 c2]) w) := Hds_app hk.out (Hds_one hu.out); have HGI : Hid (gi < w2.heap.size) := HLN.out.y.hi; have G0 : Hid (GL w9 gi (.slice none 0 0) [] w9) := GL_new (LN_below HLN.out HB9.out); have HNG : Hid (NB (h + 1) w9) := NB_below HNB.out HB9.out; have HNI9 : Hid (NB gi w9) := NB_below HNI.out HB9.out; have HL9 : Hid (Below w.heap.size w w9) := HL2.out.trans (HB9.out.mono HL2.out.size); have HX9 : Hid (B3 (h + 1) w9) := B3_gb (r := none) HX2.out (gb_below HB9.out) nofun; have HLL : Hid ((ks ++ [u]).length = 17) := by show _ = _; rw [← HHD.out.l]; exact HL17.out
   have R39 : Hid (w9.cell? ⟨h, 3, none⟩ = some (.slice a3 16 c3)) := (HB9.out.cell (p := ⟨h, 3, none⟩) HW2.out).trans R3.out; have HHI : Hid (h + 1 < gi) := HW1.out; clear hI hall h7 hgV hgW hcV HNB HNI HL2 HX2 R2 R3 HVL HONE HLN; obtain ⟨l, hl⟩ : ∃ l, l = ks ++ [u] := ⟨_, rfl⟩; obtain ⟨xs, hxs⟩ : ∃ xs, xs = hs ++ [Value.slice a2 n2 c2] := ⟨_, rfl⟩; rw [← hl, ← hxs] at HHD; rw [← hxs] at HCV HL17; rw [← hl] at HLL; have EL : Hid (l = ks ++ [u]) := hl; have EX : Hid (xs = hs ++ [Value.slice a2 n2 c2]) := hxs; clear hl hxs; rw [eV, h8]; clear eV h8; generalize U 0 = V0 at *; generalize U 3 = V3 at *; generalize U 6 = V6 at *; clear HW2; go_wp2_with fail
   go_loopw [12, 135] (fun m s wr => ∃ k : Nat, k ≤ 17 ∧ s = .int .i64 (k : Int) ∧ m = .int .i64 (np (l.take k) : Int) ∧ IA w9 gi xs k wr) (fun _ s _ => ((17 : Int) - intOf s).toNat)
   case atStart => exact ⟨0, Nat.zero_le _, rfl, by rw [List.take_zero]; rfl, ⟨_, G0.out⟩⟩
   case round =>
    clear G0; obtain ⟨k, hk1, rfl, rfl, kv, hG⟩ := hrel; have HG : Hid (GL w9 gi kv ((xs.take k).map tv) wr) := hG; obtain ⟨ak, nk, ck, rfl⟩ := own_form hG.o; clear hG; by_cases h1 : k < 17
    ·have hkl : k < l.length := by rw [HLL.out]; exact h1
     have d1 : decide ((k : Int) < 17) = true := decide_eq_true (by omega); have d2 : (k : Int) < 17 := by omega
     have d0 : (0 : Int) ≤ (k : Int) := by omega
     have hw := Nb.stp k (by show _ ≤ _; omega)
     have hsl := HHD.out.s k hkl; obtain ⟨x, hx⟩ : ∃ x, x = xs.getD k undef := ⟨_, rfl⟩; obtain ⟨tx, htx⟩ : ∃ tx, tx = l.getD k [] := ⟨_, rfl⟩; rw [← hx, ← htx] at hsl; obtain ⟨ax, cx, ex⟩ := Sl_fm hsl; have hxk : xs[k]? = some x := by
      have : k < xs.length := by rw [HL17.out]; exact h1
      rw [hx, List.getD_eq_getElem?_getD, List.getElem?_eq_getElem this]; rfl
     have c9 := HCV.out.2.2 k x hxk; have cr : wr.cell? ⟨gV, k, none⟩ = some x := (World.cell?_of_block (a := ⟨gV, k, none⟩) (HG.out.b.block gV HCV.out.2.1 (fun e => by injection e with e; have := HCV.out.1; have := HGI.out; omega))).trans c9
     rw [ex] at cr; have HTK : Hid ((xs.take (k + 1)).map tv = (xs.take k).map tv ++ [(.bool false, .slice ax tx.length cx, .slice none 0 0)]) := by
      show _ = _
      rw [List.take_add_one, hxk, List.map_append, ex]; rfl
     have HNP : Hid (np (l.take (k + 1)) = np (l.take k) + if 0 < tx.length then 1 else 0) := by rw [htx]; exact np_snoc l k hkl
     have HNW : Hid (wrap64 ((np (l.take k) : Int) + 1) = (np (l.take k) : Int) + 1) := by
      show _ = _
      have := np_le (l.take k); rw [List.length_take] at this; unfold wrap64
      omega
     have HZ : Hid (((xs.take k).map tv).length ≤ 4194304) := by show _ ≤ _; rw [List.length_map, List.length_take]; omega
     have HK1 : Hid (k < 17) := h1; clear hsl hx htx ex hxk c9 hkl hk1 h1; generalize np (l.take k) = q at *; obtain ⟨q2, hq2⟩ : ∃ q2, q2 = np (l.take (k + 1)) := ⟨_, rfl⟩; have HQ : Hid (q2 = np (l.take (k + 1))) := hq2; rw [← hq2] at HNP; clear hq2; generalize tx.length = mk at *; have c2r : Hid (wr.cell? ⟨gi, 2, none⟩ = some (.slice ak nk ck)) := HG.out.c2; have HGR : Hid (gi < wr.heap.size) := HG.out.y.hi; have hL : RG.Lasts (fun wx => Below wr.heap.size wr wx) (fun _ v wx => ∃ g, v = .slice (some ⟨g, 0, none⟩) 1 1 ∧ g < wx.heap.size ∧ wx.cell? ⟨g, 0, none⟩ = some (.bool false) ∧ wx.cell? ⟨g, 1, none⟩ = some (.slice ax mk cx) ∧ wx.cell? ⟨g, 2, none⟩ = some (.slice none 0 0)) := ⟨fun _ _ h hb => h.trans (hb.mono h.size), fun _ _ _ _ h hb => by
      obtain ⟨g, g1, g2, g3, g4, g5⟩ := h; exact ⟨g, g1, Nat.lt_of_lt_of_le g2 hb.size, (hb.cell (p := ⟨g, 0, none⟩) g2).trans g3, (hb.cell (p := ⟨g, 1, none⟩) g2).trans g4, (hb.cell (p := ⟨g, 2, none⟩) g2).trans g5⟩⟩
     go_upto_region 20 with fail
     refine RG.wp_region_gen (fun wx => Below wr.heap.size wr wx) (fun _ v wx => ∃ g, v = .slice (some ⟨g, 0, none⟩) 1 1 ∧ g < wx.heap.size ∧ wx.cell? ⟨g, 0, none⟩ = some (.bool false) ∧ wx.cell? ⟨g, 1, none⟩ = some (.slice ax mk cx) ∧ wx.cell? ⟨g, 2, none⟩ = some (.slice none 0 0)) (fun _ _ => True) [0, 0, 0, 0, 1, 2, 2, 2] (by kernel_rfl) (by kernel_rfl) ((Below.refl _ _).drew) ?_
     dsimp only [List.toList_toArray]; refine RG.go1 (v := ?_) (a' := ?_) hL (by decide) rfl ?_ ?_ ?_; rotate_left 2
     ·intro K wx hS hK; go_simp; exact hK _ (Below.refl _ _)
     ·simp only [Act.put, zA, zB, zC]; rfl
     refine RG.go1 (v := ?_) (a' := ?_) hL (by decide) rfl ?_ ?_ ?_; rotate_left 2
     ·intro K wx hS hK; have z0 := (hS.cell (p := ⟨gi, 2, none⟩) HGR.out).trans c2r.out; go_simp; exact hK _ (Below.refl _ _)
     ·simp only [Act.put, zA, zB, zC]; rfl
     refine RG.go1 (v := ?_) (a' := ?_) hL (by decide) rfl ?_ ?_ ?_; rotate_left 2
     ·intro K wx hS hK; go_simp; exact hK _ (Below.refl _ _)
     ·simp only [Act.put, zA, zB, zC]; rfl
     refine RG.go1 (v := ?_) (a' := ?_) hL (by decide) rfl ?_ ?_ ?_; rotate_left 2
     ·intro K wx hS hK; go_simp; refine (KT.out _ _ _ _).mono (fun e w2 he => ?_)
      refine ⟨_, he.1, ?_⟩; exact hK _ he.2
     ·simp only [Act.put, zA, zB, zC]; rfl
     refine RG.goN hL rfl ?_ ?_
     ·intro K wx hS hK; have hn := heap_alloc_new wx (.cells #[.bool false, .slice ax mk cx, .slice none 0 0] 59); go_simp; exact hK _ _ ((Below.refl _ _).alloc (Nat.le_refl _) _) ⟨_, rfl, by simp, by simp only [World.cell?, hn]; rfl, by simp only [World.cell?, hn]; rfl, by simp only [World.cell?, hn]; rfl⟩ (fun _ _ _ => ⟨trivial, trivial⟩)
     iterate 3
      refine RG.goT ?_
     refine RG.go_end ?_; intro U w8 m8 y8 x8; simp +decide (maxSteps := 1000000) only [RG.tl, RG.putN, if_true, if_false, Act.put, List.setIfInBounds_toArray, List.set_cons_succ, List.set_cons_zero, Nat.reduceAdd]
     obtain ⟨g4, e4, _, y0, y1, y2⟩ := y8 4 rfl; obtain ⟨kv', w7, hap, ⟨ck7, fz7⟩, hI7⟩ := GL_step 57 HG.out m8 y0 y1 y2 HZ.out; obtain ⟨ak2, nk2, ck2, rfl⟩ := own_form hI7.o; rw [e4]; have HI7 : Hid (GL w9 gi (.slice ak2 nk2 ck2) ((xs.take (k + 1)).map tv) (w7.setCell ⟨gi, 2, none⟩ (.slice ak2 nk2 ck2))) := by show GL _ _ _ _ _; rw [HTK.out]; exact hI7
     clear hI7 y0 y1 y2 y8 x8 m8 hL HG HTK c2r e4; go_upto_region 21 with (at_builtin; refine wpList_apw rfl rfl rfl rfl hap ?_)
     generalize w7.setCell ⟨gi, 2, none⟩ (.slice ak2 nk2 ck2) = w8' at *; by_cases m0 : mk = 0
     ·subst m0; have e : Hid (q2 = q) := by have := HNP.out; rwa [if_neg (by decide)] at this
      clear HNP HNW hap ck7 fz7; go_wp2_with fail
      have hw := hw.out; go_roundw
      case rel =>
       refine ⟨_, _, _, _, _, _, _, _, _, _, _, _, _, _, _, _, _, _, _, ?_, rfl⟩; exact ⟨k + 1, HK1.out, Nb.step_v k _ rfl, by rw [← HQ.out, e.out], ⟨_, HI7.out⟩⟩
      case measure => exact Nb.msr k 17 HK1.out _ rfl
     ·have e : Hid (q2 = q + 1) := by have := HNP.out; rwa [if_pos (by omega)] at this
      have t0 : (0 : Int) < (mk : Int) := by omega
      have t1 : 0 < mk := by omega
      clear HNP m0 hap ck7 fz7; go_wp2_with fail
      have hw := hw.out; go_roundw
      case rel =>
       refine ⟨_, _, _, _, _, _, _, _, _, _, _, _, _, _, _, _, _, _, _, ?_, rfl⟩; exact ⟨k + 1, HK1.out, Nb.step_v k _ rfl, by rw [← HQ.out, e.out]; first | rfl | (rw [HNW.out]; rfl), ⟨_, HI7.out⟩⟩
      case measure => exact Nb.msr k 17 HK1.out _ rfl
    ·have hkl : k = 17 := by omega
     subst hkl; have el : Hid (l.take 17 = l) := by show _ = _; rw [← HLL.out, List.take_length]
     have ex : Hid (xs.take 17 = xs) := by show _ = _; rw [← HL17.out, List.take_length]
     rw [el.out]; rw [ex.out] at HG; clear el ex h1 hk1; generalize hq : np l = q at *; have HQ : Hid (np l = q) := hq; clear hq; have R3r : wr.cell? ⟨h, 3, none⟩ = some (.slice a3 16 c3) := (World.cell?_of_block (a := ⟨h, 3, none⟩) (HG.out.b.block h (by have := HHI.out; have := HG.out.g; omega) (fun e => by injection e with e; have := HHI.out; omega))).trans R39.out
     go_wp2_with fail
     have XR : Hid (B3 (h + 1) wr) := B3_gb HX9.out HG.out.b (fun e => by injection e with e; have := HHI.out; omega)
     have hgb := HG.out.b; have hgb2 := HL9.out; have LR : Hid (Below w.heap.size w wr) := ⟨hgb.os.trans hgb2.os, hgb.tape.trans hgb2.tape, hgb.output.trans hgb2.output, Nat.le_trans hgb2.size hgb.size, fun j hj => (hgb.block j (Nat.lt_of_lt_of_le hj hgb2.size) (fun e => by injection e with e; have := HHI.out; have := EH.out; omega)).trans (hgb2.block j hj)⟩
     obtain ⟨aK, cK, eK, hK0⟩ := hv.out; obtain ⟨gK, offK, eK2, hgK, hcK⟩ := hK0 (by rw [HLEN.out]; decide)
     have eA : a3 = some ⟨gK, offK, none⟩ := by
      injection eK with e1 _ _
      rw [e1, eK2]
     clear hgb hgb2 hK0 eK eK2; subst eA; have HCK : Hid (gK < w.heap.size ∧ ∀ j, j < hs.length → w.cell? ⟨gK, offK + j, none⟩ = hs[j]?) := ⟨hgK, hcK⟩; clear hgK hcK R3r; go_loopw [155] (fun s w5 => ∃ j : Nat, j ≤ 16 ∧ s = .int .i64 (j : Int) ∧ Hid (∀ i, i < j → sm (ks.getD i []) = true) ∧ wr = w5) (fun s _ => ((16 : Int) - intOf s).toNat)
     case atStart => exact ⟨0, Nat.zero_le _, rfl, fun j hj => absurd hj (Nat.not_lt_zero _), rfl⟩
     case round =>
      obtain ⟨j, hj, rfl, hA, rfl⟩ := hrel; have HKL : Hid (ks.length = 16) := by show _ = _; rw [← hk.out.l]; exact HLEN.out
      by_cases j1 : j < 16
      ·have d1 : decide ((j : Int) < 16) = true := decide_eq_true (by omega); have hw := Nb.stp j (by show _ ≤ _; omega)
       have hsl := hk.out.s j (by rw [HKL.out]; exact j1)
       have hjl : j < hs.length := by rw [HLEN.out]; exact j1
       have cw := HCK.out.2 j hjl; rw [List.getElem?_eq_getElem hjl] at cw; have eg : hs.getD j undef = hs[j] := by rw [List.getD_eq_getElem?_getD, List.getElem?_eq_getElem hjl]; rfl
       rw [eg] at hsl; obtain ⟨ax, cx, ex⟩ := Sl_fm hsl; rw [ex] at cw; have cr := (LR.out.cell (p := ⟨gK, offK + j, none⟩) HCK.out.1).trans cw; clear cw hsl ex eg hjl; have HS : Hid (sm (ks.getD j []) = (decide ((ks.getD j []).length = 0) || decide ((ks.getD j []).length = 32))) := by
        show _ = _
        unfold sm
        rw [Bool.eq_iff_iff]; simp
       have HJ : Hid (j < ks.length) := by show _ < _; rw [HKL.out]; exact j1
       obtain ⟨x, hx⟩ : ∃ x, x = ks.getD j [] := ⟨_, rfl⟩; rw [← hx] at HS cr; have HX : Hid (x = ks.getD j []) := hx; clear hx; obtain ⟨m, hm⟩ : ∃ m, m = x.length := ⟨_, rfl⟩; rw [← hm] at HS cr; clear hm; have HT : sm x = true → Hid (∀ i, i < j + 1 → sm (ks.getD i []) = true) := fun e i hi => by
        by_cases e2 : i = j
        ·subst e2; rw [← HX.out]; exact e
        ·exact hA.out i (by omega)
       by_cases m0 : m = 0
       ·subst m0; have H1 := HT (by rw [HS.out]; rfl)
        clear HS hA HT; go_wp2_with fail
        have hw := hw.out; go_roundw
        case rel => exact ⟨j + 1, j1, Nb.step_v j _ rfl, H1, trivial⟩
        case measure => exact Nb.msr j 16 j1 _ rfl
       ·by_cases m1 : m = 32
        ·subst m1; have H1 := HT (by rw [HS.out]; rfl)
         clear HS hA HT m0; go_wp2_with fail
         have hw := hw.out; go_roundw
         case rel => exact ⟨j + 1, j1, Nb.step_v j _ rfl, H1, trivial⟩
         case measure => exact Nb.msr j 16 j1 _ rfl
        ·have H1 : Hid (ks.all sm = false) := by
          show _ = _
          rw [List.all_eq_false]; refine ⟨x, ?_, ?_⟩
          ·rw [HX.out, List.getD_eq_getElem?_getD, List.getElem?_eq_getElem HJ.out]; exact List.getElem_mem _
          ·rw [HS.out]; simp [m0, m1]
         have t0 : ((m : Int) != 0) = true := bne_iff_ne.2 (by omega); have t1 : ((m : Int) != 32) = true := bne_iff_ne.2 (by omega); clear HS hA HT hw; go_upto_region 28 with fail
         go_wp2_with (refine wpList_st3b rfl rfl rfl rfl XR.out ?_)
         intro w6 g6 b6 z0 z1 z2; have l6 : Hid (Below w.heap.size w w6) := LR.out.trans ⟨g6.os, g6.tape, g6.output, g6.size, fun j hj => g6.block j (by have := LR.out.size; omega) (fun e => by injection e with e; have := EH.out; omega)⟩
         clear g6 b6; go_wp2_with fail
         exact bodyPost_ret (v := .tuple #[.agg #[.bool false, .slice none 0 0, .slice none 0 0], .bool false]) (resI2 _ _ _ (h + 1) 2 3 _ _ _ _ rfl rfl rfl z0 z1 z2) rfl ⟨(.bool false, .slice none 0 0, .slice none 0 0), by rw [H1.out]; rfl, by rw [H1.out]; nofun, l6.out, ⟨_, _, _, _, _, _, _, rfl⟩⟩
      ·have hkl : j = 16 := by omega
       subst hkl; have H1 : Hid (ks.all sm = true) := by
        show _ = _
        rw [List.all_eq_true]; intro x hx; obtain ⟨i, hi, rfl⟩ := List.mem_iff_getElem.1 hx; have := hA.out i (by have := HKL.out; omega)
        rwa [List.getD_eq_getElem?_getD, List.getElem?_eq_getElem hi] at this
       have g0 := HG.out.c0; have g1 := HG.out.c1; have g2 := HG.out.c2; have IV0 : Hid (Iv (· ≠ h + 1) wr (.mk true [] (l.map fun b => .mk false b [])) (.bool true, .slice none 0 0, .slice ak nk ck)) := GL_ivS HG.out ⟨HHD.out.l, fun i hi => Sl_below (HHD.out.s i hi) HL9.out⟩ HNG.out HNI9.out
       clear hA HG j1 hj; obtain ⟨D, hD⟩ : ∃ D, D = decide (1 < q) := ⟨_, rfl⟩; have HD : Hid (D = decide (2 ≤ np (ks ++ [u]))) := by
        show _ = _
        rw [hD, ← EL.out, HQ.out]; exact decide_eq_decide.2 (by omega)
       have hD2 : decide ((1 : Int) < (q : Int)) = D := by rw [hD]; exact decide_eq_decide.2 (by omega)
       have hD3 : decide ((q : Int) > 1) = D := hD2; clear hD; go_upto_region 30 with fail
       go_wp2_with (refine wpList_st3b rfl rfl rfl rfl XR.out ?_)
       intro w6 g6 b6 z0 z1 z2; have l6 : Hid (Below w.heap.size w w6) := LR.out.trans ⟨g6.os, g6.tape, g6.output, g6.size, fun j hj => g6.block j (by have := LR.out.size; omega) (fun e => by injection e with e; have := EH.out; omega)⟩
       have IV6 : Hid (Iv (fun _ => True) w6 (.mk true [] ((ks ++ [u]).map fun b => .mk false b [])) (.bool true, .slice none 0 0, .slice ak nk ck)) := by
        rw [← EL.out]; exact Iv_mono (Iv_gb IV0.out g6 (fun k hk e => by injection e with e; exact hk e)) (fun _ _ _ => trivial)
       clear g6 b6 IV0; go_wp2_with fail
       exact bodyPost_ret (v := .tuple #[.agg #[.bool true, .slice none 0 0, .slice ak nk ck], .bool D]) (resI2 _ _ _ (h + 1) 2 3 _ _ _ _ rfl rfl rfl z0 z1 z2) rfl ⟨(.bool true, .slice none 0 0, .slice ak nk ck), by rw [H1.out, ← HD.out]; rfl, fun _ => IV6.out, l6.out, ⟨_, _, _, _, _, _, _, rfl⟩⟩
end Rs
end Go.Proofs.Ytlbdaccmnpcccaa
namespace Go.Proofs.Ytlbdaccmnpcccaa
namespace Pk
open Go.RowKit Go.Shelf
attribute [local go_sem] Oper.semAt_some
end Pk
end Go.Proofs.Ytlbdaccmnpcccaa
namespace Go.Proofs.Ytlbdaccmnpcccaa
namespace RI
section
variable {F : Fence} {n : Nat} {P : Program} {ops : Array Oper} {Q : Exit → Act → World → Prop}
end
def upw (P : Program) (K : Value → World → Prop) : Result Next → Prop
 | .ok (.value v) w => K v w
 | .ok .skip w => K undef w
 | .ok (.enter f args) w => Calls P f args w fun e w' => ∃ v, e = .returned v ∧ K v w'
 | _ => False
@[simp] theorem upw_value (P : Program) (K : Value → World → Prop) (v : Value) (w : World) : upw P K (.ok (.value v) w) = K v w := rfl
@[simp] theorem upw_skip (P : Program) (K : Value → World → Prop) (w : World) : upw P K (.ok .skip w) = K undef w := rfl
@[simp] theorem upw_enter (P : Program) (K : Value → World → Prop) (f : FuncId) (args : Array Value) (w : World) : upw P K (.ok (.enter f args) w) = Calls P f args w fun e w' => ∃ v, e = .returned v ∧ K v w' := rfl
theorem wpIn_round {P : Program} {o : Oper} {a : Act} {w : World} {K : Act → World → Prop} {Q : Exit → Act → World → Prop} {l n : Nat} (hd : ∀ c, o.op ≠ .defer c) (h : upw P (fun v w => K (a.put o.dst v) w) ((execOp a.eval o).run P w)) : o.wpIn (Fence.wide.inRound l) n P a w K Q := by
 refine ⟨fun _ _ => trivial, ?_⟩
 rw [Oper.semAt_eq _ _ _ hd]; generalize (execOp a.eval o).run P w = r at h; match r, h with
 | .ok (.value _) _, h => exact h
 | .ok .skip _, h => exact h
 | .ok (.enter f args) w', h =>
  refine ⟨fun h2 => (by cases h2), CallsIn.inRound l (callsIn_wide.2 (Calls.mono h fun e w' he => ?_))⟩
  obtain ⟨v, rfl, hk⟩ := he; exact hk
end RI
end Go.Proofs.Ytlbdaccmnpcccaa
namespace Go.Proofs.Ytlbdaccmnpcccaa
namespace Pk
open Go.RowKit Go.Shelf
attribute [local go_sem] Oper.semAt_some
end Pk
end Go.Proofs.Ytlbdaccmnpcccaa
namespace Go.Proofs.Ytlbdaccmnpcccaa
namespace Pk
open Go.RowKit Go.Shelf
end Pk
end Go.Proofs.Ytlbdaccmnpcccaa
namespace Go.Proofs.Ytlbdaccmnpcccaa
namespace Pk
open Go.RowKit Go.Shelf
attribute [local go_sem] Oper.semAt_some

end Pk
end Go.Proofs.Ytlbdaccmnpcccaa
namespace Go.Proofs.Ytlbdaccmnpcccaa
namespace Pk
open Go.RowKit Go.Shelf
end Pk
end Go.Proofs.Ytlbdaccmnpcccaa
namespace Go.Proofs.Ytlbdaccmnpcccaa
namespace Pk
open Go.RowKit

end Pk
end Go.Proofs.Ytlbdaccmnpcccaa
namespace Go.Proofs.Ytlbdaccmnpcccaa
namespace Pk
open Go.RowKit Go.Shelf
end Pk
end Go.Proofs.Ytlbdaccmnpcccaa
namespace Go.Proofs.Ytlbdaccmnpcccaa
namespace Pk
open Go.RowKit Go.Shelf

end Pk
end Go.Proofs.Ytlbdaccmnpcccaa
namespace Go.Proofs.Ytlbdaccmnpcccaa
namespace Pk
open Go.RowKit Go.Shelf
attribute [local go_sem] Oper.semAt_some
def Fm (v : V3) : Prop := ∃ l b1 m1 q1 b2 m2 q2, v = (.bool l, .slice b1 m1 q1, .slice b2 m2 q2)
end Pk
end Go.Proofs.Ytlbdaccmnpcccaa
namespace Go.Proofs.Ytlbdaccmnpcccaa
namespace Pk
open Go.RowKit Go.Shelf
inductive Wf : It → Prop where
 | mk (l : Bool) (t : List UInt8) (ks : List It) (h : ∀ j, j < ks.length → Wf (ks.getD j It.no)) : Wf (.mk l t ks)
mutual
theorem wf_any : ∀ t : It, Wf t
 | .mk l t ks => .mk l t ks (wf_all ks)
theorem wf_all : ∀ (ks : List It) (j : Nat), j < ks.length → Wf (ks.getD j It.no)
 | [], j, h => absurd h (by simp)
 | k :: _, 0, _ => wf_any k
 | _ :: r, j + 1, h => wf_all r j (by simpa using h)
end
theorem enc_text_len (t : List UInt8) (ks : List It) : t.length ≤ (enc (.mk false t ks)).length := by
 unfold enc
 split
 ·omega
 ·rw [List.length_append]; omega
theorem encs_many : ∀ ks : List It, ks.length ≤ (encs ks).length
 | [] => Nat.zero_le _
 | k :: r => by
  have := encs_many r; have := enc_pos k; unfold encs
  rw [List.length_append, List.length_cons]; omega
theorem encs_one : ∀ (ks : List It) (j : Nat), j < ks.length → (enc (ks.getD j It.no)).length + (ks.length - 1) ≤ (encs ks).length
 | [], j, h => absurd h (by simp)
 | k :: r, 0, _ => by
  have := encs_many r; unfold encs
  rw [List.length_append, List.length_cons, List.getD_cons_zero]; omega
 | k :: r, j + 1, h => by
  have := encs_one r j (by simpa using h); have := enc_pos k; have h2 : j < r.length := by simpa using h
  unfold encs
  rw [List.length_append, List.length_cons, List.getD_cons_succ]; omega
end Pk
end Go.Proofs.Ytlbdaccmnpcccaa
namespace Go.Proofs.Ytlbdaccmnpcccaa
namespace Pk
open Go.RowKit
theorem lit_own2 (l : List UInt8) (w : World) (B : Nat) (h : B ≤ w.heap.size) (hl : l.length ≤ 64) : (w.alloc (.cells (bcs l).toArray 5)).ownsRow B 5 1 (.slice (some ⟨w.heap.size, 0, none⟩) l.length l.length) l.length (bcs l) := by
 have k := World.ownsRow_lit (size := 1) (e := 5) w (bcs l).toArray l.length h (by unfold maxLen; omega) (by simp [bcs_len])
 simpa using k
def bst (l : List UInt8) : ByteArray := ⟨l.toArray⟩
theorem bst_size (l : List UInt8) : (bst l).size = l.length := by simp [bst, ByteArray.size]
theorem Sl_bst {b : List UInt8} {v : Value} {w : World} (h : Sl b v w) : (convert 24 9 v).run Try.prog w = .ok (.string (bst b)) w := Sl_conv h
theorem str_sl (l : List UInt8) (w : World) : ∃ c W, (convert 9 24 (.string (bst l))).run Try.prog w = .ok (.slice (some ⟨w.heap.size, 0, none⟩) l.length c) W ∧ Sl l (.slice (some ⟨w.heap.size, 0, none⟩) l.length c) W ∧ Below w.heap.size w W := by
 have h := Lib.run_convert_string_bytes w 9 24 5 (bst l) Try.underlying9 Try.underlying24 Try.underlying5; rw [bst_size] at h; refine ⟨_, _, h, ⟨_, _, rfl, grownCap_ge _ _ _ _, fun h0 => ⟨_, _, rfl, ?_, fun j hj => ?_⟩⟩, ⟨?_, ?_, ?_, ?_, fun k hk => Lib.bytesWorld_at_old w _ _ k hk⟩⟩
 ·rw [Lib.bytesWorld_size]; omega
 ·rw [Nat.zero_add, Lib.bytesWorld_cell w _ _ j (by rw [bst_size]; exact hj)]
  rfl
 ·rfl
 ·rfl
 ·rfl
 ·rw [Lib.bytesWorld_size]; omega
theorem cat_bst (l m : List UInt8) (hl : l.length ≤ 8388608) (hm : m.length ≤ 8388608) (w : World) : (Op.stringOp .add (bst l) (bst m)).run Try.prog w = .ok (.string (bst (l ++ m))) w := run_string_add_lists w l m (by omega) (by omega)
def mkh (l : Bool) : Nat := if l then 192 else 128
theorem lit_sl1 (c : UInt8) (w : World) : Sl [c] (.slice (some ⟨w.heap.size, 0, none⟩) 1 1) (w.alloc (.cells #[.int .u8 (c.toNat : Int)] 5)) := own_sl (lit_own2 [c] w w.heap.size (Nat.le_refl _) (by simp))
set_option maxHeartbeats 1000000 in
set_option maxRecDepth 100000 in
theorem phead_short (l : Bool) (n : Nat) (w : World) (hn : n < 48) :
  Calls Try.prog 52 #[.int .i64 (n : Int), .bool l] w fun e w' => e = .returned (.string (bst (hdr (mkh l) n))) ∧ Below w.heap.size w w' := by
 have d0 : decide ((n : Int) < 48) = true := decide_eq_true (by omega); have eh : hdr (mkh l) n = [UInt8.ofNat (mkh l + n)] := by unfold hdr; rw [if_pos hn]
 have hm : mkh l ≤ 192 := by unfold mkh; split <;> omega
 have hu : (UInt8.ofNat (mkh l + n)).toNat = mkh l + n := u8_of _ (by omega); have hs := lit_sl1 (UInt8.ofNat (mkh l + n)) w; rw [hu] at hs; have hcv := Sl_bst hs; have B : Hid (Below w.heap.size w (w.alloc (.cells #[.int .u8 ((mkh l + n : Nat) : Int)] 5))) := (Below.refl _ _).alloc (Nat.le_refl _) _; rw [eh]; generalize bst [UInt8.ofNat (mkh l + n)] = X at *; clear eh hu hs hm; cases l with
 | false =>
  have ec : ((mkh false + n : Nat) : Int) = 128 + (n : Int) := by show ((128 + n : Nat) : Int) = _; omega
  rw [ec] at hcv B; have e1 : wrap64 (128 + (n : Int)) = 128 + (n : Int) := by unfold wrap64; omega
  have e2 : IntKind.u8.wrap (128 + (n : Int)) = 128 + (n : Int) := by rw [IntKind.wrap_u8]; omega
  clear ec hn; go_enter Try.func52, Try.ntmps52
  go_wp2_with fail
  go_ret
  exact ⟨rfl, B.out⟩
 | true =>
  have ec : ((mkh true + n : Nat) : Int) = 192 + (n : Int) := by show ((192 + n : Nat) : Int) = _; omega
  rw [ec] at hcv B; have e1 : wrap64 (192 + (n : Int)) = 192 + (n : Int) := by unfold wrap64; omega
  have e2 : IntKind.u8.wrap (192 + (n : Int)) = 192 + (n : Int) := by rw [IntKind.wrap_u8]; omega
  clear ec hn; go_enter Try.func52, Try.ntmps52
  go_wp2_with fail
  go_ret
  exact ⟨rfl, B.out⟩
set_option maxHeartbeats 1000000 in
set_option maxRecDepth 100000 in
theorem phead_long (l : Bool) (n : Nat) (w : World) (hn : 48 ≤ n) (hz : n ≤ 4194304) :
  Calls Try.prog 52 #[.int .i64 (n : Int), .bool l] w fun e w' => e = .returned (.string (bst (hdr (mkh l) n))) ∧ Below w.heap.size w w' := by
 have d0 : decide ((n : Int) < 48) = false := decide_eq_false (by omega); have hk := nu_8 n (by omega); have hm : mkh l ≤ 192 := by unfold mkh; split <;> omega
 have hu : (UInt8.ofNat (mkh l + 47 + (nu n).length)).toNat = mkh l + 47 + (nu n).length := u8_of _ (by omega); have eh : hdr (mkh l) n = [UInt8.ofNat (mkh l + 47 + (nu n).length)] ++ nu n := by
  unfold hdr
  rw [if_neg (by omega)]; rfl
 have HC : Hid (∀ W : World, (Op.stringOp .add (bst [UInt8.ofNat (mkh l + 47 + (nu n).length)]) (bst (nu n))).run Try.prog W = .ok (.string (bst ([UInt8.ofNat (mkh l + 47 + (nu n).length)] ++ nu n))) W) := fun W => cat_bst _ _ (by simp) (by omega) W
 have e0 : IntKind.u64.wrap (n : Int) = (n : Int) := by rw [IntKind.wrap_u64]; omega
 have KI : Hid (∀ w : World, Calls Try.prog 60 #[.int .u64 (n : Int)] w fun e w' => e = .returned (Wd n) ∧ Below w.heap.size w w') := fun w => wint_any n (by omega) w
 have KP : Hid (∀ w : World, Calls Try.prog 59 #[Wd n] w fun e w' => ∃ a c, e = .returned (.slice a (nu n).length c) ∧ Sl (nu n) (.slice a (nu n).length c) w' ∧ Below w.heap.size w w') := fun w => (pnum_any n w).mono fun e w' he => by
  obtain ⟨v, h1, h2, h3⟩ := he; obtain ⟨a, c, rfl, h4, h5⟩ := h2; exact ⟨a, c, h1, ⟨a, c, rfl, h4, h5⟩, h3⟩
 have HL : Hid (∀ W : World, Sl [UInt8.ofNat (mkh l + 47 + (nu n).length)] (.slice (some ⟨W.heap.size, 0, none⟩) 1 1) (W.alloc (.cells #[.int .u8 ((mkh l + 47 + (nu n).length : Nat) : Int)] 5))) := fun W => by
  have := lit_sl1 (UInt8.ofNat (mkh l + 47 + (nu n).length)) W; rw [hu] at this; exact this
 rw [eh]; generalize hm' : (nu n).length = m at *; generalize [UInt8.ofNat (mkh l + 47 + m)] = L at *; generalize nu n = M at *; clear eh hu hm hm' hn; cases l with
 | false =>
  have ec : ((mkh false + 47 + m : Nat) : Int) = 175 + (m : Int) := by show ((128 + 47 + m : Nat) : Int) = _; omega
  rw [ec] at HL; have e1 : wrap64 (175 + (m : Int)) = 175 + (m : Int) := by unfold wrap64; omega
  have e2 : IntKind.u8.wrap (175 + (m : Int)) = 175 + (m : Int) := by rw [IntKind.wrap_u8]; omega
  clear ec hz hk; go_enter Try.func52, Try.ntmps52
  go_wp2_with fail
  refine (KI.out _).mono (fun e w1 he => ?_)
  obtain ⟨rfl, b1⟩ := he; go_wp2_with fail
  refine (KP.out _).mono (fun e w2 he => ?_)
  obtain ⟨a, c, rfl, hs, b2⟩ := he; have bA : Below w2.heap.size w2 (w2.alloc (.cells #[.int .u8 (175 + (m : Int))] 5)) := (Below.refl _ _).alloc (Nat.le_refl _) _; have q1 := Sl_bst (HL.out w2); have q2 := Sl_bst (Sl_below hs bA); have B : Hid (Below w.heap.size w (w2.alloc (.cells #[.int .u8 (175 + (m : Int))] 5))) := (b1.trans (b2.mono b1.size)).trans (bA.mono (Nat.le_trans b1.size b2.size)); have q3 := HC.out (w2.alloc (.cells #[.int .u8 (175 + (m : Int))] 5)); clear b1 b2 bA hs KI KP HL HC; go_wp2_with fail
  go_ret
  exact ⟨rfl, B.out⟩
 | true =>
  have ec : ((mkh true + 47 + m : Nat) : Int) = 239 + (m : Int) := by show ((192 + 47 + m : Nat) : Int) = _; omega
  rw [ec] at HL; have e1 : wrap64 (239 + (m : Int)) = 239 + (m : Int) := by unfold wrap64; omega
  have e2 : IntKind.u8.wrap (239 + (m : Int)) = 239 + (m : Int) := by rw [IntKind.wrap_u8]; omega
  clear ec hz hk; go_enter Try.func52, Try.ntmps52
  go_wp2_with fail
  refine (KI.out _).mono (fun e w1 he => ?_)
  obtain ⟨rfl, b1⟩ := he; go_wp2_with fail
  refine (KP.out _).mono (fun e w2 he => ?_)
  obtain ⟨a, c, rfl, hs, b2⟩ := he; have bA : Below w2.heap.size w2 (w2.alloc (.cells #[.int .u8 (239 + (m : Int))] 5)) := (Below.refl _ _).alloc (Nat.le_refl _) _; have q1 := Sl_bst (HL.out w2); have q2 := Sl_bst (Sl_below hs bA); have B : Hid (Below w.heap.size w (w2.alloc (.cells #[.int .u8 (239 + (m : Int))] 5))) := (b1.trans (b2.mono b1.size)).trans (bA.mono (Nat.le_trans b1.size b2.size)); have q3 := HC.out (w2.alloc (.cells #[.int .u8 (239 + (m : Int))] 5)); clear b1 b2 bA hs KI KP HL HC; go_wp2_with fail
  go_ret
  exact ⟨rfl, B.out⟩
theorem phead_any (l : Bool) (n : Nat) (w : World) (hz : n ≤ 4194304) :
  Calls Try.prog 52 #[.int .i64 (n : Int), .bool l] w fun e w' => e = .returned (.string (bst (hdr (mkh l) n))) ∧ Below w.heap.size w w' := by
 rcases Nat.lt_or_ge n 48 with h | h
 ·exact phead_short l n w h
 ·exact phead_long l n w h hz
end Pk
end Go.Proofs.Ytlbdaccmnpcccaa
namespace Go.Proofs.Ytlbdaccmnpcccaa
namespace Pk
open Go.RowKit
theorem hdr_9 (m n : Nat) (h : n < 18446744073709551616) : (hdr m n).length ≤ 9 := by
 unfold hdr
 split
 ·simp
 ·have := nu_8 n h; rw [List.length_cons]; omega
theorem enc_one (c : UInt8) (ks : List It) (h : c.toNat < 128) : enc (.mk false [c] ks) = [c] := by
 unfold enc
 rw [if_pos]; exact ⟨rfl, by have : Sp.bz [c] 0 = (c.toNat : Int) := rfl; omega⟩
set_option maxHeartbeats 1000000 in
set_option maxRecDepth 100000 in
theorem pencode_one (c : UInt8) (a1 a2 : Option Addr) (n2 c1 c2 : Nat) (w : World) (hc : c.toNat < 128) (hs : Sl [c] (.slice a1 1 c1) w) :
  Calls Try.prog 38 #[.agg #[.bool false, .slice a1 1 c1, .slice a2 n2 c2]] w fun e w' => ∃ v, e = .returned v ∧ Sl [c] v w' ∧ Below w.heap.size w w' := by
 have B1 : Below w.heap.size w (w.alloc (.cells #[.bool false, .slice a1 1 c1, .slice a2 n2 c2] 59)) := (Below.refl _ _).alloc (Nat.le_refl _) _; have q1 : (convert 24 9 (.slice a1 1 c1)).run Try.prog (w.alloc (.cells #[.bool false, .slice a1 1 c1, .slice a2 n2 c2] 59)) = .ok (.string ⟨#[c]⟩) (w.alloc (.cells #[.bool false, .slice a1 1 c1, .slice a2 n2 c2] 59)) := Sl_conv (Sl_below hs B1); obtain ⟨k, W, hcv', h2, h3⟩ := str_sl [c] (w.alloc (.cells #[.bool false, .slice a1 1 c1, .slice a2 n2 c2] 59)); have hcv : (convert 9 24 (.string ⟨#[c]⟩)).run Try.prog (w.alloc (.cells #[.bool false, .slice a1 1 c1, .slice a2 n2 c2] 59)) = .ok (.slice (some ⟨(w.alloc (.cells #[.bool false, .slice a1 1 c1, .slice a2 n2 c2] 59)).heap.size, 0, none⟩) 1 k) W := hcv'; have hsz : (w.alloc (.cells #[.bool false, .slice a1 1 c1, .slice a2 n2 c2] 59)).heap.size = w.heap.size + 1 := by simp
 rw [hsz] at h2; have HR : Hid (∃ v, Ending.returned (.slice (some ⟨w.heap.size + 1, 0, none⟩) 1 k) = .returned v ∧ Sl [c] v W ∧ Below w.heap.size w W) := ⟨_, rfl, h2, B1.trans (h3.mono B1.size)⟩; have hx : ((⟨#[c]⟩ : ByteArray)[0]'Nat.zero_lt_one).toNat = c.toNat := rfl; have d0 : decide ((c.toNat : Int) < 128) = true := decide_eq_true (by omega); have d1 : (c.toNat : Int) < 128 := by omega
 clear hcv' h2 h3 B1 hs hc hsz; go_enter Try.func38, Try.ntmps38
 go_wp2_with fail
 go_ret
 exact HR.out
set_option maxHeartbeats 1000000 in
set_option maxRecDepth 100000 in
theorem pencode_head (t : List UInt8) (n : Nat) (a1 a2 : Option Addr) (n2 c1 c2 : Nat) (w : World) (hn : n = t.length) (hz : n ≤ 4194304) (hs : Sl t (.slice a1 n c1) w) (ht : n = 1 → ∃ c : UInt8, t = [c] ∧ 128 ≤ c.toNat) :
  Calls Try.prog 38 #[.agg #[.bool false, .slice a1 n c1, .slice a2 n2 c2]] w fun e w' => ∃ v, e = .returned v ∧ Sl (hdr 128 n ++ t) v w' ∧ Below w.heap.size w w' := by
 have B1 : Below w.heap.size w (w.alloc (.cells #[.bool false, .slice a1 n c1, .slice a2 n2 c2] 59)) := (Below.refl _ _).alloc (Nat.le_refl _) _; have q1 := Sl_bst (Sl_below hs B1); have hN := heap_alloc_new w (.cells #[.bool false, .slice a1 n c1, .slice a2 n2 c2] 59); have KH : Hid (∀ W : World, Calls Try.prog 52 #[.int .i64 (n : Int), .bool false] W fun e w' => e = .returned (.string (bst (hdr 128 n))) ∧ Below W.heap.size W w') := fun W => phead_any false n W hz
 have KC : Hid (∀ W : World, ∃ c W', (convert 9 24 (.string (bst (hdr 128 n ++ t)))).run Try.prog W = .ok (.slice (some ⟨W.heap.size, 0, none⟩) (hdr 128 n ++ t).length c) W' ∧ Sl (hdr 128 n ++ t) (.slice (some ⟨W.heap.size, 0, none⟩) (hdr 128 n ++ t).length c) W' ∧ Below W.heap.size W W') := fun W => str_sl _ W
 have HC : Hid (∀ W : World, (Op.stringOp .add (bst (hdr 128 n)) (bst t)).run Try.prog W = .ok (.string (bst (hdr 128 n ++ t))) W) := fun W => cat_bst _ _ (by have := hdr_9 128 n (by omega); omega) (by omega) W
 by_cases h1 : n = 1
 ·obtain ⟨c, rfl, hc⟩ := ht h1; subst h1; have d0 : decide ((c.toNat : Int) < 128) = false := decide_eq_false (by omega); have d1 : ¬ (c.toNat : Int) < 128 := by omega
  have e1 : bst [c] = ⟨#[c]⟩ := rfl; rw [e1] at q1 HC; have BH : Hid _ := B1; generalize bst (hdr 128 1 ++ [c]) = Z at *; generalize hdr 128 1 ++ [c] = E at *; generalize bst (hdr 128 1) = H at *; clear e1 ht hz hs hn B1 hc; go_enter Try.func38, Try.ntmps38
  go_wp2_with fail
  refine (KH.out _).mono (fun e w2 he => ?_)
  obtain ⟨rfl, b2⟩ := he; obtain ⟨k, W, hcv, h2, h3⟩ := KC.out w2; have HR : Hid (Sl E (.slice (some ⟨w2.heap.size, 0, none⟩) E.length k) W ∧ Below w.heap.size w W) := ⟨h2, (BH.out.trans (b2.mono BH.out.size)).trans (h3.mono (Nat.le_trans BH.out.size b2.size))⟩; generalize E.length = L at *; have q3 := HC.out w2; clear h2 h3 b2 KC KH BH HC; go_wp2_with fail
  go_ret
  exact ⟨_, rfl, HR.out⟩
 ·have hX : (bst t).size = n := by rw [bst_size, hn]
  have d0 : ((n : Int) == 1) = false := beq_eq_false_iff_ne.2 (by omega); have d1 : ¬ (n : Int) = 1 := by omega
  have d2 : (n == 1) = false := beq_eq_false_iff_ne.2 h1; have BH : Hid _ := B1; generalize bst (hdr 128 n ++ t) = Z at *; generalize hdr 128 n ++ t = E at *; generalize bst (hdr 128 n) = H at *; generalize bst t = X at *; clear ht hz hs hn B1; go_enter Try.func38, Try.ntmps38
  go_wp2_with fail
  refine (KH.out _).mono (fun e w2 he => ?_)
  obtain ⟨rfl, b2⟩ := he; obtain ⟨k, W, hcv, h2, h3⟩ := KC.out w2; have HR : Hid (Sl E (.slice (some ⟨w2.heap.size, 0, none⟩) E.length k) W ∧ Below w.heap.size w W) := ⟨h2, (BH.out.trans (b2.mono BH.out.size)).trans (h3.mono (Nat.le_trans BH.out.size b2.size))⟩; generalize E.length = L at *; have q3 := HC.out w2; clear h2 h3 b2 KC KH BH HC; go_wp2_with fail
  go_ret
  exact ⟨_, rfl, HR.out⟩
theorem take_encs (ks : List It) (k : Nat) (h : k < ks.length) : encs (ks.take k) ++ enc (ks.getD k It.no) = encs (ks.take (k + 1)) := by
 induction ks generalizing k with
 | nil => exact absurd h (by simp)
 | cons x r ih =>
  cases k with
  | zero => simp [encs]
  | succ k =>
   have := ih k (by simpa using h); rw [List.take_succ_cons, List.take_succ_cons, List.getD_cons_succ]; unfold encs
   rw [List.append_assoc, this]
theorem encs_take (ks : List It) (k : Nat) : (encs (ks.take k)).length ≤ (encs ks).length := by
 induction ks generalizing k with
 | nil => simp
 | cons x r ih =>
  cases k with
  | zero => simp [encs]
  | succ k =>
   rw [List.take_succ_cons]; unfold encs
   rw [List.length_append, List.length_append]; have := ih k; omega
set_option maxHeartbeats 1000000 in
set_option maxRecDepth 100000 in
theorem pencode_list (S : Nat → Prop) (ks : List It) (vs : List V3) (a1 a2 : Option Addr) (n1 c1 c2 n N : Nat) (T : ByteArray) (w : World) (hn : Hid (n = vs.length)) (hl : Hid (vs.length = ks.length)) (hk : Hid (Kx S vs (.slice a2 n c2) w)) (hi : Hid (∀ j, j < ks.length → Iv S w (ks.getD j It.no) (vs.getD j n3)))
  (hT : Hid (∀ W : World, Below w.heap.size w W → (convert 24 9 (.slice a1 n1 c1)).run Try.prog W = .ok (.string T) W))
  (IH : Hid (∀ j, j < ks.length → ∀ (v : V3) (w : World), Iv S w (ks.getD j It.no) v → Calls Try.prog 38 #[v3 v] w fun e w' => ∃ v, e = .returned v ∧ Sl (enc (ks.getD j It.no)) v w' ∧ Below w.heap.size w w')) (hN : Hid (N = (encs ks).length)) (hz : Hid (N ≤ 4194304)) :
  Calls Try.prog 38 #[.agg #[.bool true, .slice a1 n1 c1, .slice a2 n c2]] w fun e w' => ∃ v, e = .returned v ∧ Sl (hdr 192 N ++ encs ks) v w' ∧ Below w.heap.size w w' := by
 have B0 : Below w.heap.size w (w.alloc (.cells #[.bool true, .slice a1 n1 c1, .slice a2 n c2] 59)) := (Below.refl _ _).alloc (Nat.le_refl _) _; have hT0 := hT.out _ B0; go_enter Try.func38, Try.ntmps38
 go_wp2_with fail
 clear hT hT0; have hA := heap_alloc_new w (.cells #[.bool true, .slice a1 n1 c1, .slice a2 n c2] 59); have ht : (w.alloc (.cells #[.bool true, .slice a1 n1 c1, .slice a2 n c2] 59)).cell? ⟨w.heap.size, 0, none⟩ = some (.bool true) := by simp only [World.cell?, hA]; rfl
 have hs : w.heap.size < (w.alloc (.cells #[.bool true, .slice a1 n1 c1, .slice a2 n c2] 59)).heap.size := by simp
 clear hA; generalize w.alloc (.cells #[.bool true, .slice a1 n1 c1, .slice a2 n c2] 59) = W0 at *; obtain ⟨g, eg⟩ : ∃ g, g = w.heap.size := ⟨_, rfl⟩; have EG : Hid (g = w.heap.size) := eg; rw [← eg] at B0 ht hs ⊢; clear eg; go_loopw [3, 14] (fun s i wr => ∃ k : Nat, k ≤ n ∧ s = .string (bst (encs (ks.take k))) ∧ i = .int .i64 (k : Int) ∧ Below W0.heap.size W0 wr) (fun _ i _ => ((n : Int) - intOf i).toNat)
 case atStart => exact ⟨0, Nat.zero_le _, rfl, rfl, Below.refl _ _⟩
 case round =>
  obtain ⟨k, hkn, rfl, rfl, hB⟩ := hrel; by_cases hlt : k < n
  ·have d0 : decide ((k : Int) < (n : Int)) = true := decide_eq_true (by omega); have d1 : (0 : Int) ≤ (k : Int) := by omega
   have d2 : (k : Int) < (n : Int) := by omega
   have hks : k < ks.length := by have := hn.out; have := hl.out; omega
   obtain ⟨ao, cap, e2, -, hq⟩ := hk.out; obtain ⟨gk, off, rfl, -, hgk, hcell⟩ := hq (by have := hn.out; omega)
   injection e2 with e2 e2' e2''
   subst e2; clear e2' e2''; obtain ⟨x0, x1, x2⟩ := hcell k (by have := hn.out; omega)
   have iv := hi.out k hks; obtain ⟨l, b1, m1, q1, b2, m2, q2, ev⟩ := Iv_form iv; rw [ev] at x0 x1 x2 iv; have HC : Hid (∀ W : World, (Op.stringOp .add (bst (encs (ks.take k))) (bst (enc (ks.getD k It.no)))).run Try.prog W = .ok (.string (bst (encs (ks.take (k + 1))))) W) := fun W => by
    have h1 := encs_take ks k; have h2 := encs_one ks k hks; have h3 := hz.out; have h4 := hN.out; rw [cat_bst _ _ (by omega) (by omega), take_encs ks k hks]
   have KB : Hid (∀ w : World, Iv S w (ks.getD k It.no) (.bool l, .slice b1 m1 q1, .slice b2 m2 q2) → Calls Try.prog 38 #[.agg #[.bool l, .slice b1 m1 q1, .slice b2 m2 q2]] w fun e w' => ∃ v, e = .returned v ∧ Sl (enc (ks.getD k It.no)) v w' ∧ Below w.heap.size w w') := IH.out k hks (.bool l, .slice b1 m1 q1, .slice b2 m2 q2)
   have BW : Below w.heap.size w wr := (EG.out ▸ B0).trans (hB.mono (by have := EG.out; omega))
   have y0 := (BW.cell (p := ⟨gk, off + 3 * k, none⟩) hgk).trans x0; have y1 := (BW.cell (p := ⟨gk, off + 3 * k + 1, none⟩) hgk).trans x1; have y2 := (BW.cell (p := ⟨gk, off + 3 * k + 2, none⟩) hgk).trans x2; have hgk2 : gk < wr.heap.size := Nat.lt_of_lt_of_le hgk BW.size; rw [Nat.mul_comm 3 k] at y0 y1 y2; have IW : Hid (Iv S (wr.alloc (.cells #[.bool l, .slice b1 m1 q1, .slice b2 m2 q2] 59)) (ks.getD k It.no) (.bool l, .slice b1 m1 q1, .slice b2 m2 q2)) := Iv_below (Iv_gb (r := none) iv (gb_below BW) (fun _ _ => nofun)) ((Below.refl _ _).alloc (Nat.le_refl _) _)
   have B2 : Hid (Below W0.heap.size W0 (wr.alloc (.cells #[.bool l, .slice b1 m1 q1, .slice b2 m2 q2] 59))) := hB.alloc hB.size _; have e5 : Hid (wrap64 ((k : Int) + 1) = ((k + 1 : Nat) : Int)) := by
    have := hz.out; have := hN.out; have := encs_many ks; have := hn.out; have := hl.out; show _ = _; unfold wrap64; omega
   obtain ⟨Y, hY⟩ : ∃ Y, Y = bst (encs (ks.take (k + 1))) := ⟨_, rfl⟩; have HY : Hid (Y = bst (encs (ks.take (k + 1)))) := hY; rw [← hY] at HC; generalize bst (encs (ks.take k)) = X at *; clear hq hcell x0 x1 x2 ev hks iv BW hY; go_wp2_with fail
   refine (KB.out _ IW.out).mono (fun e w5 he => ?_)
   obtain ⟨v, rfl, hs5, b5⟩ := he; have B5 : Hid (Below W0.heap.size W0 w5) := B2.out.trans (b5.mono B2.out.size); have q5 := Sl_bst hs5; have q6 := HC.out w5; obtain ⟨a5, n5, rfl, -, -⟩ := hs5; generalize bst (enc (ks.getD k It.no)) = E5 at *; generalize (enc (ks.getD k It.no)).length = n6 at *; clear KB IW B2 y0 y1 y2 b5 HC; go_wp2_with fail
   rw [e5.out]; exact ⟨⟨k + 1, hlt, by rw [HY.out], rfl, B5.out⟩, msr_up k n hlt⟩
  ·have d0 : decide ((k : Int) < (n : Int)) = false := decide_eq_false (by omega); have ek : ks.take k = ks := List.take_of_length_le (by have := hn.out; have := hl.out; omega)
   rw [ek]; have ht2 : wr.cell? ⟨g, 0, none⟩ = some (.bool true) := (hB.cell (p := ⟨g, 0, none⟩) hs).trans ht; have hgw : g < wr.heap.size := Nat.lt_of_lt_of_le hs hB.size; have BF : Hid (Below w.heap.size w wr) := (EG.out ▸ B0).trans (hB.mono (by have := EG.out; omega))
   have hX : (bst (encs ks)).size = N := by rw [bst_size, hN.out]
   have KH : Hid (∀ W : World, Calls Try.prog 52 #[.int .i64 (N : Int), .bool true] W fun e w' => e = .returned (.string (bst (hdr 192 N))) ∧ Below W.heap.size W w') := fun W => phead_any true N W hz.out
   have KC : Hid (∀ W : World, ∃ c W', (convert 9 24 (.string (bst (hdr 192 N ++ encs ks)))).run Try.prog W = .ok (.slice (some ⟨W.heap.size, 0, none⟩) (hdr 192 N ++ encs ks).length c) W' ∧ Sl (hdr 192 N ++ encs ks) (.slice (some ⟨W.heap.size, 0, none⟩) (hdr 192 N ++ encs ks).length c) W' ∧ Below W.heap.size W W') := fun W => str_sl _ W
   have HC : Hid (∀ W : World, (Op.stringOp .add (bst (hdr 192 N)) (bst (encs ks))).run Try.prog W = .ok (.string (bst (hdr 192 N ++ encs ks))) W) := fun W => cat_bst _ _ (by have := hdr_9 192 N (by have := hz.out; omega); omega) (by have := hz.out; have := hN.out; omega) W
   generalize bst (hdr 192 N ++ encs ks) = Z at *; obtain ⟨E, hE⟩ : ∃ E, E = hdr 192 N ++ encs ks := ⟨_, rfl⟩; have HE : Hid (E = hdr 192 N ++ encs ks) := hE; rw [← hE] at KC; clear hE; generalize bst (encs ks) = X at *; generalize bst (hdr 192 N) = H at *; clear ek; go_wp2_with fail
   refine (KH.out _).mono (fun e w2 he => ?_)
   obtain ⟨rfl, b2⟩ := he; obtain ⟨k2, W, hcv, h2, h3⟩ := KC.out w2; have HR : Hid (Sl (hdr 192 N ++ encs ks) (.slice (some ⟨w2.heap.size, 0, none⟩) E.length k2) W ∧ Below w.heap.size w W) := ⟨HE.out ▸ h2, (BF.out.trans (b2.mono BF.out.size)).trans (h3.mono (Nat.le_trans BF.out.size b2.size))⟩; clear HE; generalize E.length = L at *; have q3 := HC.out w2; clear h2 h3 b2 KC KH HC; go_wp2_with fail
   go_ret
   exact ⟨_, rfl, HR.out⟩
theorem enc_text (t : List UInt8) (ks : List It) (h : ¬ ∃ c : UInt8, t = [c] ∧ c.toNat < 128) : enc (.mk false t ks) = hdr 128 t.length ++ t := by
 unfold enc
 rw [if_neg]; intro h2; apply h
 match t, h2 with
 | [c], h2 => exact ⟨c, rfl, by have : Sp.bz [c] 0 = (c.toNat : Int) := rfl; have := h2.2; omega⟩
 | [], h2 => simp at h2
 | _ :: _ :: _, h2 => simp at h2
theorem pencode_any {t : It} (hb : Wf t) : (enc t).length ≤ 1048576 → ∀ (S : Nat → Prop) (v : V3) (w : World), Iv S w t v → Calls Try.prog 38 #[v3 v] w fun e w' => ∃ v, e = .returned v ∧ Sl (enc t) v w' ∧ Below w.heap.size w w' := by
 induction hb with
 | mk l t ks _ ih =>
  intro hz S v w h; cases h with
  | mk _ _ _ tv kv vs ht hl hk hi =>
   have h7 := Ty_sl ht; obtain ⟨a1, c1, rfl, -, -⟩ := ht; have hk2 := hk; obtain ⟨a2, c2, rfl, -, -⟩ := hk; cases l with
   | false =>
    have hlen := enc_text_len t ks; by_cases h1 : ∃ c : UInt8, t = [c] ∧ c.toNat < 128
    ·obtain ⟨c, rfl, hc⟩ := h1; rw [enc_one c ks hc]; exact pencode_one c a1 a2 _ c1 c2 w hc h7
    ·rw [enc_text t ks h1]; exact pencode_head t t.length a1 a2 _ c1 c2 w rfl (by omega) h7 (fun e => by
      obtain ⟨c, rfl⟩ := List.length_eq_one_iff.1 e; refine ⟨c, rfl, ?_⟩; rcases Nat.lt_or_ge c.toNat 128 with h | h
      ·exact absurd ⟨c, rfl, h⟩ h1
      ·exact h)
   | true =>
    have h1 : (encs ks).length ≤ (enc (.mk true t ks)).length := by
     unfold enc
     rw [List.length_append]; omega
    have e : enc (.mk true t ks) = hdr 192 (encs ks).length ++ encs ks := by unfold enc; rfl
    rw [e]; exact pencode_list S ks vs a1 a2 _ c1 c2 vs.length (encs ks).length (bst t) w rfl hl hk2 hi (fun W hW => Sl_bst (Sl_below h7 hW)) (fun j hj v w h => ih j hj (by have := encs_one ks j hj; omega) S v w h) rfl (by show _ ≤ _; omega)
end Pk
end Go.Proofs.Ytlbdaccmnpcccaa
namespace Go.Proofs.Ytlbdaccmnpcccaa
namespace Rs
open Nb Sp Pk Go.RowKit
theorem pt1 : Hid (∀ (a : Option Addr) (m c : Nat) (wx : World), Calls Try.prog 49 #[.slice a m c] wx fun e w' => e = .returned (.agg #[.bool false, .slice a m c, .slice none 0 0]) ∧ Below wx.heap.size wx w') := fun a m c wx => ptext_any a m c wx
theorem pl1 : Hid (∀ (a : Option Addr) (m c : Nat) (wx : World), Calls Try.prog 50 #[.slice a m c] wx fun e w' => e = .returned (.agg #[.bool true, .slice none 0 0, .slice a m c]) ∧ Below wx.heap.size wx w') := fun a m c wx => plist_sl a m c wx
theorem shapeitem_any (s : Shp) (x : V4) (w : World) (h : Sh s x w) (hp : s.2.1.length ≤ 4194300) :
  Calls Try.prog 37 #[v4 x] w fun e w' => ∃ v, e = .returned (.tuple #[v3 v, .bool (isS s)]) ∧ (isS s = true → Iv (fun _ => True) w' (itS s) v) ∧ Below w.heap.size w w' ∧ Fm v := by
 obtain ⟨a1, c1, a2, c2, a3, c3, rfl⟩ := Sh_form h; obtain ⟨kk, p, v, ks⟩ := s; dsimp only at hp; have vw : Hid (∀ W, Below w.heap.size w W → Vw p a1 W) := fun W hb => by
  obtain ⟨ao, cap, e, _, hv⟩ := (Sh_below h hb).2.1; injection e with e1 _ _
  rwa [← e1] at hv
 have hc1 : p.length ≤ c1 := by
  obtain ⟨ao, cap, e, hc, _⟩ := h.2.1; injection e with _ _ e3
  rw [e3]; exact hc
 have KN : ∀ leaf, Hid (∀ wx : World, Below w.heap.size w wx → Calls Try.prog 36 #[.slice a1 p.length c1, .bool leaf] wx fun e w' => ∃ v z, e = .returned (.tuple #[v, .int .i64 z]) ∧ Sl (jl (tg p leaf)) v w' ∧ Below wx.heap.size wx w') := fun leaf wx hb =>
  (ntag_sl p leaf a1 c1 wx (by show _ ≤ _; omega) hc1 (vw.out wx hb)).mono fun e w' he => by
   obtain ⟨v, h1, h2, h3⟩ := he; exact ⟨v, _, h1, h2, h3⟩
 have hz : Hid (p.length ≤ 4194300) := hp; have hu : Hid (∀ W, Below w.heap.size w W → Sl v (.slice a2 v.length c2) W) := fun W hb => (Sh_below h hb).2.2.1
 by_cases k0 : kk = 0
 ·subst k0; have e1 : isS (0, p, v, ks) = true := rfl; rw [e1]; exact si_none a1 a2 a3 _ c1 _ c2 _ c3 p w rfl hz vw (fun wx => pt1.out _ _ _ wx)
 by_cases k1 : kk = 1
 ·subst k1; have e0 : isS (1, p, v, ks) = (pb p && (decide (0 < v.length) && decide (v.length ≤ 1024))) := rfl; cases hB : pb p with
  | false =>
   rw [show isS (1, p, v, ks) = false by rw [e0, hB]; rfl]
   exact (si_leaf_b a1 a2 a3 _ c1 _ c2 _ c3 p w rfl hz vw hB).mono fun e w' he => by obtain ⟨v, h1, _, h2⟩ := he; exact ⟨v, h1, nofun, h2⟩
  | true =>
   by_cases h0 : v.length = 0
   ·rw [show isS (1, p, v, ks) = false by rw [e0, h0]; simp]
    exact (si_leaf_0 a1 a2 a3 _ c1 _ c2 _ c3 p w rfl hz vw hB h0).mono fun e w' he => by obtain ⟨v, h1, _, h2⟩ := he; exact ⟨v, h1, nofun, h2⟩
   ·by_cases hm : v.length ≤ 1024
    ·have hv0 : 0 < v.length := by omega
     rw [show isS (1, p, v, ks) = true by rw [e0, hB]; simp [hv0, hm]]
     exact si_leaf a1 a2 a3 _ c1 _ c2 _ c3 p w rfl hz vw (jl (tg p true)) hB pt1 pl1 (KN true) v hu hv0 hm
    ·rw [show isS (1, p, v, ks) = false by rw [e0]; simp [hm]]
     exact (si_leaf_m a1 a2 a3 _ c1 _ c2 _ c3 p w rfl hz vw hB (by show 1024 < v.length; omega)).mono fun e w' he => by obtain ⟨v, h1, _, h2⟩ := he; exact ⟨v, h1, nofun, h2⟩
 by_cases k2 : kk = 2
 ·subst k2; have e0 : isS (2, p, v, ks) = (decide (0 < p.length) && (pb p && (decide (ks.length = 1) && decide ((ks.getD 0 []).length = 32)))) := rfl; cases hB : pb p with
  | false =>
   rw [show isS (2, p, v, ks) = false by rw [e0, hB]; simp]
   exact (si_road_b a1 a2 a3 _ c1 _ c2 _ c3 p w rfl hz vw hB).mono fun e w' he => by obtain ⟨v, h1, _, h2⟩ := he; exact ⟨v, h1, nofun, h2⟩
  | true =>
   by_cases hn : p.length = 0
   ·rw [show isS (2, p, v, ks) = false by rw [e0, hn]; simp]
    exact (si_road_0 a1 a2 a3 _ c1 _ c2 _ c3 p w rfl hz vw hB hn).mono fun e w' he => by obtain ⟨v, h1, _, h2⟩ := he; exact ⟨v, h1, nofun, h2⟩
   ·have hn0 : 0 < p.length := by omega
    by_cases h3 : ks.length = 1
    ·obtain ⟨ao, cap, e2, hL⟩ := h.2.2.2; dsimp only at e2 hL; obtain ⟨g, off, rfl, hg, hc⟩ := hL (by omega); obtain ⟨vi, q1, q2⟩ := hc 0 (by omega); obtain ⟨ai, ci, rfl⟩ := Sl_fm q2; injection e2 with e3 _ _
     by_cases hm : (ks.getD 0 []).length = 32
     ·rw [show isS (2, p, v, ks) = true by rw [e0, hB, decide_eq_true hn0, decide_eq_true h3, decide_eq_true hm]; rfl]
      rw [hm] at q1 q2; exact si_road a1 a2 a3 _ c1 _ c2 _ c3 p w rfl hz vw (jl (tg p false)) hB pt1 pl1 (KN false) (ks.getD 0 []) g off ci ai e3 ⟨hg, q1⟩ (fun W hb => Sl_below q2 hb) hn0 h3
     ·rw [show isS (2, p, v, ks) = false by rw [e0, decide_eq_false hm]; simp]
      exact (si_road_s a1 a2 a3 _ c1 _ c2 _ c3 p w rfl hz vw hB hn0 h3 _ hm (fun W hb => ⟨g, off, ai, ci, e3, (hb.cell (p := ⟨g, off, none⟩) hg).trans q1⟩)).mono fun e w' he => by obtain ⟨v, h1, _, h2⟩ := he; exact ⟨v, h1, nofun, h2⟩
    ·rw [show isS (2, p, v, ks) = false by rw [e0]; simp [h3]]
     exact (si_road_k a1 a2 a3 _ c1 _ c2 _ c3 p w rfl hz vw hB hn0 h3).mono fun e w' he => by obtain ⟨v, h1, _, h2⟩ := he; exact ⟨v, h1, nofun, h2⟩
 by_cases k3 : kk = 3
 ·subst k3; have e0 : isS (3, p, v, ks) = (decide (ks.length = 16) && (decide (v.length ≤ 1024) && (ks.all sm && decide (2 ≤ np (ks ++ [v]))))) := rfl; by_cases h3 : ks.length = 16
  ·by_cases hm : v.length ≤ 1024
   ·rw [show isS (3, p, v, ks) = (ks.all sm && decide (2 ≤ np (ks ++ [v]))) by rw [e0]; simp [h3, hm]]
    obtain ⟨hs, hh, hvl⟩ := ls_heads h.2.2.2; exact si_fork a1 a2 a3 _ c1 _ c2 _ c3 p w rfl hz vw pt1 pl1 ks v hs hh hvl h.2.2.1 h3 hm
   ·rw [show isS (3, p, v, ks) = false by rw [e0]; simp [hm]]
    exact (si_fork_v a1 a2 a3 _ c1 _ c2 _ c3 p w rfl hz vw h3 (by show 1024 < v.length; omega)).mono fun e w' he => by obtain ⟨v, h1, _, h2⟩ := he; exact ⟨v, h1, nofun, h2⟩
  ·rw [show isS (3, p, v, ks) = false by rw [e0]; simp [h3]]
   exact (si_fork_k a1 a2 a3 _ c1 _ c2 _ c3 p w rfl hz vw h3).mono fun e w' he => by obtain ⟨v, h1, _, h2⟩ := he; exact ⟨v, h1, nofun, h2⟩
 ·have e : isS (kk, p, v, ks) = false := by unfold isS; simp [k0, k1, k2, k3]
  rw [e]; exact (si_other a1 a2 a3 _ c1 _ c2 _ c3 p w rfl hz vw kk k0 k1 k2 k3).mono fun e w' he => by obtain ⟨v, h1, _, h2⟩ := he; exact ⟨v, h1, nofun, h2⟩
theorem enc_t9 (t : List UInt8) (ks : List It) (h : t.length < 18446744073709551616) : (enc (.mk false t ks)).length ≤ t.length + 9 := by
 unfold enc
 split
 ·omega
 ·rw [List.length_append]; have := hdr_9 128 t.length h; omega
theorem encs_texts : ∀ l : List (List UInt8), (∀ t ∈ l, t.length ≤ 1024) → (encs (l.map fun b => .mk false b [])).length ≤ 1033 * l.length
 | [], _ => by simp [encs]
 | t :: r, h => by
  have h1 := enc_t9 t [] (by have := h t (List.mem_cons_self ..); omega)
  have h2 := encs_texts r (fun u hu => h u (List.mem_cons_of_mem _ hu))
  have h3 := h t (List.mem_cons_self ..); rw [List.map_cons, encs, List.length_append, List.length_cons]; omega
theorem jn_ln : ∀ p : List UInt8, (jn p).length ≤ p.length / 2
 | [] => by simp [jn]
 | [_] => by simp [jn]
 | x :: y :: r => by
  have := jn_ln r; rw [jn, List.length_cons]; simp only [List.length_cons]; omega
theorem jl_ln (p : List UInt8) : (jl p).length ≤ p.length / 2 := by
 unfold jl
 split
 ·exact jn_ln p
 ·simp
theorem enc_two (a b : List UInt8) (ha : a.length ≤ 600000) (hb : b.length ≤ 1024) : (enc (.mk true [] [.mk false a [], .mk false b []])).length ≤ 1048576 := by
 have h1 := enc_t9 a [] (by omega); have h2 := enc_t9 b [] (by omega); have e : encs [.mk false a [], .mk false b []] = enc (.mk false a []) ++ (enc (.mk false b []) ++ []) := by simp [encs]
 unfold enc
 rw [e, List.length_append]; have h3 : (enc (.mk false a []) ++ (enc (.mk false b []) ++ [])).length ≤ 700000 := by simp only [List.length_append, List.length_nil]; omega
 have := hdr_9 192 (enc (.mk false a []) ++ (enc (.mk false b []) ++ [])).length (by omega); omega
theorem encS_len (s : Shp) (h : isS s = true) (hp : s.2.1.length ≤ 1048576) : (enc (itS s)).length ≤ 1048576 := by
 obtain ⟨kk, p, v, ks⟩ := s; dsimp only at hp; have ht : ∀ leaf, (jl (tg p leaf)).length ≤ 600000 := fun leaf => by
  have h1 := jl_ln (tg p leaf); have h2 := tg_len p leaf; omega
 unfold itS
 dsimp only
 by_cases k1 : kk = 1
 ·subst k1; rw [if_pos rfl]; have e0 : isS (1, p, v, ks) = (pb p && (decide (0 < v.length) && decide (v.length ≤ 1024))) := rfl; rw [e0] at h; simp only [Bool.and_eq_true, decide_eq_true_iff] at h; exact enc_two _ _ (ht true) h.2.2
 rw [if_neg k1]; by_cases k2 : kk = 2
 ·subst k2; rw [if_pos rfl]; have e0 : isS (2, p, v, ks) = (decide (0 < p.length) && (pb p && (decide (ks.length = 1) && decide ((ks.getD 0 []).length = 32)))) := rfl; rw [e0] at h; simp only [Bool.and_eq_true, decide_eq_true_iff] at h; exact enc_two _ _ (ht false) (by omega)
 rw [if_neg k2]; by_cases k3 : kk = 3
 ·subst k3; rw [if_pos rfl]; have e0 : isS (3, p, v, ks) = (decide (ks.length = 16) && (decide (v.length ≤ 1024) && (ks.all sm && decide (2 ≤ np (ks ++ [v]))))) := rfl; rw [e0] at h; simp only [Bool.and_eq_true, decide_eq_true_iff, List.all_eq_true] at h; have h1 := encs_texts (ks ++ [v]) (fun t ht => by
   rcases List.mem_append.1 ht with ht | ht
   ·have := h.2.2.1 t ht; unfold sm at this
    simp at this
    rcases this with this | this
    ·rw [this]; simp
    ·omega
   ·rw [List.mem_singleton.1 ht]; exact h.2.1)
  rw [List.length_append, h.1, List.length_singleton] at h1; unfold enc
  rw [List.length_append]; have := hdr_9 192 (encs ((ks ++ [v]).map fun b => .mk false b [])).length (by omega)
  omega
 ·rw [if_neg k3]; have := enc_t9 [] [] (by simp); simp at this
  omega
end Rs
end Go.Proofs.Ytlbdaccmnpcccaa
namespace Go.Proofs.Ytlbdaccmnpcccaa
namespace Rs
open Nb Sp Pk Go.RowKit
def hc (s : Shp) : List UInt8 := if isS s then enc (itS s) else []
def he (s : Shp) : Int := if isS s then 0 else 1
set_option maxHeartbeats 2000000 in
set_option maxRecDepth 100000 in
theorem hcode_walk (kk : Int) (a1 a2 a3 : Option Addr) (n1 c1 n2 c2 n3 c3 : Nat) (w : World) (R : Bool) (t : It) (ht : Hid (R = true → (enc t).length ≤ 1048576))
  (KS : Hid (∀ wx : World, Below w.heap.size w wx → Calls Try.prog 37 #[.agg #[.int .i64 kk, .slice a1 n1 c1, .slice a2 n2 c2, .slice a3 n3 c3]] wx fun e w' => ∃ v, e = .returned (.tuple #[v3 v, .bool R]) ∧ (R = true → Iv (fun _ => True) w' t v) ∧ Below wx.heap.size wx w' ∧ Fm v)) :
  Calls Try.prog 25 #[.agg #[.int .i64 kk, .slice a1 n1 c1, .slice a2 n2 c2, .slice a3 n3 c3]] w fun e w' => ∃ v, e = .returned (.tuple #[v, .int .i64 (if R then 0 else 1)]) ∧ Sl (if R then enc t else []) v w' ∧ Below w.heap.size w w' := by
 have HB : Hid (Below w.heap.size w (w.alloc (.cells #[.int .i64 kk, .slice a1 n1 c1, .slice a2 n2 c2, .slice a3 n3 c3] 34))) := (Below.refl _ _).alloc (Nat.le_refl _) _; go_enter Try.func25, Try.ntmps25
 go_wp2_with fail
 refine (KS.out _ HB.out).mono ?_; rintro e w1 ⟨v, rfl, hiv, hb, l, b1, m1, d1, b2, m2, d2, rfl⟩; have HL1 : Hid (Below w.heap.size w w1) := HB.out.trans (hb.mono HB.out.size); cases R with
 | false =>
  have HL2 : Hid (Below w.heap.size w (w1.alloc (.cells #[.bool l, .slice b1 m1 d1, .slice b2 m2 d2] 59))) := HL1.out.alloc HL1.out.size _; clear hiv hb KS HB HL1 ht; dsimp only [v3]; go_wp2_with fail
  go_ret2
  exact ⟨_, rfl, Sl_nil _, HL2.out⟩
 | true =>
  have bA : Below w1.heap.size w1 (w1.alloc (.cells #[.bool l, .slice b1 m1 d1, .slice b2 m2 d2] 59)) := (Below.refl _ _).alloc (Nat.le_refl _) _; have HL2 : Hid (Below w.heap.size w (w1.alloc (.cells #[.bool l, .slice b1 m1 d1, .slice b2 m2 d2] 59))) := HL1.out.alloc HL1.out.size _; have KE : Hid (Calls Try.prog 38 #[.agg #[.bool l, .slice b1 m1 d1, .slice b2 m2 d2]] (w1.alloc (.cells #[.bool l, .slice b1 m1 d1, .slice b2 m2 d2] 59)) fun e w' => ∃ v, e = .returned v ∧ Sl (enc t) v w' ∧ Below w.heap.size w w') :=
   (pencode_any (wf_any t) (ht.out rfl) (fun _ => True) (.bool l, .slice b1 m1 d1, .slice b2 m2 d2) _ (Iv_below (hiv rfl) bA)).mono fun e w' he => by
    obtain ⟨v, h1, h2, h3⟩ := he; exact ⟨v, h1, h2, HL2.out.trans (h3.mono HL2.out.size)⟩
  clear hiv hb KS HB HL1 ht bA HL2; dsimp only [v3]; go_wp2_with fail
  refine KE.out.mono ?_; rintro e w3 ⟨v, rfl, h2, h3⟩; have HZ : Hid (Sl (enc t) v w3 ∧ Below w.heap.size w w3) := ⟨h2, h3⟩; clear h2 h3 KE; go_wp2_with fail
  go_ret2
  exact ⟨_, rfl, HZ.out.1, HZ.out.2⟩
theorem hcode_any (s : Shp) (x : V4) (w : World) (h : Sh s x w) (hp : s.2.1.length ≤ 4194300) (hE : isS s = true → (enc (itS s)).length ≤ 1048576) :
  Calls Try.prog 25 #[v4 x] w fun e w' => ∃ v, e = .returned (.tuple #[v, .int .i64 (he s)]) ∧ Sl (hc s) v w' ∧ Below w.heap.size w w' := by
 obtain ⟨a1, c1, a2, c2, a3, c3, e⟩ := Sh_form h; have KS := fun (wx : World) (hb : Below w.heap.size w wx) => shapeitem_any s x wx (Sh_below h hb) hp
 subst e; exact hcode_walk s.1 a1 a2 a3 _ c1 _ c2 _ c3 w (isS s) (itS s) hE (fun wx hb => (KS wx hb).mono fun e w' hh => by
  obtain ⟨v, h1, h2, h3⟩ := hh; exact ⟨v, h1, h2, h3⟩)
end Rs
end Go.Proofs.Ytlbdaccmnpcccaa
namespace Go.Proofs.Ytlbdaccmnpcccaa
namespace Rs
open Nb Sp Pk Go.RowKit
structure KV (ks : List It) (a : Option Addr) (n : Nat) (w : World) (hs : List Value) : Prop where
 e : n = ks.length
 h : Hds (ks.map txt) hs w
 c : 0 < n → ∃ g off, a = some ⟨g, off, none⟩ ∧ g < w.heap.size ∧ ∀ j, j < n → ∃ x1 y1 x2 m2 y2, hs.getD j undef = .slice x1 (txt (ks.getD j It.no)).length y1 ∧ w.cell? ⟨g, off + j * 3, none⟩ = some (.bool (isL (ks.getD j It.no))) ∧ w.cell? ⟨g, off + j * 3 + 1, none⟩ = some (.slice x1 (txt (ks.getD j It.no)).length y1) ∧ w.cell? ⟨g, off + j * 3 + 2, none⟩ = some (.slice x2 m2 y2)
theorem iv_top {S : Nat → Prop} {w : World} {t : It} {v : V3} (h : Iv S w t v) : v.1 = .bool (isL t) ∧ Ty S (txt t) v.2.1 w := by
 cases h with
 | mk l b ks tv kv vs ht hl hk hi => exact ⟨rfl, ht⟩
theorem iv_kids {S : Nat → Prop} {w : World} {t : It} {v : V3} (h : Iv S w t v) : ∃ a1 c1 a n c hs, v = (.bool (isL t), .slice a1 (txt t).length c1, .slice a n c) ∧ KV (kds t) a n w hs := by
 cases h with
 | mk l b ks tv kv vs ht hl hk hi =>
  obtain ⟨a1, c1, rfl, _⟩ := ht; obtain ⟨a, c, rfl, _, hq⟩ := hk; have hf : ∀ j, j < ks.length → ∃ x1 y1 x2 m2 y2, vs.getD j n3 = (.bool (isL (ks.getD j It.no)), .slice x1 (txt (ks.getD j It.no)).length y1, .slice x2 m2 y2) ∧ Sl (txt (ks.getD j It.no)) (.slice x1 (txt (ks.getD j It.no)).length y1) w := fun j hj => by
   have iv := hi j hj; obtain ⟨l', b1, m1, q1, b2, m2, q2, ev⟩ := Iv_form iv; obtain ⟨e1, e2⟩ := iv_top iv; have e3 := Ty_sl e2; rw [ev] at e1 e3; obtain ⟨x1, y1, e4⟩ := Sl_fm e3; dsimp only at e1 e4 e3; rw [e4] at e3; exact ⟨x1, y1, b2, m2, q2, by rw [ev, e1, e4], e3⟩
  have eh : ∀ j, j < ks.length → (vs.map fun x => x.2.1).getD j undef = (vs.getD j n3).2.1 := fun j hj => by
   simp [List.getD_eq_getElem?_getD, List.getElem?_map, List.getElem?_eq_getElem (hl ▸ hj)]
  have et : ∀ j, j < ks.length → (ks.map txt).getD j [] = txt (ks.getD j It.no) := fun j hj => by
   simp [List.getD_eq_getElem?_getD, List.getElem?_map, List.getElem?_eq_getElem hj]
  have ek : kds (.mk l b ks) = ks := rfl; rw [ek]; refine ⟨a1, c1, a, vs.length, c, vs.map fun x => x.2.1, rfl, hl, ⟨by rw [List.length_map, List.length_map, hl], fun j hj => ?_⟩, fun h0 => ?_⟩
  ·rw [List.length_map] at hj; obtain ⟨x1, y1, x2, m2, y2, e1, e2⟩ := hf j hj; rw [et j hj, eh j hj, e1]; exact e2
  ·obtain ⟨g, off, rfl, _, hg, hc⟩ := hq h0; refine ⟨g, off, rfl, hg, fun j hj => ?_⟩
   obtain ⟨x1, y1, x2, m2, y2, e1, e2⟩ := hf j (by show j < ks.length; omega)
   obtain ⟨k0, k1, k2⟩ := hc j hj; rw [e1] at k0 k1 k2; rw [Nat.mul_comm 3 j] at k0 k1 k2; exact ⟨x1, y1, x2, m2, y2, by rw [eh j (by show j < ks.length; omega), e1], k0, k1, k2⟩
theorem own_cap {B e z n m c : Nat} {a : Option Addr} {xs : List Value} {w : World} (h : w.ownsRow B e z (.slice a m c) n xs) : m ≤ c := by
 rcases h.2 with ⟨h3, _⟩ | ⟨g, cap, cur, h3, _, _, h6, _⟩
 ·injection h3 with _ h4 h5; omega
 ·injection h3 with _ h4 h5; omega
theorem rf_own {B n : Nat} {v : Value} {xs : List Value} {w : World} {e z : Nat} (h : w.ownsRow B e z v n xs) : Rf B v := fun a ha => (h.lt a ha).1
set_option maxHeartbeats 2000000 in
set_option maxRecDepth 100000 in
theorem textsof_walk (ks : List It) (B0 : Bool) (a1 a : Option Addr) (n1 c1 n c : Nat) (hs : List Value) (w : World) (hz : Hid (n ≤ 1048576)) (hk : Hid (KV ks a n w hs)) (R : Bool) (hR : Hid (R = ks.all fun k => !isL k)) :
  Calls Try.prog 42 #[.agg #[.bool B0, .slice a1 n1 c1, .slice a n c]] w fun e w' => ∃ x m y, e = .returned (.tuple #[.slice x m y, .bool R]) ∧ (R = true → Ls (ks.map txt) (.slice x m y) w' ∧ Rf w.heap.size (.slice x m y) ∧ m ≤ y) ∧ Below w.heap.size w w' := by
 have l0 : Below w.heap.size w (w.alloc (.cells #[.bool B0, .slice a1 n1 c1, .slice a n c] 59)) := (Below.refl _ _).alloc (Nat.le_refl _) _; have HN : Hid (n = ks.length) := hk.out.e; have HL : Hid (hs.length = n) := by show _ = _; rw [hk.out.h.l, List.length_map]; exact HN.out.symm
 go_enter Try.func42, Try.ntmps42
 go_wp2_with fail
 generalize w.alloc (.cells #[.bool B0, .slice a1 n1 c1, .slice a n c] 59) = W0 at *; obtain ⟨b, eb⟩ : ∃ b, b = w.heap.size := ⟨_, rfl⟩; have EB : Hid (b = w.heap.size) := eb; have L0 : Hid (Below w.heap.size w W0) := l0; rw [← eb]; clear eb l0; go_loopw [4, 10] (fun v i wr => ∃ k : Nat, k ≤ n ∧ i = .int .i64 (k : Int) ∧ Hid ((∀ j, j < k → isL (ks.getD j It.no) = false) ∧ wr.ownsRow w.heap.size 24 1 v (hs.take k).length (hs.take k) ∧ Below w.heap.size w wr)) (fun _ i _ => ((n : Int) - intOf i).toNat)
 case atStart => exact ⟨0, Nat.zero_le _, rfl, fun j hj => absurd hj (by omega), World.ownsRow_nil _ _ _ _, L0.out⟩
 case round =>
  obtain ⟨k, hk1, rfl, HI⟩ := hrel; obtain ⟨ak, nk, ck, rfl⟩ := own_form HI.out.2.1; by_cases h1 : k < n
  ·have d0 : (k : Int) < (n : Int) := by omega
   have d1 : (0 : Int) ≤ (k : Int) := by omega
   have hw := Nb.stp k (by have := hz.out; show _ ≤ _; omega)
   obtain ⟨g, off, rfl, hg, hc⟩ := hk.out.c (by omega); obtain ⟨x1, y1, x2, m2, y2, e1, k0, k1, k2⟩ := hc k h1; have r0 := (HI.out.2.2.cell (p := ⟨g, off + k * 3, none⟩) hg).trans k0; have r1 := (HI.out.2.2.cell (p := ⟨g, off + k * 3 + 1, none⟩) hg).trans k1; have r2 := (HI.out.2.2.cell (p := ⟨g, off + k * 3 + 2, none⟩) hg).trans k2; have HK1 : Hid (k < n) := h1; have hkh : k < hs.length := by have := HL.out; omega
   have HTK : Hid (hs.take (k + 1) = hs.take k ++ [.slice x1 (txt (ks.getD k It.no)).length y1]) := by
    show _ = _
    rw [List.take_add_one, List.getElem?_eq_getElem hkh]; have : hs[k] = .slice x1 (txt (ks.getD k It.no)).length y1 := by rw [← e1, List.getD_eq_getElem?_getD, List.getElem?_eq_getElem hkh]; rfl
    rw [this]; rfl
   clear hg hc k0 k1 k2 e1 hkh; generalize (txt (ks.getD k It.no)).length = mk at *; cases hl : isL (ks.getD k It.no) with
   | true =>
    rw [hl] at r0; have HRF : Hid (R = false) := by
     show _ = _
     rw [hR.out, List.all_eq_false]; have hkl : k < ks.length := by have := HN.out; omega
     refine ⟨ks[k], List.getElem_mem _, ?_⟩; have : ks.getD k It.no = ks[k] := by rw [List.getD_eq_getElem?_getD, List.getElem?_eq_getElem hkl]; rfl
     rw [← this, hl]; decide
    have LA : Hid (Below w.heap.size w (wr.alloc (.cells #[.bool true, .slice x1 mk y1, .slice x2 m2 y2] 59))) := HI.out.2.2.alloc HI.out.2.2.size _; clear HI hl HTK; go_wp2_with fail
    go_ret2
    exact ⟨_, _, _, by rw [HRF.out]; rfl, by rw [HRF.out]; nofun, LA.out⟩
   | false =>
    rw [hl] at r0; have HF : Hid (∀ j, j < k + 1 → isL (ks.getD j It.no) = false) := fun j hj => by
     by_cases e2 : j = k
     ·subst e2; exact hl
     ·exact HI.out.1 j (by omega)
    have bA : Below wr.heap.size wr (wr.alloc (.cells #[.bool false, .slice x1 mk y1, .slice x2 m2 y2] 59)) := (Below.refl _ _).alloc (Nat.le_refl _) _; have hs1 : (wr.alloc (.cells #[.bool false, .slice x1 mk y1, .slice x2 m2 y2] 59)).heap.size = wr.heap.size + 1 := by simp
    have bB : Below wr.heap.size wr ((wr.alloc (.cells #[.bool false, .slice x1 mk y1, .slice x2 m2 y2] 59)).alloc (.cells #[.slice x1 mk y1] 24)) := bA.alloc (by omega) _; have hnw := heap_alloc_new (wr.alloc (.cells #[.bool false, .slice x1 mk y1, .slice x2 m2 y2] 59)) (.cells #[.slice x1 mk y1] 24); rw [hs1] at hnw; have oB : ((wr.alloc (.cells #[.bool false, .slice x1 mk y1, .slice x2 m2 y2] 59)).alloc (.cells #[.slice x1 mk y1] 24)).ownsRow w.heap.size 24 1 (.slice ak nk ck) (hs.take k).length (hs.take k) := (HI.out.2.1.alloc _).alloc _; have vB : Vl [.slice x1 mk y1] (.slice (some ⟨wr.heap.size + 1, 0, none⟩) 1 1) ((wr.alloc (.cells #[.bool false, .slice x1 mk y1, .slice x2 m2 y2] 59)).alloc (.cells #[.slice x1 mk y1] 24)) := ⟨_, 1, rfl, fun _ => ⟨_, 0, rfl, by simp, fun j hj => by
     have : j = 0 := by simp at hj; omega
     subst this; simp only [World.cell?, hnw]; rfl⟩⟩
    have hbw := HI.out.2.2.size; obtain ⟨v', w', hap, ho', hb'⟩ := appv_r (ys := [.slice x1 mk y1]) 25 oB vB (fun u hu => by rw [List.mem_singleton.1 hu]; rfl) (by have := bB.size; omega) (by rw [List.length_take]; have := hz.out; simp; omega)
    rw [← HTK.out] at ho'; obtain ⟨ak2, nk2, ck2, rfl⟩ := own_form ho'; have HI7 : Hid ((∀ j, j < k + 1 → isL (ks.getD j It.no) = false) ∧ w'.ownsRow w.heap.size 24 1 (.slice ak2 nk2 ck2) (hs.take (k + 1)).length (hs.take (k + 1)) ∧ Below w.heap.size w w') := ⟨HF.out, ho', (HI.out.2.2.trans (bB.mono hbw)).trans hb'⟩; clear HI hl HTK HF bA bB hs1 hnw oB vB hbw ho' hb'; go_wp2_with (at_builtin; refine wpList_apw rfl rfl rfl rfl hap ?_)
    have hw := hw.out; go_roundw
    case rel => exact ⟨k + 1, HK1.out, Nb.step_v k _ hw, HI7⟩
    case measure => exact Nb.msr k n HK1.out _ hw
  ·have hkl : k = n := by omega
   subst hkl; have ex : Hid (hs.take k = hs) := by show _ = _; rw [← HL.out, List.take_length]
   have HT : Hid (R = true) := by
    show _ = _
    rw [hR.out, List.all_eq_true]; intro x hx; obtain ⟨j, hj, rfl⟩ := List.mem_iff_getElem.1 hx; have := HI.out.1 j (by have := HN.out; omega)
    rw [List.getD_eq_getElem?_getD, List.getElem?_eq_getElem hj] at this; simpa using this
   have ho := HI.out.2.1; rw [ex.out] at ho; have HZ : Hid (Ls (ks.map txt) (.slice ak nk ck) wr ∧ (Rf w.heap.size (.slice ak nk ck) ∧ nk ≤ ck) ∧ Below w.heap.size w wr) := ⟨own_ls ho (Hds_below hk.out.h HI.out.2.2), ⟨rf_own ho, own_cap ho⟩, HI.out.2.2⟩; clear HI ho ex; go_wp2_with fail
   go_ret2
   exact ⟨_, _, _, by rw [HT.out]; rfl, fun _ => ⟨HZ.out.1, HZ.out.2.1⟩, HZ.out.2.2⟩
end Rs
end Go.Proofs.Ytlbdaccmnpcccaa
namespace Go.Proofs.Ytlbdaccmnpcccaa
namespace Rs
open Nb Sp Pk Go.RowKit RI RH
theorem upv_stS {K : Value → World → Prop} {a : Act} {o : Oper} {x y : Operand} {G : Nat} {k : Int} {a1 a2 a3 : Option Addr} {n1 c1 n2 c2 n3 c3 : Nat} {w : World} (ho : o.op = .store 34 x y) (hx : a.eval x = .pointer (some ⟨G, 0, none⟩)) (hy : a.eval y = .agg #[.int .i64 k, .slice a1 n1 c1, .slice a2 n2 c2, .slice a3 n3 c3]) (hB : BS G w)
  (h : ∀ w', w.grownBy w' (some G) → w'.cell? ⟨G, 0, none⟩ = some (.int .i64 k) → w'.cell? ⟨G, 1, none⟩ = some (.slice a1 n1 c1) → w'.cell? ⟨G, 2, none⟩ = some (.slice a2 n2 c2) → w'.cell? ⟨G, 3, none⟩ = some (.slice a3 n3 c3) → K undef w') : RS.upv Try.prog K ((execOp a.eval o).run Try.prog w) := by
 have ht : w.there G 0 4 := fun j hj => by rw [Nat.zero_add]; exact ⟨hB.c j hj, hB.f j⟩
 have hs := World.rangeAt_setCells_same w G 0 [.int .i64 k, .slice a1 n1 c1, .slice a2 n2 c2, .slice a3 n3 c3] ht; unfold execOp
 simp only [ho, hx, hy, Instr.storeAt, Instr.sureAddr, Sem.run_bind, Sem.run_pure, Result.andThen_ok, run_storeVar_mid w G 0 34 #[.int .i64 k, .slice a1 n1 c1, .slice a2 n2 c2, .slice a3 n3 c3] ht infoSh (all_oneCell_toArray (cs := [.int .i64 k, .slice a1 n1 c1, .slice a2 n2 c2, .slice a3 n3 c3]) (fun v hv => by simp only [List.mem_cons, List.not_mem_nil, or_false] at hv; rcases hv with rfl | rfl | rfl | rfl <;> rfl))]
 exact h _ (Pk.gb_sets G _ 0 w) (hs 0 _ rfl) (hs 1 _ rfl) (hs 2 _ rfl) (hs 3 _ rfl)
structure S2 (W0 : World) (G : Nat) (d : Nat → Bool) (U : Nat → Value) (wx : World) : Prop where
 b : W0.grownBy wx (some G)
 x : d 5 = false → BS G wx
 z : d 5 = true → wx.cell? ⟨G, 0, none⟩ = some (.int .i64 0) ∧ wx.cell? ⟨G, 1, none⟩ = some (.slice none 0 0) ∧ wx.cell? ⟨G, 2, none⟩ = some (.slice none 0 0) ∧ wx.cell? ⟨G, 3, none⟩ = some (.slice none 0 0)
theorem S2.keep {W0 : World} {G i : Nat} {d : Nat → Bool} {U : Nat → Value} {wx : World} (hi : i ≠ 5) (h : S2 W0 G d U wx) : S2 W0 G (don d i) U wx := by
 have e : don d i 5 = d 5 := don_other _ _ _ (fun e => hi e.symm)
 exact ⟨h.b, by rw [e]; exact h.x, by rw [e]; exact h.z⟩
structure T5 (w1 : World) (B : Bool) (G : V4 → World → Prop) (d : Nat → Bool) (U : Nat → Value) (wx : World) : Prop where
 b : Below w1.heap.size w1 wx
 p : d 6 = true → ∃ v, U 6 = .tuple #[v4 v, .bool B] ∧ G v wx ∧ (d 7 = true → U 7 = v4 v) ∧ (d 8 = true → U 8 = .bool B)
 q7 : d 7 = true → d 6 = true
 q8 : d 8 = true → d 6 = true
theorem T5.keep {w1 : World} {B : Bool} {G : V4 → World → Prop} {i : Nat} {d : Nat → Bool} {U : Nat → Value} {wx : World} (hi : i ≠ 6 ∧ i ≠ 7 ∧ i ≠ 8) (h : T5 w1 B G d U wx) : T5 w1 B G (don d i) U wx := by
 have e6 : don d i 6 = d 6 := don_other _ _ _ (fun e => hi.1 e.symm)
 have e7 : don d i 7 = d 7 := don_other _ _ _ (fun e => hi.2.1 e.symm)
 have e8 : don d i 8 = d 8 := don_other _ _ _ (fun e => hi.2.2 e.symm)
 exact ⟨h.b, by rw [e6, e7, e8]; exact h.p, by rw [e7, e6]; exact h.q7, by rw [e8, e6]; exact h.q8⟩
theorem uV_o (U : Nat → Value) {i j : Nat} (x : Value) (h : j ≠ i) : updU U i x j = U j := by unfold updU; rw [if_neg h]
theorem uV_s (U : Nat → Value) (i : Nat) (x : Value) : updU U i x i = x := by simp [updU]
theorem T5.call {w1 w' : World} {B : Bool} {G : V4 → World → Prop} {d : Nat → Bool} {U : Nat → Value} {wx : World} (h : T5 w1 B G d U wx) (h6 : d 6 = false) (v : V4) (hb : Below wx.heap.size wx w') (hG : G v w') : T5 w1 B G (don d 6) (updU U 6 (.tuple #[v4 v, .bool B])) w' := by
 have e7 : don d 6 7 = false := by
  rw [don_other _ _ _ (by decide)]; cases e : d 7
  ·rfl
  ·have := h.q7 e; rw [h6] at this; cases this
 have e8 : don d 6 8 = false := by
  rw [don_other _ _ _ (by decide)]; cases e : d 8
  ·rfl
  ·have := h.q8 e; rw [h6] at this; cases this
 exact ⟨h.b.trans (hb.mono h.b.size), fun _ => ⟨v, uV_s _ _ _, hG, (fun k => by rw [e7] at k; cases k), (fun k => by rw [e8] at k; cases k)⟩, fun _ => don_same _ _, fun _ => don_same _ _⟩
theorem T5.t7 {w1 : World} {B : Bool} {G : V4 → World → Prop} {d : Nat → Bool} {U : Nat → Value} {wx : World} (h : T5 w1 B G d U wx) (h6 : d 6 = true) (v : V4) (hv : U 6 = .tuple #[v4 v, .bool B]) : T5 w1 B G (don d 7) (updU U 7 (v4 v)) wx := by
 have e6 : don d 7 6 = d 6 := don_other _ _ _ (by decide); have e8 : don d 7 8 = d 8 := don_other _ _ _ (by decide); obtain ⟨v', k1, k2, k3, k4⟩ := h.p h6; have ev : v4 v' = v4 v := by rw [hv] at k1; injection k1 with k1; injection k1 with k1; injection k1 with k1 _; exact k1.symm
 refine ⟨h.b, fun _ => ⟨v', by rw [uV_o _ _ (by decide)]; exact k1, k2, fun _ => by rw [uV_s, ev], ?_⟩, fun _ => by rw [e6]; exact h6, by rw [e8, e6]; exact h.q8⟩
 rw [e8, uV_o _ _ (by decide)]; exact k4
theorem T5.t8 {w1 : World} {B : Bool} {G : V4 → World → Prop} {d : Nat → Bool} {U : Nat → Value} {wx : World} (h : T5 w1 B G d U wx) (h6 : d 6 = true) : T5 w1 B G (don d 8) (updU U 8 (.bool B)) wx := by
 have e6 : don d 8 6 = d 6 := don_other _ _ _ (by decide); have e7 : don d 8 7 = d 7 := don_other _ _ _ (by decide); obtain ⟨v', k1, k2, k3, k4⟩ := h.p h6; refine ⟨h.b, fun _ => ⟨v', by rw [uV_o _ _ (by decide)]; exact k1, k2, ?_, fun _ => uV_s _ _ _⟩, by rw [e7, e6]; exact h.q7, fun _ => by rw [e6]; exact h6⟩
 rw [e7, uV_o _ _ (by decide)]; exact k3
set_option maxHeartbeats 4000000 in
set_option maxRecDepth 100000 in
theorem so_text (a1 a : Option Addr) (n1 c1 n c : Nat) (w : World) (o : Option Shp) (ho : Hid (o = if n1 = 0 then some zS else none)) :
  Calls Try.prog 31 #[.agg #[.bool false, .slice a1 n1 c1, .slice a n c]] w (PS w o) := by
 have l0 : Below w.heap.size w ((w.alloc (.cells #[.bool false, .slice a1 n1 c1, .slice a n c] 59)).alloc (.cells #[.int .i64 0, .slice none 0 0, .slice none 0 0, .slice none 0 0] 34)) := ((Below.refl _ _).alloc (Nat.le_refl _) _).alloc (by simp) _; have hs1 : (w.alloc (.cells #[.bool false, .slice a1 n1 c1, .slice a n c] 59)).heap.size = w.heap.size + 1 := by simp
 have x0 : BS (w.heap.size + 1) ((w.alloc (.cells #[.bool false, .slice a1 n1 c1, .slice a n c] 59)).alloc (.cells #[.int .i64 0, .slice none 0 0, .slice none 0 0, .slice none 0 0] 34)) := hs1 ▸ BS_new (w.alloc (.cells #[.bool false, .slice a1 n1 c1, .slice a n c] 59)); have HA := heap_alloc_new w (.cells #[.bool false, .slice a1 n1 c1, .slice a n c] 59); have bB : Below (w.heap.size + 1) (w.alloc (.cells #[.bool false, .slice a1 n1 c1, .slice a n c] 59)) ((w.alloc (.cells #[.bool false, .slice a1 n1 c1, .slice a n c] 59)).alloc (.cells #[.int .i64 0, .slice none 0 0, .slice none 0 0, .slice none 0 0] 34)) := (Below.refl _ _).alloc (by omega) _; have q0 : ((w.alloc (.cells #[.bool false, .slice a1 n1 c1, .slice a n c] 59)).alloc (.cells #[.int .i64 0, .slice none 0 0, .slice none 0 0, .slice none 0 0] 34)).cell? ⟨w.heap.size, 0, none⟩ = some (.bool false) := (bB.cell (p := ⟨w.heap.size, 0, none⟩) (by show w.heap.size < _; omega)).trans (by simp only [World.cell?, HA]; rfl)
 have q1 : ((w.alloc (.cells #[.bool false, .slice a1 n1 c1, .slice a n c] 59)).alloc (.cells #[.int .i64 0, .slice none 0 0, .slice none 0 0, .slice none 0 0] 34)).cell? ⟨w.heap.size, 1, none⟩ = some (.slice a1 n1 c1) := (bB.cell (p := ⟨w.heap.size, 1, none⟩) (by show w.heap.size < _; omega)).trans (by simp only [World.cell?, HA]; rfl)
 have q2 : ((w.alloc (.cells #[.bool false, .slice a1 n1 c1, .slice a n c] 59)).alloc (.cells #[.int .i64 0, .slice none 0 0, .slice none 0 0, .slice none 0 0] 34)).cell? ⟨w.heap.size, 2, none⟩ = some (.slice a n c) := (bB.cell (p := ⟨w.heap.size, 2, none⟩) (by show w.heap.size < _; omega)).trans (by simp only [World.cell?, HA]; rfl)
 have hsz : ((w.alloc (.cells #[.bool false, .slice a1 n1 c1, .slice a n c] 59)).alloc (.cells #[.int .i64 0, .slice none 0 0, .slice none 0 0, .slice none 0 0] 34)).heap.size = w.heap.size + 2 := by simp
 clear HA bB hs1; go_enter Try.func31, Try.ntmps31
 go_upto_region 1 with fail
 generalize ((w.alloc (.cells #[.bool false, .slice a1 n1 c1, .slice a n c] 59)).alloc (.cells #[.int .i64 0, .slice none 0 0, .slice none 0 0, .slice none 0 0] 34)) = W0 at *; obtain ⟨h, eh⟩ : ∃ h, h = w.heap.size := ⟨_, rfl⟩; have EH : Hid (h = w.heap.size) := eh; have L0 : Hid (Below w.heap.size w W0) := l0; have X0 : Hid (BS (h + 1) W0) := eh ▸ x0; have HSZ : Hid (W0.heap.size = h + 2) := by show _ = _; rw [eh]; exact hsz
 rw [← eh] at q0 q1 q2 ⊢; clear eh l0 x0 hsz; have Q1 : Hid (W0.cell? ⟨h, 1, none⟩ = some (.slice a1 n1 c1)) := q1; obtain ⟨D, hD⟩ : ∃ D, D = decide (n1 = 0) := ⟨_, rfl⟩; have HD : Hid (D = decide (n1 = 0)) := hD; have hD2 : ((n1 : Int) == 0) = D := by
  rw [hD, Bool.eq_iff_iff]; simp
 clear hD; go_upto_region 2 with fail
 refine RH.wp_region_genI (S2 W0 (h + 1)) [0, 0, 0, 0, 0, 0, 0] (by kernel_rfl) (by kernel_rfl) (⟨⟨rfl, rfl, rfl, Nat.le_refl _, fun _ _ _ => rfl⟩, fun _ => ⟨X0.out.hi, X0.out.c, X0.out.f, X0.out.n⟩, nofun⟩) ?_
 dsimp only [List.toList_toArray]
 iterate 2
  refine RH.goD (v := ?_) (f' := ?_) rfl ?_ ?_ ?_; rotate_left 2
  ·intro U K d wx hI hmay hK; go_simp; exact hK _ (S2.keep (by decide) hI)
  ·intro U; simp only [Act.put, zA, zB, zC]; rfl
 refine RH.goD (v := ?_) (f' := ?_) rfl ?_ ?_ ?_; rotate_left 2
 ·intro U K d wx hI hmay hK; have y0 := (World.cell?_of_block (a := ⟨h, 1, none⟩) (hI.b.block h (by have := HSZ.out; omega) (fun e => by injection e with e; omega))).trans Q1.out
  go_simp; exact hK _ (S2.keep (by decide) hI)
 ·intro U; simp only [Act.put, zA, zB, zC]; rfl
 iterate 2
  refine RH.goD (v := ?_) (f' := ?_) rfl ?_ ?_ ?_; rotate_left 2
  ·intro U K d wx hI hmay hK; go_simp; exact hK _ (S2.keep (by decide) hI)
  ·intro U; simp only [Act.put, zA, zB, zC]; rfl
 refine RH.goD (v := ?_) (f' := ?_) rfl ?_ ?_ ?_; rotate_left 2
 ·intro U K d wx hI hmay hK; have h5 : d 5 = false := hmay.1; refine upv_stS rfl rfl rfl (hI.x h5) (fun w' g z0 z1 z2 z3 => ?_)
  exact hK _ ⟨Pk.gb_trans hI.b g, (fun k => by rw [don_same] at k; cases k), fun _ => ⟨z0, z1, z2, z3⟩⟩
 ·intro U; simp only [Act.put]; rfl
 refine RH.goD (v := ?_) (f' := ?_) rfl ?_ ?_ ?_; rotate_left 2
 ·intro U K d wx hI hmay hK; go_simp; exact hK _ (S2.keep (by decide) hI)
 ·intro U; simp only [Act.put, zA, zB, zC]; rfl
 refine RH.go_end ?_; intro d U w9 hI hall; simp +decide only [RH.tl, if_false]
 have h5 := hI.z (by rw [hall 5 (by decide)]; rfl)
 obtain ⟨z0, z1, z2, z3⟩ := h5; have g6 := hI.b; have l1 := L0.out; have l6 : Hid (Below w.heap.size w w9) := l1.trans ⟨g6.os, g6.tape, g6.output, g6.size, fun j hj => g6.block j (by have := l1.size; omega) (fun e => by injection e with e; have := EH.out; omega)⟩
 clear hI hall g6 l1; go_wp2_with fail
 refine bodyPost_ret (v := .tuple #[.agg #[.int .i64 0, .slice none 0 0, .slice none 0 0, .slice none 0 0], .bool D]) (resS2 _ _ _ (h + 1) 2 3 _ _ _ _ _ rfl rfl rfl z0 z1 z2 z3) rfl ⟨(.int .i64 0, .slice none 0 0, .slice none 0 0, .slice none 0 0), by rw [ho.out, HD.out]; by_cases e : n1 = 0 <;> simp [e, v4], fun s hs => ?_, l6.out, ⟨_, _, _, _, _, _, _, _, _, _, rfl⟩⟩
 have hs2 := ho.out; rw [hs] at hs2; by_cases e : n1 = 0
 ·rw [if_pos e] at hs2; cases hs2
  exact ⟨⟨rfl, Sl_nil _, Sl_nil _, Ls_nil' _⟩, nofun⟩
 ·rw [if_neg e] at hs2; cases hs2
set_option maxHeartbeats 4000000 in
set_option maxRecDepth 100000 in
theorem so_lists (a1 a : Option Addr) (n1 c1 n c : Nat) (w : World) (R : Bool) (l : List (List UInt8)) (KT : Hid (∀ wx : World, Below w.heap.size w wx → Calls Try.prog 42 #[.agg #[.bool true, .slice a1 n1 c1, .slice a n c]] wx fun e w' => ∃ x m y, e = .returned (.tuple #[.slice x m y, .bool R]) ∧ (R = true → Ls l (.slice x m y) w' ∧ Rf wx.heap.size (.slice x m y) ∧ m ≤ y) ∧ Below wx.heap.size wx w')) (hR : Hid (R = false)) :
  Calls Try.prog 31 #[.agg #[.bool true, .slice a1 n1 c1, .slice a n c]] w (PS w none) := by
 have l0 : Below w.heap.size w ((w.alloc (.cells #[.bool true, .slice a1 n1 c1, .slice a n c] 59)).alloc (.cells #[.int .i64 0, .slice none 0 0, .slice none 0 0, .slice none 0 0] 34)) := ((Below.refl _ _).alloc (Nat.le_refl _) _).alloc (by simp) _; have hs1 : (w.alloc (.cells #[.bool true, .slice a1 n1 c1, .slice a n c] 59)).heap.size = w.heap.size + 1 := by simp
 have x0 : BS (w.heap.size + 1) ((w.alloc (.cells #[.bool true, .slice a1 n1 c1, .slice a n c] 59)).alloc (.cells #[.int .i64 0, .slice none 0 0, .slice none 0 0, .slice none 0 0] 34)) := hs1 ▸ BS_new (w.alloc (.cells #[.bool true, .slice a1 n1 c1, .slice a n c] 59)); have HA := heap_alloc_new w (.cells #[.bool true, .slice a1 n1 c1, .slice a n c] 59); have bB : Below (w.heap.size + 1) (w.alloc (.cells #[.bool true, .slice a1 n1 c1, .slice a n c] 59)) ((w.alloc (.cells #[.bool true, .slice a1 n1 c1, .slice a n c] 59)).alloc (.cells #[.int .i64 0, .slice none 0 0, .slice none 0 0, .slice none 0 0] 34)) := (Below.refl _ _).alloc (by omega) _; have q0 : ((w.alloc (.cells #[.bool true, .slice a1 n1 c1, .slice a n c] 59)).alloc (.cells #[.int .i64 0, .slice none 0 0, .slice none 0 0, .slice none 0 0] 34)).cell? ⟨w.heap.size, 0, none⟩ = some (.bool true) := (bB.cell (p := ⟨w.heap.size, 0, none⟩) (by show w.heap.size < _; omega)).trans (by simp only [World.cell?, HA]; rfl)
 have q1 : ((w.alloc (.cells #[.bool true, .slice a1 n1 c1, .slice a n c] 59)).alloc (.cells #[.int .i64 0, .slice none 0 0, .slice none 0 0, .slice none 0 0] 34)).cell? ⟨w.heap.size, 1, none⟩ = some (.slice a1 n1 c1) := (bB.cell (p := ⟨w.heap.size, 1, none⟩) (by show w.heap.size < _; omega)).trans (by simp only [World.cell?, HA]; rfl)
 have q2 : ((w.alloc (.cells #[.bool true, .slice a1 n1 c1, .slice a n c] 59)).alloc (.cells #[.int .i64 0, .slice none 0 0, .slice none 0 0, .slice none 0 0] 34)).cell? ⟨w.heap.size, 2, none⟩ = some (.slice a n c) := (bB.cell (p := ⟨w.heap.size, 2, none⟩) (by show w.heap.size < _; omega)).trans (by simp only [World.cell?, HA]; rfl)
 have hsz : ((w.alloc (.cells #[.bool true, .slice a1 n1 c1, .slice a n c] 59)).alloc (.cells #[.int .i64 0, .slice none 0 0, .slice none 0 0, .slice none 0 0] 34)).heap.size = w.heap.size + 2 := by simp
 clear HA bB hs1; go_enter Try.func31, Try.ntmps31
 go_upto_region 1 with fail
 generalize ((w.alloc (.cells #[.bool true, .slice a1 n1 c1, .slice a n c] 59)).alloc (.cells #[.int .i64 0, .slice none 0 0, .slice none 0 0, .slice none 0 0] 34)) = W0 at *; obtain ⟨h, eh⟩ : ∃ h, h = w.heap.size := ⟨_, rfl⟩; have EH : Hid (h = w.heap.size) := eh; have L0 : Hid (Below w.heap.size w W0) := l0; have X0 : Hid (BS (h + 1) W0) := eh ▸ x0; have HSZ : Hid (W0.heap.size = h + 2) := by show _ = _; rw [eh]; exact hsz
 rw [← eh] at q0 q1 q2 ⊢; clear eh l0 x0 hsz; obtain rfl := hR.out; have L00 := L0.out; go_wp2_with fail
 refine (KT.out _ L00).mono (fun e w1 he => ?_)
 obtain ⟨x, m, y, rfl, hx, b1⟩ := he; have l1 : Below w.heap.size w w1 := L00.trans (b1.mono L00.size); have x1 : BS (h + 1) w1 := BS_gb (r := none) X0.out (gb_below b1) nofun; clear KT L00 b1 q0 q1 q2 hx; go_upto_region 8 with fail
 go_wp2_with (refine wpList_stS rfl rfl rfl rfl x1 ?_)
 intro w6 g6 z0 z1 z2 z3; have l6 : Hid (Below w.heap.size w w6) := l1.trans ⟨g6.os, g6.tape, g6.output, g6.size, fun j hj => g6.block j (by have := l1.size; omega) (fun e => by injection e with e; have := EH.out; omega)⟩
 clear g6 x1 l1; go_wp2_with fail
 exact bodyPost_ret (v := .tuple #[.agg #[.int .i64 0, .slice none 0 0, .slice none 0 0, .slice none 0 0], .bool false]) (resS2 _ _ _ (h + 1) 2 3 _ _ _ _ _ rfl rfl rfl z0 z1 z2 z3) rfl ⟨(.int .i64 0, .slice none 0 0, .slice none 0 0, .slice none 0 0), rfl, nofun, l6.out, ⟨_, _, _, _, _, _, _, _, _, _, rfl⟩⟩
set_option maxHeartbeats 4000000 in
set_option maxRecDepth 100000 in
theorem so_other (a1 a : Option Addr) (n1 c1 n c : Nat) (w : World) (R : Bool) (l : List (List UInt8)) (KT : Hid (∀ wx : World, Below w.heap.size w wx → Calls Try.prog 42 #[.agg #[.bool true, .slice a1 n1 c1, .slice a n c]] wx fun e w' => ∃ x m y, e = .returned (.tuple #[.slice x m y, .bool R]) ∧ (R = true → Ls l (.slice x m y) w' ∧ Rf wx.heap.size (.slice x m y) ∧ m ≤ y) ∧ Below wx.heap.size wx w')) (hR : Hid (R = true)) (h2 : Hid (l.length ≠ 2)) (h17 : Hid (l.length ≠ 17)) :
  Calls Try.prog 31 #[.agg #[.bool true, .slice a1 n1 c1, .slice a n c]] w (PS w none) := by
 have l0 : Below w.heap.size w ((w.alloc (.cells #[.bool true, .slice a1 n1 c1, .slice a n c] 59)).alloc (.cells #[.int .i64 0, .slice none 0 0, .slice none 0 0, .slice none 0 0] 34)) := ((Below.refl _ _).alloc (Nat.le_refl _) _).alloc (by simp) _; have hs1 : (w.alloc (.cells #[.bool true, .slice a1 n1 c1, .slice a n c] 59)).heap.size = w.heap.size + 1 := by simp
 have x0 : BS (w.heap.size + 1) ((w.alloc (.cells #[.bool true, .slice a1 n1 c1, .slice a n c] 59)).alloc (.cells #[.int .i64 0, .slice none 0 0, .slice none 0 0, .slice none 0 0] 34)) := hs1 ▸ BS_new (w.alloc (.cells #[.bool true, .slice a1 n1 c1, .slice a n c] 59)); have HA := heap_alloc_new w (.cells #[.bool true, .slice a1 n1 c1, .slice a n c] 59); have bB : Below (w.heap.size + 1) (w.alloc (.cells #[.bool true, .slice a1 n1 c1, .slice a n c] 59)) ((w.alloc (.cells #[.bool true, .slice a1 n1 c1, .slice a n c] 59)).alloc (.cells #[.int .i64 0, .slice none 0 0, .slice none 0 0, .slice none 0 0] 34)) := (Below.refl _ _).alloc (by omega) _; have q0 : ((w.alloc (.cells #[.bool true, .slice a1 n1 c1, .slice a n c] 59)).alloc (.cells #[.int .i64 0, .slice none 0 0, .slice none 0 0, .slice none 0 0] 34)).cell? ⟨w.heap.size, 0, none⟩ = some (.bool true) := (bB.cell (p := ⟨w.heap.size, 0, none⟩) (by show w.heap.size < _; omega)).trans (by simp only [World.cell?, HA]; rfl)
 have q1 : ((w.alloc (.cells #[.bool true, .slice a1 n1 c1, .slice a n c] 59)).alloc (.cells #[.int .i64 0, .slice none 0 0, .slice none 0 0, .slice none 0 0] 34)).cell? ⟨w.heap.size, 1, none⟩ = some (.slice a1 n1 c1) := (bB.cell (p := ⟨w.heap.size, 1, none⟩) (by show w.heap.size < _; omega)).trans (by simp only [World.cell?, HA]; rfl)
 have q2 : ((w.alloc (.cells #[.bool true, .slice a1 n1 c1, .slice a n c] 59)).alloc (.cells #[.int .i64 0, .slice none 0 0, .slice none 0 0, .slice none 0 0] 34)).cell? ⟨w.heap.size, 2, none⟩ = some (.slice a n c) := (bB.cell (p := ⟨w.heap.size, 2, none⟩) (by show w.heap.size < _; omega)).trans (by simp only [World.cell?, HA]; rfl)
 have hsz : ((w.alloc (.cells #[.bool true, .slice a1 n1 c1, .slice a n c] 59)).alloc (.cells #[.int .i64 0, .slice none 0 0, .slice none 0 0, .slice none 0 0] 34)).heap.size = w.heap.size + 2 := by simp
 clear HA bB hs1; go_enter Try.func31, Try.ntmps31
 go_upto_region 1 with fail
 generalize ((w.alloc (.cells #[.bool true, .slice a1 n1 c1, .slice a n c] 59)).alloc (.cells #[.int .i64 0, .slice none 0 0, .slice none 0 0, .slice none 0 0] 34)) = W0 at *; obtain ⟨h, eh⟩ : ∃ h, h = w.heap.size := ⟨_, rfl⟩; have EH : Hid (h = w.heap.size) := eh; have L0 : Hid (Below w.heap.size w W0) := l0; have X0 : Hid (BS (h + 1) W0) := eh ▸ x0; have HSZ : Hid (W0.heap.size = h + 2) := by show _ = _; rw [eh]; exact hsz
 rw [← eh] at q0 q1 q2 ⊢; clear eh l0 x0 hsz; obtain rfl := hR.out; have L00 := L0.out; go_wp2_with fail
 refine (KT.out _ L00).mono (fun e w1 he => ?_)
 obtain ⟨x, m, y, rfl, hx, b1⟩ := he; have l1 : Below w.heap.size w w1 := L00.trans (b1.mono L00.size); have x1 : BS (h + 1) w1 := BS_gb (r := none) X0.out (gb_below b1) nofun; obtain ⟨hl, hrf, hcap⟩ := hx (by trivial); obtain ⟨a0, c0, e0⟩ := Ls_form hl; have em : m = l.length := by injection e0
 have t2 : ((m : Int) == 2) = false := beq_eq_false_iff_ne.2 (by have := h2.out; omega)
 have t17 : ((m : Int) == 17) = false := beq_eq_false_iff_ne.2 (by have := h17.out; omega)
 clear KT L00 b1 q0 q1 q2 hx hl hrf e0 em hcap; go_upto_region 8 with fail
 go_wp2_with (refine wpList_stS rfl rfl rfl rfl x1 ?_)
 intro w6 g6 z0 z1 z2 z3; have l6 : Hid (Below w.heap.size w w6) := l1.trans ⟨g6.os, g6.tape, g6.output, g6.size, fun j hj => g6.block j (by have := l1.size; omega) (fun e => by injection e with e; have := EH.out; omega)⟩
 clear g6 x1 l1; go_wp2_with fail
 exact bodyPost_ret (v := .tuple #[.agg #[.int .i64 0, .slice none 0 0, .slice none 0 0, .slice none 0 0], .bool false]) (resS2 _ _ _ (h + 1) 2 3 _ _ _ _ _ rfl rfl rfl z0 z1 z2 z3) rfl ⟨(.int .i64 0, .slice none 0 0, .slice none 0 0, .slice none 0 0), rfl, nofun, l6.out, ⟨_, _, _, _, _, _, _, _, _, _, rfl⟩⟩
set_option maxHeartbeats 4000000 in
set_option maxRecDepth 100000 in
theorem so_two (a1 a : Option Addr) (n1 c1 n c : Nat) (w : World) (R : Bool) (l : List (List UInt8)) (KT : Hid (∀ wx : World, Below w.heap.size w wx → Calls Try.prog 42 #[.agg #[.bool true, .slice a1 n1 c1, .slice a n c]] wx fun e w' => ∃ x m y, e = .returned (.tuple #[.slice x m y, .bool R]) ∧ (R = true → Ls l (.slice x m y) w' ∧ Rf wx.heap.size (.slice x m y) ∧ m ≤ y) ∧ Below wx.heap.size wx w')) (hR : Hid (R = true)) (h2 : Hid (l.length = 2)) (hz : Hid ((l.getD 0 []).length ≤ 2097152)) (o : Option Shp) (ho : Hid (o = ts (l.getD 0 []) (l.getD 1 []))) :
  Calls Try.prog 31 #[.agg #[.bool true, .slice a1 n1 c1, .slice a n c]] w (PS w o) := by
 have l0 : Below w.heap.size w ((w.alloc (.cells #[.bool true, .slice a1 n1 c1, .slice a n c] 59)).alloc (.cells #[.int .i64 0, .slice none 0 0, .slice none 0 0, .slice none 0 0] 34)) := ((Below.refl _ _).alloc (Nat.le_refl _) _).alloc (by simp) _; have hs1 : (w.alloc (.cells #[.bool true, .slice a1 n1 c1, .slice a n c] 59)).heap.size = w.heap.size + 1 := by simp
 have x0 : BS (w.heap.size + 1) ((w.alloc (.cells #[.bool true, .slice a1 n1 c1, .slice a n c] 59)).alloc (.cells #[.int .i64 0, .slice none 0 0, .slice none 0 0, .slice none 0 0] 34)) := hs1 ▸ BS_new (w.alloc (.cells #[.bool true, .slice a1 n1 c1, .slice a n c] 59)); have HA := heap_alloc_new w (.cells #[.bool true, .slice a1 n1 c1, .slice a n c] 59); have bB : Below (w.heap.size + 1) (w.alloc (.cells #[.bool true, .slice a1 n1 c1, .slice a n c] 59)) ((w.alloc (.cells #[.bool true, .slice a1 n1 c1, .slice a n c] 59)).alloc (.cells #[.int .i64 0, .slice none 0 0, .slice none 0 0, .slice none 0 0] 34)) := (Below.refl _ _).alloc (by omega) _; have q0 : ((w.alloc (.cells #[.bool true, .slice a1 n1 c1, .slice a n c] 59)).alloc (.cells #[.int .i64 0, .slice none 0 0, .slice none 0 0, .slice none 0 0] 34)).cell? ⟨w.heap.size, 0, none⟩ = some (.bool true) := (bB.cell (p := ⟨w.heap.size, 0, none⟩) (by show w.heap.size < _; omega)).trans (by simp only [World.cell?, HA]; rfl)
 have q1 : ((w.alloc (.cells #[.bool true, .slice a1 n1 c1, .slice a n c] 59)).alloc (.cells #[.int .i64 0, .slice none 0 0, .slice none 0 0, .slice none 0 0] 34)).cell? ⟨w.heap.size, 1, none⟩ = some (.slice a1 n1 c1) := (bB.cell (p := ⟨w.heap.size, 1, none⟩) (by show w.heap.size < _; omega)).trans (by simp only [World.cell?, HA]; rfl)
 have q2 : ((w.alloc (.cells #[.bool true, .slice a1 n1 c1, .slice a n c] 59)).alloc (.cells #[.int .i64 0, .slice none 0 0, .slice none 0 0, .slice none 0 0] 34)).cell? ⟨w.heap.size, 2, none⟩ = some (.slice a n c) := (bB.cell (p := ⟨w.heap.size, 2, none⟩) (by show w.heap.size < _; omega)).trans (by simp only [World.cell?, HA]; rfl)
 have hsz : ((w.alloc (.cells #[.bool true, .slice a1 n1 c1, .slice a n c] 59)).alloc (.cells #[.int .i64 0, .slice none 0 0, .slice none 0 0, .slice none 0 0] 34)).heap.size = w.heap.size + 2 := by simp
 clear HA bB hs1; go_enter Try.func31, Try.ntmps31
 go_upto_region 1 with fail
 generalize ((w.alloc (.cells #[.bool true, .slice a1 n1 c1, .slice a n c] 59)).alloc (.cells #[.int .i64 0, .slice none 0 0, .slice none 0 0, .slice none 0 0] 34)) = W0 at *; obtain ⟨h, eh⟩ : ∃ h, h = w.heap.size := ⟨_, rfl⟩; have EH : Hid (h = w.heap.size) := eh; have L0 : Hid (Below w.heap.size w W0) := l0; have X0 : Hid (BS (h + 1) W0) := eh ▸ x0; have HSZ : Hid (W0.heap.size = h + 2) := by show _ = _; rw [eh]; exact hsz
 rw [← eh] at q0 q1 q2 ⊢; clear eh l0 x0 hsz; obtain rfl := hR.out; have L00 := L0.out; go_wp2_with fail
 refine (KT.out _ L00).mono (fun e w1 he => ?_)
 obtain ⟨x, m, y, rfl, hx, b1⟩ := he; have l1 : Below w.heap.size w w1 := L00.trans (b1.mono L00.size); have x1 : BS (h + 1) w1 := BS_gb (r := none) X0.out (gb_below b1) nofun; obtain ⟨hl, hrf, hcap⟩ := hx (by trivial); obtain ⟨ax, cx, ex, hL⟩ := hl; injection ex with e1 e2 e3
 subst e1 e3; rw [h2.out] at e2; subst e2; obtain ⟨g, off, rfl, hg, hc⟩ := hL (by rw [h2.out]; decide)
 obtain ⟨v0, k0, s0⟩ := hc 0 (by rw [h2.out]; decide)
 obtain ⟨v1, k1, s1⟩ := hc 1 (by rw [h2.out]; decide)
 obtain ⟨b0, d0, rfl⟩ := Sl_fm s0; obtain ⟨b2, d2, rfl⟩ := Sl_fm s1; have HG : Hid (g < w1.heap.size ∧ w1.cell? ⟨g, off, none⟩ = some (.slice b0 (l.getD 0 []).length d0) ∧ w1.cell? ⟨g, off + 1, none⟩ = some (.slice b2 (l.getD 1 []).length d2)) := ⟨hg, k0, k1⟩; have KS : Hid (∀ wx : World, Below w1.heap.size w1 wx → Calls Try.prog 43 #[.slice b0 (l.getD 0 []).length d0, .slice b2 (l.getD 1 []).length d2] wx (PS wx o)) := fun wx hb => by
  rw [ho.out]; exact tshape_any _ _ b0 b2 d0 d2 wx (Sl_below s0 hb) (Sl_below s1 hb) hz.out
 clear KT L00 b1 q0 q1 q2 hx hL hc hrf k0 k1 s0 s1 hg hcap; generalize (l.getD 0 []).length = m0 at *; generalize (l.getD 1 []).length = m1 at *; go_upto_region 5 with fail
 refine RH.wp_region_genI (T5 w1 o.isSome (fun v wx => (∀ s, o = some s → Sh s v wx ∧ Rf w1.heap.size v.2.2.2) ∧ F4 v)) [0, 0, 0, 0, 0, 0, 1, 1, 1, 2, 2] (by kernel_rfl) (by kernel_rfl) (⟨(Below.refl _ _).drew, nofun, nofun, nofun⟩) ?_
 dsimp only [List.toList_toArray]
 iterate 2
  refine RH.goD (v := ?_) (f' := ?_) rfl ?_ ?_ ?_; rotate_left 2
  ·intro U K d wx hI hmay hK; go_simp; exact hK _ (T5.keep (by decide) hI)
  ·intro U; simp only [Act.put, zA, zB, zC]; rfl
 refine RH.goD (v := ?_) (f' := ?_) rfl ?_ ?_ ?_; rotate_left 2
 ·intro U K d wx hI hmay hK; have y0 := (hI.b.cell (p := ⟨g, off, none⟩) HG.out.1).trans HG.out.2.1; go_simp; exact hK _ (T5.keep (by decide) hI)
 ·intro U; simp only [Act.put, zA, zB, zC]; rfl
 iterate 2
  refine RH.goD (v := ?_) (f' := ?_) rfl ?_ ?_ ?_; rotate_left 2
  ·intro U K d wx hI hmay hK; go_simp; exact hK _ (T5.keep (by decide) hI)
  ·intro U; simp only [Act.put, zA, zB, zC]; rfl
 refine RH.goD (v := ?_) (f' := ?_) rfl ?_ ?_ ?_; rotate_left 2
 ·intro U K d wx hI hmay hK; have y0 := (hI.b.cell (p := ⟨g, off + 1, none⟩) HG.out.1).trans HG.out.2.2; go_simp; exact hK _ (T5.keep (by decide) hI)
 ·intro U; simp only [Act.put, zA, zB, zC]; rfl
 refine RH.goN (f' := ?_) rfl ?_ ?_ ?_; rotate_left 1
 ·intro U K d wx hI hmay hK; have h6 : d 6 = false := hmay.1; go_simp; refine (KS.out _ hI.b).mono (fun e w2 he => ?_)
  obtain ⟨v, rfl, k1, k2, k3⟩ := he; refine ⟨_, rfl, ?_⟩; exact hK _ _ (T5.call hI h6 v k2 ⟨fun s hs => ⟨(k1 s hs).1, fun z hz => Nat.le_trans hI.b.size ((k1 s hs).2 z hz)⟩, k3⟩)
 ·intro U; simp only [Act.put, zA, zB, zC]; rfl
 refine RH.goN (f' := ?_) rfl ?_ ?_ ?_; rotate_left 1
 ·intro U K d wx hI hmay hK; have hd := hmay.2 _ rfl; simp [Region.binds] at hd
  obtain ⟨v, e6, _⟩ := hI.p (by simp [hd]); have hK2 := hK _ _ (T5.t7 hI (by simp [hd]) v e6); go_simp; exact hK2
 ·intro U; simp only [Act.put, zA, zB, zC]; rfl
 refine RH.goN (f' := ?_) rfl ?_ ?_ ?_; rotate_left 1
 ·intro U K d wx hI hmay hK; have hd := hmay.2 _ rfl; simp [Region.binds] at hd
  obtain ⟨v, e6, _⟩ := hI.p (by simp [hd]); have hK2 := hK _ _ (T5.t8 hI (by simp [hd])); go_simp; exact hK2
 ·intro U; simp only [Act.put, zA, zB, zC]; rfl
 iterate 2
  refine RH.goT ?_
 refine RH.go_end ?_; intro d U w9 hI hall; simp +decide only [RH.tl, if_true, if_false]
 obtain ⟨v, e6, ⟨hv, k, p1, p2, p3, p4, p5, p6, p7, p8, p9, rfl⟩, e7, e8⟩ := hI.p (by rw [hall 6 (by decide)]; rfl)
 have e7 := e7 (by rw [hall 7 (by decide)]; rfl)
 have e8 := e8 (by rw [hall 8 (by decide)]; rfl)
 have x9 : BS (h + 1) w9 := BS_gb (r := none) x1 (gb_below hI.b) nofun; have l9 : Below w.heap.size w w9 := l1.trans (hI.b.mono l1.size); have HH : Hid (h + 1 < w1.heap.size) := x1.hi; dsimp only [v4] at e7; rw [e7, e8]; generalize U 6 = U6 at *; clear hI hall x1 e6 e7 e8; go_wp2_with (refine wpList_stS rfl rfl rfl rfl x9 ?_)
 intro w6 g6 z0 z1 z2 z3; have l6 : Hid (Below w.heap.size w w6) := l9.trans ⟨g6.os, g6.tape, g6.output, g6.size, fun j hj => g6.block j (by have := l9.size; omega) (fun e => by injection e with e; have := EH.out; omega)⟩
 have S6 : Hid (∀ s, o = some s → Sh s (.int .i64 k, .slice p1 p2 p3, .slice p4 p5 p6, .slice p7 p8 p9) w6 ∧ Rf w.heap.size (.slice p7 p8 p9)) := fun s hs => ⟨Sh_gb (hv s hs).1 (BS_nb x9) (fun e => by have := (hv s hs).2 _ e; have := HH.out; omega) g6, fun z hz => by have := (hv s hs).2 z hz; have := l1.size; omega⟩
 clear g6 x9 l9 hv l1; go_wp2_with fail
 exact bodyPost_ret (v := .tuple #[.agg #[.int .i64 k, .slice p1 p2 p3, .slice p4 p5 p6, .slice p7 p8 p9], .bool o.isSome]) (resS2 _ _ _ (h + 1) 2 3 _ _ _ _ _ rfl rfl rfl z0 z1 z2 z3) rfl ⟨(.int .i64 k, .slice p1 p2 p3, .slice p4 p5 p6, .slice p7 p8 p9), rfl, S6.out, l6.out, ⟨_, _, _, _, _, _, _, _, _, _, rfl⟩⟩
set_option maxHeartbeats 4000000 in
set_option maxRecDepth 100000 in
theorem so_fork (a1 a : Option Addr) (n1 c1 n c : Nat) (w : World) (R : Bool) (l : List (List UInt8)) (KT : Hid (∀ wx : World, Below w.heap.size w wx → Calls Try.prog 42 #[.agg #[.bool true, .slice a1 n1 c1, .slice a n c]] wx fun e w' => ∃ x m y, e = .returned (.tuple #[.slice x m y, .bool R]) ∧ (R = true → Ls l (.slice x m y) w' ∧ Rf wx.heap.size (.slice x m y) ∧ m ≤ y) ∧ Below wx.heap.size wx w')) (hR : Hid (R = true)) (h2 : Hid (l.length = 17)) :
  Calls Try.prog 31 #[.agg #[.bool true, .slice a1 n1 c1, .slice a n c]] w (PS w (some (3, [], l.getD 16 [], l.take 16))) := by
 have l0 : Below w.heap.size w ((w.alloc (.cells #[.bool true, .slice a1 n1 c1, .slice a n c] 59)).alloc (.cells #[.int .i64 0, .slice none 0 0, .slice none 0 0, .slice none 0 0] 34)) := ((Below.refl _ _).alloc (Nat.le_refl _) _).alloc (by simp) _; have hs1 : (w.alloc (.cells #[.bool true, .slice a1 n1 c1, .slice a n c] 59)).heap.size = w.heap.size + 1 := by simp
 have x0 : BS (w.heap.size + 1) ((w.alloc (.cells #[.bool true, .slice a1 n1 c1, .slice a n c] 59)).alloc (.cells #[.int .i64 0, .slice none 0 0, .slice none 0 0, .slice none 0 0] 34)) := hs1 ▸ BS_new (w.alloc (.cells #[.bool true, .slice a1 n1 c1, .slice a n c] 59)); have HA := heap_alloc_new w (.cells #[.bool true, .slice a1 n1 c1, .slice a n c] 59); have bB : Below (w.heap.size + 1) (w.alloc (.cells #[.bool true, .slice a1 n1 c1, .slice a n c] 59)) ((w.alloc (.cells #[.bool true, .slice a1 n1 c1, .slice a n c] 59)).alloc (.cells #[.int .i64 0, .slice none 0 0, .slice none 0 0, .slice none 0 0] 34)) := (Below.refl _ _).alloc (by omega) _; have q0 : ((w.alloc (.cells #[.bool true, .slice a1 n1 c1, .slice a n c] 59)).alloc (.cells #[.int .i64 0, .slice none 0 0, .slice none 0 0, .slice none 0 0] 34)).cell? ⟨w.heap.size, 0, none⟩ = some (.bool true) := (bB.cell (p := ⟨w.heap.size, 0, none⟩) (by show w.heap.size < _; omega)).trans (by simp only [World.cell?, HA]; rfl)
 have q1 : ((w.alloc (.cells #[.bool true, .slice a1 n1 c1, .slice a n c] 59)).alloc (.cells #[.int .i64 0, .slice none 0 0, .slice none 0 0, .slice none 0 0] 34)).cell? ⟨w.heap.size, 1, none⟩ = some (.slice a1 n1 c1) := (bB.cell (p := ⟨w.heap.size, 1, none⟩) (by show w.heap.size < _; omega)).trans (by simp only [World.cell?, HA]; rfl)
 have q2 : ((w.alloc (.cells #[.bool true, .slice a1 n1 c1, .slice a n c] 59)).alloc (.cells #[.int .i64 0, .slice none 0 0, .slice none 0 0, .slice none 0 0] 34)).cell? ⟨w.heap.size, 2, none⟩ = some (.slice a n c) := (bB.cell (p := ⟨w.heap.size, 2, none⟩) (by show w.heap.size < _; omega)).trans (by simp only [World.cell?, HA]; rfl)
 have hsz : ((w.alloc (.cells #[.bool true, .slice a1 n1 c1, .slice a n c] 59)).alloc (.cells #[.int .i64 0, .slice none 0 0, .slice none 0 0, .slice none 0 0] 34)).heap.size = w.heap.size + 2 := by simp
 clear HA bB hs1; go_enter Try.func31, Try.ntmps31
 go_upto_region 1 with fail
 generalize ((w.alloc (.cells #[.bool true, .slice a1 n1 c1, .slice a n c] 59)).alloc (.cells #[.int .i64 0, .slice none 0 0, .slice none 0 0, .slice none 0 0] 34)) = W0 at *; obtain ⟨h, eh⟩ : ∃ h, h = w.heap.size := ⟨_, rfl⟩; have EH : Hid (h = w.heap.size) := eh; have L0 : Hid (Below w.heap.size w W0) := l0; have X0 : Hid (BS (h + 1) W0) := eh ▸ x0; have HSZ : Hid (W0.heap.size = h + 2) := by show _ = _; rw [eh]; exact hsz
 rw [← eh] at q0 q1 q2 ⊢; clear eh l0 x0 hsz; obtain rfl := hR.out; have L00 := L0.out; go_wp2_with fail
 refine (KT.out _ L00).mono (fun e w1 he => ?_)
 obtain ⟨x, m, y, rfl, hx, b1⟩ := he; have l1 : Below w.heap.size w w1 := L00.trans (b1.mono L00.size); have x1 : BS (h + 1) w1 := BS_gb (r := none) X0.out (gb_below b1) nofun; obtain ⟨hl, hrf, hcap⟩ := hx (by trivial); obtain ⟨hs, hh, hvl⟩ := ls_heads hl; obtain ⟨ax, cx, ex, hL⟩ := hl; injection ex with e1 e2 e3
 subst e1 e3; rw [h2.out] at e2; subst e2; obtain ⟨g, off, rfl, hg, hc⟩ := hL (by rw [h2.out]; decide)
 obtain ⟨v0, k0, s0⟩ := hc 16 (by rw [h2.out]; decide)
 obtain ⟨b0, d0, rfl⟩ := Sl_fm s0; have HG : Hid (g < w1.heap.size ∧ w1.cell? ⟨g, off + 16, none⟩ = some (.slice b0 (l.getD 16 []).length d0)) := ⟨hg, k0⟩; have HS0 : Hid (Sl (l.getD 16 []) (.slice b0 (l.getD 16 []).length d0) w1) := s0; have KC : Hid (∀ wx : World, Below w1.heap.size w1 wx → Calls Try.prog 44 #[.slice (some ⟨g, off, none⟩) 16 y] wx fun e w' => ∃ v, e = .returned v ∧ Ls (l.take 16) v w' ∧ Rf w1.heap.size v ∧ Below wx.heap.size wx w') := fun wx hb => by
  have hhl : hs.length = 17 := by rw [hh.l, h2.out]
  have hv16 : Vl (hs.take 16) (.slice (some ⟨g, off, none⟩) 16 y) wx := by
   obtain ⟨ao, cap, e, hV⟩ := Vl_below hvl hb; injection e with e1 _ _
   subst e1; obtain ⟨g', off', e4, hg', hc'⟩ := hV (by omega); injection e4 with e4
   injection e4 with e5 e6 _
   subst e5 e6; refine ⟨_, y, by rw [List.length_take, hhl]; rfl, fun _ => ⟨g, off, rfl, hg', fun j hj => ?_⟩⟩
   rw [List.length_take] at hj; rw [hc' j (by omega), List.getElem?_take, if_pos (by omega)]
  have hd16 : Hds (l.take 16) (hs.take 16) wx := ⟨by rw [List.length_take, List.length_take, hh.l], fun i hi => by
   rw [List.length_take] at hi; have := Sl_below (hh.s i (by omega)) hb; rw [List.getD_eq_getElem?_getD, List.getD_eq_getElem?_getD] at this ⊢; rw [List.getElem?_take, List.getElem?_take, if_pos (by omega), if_pos (by omega)]; exact this⟩
  refine (clone_any (hs.take 16) _ wx (by rw [List.length_take]; omega) (Hds_one' hd16) hv16).mono fun e w' he => ?_
  obtain ⟨v', k1, k2, k3⟩ := he; exact ⟨v', k1, own_ls k2 (Hds_below hd16 k3), fun z hz => Nat.le_trans hb.size (rf_own k2 z hz), k3⟩
 clear KT L00 b1 q0 q1 q2 hx hL hc hrf k0 s0 hg hh hvl; generalize (l.getD 16 []).length = m0 at *; have hL : RG.Lasts (fun wx => Below w1.heap.size w1 wx) (fun _ v wx => ∃ x1 m1 y1, v = .slice x1 m1 y1 ∧ Ls (l.take 16) v wx ∧ Rf w1.heap.size v) := ⟨fun _ _ h hb => h.trans (hb.mono h.size), fun _ _ _ _ h hb => by
  obtain ⟨x1, m1, y1, h1, h2, h3⟩ := h; exact ⟨x1, m1, y1, h1, Ls_below h2 hb, h3⟩⟩
 have i1 : (16 : Int) ≤ (y : Int) := by omega
 have i2 : 16 ≤ y := by omega
 go_upto_region 7 with fail
 refine RG.wp_region_gen (fun wx => Below w1.heap.size w1 wx) (fun _ v wx => ∃ x1 m1 y1, v = .slice x1 m1 y1 ∧ Ls (l.take 16) v wx ∧ Rf w1.heap.size v) (fun _ _ => True) [0, 0, 1, 0, 0, 0, 2, 2, 2] (by kernel_rfl) (by kernel_rfl) ((Below.refl _ _).drew) ?_
 dsimp only [List.toList_toArray]
 iterate 2
  refine RG.go1 (v := ?_) (a' := ?_) hL (by decide) rfl ?_ ?_ ?_; rotate_left 2
  ·intro K wx hS hK; go_simp; exact hK _ (Below.refl _ _)
  ·simp only [Act.put, zA, zB, zC]; rfl
 refine RG.goN hL rfl ?_ ?_
 ·intro K wx hS hK; go_simp; refine (KC.out _ hS).mono (fun e w2 he => ?_)
  obtain ⟨v, rfl, h1, h2, h3⟩ := he; obtain ⟨x1, y1, rfl⟩ := Ls_form h1; refine ⟨_, rfl, ?_⟩; exact hK _ _ h3 ⟨_, _, _, rfl, h1, h2⟩ (fun _ _ _ => ⟨trivial, trivial⟩)
 iterate 2
  refine RG.go1 (v := ?_) (a' := ?_) hL (by decide) rfl ?_ ?_ ?_; rotate_left 2
  ·intro K wx hS hK; go_simp; exact hK _ (Below.refl _ _)
  ·simp only [Act.put, zA, zB, zC]; rfl
 refine RG.go1 (v := ?_) (a' := ?_) hL (by decide) rfl ?_ ?_ ?_; rotate_left 2
 ·intro K wx hS hK; have y0 := (hS.cell (p := ⟨g, off + 16, none⟩) HG.out.1).trans HG.out.2; go_simp; exact hK _ (Below.refl _ _)
 ·simp only [Act.put, zA, zB, zC]; rfl
 iterate 3
  refine RG.goT ?_
 refine RG.go_end ?_; intro U w9 m9 y9 x9; simp +decide (maxSteps := 1000000) only [RG.tl, RG.putN, if_true, if_false, Act.put, List.setIfInBounds_toArray, List.set_cons_succ, List.set_cons_zero, Nat.reduceAdd]
 obtain ⟨p1, p2, p3, e2, hk, hr⟩ := y9 2 rfl; rw [e2] at hk hr ⊢; have x9' : BS (h + 1) w9 := BS_gb (r := none) x1 (gb_below m9) nofun; have l9 : Below w.heap.size w w9 := l1.trans (m9.mono l1.size); have HH : Hid (h + 1 < w1.heap.size) := x1.hi; have S9 : Hid (Sh (3, [], l.getD 16 [], l.take 16) (.int .i64 3, .slice none 0 0, .slice b0 m0 d0, .slice p1 p2 p3) w9) := ⟨rfl, Sl_nil _, Sl_below HS0.out m9, hk⟩; have HR : Hid (Rf w1.heap.size (.slice p1 p2 p3)) := hr; have HL1 : Hid (w.heap.size ≤ w1.heap.size) := l1.size; clear x9 y9 m9 hL e2 hk hr x1 HG KC HS0 i1 i2 hcap l1; go_wp2_with (refine wpList_stS rfl rfl rfl rfl x9' ?_)
 intro w6 g6 z0 z1 z2 z3; have l6 : Hid (Below w.heap.size w w6) := l9.trans ⟨g6.os, g6.tape, g6.output, g6.size, fun j hj => g6.block j (by have := l9.size; omega) (fun e => by injection e with e; have := EH.out; omega)⟩
 have S6 : Hid (Sh (3, [], l.getD 16 [], l.take 16) (.int .i64 3, .slice none 0 0, .slice b0 m0 d0, .slice p1 p2 p3) w6) := Sh_gb S9.out (BS_nb x9') (fun e => by have := HR.out _ e; have := HH.out; omega) g6
 clear g6 x9' l9 S9; go_wp2_with fail
 exact bodyPost_ret (v := .tuple #[.agg #[.int .i64 3, .slice none 0 0, .slice b0 m0 d0, .slice p1 p2 p3], .bool true]) (resS2 _ _ _ (h + 1) 2 3 _ _ _ _ _ rfl rfl rfl z0 z1 z2 z3) rfl ⟨(.int .i64 3, .slice none 0 0, .slice b0 m0 d0, .slice p1 p2 p3), rfl, fun s hs => by cases hs; exact ⟨S6.out, fun z hz => Nat.le_trans HL1.out (HR.out z hz)⟩, l6.out, ⟨_, _, _, _, _, _, _, _, _, _, rfl⟩⟩
end Rs
end Go.Proofs.Ytlbdaccmnpcccaa
namespace Go.Proofs.Ytlbdaccmnpcccaa
namespace Rs
open Nb Sp Pk Go.RowKit
theorem map_txt (ks : List It) (j : Nat) : (ks.map txt).getD j [] = txt (ks.getD j It.no) := by
 by_cases h : j < ks.length
 ·simp [List.getD_eq_getElem?_getD, List.getElem?_map, List.getElem?_eq_getElem h]
 ·simp [List.getD_eq_getElem?_getD, List.getElem?_eq_none (show ks.length ≤ j by omega)]
  rfl
theorem enc_kds {t : It} (hl : isL t = true) : (encs (kds t)).length ≤ (enc t).length := by
 obtain ⟨l, b, ks⟩ := t; cases l with
 | false => simp [isL] at hl
 | true =>
  unfold enc
  rw [List.length_append]; show (encs ks).length ≤ _
  omega
theorem enc_txt {t : It} (hl : isL t = false) : (txt t).length ≤ (enc t).length := by
 obtain ⟨l, b, ks⟩ := t; cases l with
 | true => simp [isL] at hl
 | false => exact enc_text_len b ks
theorem shapeof_any (t : It) (S : Nat → Prop) (u : V3) (w : World) (h : Iv S w t u) (hz : (enc t).length ≤ 1048576) :
  Calls Try.prog 31 #[v3 u] w (PS w (shp t)) := by
 obtain ⟨a1, c1, a, n, c, hs, rfl, hk⟩ := iv_kids h; have hiv : ∀ wx, Below w.heap.size w wx → KV (kds t) a n wx hs := fun wx hb => ⟨hk.e, Hds_below hk.h hb, fun h0 => by
  obtain ⟨g, off, e, hg, hc⟩ := hk.c h0; refine ⟨g, off, e, Nat.lt_of_lt_of_le hg hb.size, fun j hj => ?_⟩
  obtain ⟨x1, y1, x2, m2, y2, k0, k1, k2, k3⟩ := hc j hj; exact ⟨x1, y1, x2, m2, y2, k0, (hb.cell (p := ⟨g, off + j * 3, none⟩) hg).trans k1, (hb.cell (p := ⟨g, off + j * 3 + 1, none⟩) hg).trans k2, (hb.cell (p := ⟨g, off + j * 3 + 2, none⟩) hg).trans k3⟩⟩
 cases hl : isL t with
 | false =>
  refine so_text a1 a _ c1 n c w (shp t) ?_; show _ = _
  unfold shp
  rw [if_pos hl]; by_cases e : txt t = []
  ·rw [if_pos e, if_pos (by rw [e]; rfl)]
  ·rw [if_neg e, if_neg (fun h0 => e (List.length_eq_zero_iff.1 h0))]
 | true =>
  have hn : n ≤ 1048576 := by
   have h1 := encs_many (kds t); have h2 := enc_kds hl; have h3 := hk.e; omega
  have KT : Hid (∀ wx : World, Below w.heap.size w wx → Calls Try.prog 42 #[.agg #[.bool true, .slice a1 (txt t).length c1, .slice a n c]] wx fun e w' => ∃ x m y, e = .returned (.tuple #[.slice x m y, .bool ((kds t).all fun k => !isL k)]) ∧ (((kds t).all fun k => !isL k) = true → Ls ((kds t).map txt) (.slice x m y) w' ∧ Rf wx.heap.size (.slice x m y) ∧ m ≤ y) ∧ Below wx.heap.size wx w') :=
   fun wx hb => textsof_walk (kds t) true a1 a _ c1 n c hs wx hn (hiv wx hb) _ rfl
  have es : shp t = if ((kds t).all fun k => !isL k) = true then (if (kds t).length = 2 then ts (txt ((kds t).getD 0 It.no)) (txt ((kds t).getD 1 It.no)) else if (kds t).length = 17 then some (3, [], txt ((kds t).getD 16 It.no), ((kds t).map txt).take 16) else none) else none := by
   unfold shp ts
   rw [if_neg (by rw [hl]; decide)]
  rw [es]; cases hR : (kds t).all fun k => !isL k with
  | false =>
   rw [if_neg (by decide)]; exact so_lists a1 a _ c1 n c w _ _ KT hR
  | true =>
   rw [if_pos rfl]; by_cases k2 : (kds t).length = 2
   ·rw [if_pos k2]; refine so_two a1 a _ c1 n c w _ _ KT hR (by show _ = _; rw [List.length_map, k2]) ?_ _ ?_
    ·show _ ≤ _
     rw [map_txt]; have h1 := encs_one (kds t) 0 (by omega); have h2 := enc_kds hl; have h3 : isL ((kds t).getD 0 It.no) = false := by
      rw [List.all_eq_true] at hR; have := hR ((kds t)[0]) (List.getElem_mem (by omega)); rw [List.getD_eq_getElem?_getD, List.getElem?_eq_getElem (by omega)]; simpa using this
     have h4 := enc_txt h3; omega
    ·show _ = _
     rw [map_txt, map_txt]
   ·rw [if_neg k2]; by_cases k3 : (kds t).length = 17
    ·rw [if_pos k3, ← map_txt]; exact so_fork a1 a _ c1 n c w _ _ KT hR (by show _ = _; rw [List.length_map, k3])
    ·rw [if_neg k3]; exact so_other a1 a _ c1 n c w _ _ KT hR (by show _ ≠ _; rw [List.length_map]; exact k2) (by show _ ≠ _; rw [List.length_map]; exact k3)
def PR (w : World) (s : Shp) (z : Int) (e : Ending) (w' : World) : Prop := ∃ v, e = .returned (.tuple #[v4 v, .int .i64 z]) ∧ Sh s v w' ∧ Below w.heap.size w w' ∧ F4 v
set_option maxHeartbeats 2000000 in
set_option maxRecDepth 100000 in
theorem read_bad (a : Option Addr) (n c : Nat) (w : World) (t : It) (E : Int) (hE : Hid (E = 1))
  (KD : Hid (∀ wx : World, Below w.heap.size w wx → Calls Try.prog 30 #[.slice a n c] wx fun e w' => ∃ v, e = .returned (.tuple #[v3 v, .int .i64 E]) ∧ Iv (fun _ => True) w' t v ∧ Below wx.heap.size wx w' ∧ Fm v)) :
  Calls Try.prog 19 #[.slice a n c] w (PR w zS 1) := by
 have x0 := BS_new w; have l0 : Below w.heap.size w (w.alloc (.cells #[.int .i64 0, .slice none 0 0, .slice none 0 0, .slice none 0 0] 34)) := (Below.refl _ _).alloc (Nat.le_refl _) _; obtain rfl := hE.out; go_enter Try.func19, Try.ntmps19
 go_upto_region 1 with fail
 generalize w.alloc (.cells #[.int .i64 0, .slice none 0 0, .slice none 0 0, .slice none 0 0] 34) = W0 at *; obtain ⟨h, eh⟩ : ∃ h, h = w.heap.size := ⟨_, rfl⟩; have EH : Hid (h = w.heap.size) := eh; rw [← eh] at x0 ⊢; clear eh; go_wp2_with fail
 refine (KD.out _ l0).mono ?_; rintro e w1 ⟨v, rfl, -, b1, lb, d1, m1, e1, d2, m2, e2, rfl⟩; have l1 : Below w.heap.size w w1 := l0.trans (b1.mono l0.size); have x1 : BS h w1 := BS_gb (r := none) x0 (gb_below b1) nofun; have lA := l1.alloc l1.size (.cells #[.bool lb, .slice d1 m1 e1, .slice d2 m2 e2] 59); have xA := BS_gb (r := none) x1 (World.grownBy_alloc w1 (.cells #[.bool lb, .slice d1 m1 e1, .slice d2 m2 e2] 59) none) nofun; clear KD l0 b1 x0 x1 l1; dsimp only [v3]; go_upto_region 3 with fail
 generalize w1.alloc (.cells #[.bool lb, .slice d1 m1 e1, .slice d2 m2 e2] 59) = w2 at *; go_wp2_with (refine wpList_stS rfl rfl rfl rfl xA ?_)
 intro w6 g6 z0 z1 z2 z3; have l6 : Hid (Below w.heap.size w w6) := lA.trans ⟨g6.os, g6.tape, g6.output, g6.size, fun j hj => g6.block j (by have := lA.size; omega) (fun e => by injection e with e; have := EH.out; omega)⟩
 clear g6 xA lA; go_wp2_with fail
 exact bodyPost_ret (v := .tuple #[.agg #[.int .i64 0, .slice none 0 0, .slice none 0 0, .slice none 0 0], .int .i64 1]) (resS2 _ _ _ h 2 3 _ _ _ _ _ rfl rfl rfl z0 z1 z2 z3) rfl ⟨(.int .i64 0, .slice none 0 0, .slice none 0 0, .slice none 0 0), rfl, ⟨rfl, Sl_nil _, Sl_nil _, Ls_nil' _⟩, l6.out, ⟨_, _, _, _, _, _, _, _, _, _, rfl⟩⟩
set_option maxHeartbeats 2000000 in
set_option maxRecDepth 100000 in
theorem read_ok' (a : Option Addr) (n c : Nat) (w : World) (t : It) (o : Option Shp) (R : Bool) (s : Shp) (z : Int) (hz : Hid (match o with | some x => (R = isS x ∧ (if R then s = x ∧ z = 0 else s = zS ∧ z = 1)) | none => s = zS ∧ z = 1))
  (KD : Hid (∀ wx : World, Below w.heap.size w wx → Calls Try.prog 30 #[.slice a n c] wx fun e w' => ∃ v, e = .returned (.tuple #[v3 v, .int .i64 0]) ∧ Iv (fun _ => True) w' t v ∧ Below wx.heap.size wx w' ∧ Fm v))
  (KS : Hid (∀ (u : V3) (wx : World), Iv (fun _ => True) wx t u → Calls Try.prog 31 #[v3 u] wx (PS wx o)))
  (KI : Hid (∀ (x : Shp) (v : V4) (wx : World), o = some x → Sh x v wx → Calls Try.prog 32 #[v4 v] wx fun e w' => e = .returned (.bool R) ∧ Below wx.heap.size wx w')) :
  Calls Try.prog 19 #[.slice a n c] w (PR w s z) := by
 have x0 := BS_new w; have l0 : Below w.heap.size w (w.alloc (.cells #[.int .i64 0, .slice none 0 0, .slice none 0 0, .slice none 0 0] 34)) := (Below.refl _ _).alloc (Nat.le_refl _) _; go_enter Try.func19, Try.ntmps19
 go_upto_region 1 with fail
 generalize w.alloc (.cells #[.int .i64 0, .slice none 0 0, .slice none 0 0, .slice none 0 0] 34) = W0 at *; obtain ⟨h, eh⟩ : ∃ h, h = w.heap.size := ⟨_, rfl⟩; have EH : Hid (h = w.heap.size) := eh; rw [← eh] at x0 ⊢; clear eh; go_wp2_with fail
 refine (KD.out _ l0).mono ?_; rintro e w1 ⟨v, rfl, iv, b1, lb, d1, m1, e1, d2, m2, e2, rfl⟩; have l1 : Below w.heap.size w w1 := l0.trans (b1.mono l0.size); have x1 : BS h w1 := BS_gb (r := none) x0 (gb_below b1) nofun; have bA : Below w1.heap.size w1 (w1.alloc (.cells #[.bool lb, .slice d1 m1 e1, .slice d2 m2 e2] 59)) := (Below.refl _ _).alloc (Nat.le_refl _) _; have lA := l1.trans (bA.mono l1.size); have xA := BS_gb (r := none) x1 (gb_below bA) nofun; have KS2 : Hid _ := KS.out (.bool lb, .slice d1 m1 e1, .slice d2 m2 e2) _ (Iv_below iv bA); have HA := heap_alloc_new w1 (.cells #[.bool lb, .slice d1 m1 e1, .slice d2 m2 e2] 59); have p0 : (w1.alloc (.cells #[.bool lb, .slice d1 m1 e1, .slice d2 m2 e2] 59)).cell? ⟨w1.heap.size, 0, none⟩ = some (.bool lb) := by simp only [World.cell?, HA]; rfl
 have p1 : (w1.alloc (.cells #[.bool lb, .slice d1 m1 e1, .slice d2 m2 e2] 59)).cell? ⟨w1.heap.size, 1, none⟩ = some (.slice d1 m1 e1) := by simp only [World.cell?, HA]; rfl
 have p2 : (w1.alloc (.cells #[.bool lb, .slice d1 m1 e1, .slice d2 m2 e2] 59)).cell? ⟨w1.heap.size, 2, none⟩ = some (.slice d2 m2 e2) := by simp only [World.cell?, HA]; rfl
 clear KD l0 b1 x0 x1 l1 KS iv bA HA; dsimp only [v3] at KS2 ⊢; go_upto_region 4 with fail
 generalize w1.alloc (.cells #[.bool lb, .slice d1 m1 e1, .slice d2 m2 e2] 59) = w2 at *; generalize w1.heap.size = g1 at *; have HH : Hid (h < w2.heap.size) := xA.hi; go_wp2_with fail
 refine Calls.mono KS2.out ?_; rintro e w3 ⟨v, rfl, hv, b3, k, f1, f2, f3, f4, f5, f6, f7, f8, f9, rfl⟩; have l3 : Below w.heap.size w w3 := lA.trans (b3.mono lA.size); have x3 : BS h w3 := BS_gb (r := none) xA (gb_below b3) nofun; have bB : Below w3.heap.size w3 (w3.alloc (.cells #[.int .i64 k, .slice f1 f2 f3, .slice f4 f5 f6, .slice f7 f8 f9] 34)) := (Below.refl _ _).alloc (Nat.le_refl _) _; have lB := l3.trans (bB.mono l3.size); have xB := BS_gb (r := none) x3 (gb_below bB) nofun; have HB := heap_alloc_new w3 (.cells #[.int .i64 k, .slice f1 f2 f3, .slice f4 f5 f6, .slice f7 f8 f9] 34); have s0 : (w3.alloc (.cells #[.int .i64 k, .slice f1 f2 f3, .slice f4 f5 f6, .slice f7 f8 f9] 34)).cell? ⟨w3.heap.size, 0, none⟩ = some (.int .i64 k) := by simp only [World.cell?, HB]; rfl
 have s1 : (w3.alloc (.cells #[.int .i64 k, .slice f1 f2 f3, .slice f4 f5 f6, .slice f7 f8 f9] 34)).cell? ⟨w3.heap.size, 1, none⟩ = some (.slice f1 f2 f3) := by simp only [World.cell?, HB]; rfl
 have s2 : (w3.alloc (.cells #[.int .i64 k, .slice f1 f2 f3, .slice f4 f5 f6, .slice f7 f8 f9] 34)).cell? ⟨w3.heap.size, 2, none⟩ = some (.slice f4 f5 f6) := by simp only [World.cell?, HB]; rfl
 have s3 : (w3.alloc (.cells #[.int .i64 k, .slice f1 f2 f3, .slice f4 f5 f6, .slice f7 f8 f9] 34)).cell? ⟨w3.heap.size, 3, none⟩ = some (.slice f7 f8 f9) := by simp only [World.cell?, HB]; rfl
 have hw4 : w3.heap.size < (w3.alloc (.cells #[.int .i64 k, .slice f1 f2 f3, .slice f4 f5 f6, .slice f7 f8 f9] 34)).heap.size := by simp
 have HV : Hid (∀ s, o = some s → Sh s (.int .i64 k, .slice f1 f2 f3, .slice f4 f5 f6, .slice f7 f8 f9) (w3.alloc (.cells #[.int .i64 k, .slice f1 f2 f3, .slice f4 f5 f6, .slice f7 f8 f9] 34)) ∧ Rf w2.heap.size (.slice f7 f8 f9)) := fun s hs => ⟨Sh_below (hv s hs).1 bB, (hv s hs).2⟩
 clear b3 lA xA KS2 hv l3 x3 bB HB p0 p1 p2; dsimp only [v4]; go_upto_region 5 with fail
 generalize w3.alloc (.cells #[.int .i64 k, .slice f1 f2 f3, .slice f4 f5 f6, .slice f7 f8 f9] 34) = w4 at *; generalize w3.heap.size = g3 at *; cases o with
 | none =>
  obtain ⟨rfl, rfl⟩ := hz.out; have e0 : (none : Option Shp).isSome = false := rfl; rw [e0]; clear HV s0 s1 s2 s3 KI hz; go_upto_region 6 with fail
  go_wp2_with (refine wpList_stS rfl rfl rfl rfl xB ?_)
  intro w6 g6 z0 z1 z2 z3; have l6 : Hid (Below w.heap.size w w6) := lB.trans ⟨g6.os, g6.tape, g6.output, g6.size, fun j hj => g6.block j (by have := lB.size; omega) (fun e => by injection e with e; have := EH.out; omega)⟩
  clear g6 xB lB; go_wp2_with fail
  exact bodyPost_ret (v := .tuple #[.agg #[.int .i64 0, .slice none 0 0, .slice none 0 0, .slice none 0 0], .int .i64 1]) (resS2 _ _ _ h 2 3 _ _ _ _ _ rfl rfl rfl z0 z1 z2 z3) rfl ⟨(.int .i64 0, .slice none 0 0, .slice none 0 0, .slice none 0 0), rfl, ⟨rfl, Sl_nil _, Sl_nil _, Ls_nil' _⟩, l6.out, ⟨_, _, _, _, _, _, _, _, _, _, rfl⟩⟩
 | some x =>
  have e0 : (some x : Option Shp).isSome = true := rfl; rw [e0]; have KI2 : Hid _ := KI.out x (.int .i64 k, .slice f1 f2 f3, .slice f4 f5 f6, .slice f7 f8 f9) w4 rfl (HV.out x rfl).1; clear KI; dsimp only [v4] at KI2; go_wp2_with fail
  refine Calls.mono KI2.out ?_; rintro e w5 ⟨rfl, b5⟩; have l5 : Below w.heap.size w w5 := lB.trans (b5.mono lB.size); have x5 : BS h w5 := BS_gb (r := none) xB (gb_below b5) nofun; have r0 := (b5.cell (p := ⟨g3, 0, none⟩) hw4).trans s0; have r1 := (b5.cell (p := ⟨g3, 1, none⟩) hw4).trans s1; have r2 := (b5.cell (p := ⟨g3, 2, none⟩) hw4).trans s2; have r3 := (b5.cell (p := ⟨g3, 3, none⟩) hw4).trans s3; have HV5 : Hid (Sh x (.int .i64 k, .slice f1 f2 f3, .slice f4 f5 f6, .slice f7 f8 f9) w5 ∧ Rf w2.heap.size (.slice f7 f8 f9)) := ⟨Sh_below (HV.out x rfl).1 b5, (HV.out x rfl).2⟩; clear HV b5 KI2 lB xB s0 s1 s2 s3 hw4; obtain ⟨-, hz2⟩ := hz.out; clear hz; cases R with
  | false =>
   obtain ⟨rfl, rfl⟩ := hz2; clear HV5 r0 r1 r2 r3; go_upto_region 6 with fail
   go_wp2_with (refine wpList_stS rfl rfl rfl rfl x5 ?_)
   intro w6 g6 z0 z1 z2 z3; have l6 : Hid (Below w.heap.size w w6) := l5.trans ⟨g6.os, g6.tape, g6.output, g6.size, fun j hj => g6.block j (by have := l5.size; omega) (fun e => by injection e with e; have := EH.out; omega)⟩
   clear g6 x5 l5; go_wp2_with fail
   exact bodyPost_ret (v := .tuple #[.agg #[.int .i64 0, .slice none 0 0, .slice none 0 0, .slice none 0 0], .int .i64 1]) (resS2 _ _ _ h 2 3 _ _ _ _ _ rfl rfl rfl z0 z1 z2 z3) rfl ⟨(.int .i64 0, .slice none 0 0, .slice none 0 0, .slice none 0 0), rfl, ⟨rfl, Sl_nil _, Sl_nil _, Ls_nil' _⟩, l6.out, ⟨_, _, _, _, _, _, _, _, _, _, rfl⟩⟩
  | true =>
   obtain ⟨rfl, rfl⟩ := hz2; go_upto_region 7 with fail
   go_wp2_with (refine wpList_stS rfl rfl rfl rfl x5 ?_)
   intro w6 g6 z0 z1 z2 z3; have l6 : Hid (Below w.heap.size w w6) := l5.trans ⟨g6.os, g6.tape, g6.output, g6.size, fun j hj => g6.block j (by have := l5.size; omega) (fun e => by injection e with e; have := EH.out; omega)⟩
   have S6 : Hid (Sh s (.int .i64 k, .slice f1 f2 f3, .slice f4 f5 f6, .slice f7 f8 f9) w6) := Sh_gb HV5.out.1 (BS_nb x5) (fun e => by have := HV5.out.2 _ e; have := HH.out; omega) g6
   clear g6 x5 l5 HV5 r0 r1 r2 r3; go_wp2_with fail
   exact bodyPost_ret (v := .tuple #[.agg #[.int .i64 k, .slice f1 f2 f3, .slice f4 f5 f6, .slice f7 f8 f9], .int .i64 0]) (resS2 _ _ _ h 2 3 _ _ _ _ _ rfl rfl rfl z0 z1 z2 z3) rfl ⟨(.int .i64 k, .slice f1 f2 f3, .slice f4 f5 f6, .slice f7 f8 f9), rfl, S6.out, l6.out, ⟨_, _, _, _, _, _, _, _, _, _, rfl⟩⟩
end Rs
end Go.Proofs.Ytlbdaccmnpcccaa
