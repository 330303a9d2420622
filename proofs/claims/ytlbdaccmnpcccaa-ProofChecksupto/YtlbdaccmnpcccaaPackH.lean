import Derived.Test.YtlbdaccmnpcccaaPackG
import Derived.Test.YtlbdaccmnpcccaaPackE
import Derived.Test.YtlbdaccmnpcccaaPackF
import Derived.Deep.AppendLies
import Derived.Test.YtlbdaccmnpcccaaPackB
import Derived.Test.YtlbdaccmnpcccaaPackA
import Derived.Deep.MidRow
import Derived.Tactics2
namespace Go.Proofs.Ytlbdaccmnpcccaa
namespace Rs
open Nb Sp Pk Go.RowKit
theorem find_at {α : Type} (p : α → Bool) (d : α) : ∀ (l : List α) (j : Nat), j < l.length → (∀ i, i < j → p (l.getD i d) = false) → p (l.getD j d) = true → l.find? p = some (l.getD j d)
 | [], j, h, _, _ => absurd h (by simp)
 | x :: r, 0, _, _, h => List.find?_cons_of_pos h
 | x :: r, j + 1, hj, hn, h => by
  rw [List.find?_cons_of_neg (by have := hn 0 (by omega); rw [show (x :: r).getD 0 d = x from rfl] at this; rw [this]; decide)]
  exact find_at p d r j (by simpa using hj) (fun i hi => hn (i + 1) (by omega)) h
theorem find_no {α : Type} (p : α → Bool) (d : α) (l : List α) (h : ∀ i, i < l.length → p (l.getD i d) = false) : l.find? p = none := by
 rw [List.find?_eq_none]; intro x hx; obtain ⟨i, hi, rfl⟩ := List.getElem_of_mem hx; have := h i hi; rw [List.getD_eq_getElem?_getD, List.getElem?_eq_getElem hi] at this; have e : p l[i] = false := this; rw [e]; decide
def fnd (b : List UInt8) (ss : List Shp) : Shp × Int := match ss.find? (fits b) with | some s => (s, 0) | none => (zS, 1)
theorem own_cellz {B e z n : Nat} {v : Value} {xs : List Value} {w : World} (h : w.ownsRow B e z v n xs) (h0 : 0 < n) : ∃ g cap, v = .slice (some ⟨g, 0, none⟩) n cap ∧ B ≤ g ∧ g < w.heap.size ∧ ∀ j u, xs[j]? = some u → w.cell? ⟨g, j, none⟩ = some u := by
 have hl := h.1; rcases h.2 with ⟨h3, h4⟩ | ⟨g, cap, cur, h3, h4, h5, h6, h7, h8, h9⟩
 ·omega
 ·refine ⟨g, cap, h3, h4, Pk.lt_of_heap h5, fun j u hj => ?_⟩
  have hj' := (List.getElem?_eq_some_iff.1 hj).1; have e : w.cell? ⟨g, j, none⟩ = cur[j]? := by
   simp only [World.cell?, h5]; exact if_neg (by simp)
  rw [e, ← Array.getElem?_toList, ← hj, ← h9, List.getElem?_take]; exact (if_pos (by omega)).symm
theorem infoS4 : (Try.prog.info? 34).map (fun i => (i.zero, i.size, i.bytes)) = some (some (.agg #[.int .i64 0, .slice none 0 0, .slice none 0 0, .slice none 0 0]), 4, 80) := by kernel_rfl
set_option maxRecDepth 100000 in
theorem app_sh {B g : Nat} {v : Value} {xs : List Value} {w : World} (ty : TypeId) (u0 u1 u2 u3 : Value) (h0 : u0.oneCell' = true) (h1 : u1.oneCell' = true) (h2 : u2.oneCell' = true) (h3 : u3.oneCell' = true) (ho : w.ownsRow B 34 4 v 1 xs) (k0 : w.cell? ⟨g, 0, none⟩ = some u0) (k1 : w.cell? ⟨g, 1, none⟩ = some u1) (k2 : w.cell? ⟨g, 2, none⟩ = some u2) (k3 : w.cell? ⟨g, 3, none⟩ = some u3) (hB : B ≤ w.heap.size) :
  ∃ G cap w', (Builtin.append_ #[62, 62] ty #[v, .slice (some ⟨g, 0, none⟩) 1 1]).run Try.prog w = .ok (.slice (some ⟨G, 0, none⟩) 2 cap) w' ∧ w'.ownsRow B 34 4 (.slice (some ⟨G, 0, none⟩) 2 cap) 2 (xs ++ [u0, u1, u2, u3]) ∧ w.grownBy w' v.ownBlock := by
 obtain ⟨i0, hi, hz0, hz1, hz2⟩ := info_parts infoS4; obtain ⟨G, cap, w', hr, ho', hgr, _, _⟩ := run_append_lies (P := Try.prog) w 62 ty B 34 i0 (.agg #[.int .i64 0, .slice none 0 0, .slice none 0 0, .slice none 0 0]) 4 80 Try.underlying62 hi hz0 hz1 hz2 rfl (by decide) v 1 xs ho ⟨g, 0, none⟩ 1 1 [u0, u1, u2, u3] rfl
  (fun j u hj => by
   rw [add_lit, Nat.zero_add]; match j, hj with
   | 0, hj => simp at hj; rw [← hj]; exact k0
   | 1, hj => simp at hj; rw [← hj]; exact k1
   | 2, hj => simp at hj; rw [← hj]; exact k2
   | 3, hj => simp at hj; rw [← hj]; exact k3
   | n + 4, hj => simp at hj) (fun u hu => by
    simp only [List.mem_cons, List.not_mem_nil, or_false] at hu; rcases hu with rfl | rfl | rfl | rfl <;> assumption) (by decide) (by unfold maxLen; omega) (by omega) hB _ rfl
 exact ⟨G, cap, w', hr, ho', hgr⟩
theorem own_t (w : World) (B : Nat) (hB : B ≤ w.heap.size) : (w.alloc (.cells #[.int .i64 0, .slice none 0 0, .slice none 0 0, .slice none 0 0] 34)).ownsRow B 34 4 (.slice (some ⟨w.heap.size, 0, none⟩) 1 1) 1 [.int .i64 0, .slice none 0 0, .slice none 0 0, .slice none 0 0] :=
 ⟨rfl, .inr ⟨w.heap.size, 1, #[.int .i64 0, .slice none 0 0, .slice none 0 0, .slice none 0 0], rfl, hB, heap_alloc_new _ _, Nat.le_refl _, by unfold maxLen; omega, rfl, rfl⟩⟩
set_option maxHeartbeats 8000000 in
set_option maxRecDepth 100000 in
theorem hr_other (b : List UInt8) (a : Option Addr) (n c : Nat) (w : World) (ks : List It) (ss : List Shp) (hb : Hid (∀ wx, Below w.heap.size w wx → Sl b (.slice a n c) wx))
  (KD : Hid (∀ wx : World, Below w.heap.size w wx → Calls Try.prog 23 #[.slice a n c] wx fun e w' => ∃ lb a1 n1 c1 a2 n2 c2 hs, e = .returned (.tuple #[.agg #[.bool lb, .slice a1 n1 c1, .slice a2 n2 c2], .int .i64 0]) ∧ KV ks a2 n2 w' hs ∧ Below wx.heap.size wx w')) (hz : Hid (ks.length ≤ 1048576))
  (KH : Hid (∀ (s : Shp) (x : V4) (wx : World), s ∈ ss → Sh s x wx → Calls Try.prog 25 #[v4 x] wx fun e w' => ∃ v, e = .returned (.tuple #[v, .int .i64 (he s)]) ∧ Sl (hc s) v w' ∧ Below wx.heap.size wx w')) (hss : Hid (ss = [zS])) (h2 : Hid (ks.length ≠ 2)) (h17 : Hid (ks.length ≠ 17)) :
  Calls Try.prog 16 #[.slice a n c] w (PR w (fnd b ss).1 (fnd b ss).2) := by
 have x0 := BS_new w; have l0 : Below w.heap.size w (w.alloc (.cells #[.int .i64 0, .slice none 0 0, .slice none 0 0, .slice none 0 0] 34)) := (Below.refl _ _).alloc (Nat.le_refl _) _; go_enter Try.func16, Try.ntmps16
 go_upto_region 1 with fail
 generalize w.alloc (.cells #[.int .i64 0, .slice none 0 0, .slice none 0 0, .slice none 0 0] 34) = W0 at *; obtain ⟨h, eh⟩ : ∃ h, h = w.heap.size := ⟨_, rfl⟩; have EH : Hid (h = w.heap.size) := eh; rw [← eh] at x0 ⊢; clear eh; go_wp2_with fail
 refine (KD.out _ l0).mono ?_; rintro e w1 ⟨lb, b1, n1, c1, a2, n2, c2, hs, rfl, hk, bb⟩; have l1 : Below w.heap.size w w1 := l0.trans (bb.mono l0.size); have x1 : BS h w1 := BS_gb (r := none) x0 (gb_below bb) nofun; have bA : Below w1.heap.size w1 (w1.alloc (.cells #[.bool lb, .slice b1 n1 c1, .slice a2 n2 c2] 59)) := (Below.refl _ _).alloc (Nat.le_refl _) _; have HL2 : Hid (Below w.heap.size w (w1.alloc (.cells #[.bool lb, .slice b1 n1 c1, .slice a2 n2 c2] 59))) := l1.trans (bA.mono l1.size); have HX2 : Hid (BS h (w1.alloc (.cells #[.bool lb, .slice b1 n1 c1, .slice a2 n2 c2] 59))) := BS_gb (r := none) x1 (gb_below bA) nofun; have HK : Hid (KV ks a2 n2 w1 hs) := hk; have BA : Hid (Below w1.heap.size w1 (w1.alloc (.cells #[.bool lb, .slice b1 n1 c1, .slice a2 n2 c2] 59))) := bA; clear KD l0 bb x0 x1 l1 hk bA; have HN : Hid (n2 = ks.length) := HK.out.e; have HLN : Hid (hs.length = n2) := by show _ = _; rw [HK.out.h.l, List.length_map]; exact HN.out.symm
 go_wp2_with fail
 generalize w1.alloc (.cells #[.bool lb, .slice b1 n1 c1, .slice a2 n2 c2] 59) = w2 at *; go_loopw [6, 28] (fun v i wr => ∃ k : Nat, k ≤ n2 ∧ i = .int .i64 (k : Int) ∧ Hid (wr.ownsRow w2.heap.size 24 1 v (hs.take k).length (hs.take k) ∧ Below w2.heap.size w2 wr)) (fun _ i _ => ((n2 : Int) - intOf i).toNat)
 case atStart => exact ⟨0, Nat.zero_le _, rfl, World.ownsRow_nil _ _ _ _, Below.refl _ _⟩
 case round =>
  obtain ⟨k, hk1, rfl, HI⟩ := hrel; obtain ⟨ak, nk, ck, rfl⟩ := own_form HI.out.1; have BW : Hid (Below w1.heap.size w1 wr) := BA.out.trans (HI.out.2.mono BA.out.size); by_cases h1 : k < n2
  ·have d0 : (k : Int) < (n2 : Int) := by omega
   have d1 : (0 : Int) ≤ (k : Int) := by omega
   have hw := Nb.stp k (by have := hz.out; have := HN.out; show _ ≤ _; omega)
   obtain ⟨g, off, rfl, hg, hcc⟩ := HK.out.c (by omega); obtain ⟨x1, y1, x2, m2, y2, e1, k0, k1, k2⟩ := hcc k h1; have r0 := (BW.out.cell (p := ⟨g, off + k * 3, none⟩) hg).trans k0; have r1 := (BW.out.cell (p := ⟨g, off + k * 3 + 1, none⟩) hg).trans k1; have r2 := (BW.out.cell (p := ⟨g, off + k * 3 + 2, none⟩) hg).trans k2; have HK1 : Hid (k < n2) := h1; have hkh : k < hs.length := by have := HLN.out; omega
   have HTK : Hid (hs.take (k + 1) = hs.take k ++ [.slice x1 (txt (ks.getD k It.no)).length y1]) := by
    show _ = _
    rw [List.take_add_one, List.getElem?_eq_getElem hkh]; have : hs[k] = .slice x1 (txt (ks.getD k It.no)).length y1 := by rw [← e1, List.getD_eq_getElem?_getD, List.getElem?_eq_getElem hkh]; rfl
    rw [this]; rfl
   clear hg hcc k0 k1 k2 e1 hkh BW; generalize (txt (ks.getD k It.no)).length = mk at *; generalize isL (ks.getD k It.no) = lk at *; have bA : Below wr.heap.size wr (wr.alloc (.cells #[.bool lk, .slice x1 mk y1, .slice x2 m2 y2] 59)) := (Below.refl _ _).alloc (Nat.le_refl _) _; have hs1 : (wr.alloc (.cells #[.bool lk, .slice x1 mk y1, .slice x2 m2 y2] 59)).heap.size = wr.heap.size + 1 := by simp
   have bB : Below wr.heap.size wr ((wr.alloc (.cells #[.bool lk, .slice x1 mk y1, .slice x2 m2 y2] 59)).alloc (.cells #[.slice x1 mk y1] 24)) := bA.alloc (by omega) _; have hnw := heap_alloc_new (wr.alloc (.cells #[.bool lk, .slice x1 mk y1, .slice x2 m2 y2] 59)) (.cells #[.slice x1 mk y1] 24); rw [hs1] at hnw; have oB : ((wr.alloc (.cells #[.bool lk, .slice x1 mk y1, .slice x2 m2 y2] 59)).alloc (.cells #[.slice x1 mk y1] 24)).ownsRow w2.heap.size 24 1 (.slice ak nk ck) (hs.take k).length (hs.take k) := (HI.out.1.alloc _).alloc _; have vB : Vl [.slice x1 mk y1] (.slice (some ⟨wr.heap.size + 1, 0, none⟩) 1 1) ((wr.alloc (.cells #[.bool lk, .slice x1 mk y1, .slice x2 m2 y2] 59)).alloc (.cells #[.slice x1 mk y1] 24)) := ⟨_, 1, rfl, fun _ => ⟨_, 0, rfl, by simp, fun j hj => by
    have : j = 0 := by simp at hj; omega
    subst this; simp only [World.cell?, hnw]; rfl⟩⟩
   have hbw := HI.out.2.size; obtain ⟨v', w', hap, ho', hb'⟩ := appv_r (ys := [.slice x1 mk y1]) 25 oB vB (fun u hu => by rw [List.mem_singleton.1 hu]; rfl) (by have := bB.size; omega) (by rw [List.length_take]; have := hz.out; have := HN.out; simp; omega)
   rw [← HTK.out] at ho'; obtain ⟨ak2, nk2, ck2, rfl⟩ := own_form ho'; have HI7 : Hid (w'.ownsRow w2.heap.size 24 1 (.slice ak2 nk2 ck2) (hs.take (k + 1)).length (hs.take (k + 1)) ∧ Below w2.heap.size w2 w') := ⟨ho', (HI.out.2.trans (bB.mono hbw)).trans hb'⟩; clear HI HTK bA bB hs1 hnw oB vB hbw ho' hb'; go_wp2_with (at_builtin; refine wpList_apw rfl rfl rfl rfl hap ?_)
   have hw := hw.out; go_roundw
   case rel => exact ⟨k + 1, HK1.out, Nb.step_v k _ hw, HI7⟩
   case measure => exact Nb.msr k n2 HK1.out _ hw
  ·have hkl : k = n2 := by omega
   have ex : hs.take k = hs := by rw [hkl, ← HLN.out, List.take_length]
   have ho := HI.out.1; rw [ex] at ho; have HLS : Hid (Ls (ks.map txt) (.slice ak nk ck) wr) := own_ls ho (Hds_below HK.out.h BW.out); have HRF : Hid (Rf w2.heap.size (.slice ak nk ck)) := rf_own ho; have HCP : Hid (nk ≤ ck) := own_cap ho; have HNK : Hid (nk = ks.length) := by
    obtain ⟨_, _, e⟩ := own_len ho; injection e with _ e _
    show _ = _
    rw [e, HLN.out]; exact HN.out
   have HLR : Hid (Below w.heap.size w wr) := HL2.out.trans (HI.out.2.mono HL2.out.size); have HXR : Hid (BS h wr) := BS_gb (r := none) HX2.out (gb_below HI.out.2) nofun; have HHW : Hid (h < w2.heap.size) := HX2.out.hi; have HWR : Hid (w2.heap.size ≤ wr.heap.size) := HI.out.2.size; clear HI BW ho ex h1 hk1 HK HL2 HX2 BA HN HLN; subst hkl; have t2 : ((nk : Int) == 2) = false := beq_eq_false_iff_ne.2 (by have := h2.out; have := HNK.out; omega)
   have t17 : ((nk : Int) == 17) = false := beq_eq_false_iff_ne.2 (by have := h17.out; have := HNK.out; omega)
   have HL8 : Hid (Below w.heap.size w (wr.alloc (.cells #[.int .i64 0, .slice none 0 0, .slice none 0 0, .slice none 0 0] 34))) := HLR.out.alloc HLR.out.size _; have HX8 : Hid (BS h (wr.alloc (.cells #[.int .i64 0, .slice none 0 0, .slice none 0 0, .slice none 0 0] 34))) := BS_gb (r := none) HXR.out (World.grownBy_alloc wr _ none) nofun; have oT := own_t wr wr.heap.size (Nat.le_refl _); obtain ⟨G, hG⟩ : ∃ G, G = wr.heap.size := ⟨_, rfl⟩; have HCC : Hid (G < (wr.alloc (.cells #[.int .i64 0, .slice none 0 0, .slice none 0 0, .slice none 0 0] 34)).heap.size ∧ ∀ j, j < 1 → ∃ k p1 p2 p3 p4 p5 p6 p7 p8 p9, Sh (ss.getD j zS) (.int .i64 k, .slice p1 p2 p3, .slice p4 p5 p6, .slice p7 p8 p9) (wr.alloc (.cells #[.int .i64 0, .slice none 0 0, .slice none 0 0, .slice none 0 0] 34)) ∧ (Value.slice p7 p8 p9).ownBlock ≠ some h ∧ (wr.alloc (.cells #[.int .i64 0, .slice none 0 0, .slice none 0 0, .slice none 0 0] 34)).cell? ⟨G, j * 4, none⟩ = some (.int .i64 k) ∧ (wr.alloc (.cells #[.int .i64 0, .slice none 0 0, .slice none 0 0, .slice none 0 0] 34)).cell? ⟨G, j * 4 + 1, none⟩ = some (.slice p1 p2 p3) ∧ (wr.alloc (.cells #[.int .i64 0, .slice none 0 0, .slice none 0 0, .slice none 0 0] 34)).cell? ⟨G, j * 4 + 2, none⟩ = some (.slice p4 p5 p6) ∧ (wr.alloc (.cells #[.int .i64 0, .slice none 0 0, .slice none 0 0, .slice none 0 0] 34)).cell? ⟨G, j * 4 + 3, none⟩ = some (.slice p7 p8 p9)) := by
    obtain ⟨gT, cT, eT, _, _, hcT⟩ := own_cellz oT (by decide); injection eT with eT _ _
    injection eT with eT
    injection eT with eT _ _
    rw [hG]; refine ⟨by simp, fun j hj => ?_⟩
    have : j = 0 := by omega
    subst this; rw [eT]; exact ⟨0, none, 0, 0, none, 0, 0, none, 0, 0, by rw [hss.out]; exact ⟨rfl, Sl_nil _, Sl_nil _, Ls_nil' _⟩, nofun, hcT 0 _ rfl, hcT 1 _ rfl, hcT 2 _ rfl, hcT 3 _ rfl⟩
   clear oT HLS HRF HCP HNK HLR HXR HHW HWR; have hlen : Hid (ss.length = 1) := by show _ = _; rw [hss.out]; rfl
   go_upto_region 18 with fail
   generalize wr.alloc (.cells #[.int .i64 0, .slice none 0 0, .slice none 0 0, .slice none 0 0] 34) = w8 at *; rw [← hG]; clear hG; have HB8 : Hid (∀ wx, Below w8.heap.size w8 wx → Sl b (.slice a n c) wx) := fun wx hbx => hb.out wx (HL8.out.trans (hbx.mono HL8.out.size))
   clear hb; go_wp2_with fail
   go_loopw [81] (fun s wx => ∃ j : Nat, j ≤ 1 ∧ s = .int .i64 (j : Int) ∧ Hid ((∀ i, i < j → fits b (ss.getD i zS) = false) ∧ Below w8.heap.size w8 wx)) (fun s _ => ((1 : Int) - intOf s).toNat)
   case atStart => exact ⟨0, Nat.zero_le _, rfl, fun i hi => absurd hi (by omega), Below.refl _ _⟩
   case round =>
    rename World => wx
    obtain ⟨j, hj, rfl, HJ⟩ := hrel; by_cases j1 : j < 1
    ·have d0 : (j : Int) < 1 := by omega
     have d1 : (0 : Int) ≤ (j : Int) := by omega
     have hw := Nb.stp j (by show _ ≤ _; omega)
     obtain ⟨k, p1, p2, p3, p4, p5, p6, p7, p8, p9, sh, ob, y0, y1, y2, y3⟩ := HCC.out.2 j j1; have r0 := (HJ.out.2.cell (p := ⟨G, j * 4, none⟩) HCC.out.1).trans y0; have r1 := (HJ.out.2.cell (p := ⟨G, j * 4 + 1, none⟩) HCC.out.1).trans y1; have r2 := (HJ.out.2.cell (p := ⟨G, j * 4 + 2, none⟩) HCC.out.1).trans y2; have r3 := (HJ.out.2.cell (p := ⟨G, j * 4 + 3, none⟩) HCC.out.1).trans y3; have bA : Below wx.heap.size wx (wx.alloc (.cells #[.int .i64 k, .slice p1 p2 p3, .slice p4 p5 p6, .slice p7 p8 p9] 34)) := (Below.refl _ _).alloc (Nat.le_refl _) _; have b8 := HJ.out.2.trans (bA.mono HJ.out.2.size); obtain ⟨s, hs'⟩ : ∃ s, s = ss.getD j zS := ⟨_, rfl⟩; have HS : Hid (s = ss.getD j zS) := hs'; rw [← hs'] at sh; have hjs : j < ss.length := by rw [hlen.out]; exact j1
     have hmem : s ∈ ss := by rw [hs', List.getD_eq_getElem?_getD, List.getElem?_eq_getElem hjs]; exact List.getElem_mem _
     have HJL : Hid (j < ss.length) := hjs; have shA := Sh_below (Sh_below sh HJ.out.2) bA; have KC : Hid _ := KH.out s (.int .i64 k, .slice p1 p2 p3, .slice p4 p5 p6, .slice p7 p8 p9) _ hmem shA; have HSA : Hid (Sh s (.int .i64 k, .slice p1 p2 p3, .slice p4 p5 p6, .slice p7 p8 p9) (wx.alloc (.cells #[.int .i64 k, .slice p1 p2 p3, .slice p4 p5 p6, .slice p7 p8 p9] 34))) := shA; have HOB : Hid ((Value.slice p7 p8 p9).ownBlock ≠ some h) := ob; have HA := heap_alloc_new wx (.cells #[.int .i64 k, .slice p1 p2 p3, .slice p4 p5 p6, .slice p7 p8 p9] 34); have q0 : (wx.alloc (.cells #[.int .i64 k, .slice p1 p2 p3, .slice p4 p5 p6, .slice p7 p8 p9] 34)).cell? ⟨wx.heap.size, 0, none⟩ = some (.int .i64 k) := by simp only [World.cell?, HA]; rfl
     have q1 : (wx.alloc (.cells #[.int .i64 k, .slice p1 p2 p3, .slice p4 p5 p6, .slice p7 p8 p9] 34)).cell? ⟨wx.heap.size, 1, none⟩ = some (.slice p1 p2 p3) := by simp only [World.cell?, HA]; rfl
     have q2 : (wx.alloc (.cells #[.int .i64 k, .slice p1 p2 p3, .slice p4 p5 p6, .slice p7 p8 p9] 34)).cell? ⟨wx.heap.size, 2, none⟩ = some (.slice p4 p5 p6) := by simp only [World.cell?, HA]; rfl
     have q3 : (wx.alloc (.cells #[.int .i64 k, .slice p1 p2 p3, .slice p4 p5 p6, .slice p7 p8 p9] 34)).cell? ⟨wx.heap.size, 3, none⟩ = some (.slice p7 p8 p9) := by simp only [World.cell?, HA]; rfl
     have hwA : wx.heap.size < (wx.alloc (.cells #[.int .i64 k, .slice p1 p2 p3, .slice p4 p5 p6, .slice p7 p8 p9] 34)).heap.size := by simp
     have HB9 : Hid (Below w8.heap.size w8 (wx.alloc (.cells #[.int .i64 k, .slice p1 p2 p3, .slice p4 p5 p6, .slice p7 p8 p9] 34))) := b8; have HFN : Hid (∀ i, i < j → fits b (ss.getD i zS) = false) := HJ.out.1; clear sh ob y0 y1 y2 y3 bA b8 hs' hjs hmem shA HA HJ; dsimp only [v4] at KC; go_upto_region 21 with fail
     generalize wx.alloc (.cells #[.int .i64 k, .slice p1 p2 p3, .slice p4 p5 p6, .slice p7 p8 p9] 34) = w9 at *; generalize wx.heap.size = g9 at *; clear r0 r1 r2 r3; go_wp2_with fail
     refine Calls.mono KC.out ?_; rintro e w10 ⟨v, rfl, sc, bc⟩; obtain ⟨va, vc, rfl⟩ := Sl_fm sc; have HB10 : Hid (Below w8.heap.size w8 w10) := HB9.out.trans (bc.mono HB9.out.size); have HS10 : Hid (Sh s (.int .i64 k, .slice p1 p2 p3, .slice p4 p5 p6, .slice p7 p8 p9) w10) := Sh_below HSA.out bc; have t0 := (bc.cell (p := ⟨g9, 0, none⟩) hwA).trans q0; have t1 := (bc.cell (p := ⟨g9, 1, none⟩) hwA).trans q1; have t2 := (bc.cell (p := ⟨g9, 2, none⟩) hwA).trans q2; have t3 := (bc.cell (p := ⟨g9, 3, none⟩) hwA).trans q3; have cv1 := Sl_bst sc; have cv2 := Sl_bst (HB8.out w10 HB10.out); have HFT : fits b s = false → Hid (∀ i, i < j + 1 → fits b (ss.getD i zS) = false) := fun e i hi => by
      by_cases e2 : i = j
      ·subst e2; rw [← HS.out]; exact e
      ·exact HFN.out i (by omega)
     clear bc sc KC HSA HB9 q0 q1 q2 q3 hwA; cases hI : isS s with
     | false =>
      have e1 : he s = 1 := by unfold he; rw [hI]; rfl
      have HF := HFT (by unfold fits; rw [hI]; rfl)
      rw [e1]; clear HFT hI e1 cv1 cv2 t0 t1 t2 t3; generalize (hc s).length = hl at *; go_wp2_with fail
      have hw := hw.out; go_roundw
      case rel => exact ⟨j + 1, j1, Nb.step_v j _ rfl, HF.out, HB10.out⟩
      case measure => exact Nb.msr j 1 j1 _ rfl
     | true =>
      have e1 : he s = 0 := by unfold he; rw [hI]; rfl
      have e2 : hc s = enc (itS s) := by unfold hc; rw [hI]; rfl
      have ef : fits b s = decide (hc s = b) := by unfold fits; rw [hI, e2]; rfl
      rw [e1]; by_cases eb : hc s = b
      ·have hq : ((bst (hc s)).toList == (bst b).toList) = true := by rw [eb]; exact beq_self_eq_true _
       have HFF : Hid (fnd b ss = (s, 0)) := by
        show _ = _
        unfold fnd
        rw [find_at (fits b) zS ss j HJL.out HFN.out (by rw [← HS.out, ef]; exact decide_eq_true eb), ← HS.out]
       clear HFT hI e1 e2 ef eb hw; generalize (hc s).length = hl at *; generalize bst (hc s) = X1 at *; generalize bst b = X2 at *; have x10 : BS h w10 := BS_gb (r := none) HX8.out (gb_below HB10.out) nofun; go_upto_region 23 with fail
       go_wp2_with (refine wpList_stS rfl rfl rfl rfl x10 ?_)
       intro w6 g6 z0 z1 z2 z3; have l5 := HL8.out.trans (HB10.out.mono HL8.out.size); have l6 : Hid (Below w.heap.size w w6) := l5.trans ⟨g6.os, g6.tape, g6.output, g6.size, fun j hj => g6.block j (by have := l5.size; omega) (fun e => by injection e with e; have := EH.out; omega)⟩
       have S6 : Hid (Sh s (.int .i64 k, .slice p1 p2 p3, .slice p4 p5 p6, .slice p7 p8 p9) w6) := Sh_gb HS10.out (BS_nb x10) HOB.out g6; clear g6 x10 l5 t0 t1 t2 t3 cv1 cv2; go_wp2_with fail
       exact bodyPost_ret (v := .tuple #[.agg #[.int .i64 k, .slice p1 p2 p3, .slice p4 p5 p6, .slice p7 p8 p9], .int .i64 0]) (resS2 _ _ _ h 2 3 _ _ _ _ _ rfl rfl rfl z0 z1 z2 z3) rfl (by rw [HFF.out]; exact ⟨(.int .i64 k, .slice p1 p2 p3, .slice p4 p5 p6, .slice p7 p8 p9), rfl, S6.out, l6.out, ⟨_, _, _, _, _, _, _, _, _, _, rfl⟩⟩)
      ·have HF := HFT (by rw [ef]; exact decide_eq_false eb)
       have hq : ((bst (hc s)).toList == (bst b).toList) = false := (bs_eq (hc s) b).trans (decide_eq_false eb); clear HFT hI e1 e2 ef eb t0 t1 t2 t3; generalize (hc s).length = hl at *; generalize bst (hc s) = X1 at *; generalize bst b = X2 at *; go_wp2_with fail
       have hw := hw.out; go_roundw
       case rel => exact ⟨j + 1, j1, Nb.step_v j _ rfl, HF.out, HB10.out⟩
       case measure => exact Nb.msr j 1 j1 _ rfl
    ·have hkl : j = 1 := by omega
     subst hkl; have HFF : Hid (fnd b ss = (zS, 1)) := by
      show _ = _
      unfold fnd
      rw [find_no (fits b) zS ss (fun i hi => HJ.out.1 i (by rw [hlen.out] at hi; exact hi))]
     have x10 : BS h wx := BS_gb (r := none) HX8.out (gb_below HJ.out.2) nofun; have l5 := HL8.out.trans (HJ.out.2.mono HL8.out.size); clear j1 hj HJ; go_upto_region 25 with fail
     go_wp2_with (refine wpList_stS rfl rfl rfl rfl x10 ?_)
     intro w6 g6 z0 z1 z2 z3; have l6 : Hid (Below w.heap.size w w6) := l5.trans ⟨g6.os, g6.tape, g6.output, g6.size, fun j hj => g6.block j (by have := l5.size; omega) (fun e => by injection e with e; have := EH.out; omega)⟩
     clear g6 x10 l5; go_wp2_with fail
     exact bodyPost_ret (v := .tuple #[.agg #[.int .i64 0, .slice none 0 0, .slice none 0 0, .slice none 0 0], .int .i64 1]) (resS2 _ _ _ h 2 3 _ _ _ _ _ rfl rfl rfl z0 z1 z2 z3) rfl (by rw [HFF.out]; exact ⟨(.int .i64 0, .slice none 0 0, .slice none 0 0, .slice none 0 0), rfl, ⟨rfl, Sl_nil _, Sl_nil _, Ls_nil' _⟩, l6.out, ⟨_, _, _, _, _, _, _, _, _, _, rfl⟩⟩)
set_option maxHeartbeats 8000000 in
set_option maxRecDepth 100000 in
theorem hr_leaf (b : List UInt8) (a : Option Addr) (n c : Nat) (w : World) (ks : List It) (ss : List Shp) (hb : Hid (∀ wx, Below w.heap.size w wx → Sl b (.slice a n c) wx))
  (KD : Hid (∀ wx : World, Below w.heap.size w wx → Calls Try.prog 23 #[.slice a n c] wx fun e w' => ∃ lb a1 n1 c1 a2 n2 c2 hs, e = .returned (.tuple #[.agg #[.bool lb, .slice a1 n1 c1, .slice a2 n2 c2], .int .i64 0]) ∧ KV ks a2 n2 w' hs ∧ Below wx.heap.size wx w')) (hz : Hid (ks.length ≤ 1048576))
  (KH : Hid (∀ (s : Shp) (x : V4) (wx : World), s ∈ ss → Sh s x wx → Calls Try.prog 25 #[v4 x] wx fun e w' => ∃ v, e = .returned (.tuple #[v, .int .i64 (he s)]) ∧ Sl (hc s) v w' ∧ Below wx.heap.size wx w')) (P : List UInt8) (KU : Hid (∀ (x : Option Addr) (y : Nat) (wx : World), Sl ((ks.map txt).getD 0 []) (.slice x ((ks.map txt).getD 0 []).length y) wx → Calls Try.prog 24 #[.slice x ((ks.map txt).getD 0 []).length y] wx fun e w' => ∃ v z, e = .returned (.tuple #[v, .bool true, .int .i64 z]) ∧ Sl P v w' ∧ Below wx.heap.size wx w')) (hss : Hid (ss = [zS, (1, P, (ks.map txt).getD 1 [], [])])) (h2 : Hid (ks.length = 2)) :
  Calls Try.prog 16 #[.slice a n c] w (PR w (fnd b ss).1 (fnd b ss).2) := by
 have x0 := BS_new w; have l0 : Below w.heap.size w (w.alloc (.cells #[.int .i64 0, .slice none 0 0, .slice none 0 0, .slice none 0 0] 34)) := (Below.refl _ _).alloc (Nat.le_refl _) _; go_enter Try.func16, Try.ntmps16
 go_upto_region 1 with fail
 generalize w.alloc (.cells #[.int .i64 0, .slice none 0 0, .slice none 0 0, .slice none 0 0] 34) = W0 at *; obtain ⟨h, eh⟩ : ∃ h, h = w.heap.size := ⟨_, rfl⟩; have EH : Hid (h = w.heap.size) := eh; rw [← eh] at x0 ⊢; clear eh; go_wp2_with fail
 refine (KD.out _ l0).mono ?_; rintro e w1 ⟨lb, b1, n1, c1, a2, n2, c2, hs, rfl, hk, bb⟩; have l1 : Below w.heap.size w w1 := l0.trans (bb.mono l0.size); have x1 : BS h w1 := BS_gb (r := none) x0 (gb_below bb) nofun; have bA : Below w1.heap.size w1 (w1.alloc (.cells #[.bool lb, .slice b1 n1 c1, .slice a2 n2 c2] 59)) := (Below.refl _ _).alloc (Nat.le_refl _) _; have HL2 : Hid (Below w.heap.size w (w1.alloc (.cells #[.bool lb, .slice b1 n1 c1, .slice a2 n2 c2] 59))) := l1.trans (bA.mono l1.size); have HX2 : Hid (BS h (w1.alloc (.cells #[.bool lb, .slice b1 n1 c1, .slice a2 n2 c2] 59))) := BS_gb (r := none) x1 (gb_below bA) nofun; have HK : Hid (KV ks a2 n2 w1 hs) := hk; have BA : Hid (Below w1.heap.size w1 (w1.alloc (.cells #[.bool lb, .slice b1 n1 c1, .slice a2 n2 c2] 59))) := bA; clear KD l0 bb x0 x1 l1 hk bA; have HN : Hid (n2 = ks.length) := HK.out.e; have HLN : Hid (hs.length = n2) := by show _ = _; rw [HK.out.h.l, List.length_map]; exact HN.out.symm
 go_wp2_with fail
 generalize w1.alloc (.cells #[.bool lb, .slice b1 n1 c1, .slice a2 n2 c2] 59) = w2 at *; go_loopw [6, 28] (fun v i wr => ∃ k : Nat, k ≤ n2 ∧ i = .int .i64 (k : Int) ∧ Hid (wr.ownsRow w2.heap.size 24 1 v (hs.take k).length (hs.take k) ∧ Below w2.heap.size w2 wr)) (fun _ i _ => ((n2 : Int) - intOf i).toNat)
 case atStart => exact ⟨0, Nat.zero_le _, rfl, World.ownsRow_nil _ _ _ _, Below.refl _ _⟩
 case round =>
  obtain ⟨k, hk1, rfl, HI⟩ := hrel; obtain ⟨ak, nk, ck, rfl⟩ := own_form HI.out.1; have BW : Hid (Below w1.heap.size w1 wr) := BA.out.trans (HI.out.2.mono BA.out.size); by_cases h1 : k < n2
  ·have d0 : (k : Int) < (n2 : Int) := by omega
   have d1 : (0 : Int) ≤ (k : Int) := by omega
   have hw := Nb.stp k (by have := hz.out; have := HN.out; show _ ≤ _; omega)
   obtain ⟨g, off, rfl, hg, hcc⟩ := HK.out.c (by omega); obtain ⟨x1, y1, x2, m2, y2, e1, k0, k1, k2⟩ := hcc k h1; have r0 := (BW.out.cell (p := ⟨g, off + k * 3, none⟩) hg).trans k0; have r1 := (BW.out.cell (p := ⟨g, off + k * 3 + 1, none⟩) hg).trans k1; have r2 := (BW.out.cell (p := ⟨g, off + k * 3 + 2, none⟩) hg).trans k2; have HK1 : Hid (k < n2) := h1; have hkh : k < hs.length := by have := HLN.out; omega
   have HTK : Hid (hs.take (k + 1) = hs.take k ++ [.slice x1 (txt (ks.getD k It.no)).length y1]) := by
    show _ = _
    rw [List.take_add_one, List.getElem?_eq_getElem hkh]; have : hs[k] = .slice x1 (txt (ks.getD k It.no)).length y1 := by rw [← e1, List.getD_eq_getElem?_getD, List.getElem?_eq_getElem hkh]; rfl
    rw [this]; rfl
   clear hg hcc k0 k1 k2 e1 hkh BW; generalize (txt (ks.getD k It.no)).length = mk at *; generalize isL (ks.getD k It.no) = lk at *; have bA : Below wr.heap.size wr (wr.alloc (.cells #[.bool lk, .slice x1 mk y1, .slice x2 m2 y2] 59)) := (Below.refl _ _).alloc (Nat.le_refl _) _; have hs1 : (wr.alloc (.cells #[.bool lk, .slice x1 mk y1, .slice x2 m2 y2] 59)).heap.size = wr.heap.size + 1 := by simp
   have bB : Below wr.heap.size wr ((wr.alloc (.cells #[.bool lk, .slice x1 mk y1, .slice x2 m2 y2] 59)).alloc (.cells #[.slice x1 mk y1] 24)) := bA.alloc (by omega) _; have hnw := heap_alloc_new (wr.alloc (.cells #[.bool lk, .slice x1 mk y1, .slice x2 m2 y2] 59)) (.cells #[.slice x1 mk y1] 24); rw [hs1] at hnw; have oB : ((wr.alloc (.cells #[.bool lk, .slice x1 mk y1, .slice x2 m2 y2] 59)).alloc (.cells #[.slice x1 mk y1] 24)).ownsRow w2.heap.size 24 1 (.slice ak nk ck) (hs.take k).length (hs.take k) := (HI.out.1.alloc _).alloc _; have vB : Vl [.slice x1 mk y1] (.slice (some ⟨wr.heap.size + 1, 0, none⟩) 1 1) ((wr.alloc (.cells #[.bool lk, .slice x1 mk y1, .slice x2 m2 y2] 59)).alloc (.cells #[.slice x1 mk y1] 24)) := ⟨_, 1, rfl, fun _ => ⟨_, 0, rfl, by simp, fun j hj => by
    have : j = 0 := by simp at hj; omega
    subst this; simp only [World.cell?, hnw]; rfl⟩⟩
   have hbw := HI.out.2.size; obtain ⟨v', w', hap, ho', hb'⟩ := appv_r (ys := [.slice x1 mk y1]) 25 oB vB (fun u hu => by rw [List.mem_singleton.1 hu]; rfl) (by have := bB.size; omega) (by rw [List.length_take]; have := hz.out; have := HN.out; simp; omega)
   rw [← HTK.out] at ho'; obtain ⟨ak2, nk2, ck2, rfl⟩ := own_form ho'; have HI7 : Hid (w'.ownsRow w2.heap.size 24 1 (.slice ak2 nk2 ck2) (hs.take (k + 1)).length (hs.take (k + 1)) ∧ Below w2.heap.size w2 w') := ⟨ho', (HI.out.2.trans (bB.mono hbw)).trans hb'⟩; clear HI HTK bA bB hs1 hnw oB vB hbw ho' hb'; go_wp2_with (at_builtin; refine wpList_apw rfl rfl rfl rfl hap ?_)
   have hw := hw.out; go_roundw
   case rel => exact ⟨k + 1, HK1.out, Nb.step_v k _ hw, HI7⟩
   case measure => exact Nb.msr k n2 HK1.out _ hw
  ·have hkl : k = n2 := by omega
   have ex : hs.take k = hs := by rw [hkl, ← HLN.out, List.take_length]
   have ho := HI.out.1; rw [ex] at ho; have HLS : Hid (Ls (ks.map txt) (.slice ak nk ck) wr) := own_ls ho (Hds_below HK.out.h BW.out); have HRF : Hid (Rf w2.heap.size (.slice ak nk ck)) := rf_own ho; have HCP : Hid (nk ≤ ck) := own_cap ho; have HNK : Hid (nk = ks.length) := by
    obtain ⟨_, _, e⟩ := own_len ho; injection e with _ e _
    show _ = _
    rw [e, HLN.out]; exact HN.out
   have HLR : Hid (Below w.heap.size w wr) := HL2.out.trans (HI.out.2.mono HL2.out.size); have HXR : Hid (BS h wr) := BS_gb (r := none) HX2.out (gb_below HI.out.2) nofun; have HHW : Hid (h < w2.heap.size) := HX2.out.hi; have HWR : Hid (w2.heap.size ≤ wr.heap.size) := HI.out.2.size; clear HI BW ho ex h1 hk1 HK HL2 HX2 BA HN HLN; subst hkl; have e2 : nk = 2 := by rw [HNK.out]; exact h2.out
   subst e2; obtain ⟨ax, cx, ex, hL⟩ := HLS.out; injection ex with e1 e9 e3
   clear e9; subst e1 e3; obtain ⟨g, off, eA, hg, hcc⟩ := hL (by rw [List.length_map, h2.out]; decide)
   subst eA; have hg2 : w2.heap.size ≤ g := HRF.out g rfl; have hck := HCP.out; have bT : Below wr.heap.size wr (wr.alloc (.cells #[.int .i64 0, .slice none 0 0, .slice none 0 0, .slice none 0 0] 34)) := (Below.refl _ _).alloc (Nat.le_refl _) _; have oT := own_t wr wr.heap.size (Nat.le_refl _); obtain ⟨v0, k0, s0⟩ := hcc 0 (by rw [List.length_map, h2.out]; decide)
   obtain ⟨v1, k1, s1⟩ := hcc 1 (by rw [List.length_map, h2.out]; decide)
   obtain ⟨b0, d0, rfl⟩ := Sl_fm s0; obtain ⟨b2, d2, rfl⟩ := Sl_fm s1; have y0 := (bT.cell (p := ⟨g, off, none⟩) hg).trans k0; have KU2 : Hid _ := KU.out b0 d0 _ (Sl_below s0 bT); have HPK : Hid (wr.cell? ⟨g, off + 1, none⟩ = some (.slice b2 ((ks.map txt).getD 1 []).length d2) ∧ g < wr.heap.size ∧ w2.heap.size ≤ g) := ⟨k1, hg, hg2⟩; have HS1 : Hid (Sl ((ks.map txt).getD 1 []) (.slice b2 ((ks.map txt).getD 1 []).length d2) wr) := s1; have HBT : Hid (Below wr.heap.size wr (wr.alloc (.cells #[.int .i64 0, .slice none 0 0, .slice none 0 0, .slice none 0 0] 34))) := bT; have HOT : Hid ((wr.alloc (.cells #[.int .i64 0, .slice none 0 0, .slice none 0 0, .slice none 0 0] 34)).ownsRow wr.heap.size 34 4 (.slice (some ⟨wr.heap.size, 0, none⟩) 1 1) 1 [.int .i64 0, .slice none 0 0, .slice none 0 0, .slice none 0 0]) := oT; clear hL hcc k0 k1 s0 s1 hg hg2 bT oT HLS; generalize ((ks.map txt).getD 0 []).length = m0 at *; obtain ⟨beh, hbeh⟩ : ∃ beh, beh = (ks.map txt).getD 1 [] := ⟨_, rfl⟩; rw [← hbeh] at HS1 HPK; have EBH : Hid (beh = (ks.map txt).getD 1 []) := hbeh; clear hbeh; have c1c : (2 : Int) ≤ (ck : Int) := by omega
   have c1d : (1 : Int) ≤ (ck : Int) := by omega
   go_wp2_with fail
   refine Calls.mono KU2.out ?_; rintro e w6 ⟨v, z, rfl, s6, b6⟩; obtain ⟨pa, pc, rfl⟩ := Sl_fm s6; have z1 := (b6.cell (p := ⟨g, off + 1, none⟩) (Nat.lt_of_lt_of_le HPK.out.2.1 HBT.out.size)).trans ((HBT.out.cell (p := ⟨g, off + 1, none⟩) HPK.out.2.1).trans HPK.out.1); have bT := HBT.out; have oT := HOT.out; have s1' : Sl beh (.slice b2 beh.length d2) w6 := Sl_below (Sl_below HS1.out bT) b6; clear KU2 HBT HOT y0; have b7 : Below w6.heap.size w6 (w6.alloc (.cells #[.int .i64 1, .slice pa P.length pc, .slice b2 beh.length d2, .slice none 0 0] 34)) := (Below.refl _ _).alloc (Nat.le_refl _) _; have b67 := b6.trans (b7.mono b6.size); have HA := heap_alloc_new w6 (.cells #[.int .i64 1, .slice pa P.length pc, .slice b2 beh.length d2, .slice none 0 0] 34); have n0 : (w6.alloc (.cells #[.int .i64 1, .slice pa P.length pc, .slice b2 beh.length d2, .slice none 0 0] 34)).cell? ⟨w6.heap.size, 0, none⟩ = some (.int .i64 1) := by simp only [World.cell?, HA]; rfl
   have n1 : (w6.alloc (.cells #[.int .i64 1, .slice pa P.length pc, .slice b2 beh.length d2, .slice none 0 0] 34)).cell? ⟨w6.heap.size, 1, none⟩ = some (.slice pa P.length pc) := by simp only [World.cell?, HA]; rfl
   have n2 : (w6.alloc (.cells #[.int .i64 1, .slice pa P.length pc, .slice b2 beh.length d2, .slice none 0 0] 34)).cell? ⟨w6.heap.size, 2, none⟩ = some (.slice b2 beh.length d2) := by simp only [World.cell?, HA]; rfl
   have n3 : (w6.alloc (.cells #[.int .i64 1, .slice pa P.length pc, .slice b2 beh.length d2, .slice none 0 0] 34)).cell? ⟨w6.heap.size, 3, none⟩ = some (.slice none 0 0) := by simp only [World.cell?, HA]; rfl
   have OBH : (Value.slice none 0 0).ownBlock ≠ some h := nofun; have hx7 : BS wr.heap.size (w6.alloc (.cells #[.int .i64 1, .slice pa P.length pc, .slice b2 beh.length d2, .slice none 0 0] 34)) := BS_gb (r := none) (BS_new wr) (gb_below b67) nofun; have oT7 : (w6.alloc (.cells #[.int .i64 1, .slice pa P.length pc, .slice b2 beh.length d2, .slice none 0 0] 34)).ownsRow wr.heap.size 34 4 (.slice (some ⟨wr.heap.size, 0, none⟩) 1 1) 1 [.int .i64 0, .slice none 0 0, .slice none 0 0, .slice none 0 0] := ownb oT b67; have l7 : Below w.heap.size w (w6.alloc (.cells #[.int .i64 1, .slice pa P.length pc, .slice b2 beh.length d2, .slice none 0 0] 34)) := HLR.out.trans ((bT.trans (b67.mono bT.size)).mono HLR.out.size); obtain ⟨G, cap, w8, hap, ho8, hgr⟩ := app_sh 62 (.int .i64 1) (.slice pa P.length pc) (.slice b2 beh.length d2) (.slice none 0 0) rfl rfl rfl rfl oT7 n0 n1 n2 n3 (by have := bT.size; have := b67.size; omega)
   have hgr : (w6.alloc (.cells #[.int .i64 1, .slice pa P.length pc, .slice b2 beh.length d2, .slice none 0 0] 34)).grownBy w8 (some wr.heap.size) := hgr; have hhw : h < wr.heap.size := HXR.out.hi; have HL8 : Hid (Below w.heap.size w w8) := l7.trans ⟨hgr.os, hgr.tape, hgr.output, hgr.size, fun j hj => hgr.block j (by have := l7.size; omega) (fun e => by injection e with e; have := HLR.out.size; omega)⟩
   have HX8 : Hid (BS h w8) := BS_gb (BS_gb (r := none) HXR.out (gb_below (bT.trans (b67.mono bT.size))) nofun) hgr (fun e => by injection e with e; omega)
   have S8 : Sh (1, P, beh, []) (.int .i64 1, .slice pa P.length pc, .slice b2 beh.length d2, .slice none 0 0) w8 := Sh_gb ⟨rfl, Sl_below s6 b7, Sl_below s1' b7, Ls_nil' _⟩ (BS_nb hx7) nofun hgr; have HCC : Hid (G < w8.heap.size ∧ ∀ j, j < 2 → ∃ k p1 p2 p3 p4 p5 p6 p7 p8 p9, Sh (ss.getD j zS) (.int .i64 k, .slice p1 p2 p3, .slice p4 p5 p6, .slice p7 p8 p9) w8 ∧ (Value.slice p7 p8 p9).ownBlock ≠ some h ∧ w8.cell? ⟨G, j * 4, none⟩ = some (.int .i64 k) ∧ w8.cell? ⟨G, j * 4 + 1, none⟩ = some (.slice p1 p2 p3) ∧ w8.cell? ⟨G, j * 4 + 2, none⟩ = some (.slice p4 p5 p6) ∧ w8.cell? ⟨G, j * 4 + 3, none⟩ = some (.slice p7 p8 p9)) := by
    obtain ⟨gT, cT, eT, _, hgT, hcT⟩ := own_cellz ho8 (by decide); injection eT with eT _ _
    injection eT with eT
    injection eT with eT _ _
    subst eT; refine ⟨hgT, fun j hj => ?_⟩
    have hj2 : j = 0 ∨ j = 1 := by omega
    rcases hj2 with rfl | rfl
    ·exact ⟨0, none, 0, 0, none, 0, 0, none, 0, 0, by rw [hss.out]; exact ⟨rfl, Sl_nil _, Sl_nil _, Ls_nil' _⟩, nofun, hcT 0 _ rfl, hcT 1 _ rfl, hcT 2 _ rfl, hcT 3 _ rfl⟩
    ·exact ⟨_, _, _, _, _, _, _, _, _, _, by rw [hss.out, ← EBH.out]; exact S8, OBH, hcT 4 _ rfl, hcT 5 _ rfl, hcT 6 _ rfl, hcT 7 _ rfl⟩
   have hlen : Hid (ss.length = 2) := by show _ = _; rw [hss.out]; rfl
   clear b7 b67 HA n0 n1 n2 n3 hx7 oT7 l7 ho8 hgr S8 s6 b6 bT oT s1' HS1 HPK HLR HXR hhw OBH HRF HCP HNK HHW HWR; generalize P.length = pl at *; generalize beh.length = bl at *; go_upto_region 18 with (at_builtin; refine wpList_apw rfl rfl rfl rfl hap ?_)
   have HB8 : Hid (∀ wx, Below w8.heap.size w8 wx → Sl b (.slice a n c) wx) := fun wx hbx => hb.out wx (HL8.out.trans (hbx.mono HL8.out.size))
   clear hb; go_wp2_with fail
   go_loopw [81] (fun s wx => ∃ j : Nat, j ≤ 2 ∧ s = .int .i64 (j : Int) ∧ Hid ((∀ i, i < j → fits b (ss.getD i zS) = false) ∧ Below w8.heap.size w8 wx)) (fun s _ => ((2 : Int) - intOf s).toNat)
   case atStart => exact ⟨0, Nat.zero_le _, rfl, fun i hi => absurd hi (by omega), Below.refl _ _⟩
   case round =>
    rename World => wx
    obtain ⟨j, hj, rfl, HJ⟩ := hrel; by_cases j1 : j < 2
    ·have d0 : (j : Int) < 2 := by omega
     have d1 : (0 : Int) ≤ (j : Int) := by omega
     have hw := Nb.stp j (by show _ ≤ _; omega)
     obtain ⟨k, p1, p2, p3, p4, p5, p6, p7, p8, p9, sh, ob, y0, y1, y2, y3⟩ := HCC.out.2 j j1; have r0 := (HJ.out.2.cell (p := ⟨G, j * 4, none⟩) HCC.out.1).trans y0; have r1 := (HJ.out.2.cell (p := ⟨G, j * 4 + 1, none⟩) HCC.out.1).trans y1; have r2 := (HJ.out.2.cell (p := ⟨G, j * 4 + 2, none⟩) HCC.out.1).trans y2; have r3 := (HJ.out.2.cell (p := ⟨G, j * 4 + 3, none⟩) HCC.out.1).trans y3; have bA : Below wx.heap.size wx (wx.alloc (.cells #[.int .i64 k, .slice p1 p2 p3, .slice p4 p5 p6, .slice p7 p8 p9] 34)) := (Below.refl _ _).alloc (Nat.le_refl _) _; have b8 := HJ.out.2.trans (bA.mono HJ.out.2.size); obtain ⟨s, hs'⟩ : ∃ s, s = ss.getD j zS := ⟨_, rfl⟩; have HS : Hid (s = ss.getD j zS) := hs'; rw [← hs'] at sh; have hjs : j < ss.length := by rw [hlen.out]; exact j1
     have hmem : s ∈ ss := by rw [hs', List.getD_eq_getElem?_getD, List.getElem?_eq_getElem hjs]; exact List.getElem_mem _
     have HJL : Hid (j < ss.length) := hjs; have shA := Sh_below (Sh_below sh HJ.out.2) bA; have KC : Hid _ := KH.out s (.int .i64 k, .slice p1 p2 p3, .slice p4 p5 p6, .slice p7 p8 p9) _ hmem shA; have HSA : Hid (Sh s (.int .i64 k, .slice p1 p2 p3, .slice p4 p5 p6, .slice p7 p8 p9) (wx.alloc (.cells #[.int .i64 k, .slice p1 p2 p3, .slice p4 p5 p6, .slice p7 p8 p9] 34))) := shA; have HOB : Hid ((Value.slice p7 p8 p9).ownBlock ≠ some h) := ob; have HA := heap_alloc_new wx (.cells #[.int .i64 k, .slice p1 p2 p3, .slice p4 p5 p6, .slice p7 p8 p9] 34); have q0 : (wx.alloc (.cells #[.int .i64 k, .slice p1 p2 p3, .slice p4 p5 p6, .slice p7 p8 p9] 34)).cell? ⟨wx.heap.size, 0, none⟩ = some (.int .i64 k) := by simp only [World.cell?, HA]; rfl
     have q1 : (wx.alloc (.cells #[.int .i64 k, .slice p1 p2 p3, .slice p4 p5 p6, .slice p7 p8 p9] 34)).cell? ⟨wx.heap.size, 1, none⟩ = some (.slice p1 p2 p3) := by simp only [World.cell?, HA]; rfl
     have q2 : (wx.alloc (.cells #[.int .i64 k, .slice p1 p2 p3, .slice p4 p5 p6, .slice p7 p8 p9] 34)).cell? ⟨wx.heap.size, 2, none⟩ = some (.slice p4 p5 p6) := by simp only [World.cell?, HA]; rfl
     have q3 : (wx.alloc (.cells #[.int .i64 k, .slice p1 p2 p3, .slice p4 p5 p6, .slice p7 p8 p9] 34)).cell? ⟨wx.heap.size, 3, none⟩ = some (.slice p7 p8 p9) := by simp only [World.cell?, HA]; rfl
     have hwA : wx.heap.size < (wx.alloc (.cells #[.int .i64 k, .slice p1 p2 p3, .slice p4 p5 p6, .slice p7 p8 p9] 34)).heap.size := by simp
     have HB9 : Hid (Below w8.heap.size w8 (wx.alloc (.cells #[.int .i64 k, .slice p1 p2 p3, .slice p4 p5 p6, .slice p7 p8 p9] 34))) := b8; have HFN : Hid (∀ i, i < j → fits b (ss.getD i zS) = false) := HJ.out.1; clear sh ob y0 y1 y2 y3 bA b8 hs' hjs hmem shA HA HJ; dsimp only [v4] at KC; go_upto_region 21 with fail
     generalize wx.alloc (.cells #[.int .i64 k, .slice p1 p2 p3, .slice p4 p5 p6, .slice p7 p8 p9] 34) = w9 at *; generalize wx.heap.size = g9 at *; clear r0 r1 r2 r3; go_wp2_with fail
     refine Calls.mono KC.out ?_; rintro e w10 ⟨v, rfl, sc, bc⟩; obtain ⟨va, vc, rfl⟩ := Sl_fm sc; have HB10 : Hid (Below w8.heap.size w8 w10) := HB9.out.trans (bc.mono HB9.out.size); have HS10 : Hid (Sh s (.int .i64 k, .slice p1 p2 p3, .slice p4 p5 p6, .slice p7 p8 p9) w10) := Sh_below HSA.out bc; have t0 := (bc.cell (p := ⟨g9, 0, none⟩) hwA).trans q0; have t1 := (bc.cell (p := ⟨g9, 1, none⟩) hwA).trans q1; have t2 := (bc.cell (p := ⟨g9, 2, none⟩) hwA).trans q2; have t3 := (bc.cell (p := ⟨g9, 3, none⟩) hwA).trans q3; have cv1 := Sl_bst sc; have cv2 := Sl_bst (HB8.out w10 HB10.out); have HFT : fits b s = false → Hid (∀ i, i < j + 1 → fits b (ss.getD i zS) = false) := fun e i hi => by
      by_cases e2 : i = j
      ·subst e2; rw [← HS.out]; exact e
      ·exact HFN.out i (by omega)
     clear bc sc KC HSA HB9 q0 q1 q2 q3 hwA; cases hI : isS s with
     | false =>
      have e1 : he s = 1 := by unfold he; rw [hI]; rfl
      have HF := HFT (by unfold fits; rw [hI]; rfl)
      rw [e1]; clear HFT hI e1 cv1 cv2 t0 t1 t2 t3; generalize (hc s).length = hl at *; go_wp2_with fail
      have hw := hw.out; go_roundw
      case rel => exact ⟨j + 1, j1, Nb.step_v j _ rfl, HF.out, HB10.out⟩
      case measure => exact Nb.msr j 2 j1 _ rfl
     | true =>
      have e1 : he s = 0 := by unfold he; rw [hI]; rfl
      have e2 : hc s = enc (itS s) := by unfold hc; rw [hI]; rfl
      have ef : fits b s = decide (hc s = b) := by unfold fits; rw [hI, e2]; rfl
      rw [e1]; by_cases eb : hc s = b
      ·have hq : ((bst (hc s)).toList == (bst b).toList) = true := by rw [eb]; exact beq_self_eq_true _
       have HFF : Hid (fnd b ss = (s, 0)) := by
        show _ = _
        unfold fnd
        rw [find_at (fits b) zS ss j HJL.out HFN.out (by rw [← HS.out, ef]; exact decide_eq_true eb), ← HS.out]
       clear HFT hI e1 e2 ef eb hw; generalize (hc s).length = hl at *; generalize bst (hc s) = X1 at *; generalize bst b = X2 at *; have x10 : BS h w10 := BS_gb (r := none) HX8.out (gb_below HB10.out) nofun; go_upto_region 23 with fail
       go_wp2_with (refine wpList_stS rfl rfl rfl rfl x10 ?_)
       intro w6 g6 z0 z1 z2 z3; have l5 := HL8.out.trans (HB10.out.mono HL8.out.size); have l6 : Hid (Below w.heap.size w w6) := l5.trans ⟨g6.os, g6.tape, g6.output, g6.size, fun j hj => g6.block j (by have := l5.size; omega) (fun e => by injection e with e; have := EH.out; omega)⟩
       have S6 : Hid (Sh s (.int .i64 k, .slice p1 p2 p3, .slice p4 p5 p6, .slice p7 p8 p9) w6) := Sh_gb HS10.out (BS_nb x10) HOB.out g6; clear g6 x10 l5 t0 t1 t2 t3 cv1 cv2; go_wp2_with fail
       exact bodyPost_ret (v := .tuple #[.agg #[.int .i64 k, .slice p1 p2 p3, .slice p4 p5 p6, .slice p7 p8 p9], .int .i64 0]) (resS2 _ _ _ h 2 3 _ _ _ _ _ rfl rfl rfl z0 z1 z2 z3) rfl (by rw [HFF.out]; exact ⟨(.int .i64 k, .slice p1 p2 p3, .slice p4 p5 p6, .slice p7 p8 p9), rfl, S6.out, l6.out, ⟨_, _, _, _, _, _, _, _, _, _, rfl⟩⟩)
      ·have HF := HFT (by rw [ef]; exact decide_eq_false eb)
       have hq : ((bst (hc s)).toList == (bst b).toList) = false := (bs_eq (hc s) b).trans (decide_eq_false eb); clear HFT hI e1 e2 ef eb t0 t1 t2 t3; generalize (hc s).length = hl at *; generalize bst (hc s) = X1 at *; generalize bst b = X2 at *; go_wp2_with fail
       have hw := hw.out; go_roundw
       case rel => exact ⟨j + 1, j1, Nb.step_v j _ rfl, HF.out, HB10.out⟩
       case measure => exact Nb.msr j 2 j1 _ rfl
    ·have hkl : j = 2 := by omega
     subst hkl; have HFF : Hid (fnd b ss = (zS, 1)) := by
      show _ = _
      unfold fnd
      rw [find_no (fits b) zS ss (fun i hi => HJ.out.1 i (by rw [hlen.out] at hi; exact hi))]
     have x10 : BS h wx := BS_gb (r := none) HX8.out (gb_below HJ.out.2) nofun; have l5 := HL8.out.trans (HJ.out.2.mono HL8.out.size); clear j1 hj HJ; go_upto_region 25 with fail
     go_wp2_with (refine wpList_stS rfl rfl rfl rfl x10 ?_)
     intro w6 g6 z0 z1 z2 z3; have l6 : Hid (Below w.heap.size w w6) := l5.trans ⟨g6.os, g6.tape, g6.output, g6.size, fun j hj => g6.block j (by have := l5.size; omega) (fun e => by injection e with e; have := EH.out; omega)⟩
     clear g6 x10 l5; go_wp2_with fail
     exact bodyPost_ret (v := .tuple #[.agg #[.int .i64 0, .slice none 0 0, .slice none 0 0, .slice none 0 0], .int .i64 1]) (resS2 _ _ _ h 2 3 _ _ _ _ _ rfl rfl rfl z0 z1 z2 z3) rfl (by rw [HFF.out]; exact ⟨(.int .i64 0, .slice none 0 0, .slice none 0 0, .slice none 0 0), rfl, ⟨rfl, Sl_nil _, Sl_nil _, Ls_nil' _⟩, l6.out, ⟨_, _, _, _, _, _, _, _, _, _, rfl⟩⟩)
set_option maxHeartbeats 8000000 in
set_option maxRecDepth 100000 in
theorem hr_road (b : List UInt8) (a : Option Addr) (n c : Nat) (w : World) (ks : List It) (ss : List Shp) (hb : Hid (∀ wx, Below w.heap.size w wx → Sl b (.slice a n c) wx))
  (KD : Hid (∀ wx : World, Below w.heap.size w wx → Calls Try.prog 23 #[.slice a n c] wx fun e w' => ∃ lb a1 n1 c1 a2 n2 c2 hs, e = .returned (.tuple #[.agg #[.bool lb, .slice a1 n1 c1, .slice a2 n2 c2], .int .i64 0]) ∧ KV ks a2 n2 w' hs ∧ Below wx.heap.size wx w')) (hz : Hid (ks.length ≤ 1048576))
  (KH : Hid (∀ (s : Shp) (x : V4) (wx : World), s ∈ ss → Sh s x wx → Calls Try.prog 25 #[v4 x] wx fun e w' => ∃ v, e = .returned (.tuple #[v, .int .i64 (he s)]) ∧ Sl (hc s) v w' ∧ Below wx.heap.size wx w')) (P : List UInt8) (KU : Hid (∀ (x : Option Addr) (y : Nat) (wx : World), Sl ((ks.map txt).getD 0 []) (.slice x ((ks.map txt).getD 0 []).length y) wx → Calls Try.prog 24 #[.slice x ((ks.map txt).getD 0 []).length y] wx fun e w' => ∃ v z, e = .returned (.tuple #[v, .bool false, .int .i64 z]) ∧ Sl P v w' ∧ Below wx.heap.size wx w')) (hss : Hid (ss = [zS, (2, P, [], [(ks.map txt).getD 1 []])])) (h2 : Hid (ks.length = 2)) :
  Calls Try.prog 16 #[.slice a n c] w (PR w (fnd b ss).1 (fnd b ss).2) := by
 have x0 := BS_new w; have l0 : Below w.heap.size w (w.alloc (.cells #[.int .i64 0, .slice none 0 0, .slice none 0 0, .slice none 0 0] 34)) := (Below.refl _ _).alloc (Nat.le_refl _) _; go_enter Try.func16, Try.ntmps16
 go_upto_region 1 with fail
 generalize w.alloc (.cells #[.int .i64 0, .slice none 0 0, .slice none 0 0, .slice none 0 0] 34) = W0 at *; obtain ⟨h, eh⟩ : ∃ h, h = w.heap.size := ⟨_, rfl⟩; have EH : Hid (h = w.heap.size) := eh; rw [← eh] at x0 ⊢; clear eh; go_wp2_with fail
 refine (KD.out _ l0).mono ?_; rintro e w1 ⟨lb, b1, n1, c1, a2, n2, c2, hs, rfl, hk, bb⟩; have l1 : Below w.heap.size w w1 := l0.trans (bb.mono l0.size); have x1 : BS h w1 := BS_gb (r := none) x0 (gb_below bb) nofun; have bA : Below w1.heap.size w1 (w1.alloc (.cells #[.bool lb, .slice b1 n1 c1, .slice a2 n2 c2] 59)) := (Below.refl _ _).alloc (Nat.le_refl _) _; have HL2 : Hid (Below w.heap.size w (w1.alloc (.cells #[.bool lb, .slice b1 n1 c1, .slice a2 n2 c2] 59))) := l1.trans (bA.mono l1.size); have HX2 : Hid (BS h (w1.alloc (.cells #[.bool lb, .slice b1 n1 c1, .slice a2 n2 c2] 59))) := BS_gb (r := none) x1 (gb_below bA) nofun; have HK : Hid (KV ks a2 n2 w1 hs) := hk; have BA : Hid (Below w1.heap.size w1 (w1.alloc (.cells #[.bool lb, .slice b1 n1 c1, .slice a2 n2 c2] 59))) := bA; clear KD l0 bb x0 x1 l1 hk bA; have HN : Hid (n2 = ks.length) := HK.out.e; have HLN : Hid (hs.length = n2) := by show _ = _; rw [HK.out.h.l, List.length_map]; exact HN.out.symm
 go_wp2_with fail
 generalize w1.alloc (.cells #[.bool lb, .slice b1 n1 c1, .slice a2 n2 c2] 59) = w2 at *; go_loopw [6, 28] (fun v i wr => ∃ k : Nat, k ≤ n2 ∧ i = .int .i64 (k : Int) ∧ Hid (wr.ownsRow w2.heap.size 24 1 v (hs.take k).length (hs.take k) ∧ Below w2.heap.size w2 wr)) (fun _ i _ => ((n2 : Int) - intOf i).toNat)
 case atStart => exact ⟨0, Nat.zero_le _, rfl, World.ownsRow_nil _ _ _ _, Below.refl _ _⟩
 case round =>
  obtain ⟨k, hk1, rfl, HI⟩ := hrel; obtain ⟨ak, nk, ck, rfl⟩ := own_form HI.out.1; have BW : Hid (Below w1.heap.size w1 wr) := BA.out.trans (HI.out.2.mono BA.out.size); by_cases h1 : k < n2
  ·have d0 : (k : Int) < (n2 : Int) := by omega
   have d1 : (0 : Int) ≤ (k : Int) := by omega
   have hw := Nb.stp k (by have := hz.out; have := HN.out; show _ ≤ _; omega)
   obtain ⟨g, off, rfl, hg, hcc⟩ := HK.out.c (by omega); obtain ⟨x1, y1, x2, m2, y2, e1, k0, k1, k2⟩ := hcc k h1; have r0 := (BW.out.cell (p := ⟨g, off + k * 3, none⟩) hg).trans k0; have r1 := (BW.out.cell (p := ⟨g, off + k * 3 + 1, none⟩) hg).trans k1; have r2 := (BW.out.cell (p := ⟨g, off + k * 3 + 2, none⟩) hg).trans k2; have HK1 : Hid (k < n2) := h1; have hkh : k < hs.length := by have := HLN.out; omega
   have HTK : Hid (hs.take (k + 1) = hs.take k ++ [.slice x1 (txt (ks.getD k It.no)).length y1]) := by
    show _ = _
    rw [List.take_add_one, List.getElem?_eq_getElem hkh]; have : hs[k] = .slice x1 (txt (ks.getD k It.no)).length y1 := by rw [← e1, List.getD_eq_getElem?_getD, List.getElem?_eq_getElem hkh]; rfl
    rw [this]; rfl
   clear hg hcc k0 k1 k2 e1 hkh BW; generalize (txt (ks.getD k It.no)).length = mk at *; generalize isL (ks.getD k It.no) = lk at *; have bA : Below wr.heap.size wr (wr.alloc (.cells #[.bool lk, .slice x1 mk y1, .slice x2 m2 y2] 59)) := (Below.refl _ _).alloc (Nat.le_refl _) _; have hs1 : (wr.alloc (.cells #[.bool lk, .slice x1 mk y1, .slice x2 m2 y2] 59)).heap.size = wr.heap.size + 1 := by simp
   have bB : Below wr.heap.size wr ((wr.alloc (.cells #[.bool lk, .slice x1 mk y1, .slice x2 m2 y2] 59)).alloc (.cells #[.slice x1 mk y1] 24)) := bA.alloc (by omega) _; have hnw := heap_alloc_new (wr.alloc (.cells #[.bool lk, .slice x1 mk y1, .slice x2 m2 y2] 59)) (.cells #[.slice x1 mk y1] 24); rw [hs1] at hnw; have oB : ((wr.alloc (.cells #[.bool lk, .slice x1 mk y1, .slice x2 m2 y2] 59)).alloc (.cells #[.slice x1 mk y1] 24)).ownsRow w2.heap.size 24 1 (.slice ak nk ck) (hs.take k).length (hs.take k) := (HI.out.1.alloc _).alloc _; have vB : Vl [.slice x1 mk y1] (.slice (some ⟨wr.heap.size + 1, 0, none⟩) 1 1) ((wr.alloc (.cells #[.bool lk, .slice x1 mk y1, .slice x2 m2 y2] 59)).alloc (.cells #[.slice x1 mk y1] 24)) := ⟨_, 1, rfl, fun _ => ⟨_, 0, rfl, by simp, fun j hj => by
    have : j = 0 := by simp at hj; omega
    subst this; simp only [World.cell?, hnw]; rfl⟩⟩
   have hbw := HI.out.2.size; obtain ⟨v', w', hap, ho', hb'⟩ := appv_r (ys := [.slice x1 mk y1]) 25 oB vB (fun u hu => by rw [List.mem_singleton.1 hu]; rfl) (by have := bB.size; omega) (by rw [List.length_take]; have := hz.out; have := HN.out; simp; omega)
   rw [← HTK.out] at ho'; obtain ⟨ak2, nk2, ck2, rfl⟩ := own_form ho'; have HI7 : Hid (w'.ownsRow w2.heap.size 24 1 (.slice ak2 nk2 ck2) (hs.take (k + 1)).length (hs.take (k + 1)) ∧ Below w2.heap.size w2 w') := ⟨ho', (HI.out.2.trans (bB.mono hbw)).trans hb'⟩; clear HI HTK bA bB hs1 hnw oB vB hbw ho' hb'; go_wp2_with (at_builtin; refine wpList_apw rfl rfl rfl rfl hap ?_)
   have hw := hw.out; go_roundw
   case rel => exact ⟨k + 1, HK1.out, Nb.step_v k _ hw, HI7⟩
   case measure => exact Nb.msr k n2 HK1.out _ hw
  ·have hkl : k = n2 := by omega
   have ex : hs.take k = hs := by rw [hkl, ← HLN.out, List.take_length]
   have ho := HI.out.1; rw [ex] at ho; have HLS : Hid (Ls (ks.map txt) (.slice ak nk ck) wr) := own_ls ho (Hds_below HK.out.h BW.out); have HRF : Hid (Rf w2.heap.size (.slice ak nk ck)) := rf_own ho; have HCP : Hid (nk ≤ ck) := own_cap ho; have HNK : Hid (nk = ks.length) := by
    obtain ⟨_, _, e⟩ := own_len ho; injection e with _ e _
    show _ = _
    rw [e, HLN.out]; exact HN.out
   have HLR : Hid (Below w.heap.size w wr) := HL2.out.trans (HI.out.2.mono HL2.out.size); have HXR : Hid (BS h wr) := BS_gb (r := none) HX2.out (gb_below HI.out.2) nofun; have HHW : Hid (h < w2.heap.size) := HX2.out.hi; have HWR : Hid (w2.heap.size ≤ wr.heap.size) := HI.out.2.size; clear HI BW ho ex h1 hk1 HK HL2 HX2 BA HN HLN; subst hkl; have e2 : nk = 2 := by rw [HNK.out]; exact h2.out
   subst e2; obtain ⟨ax, cx, ex, hL⟩ := HLS.out; injection ex with e1 e9 e3
   clear e9; subst e1 e3; obtain ⟨g, off, eA, hg, hcc⟩ := hL (by rw [List.length_map, h2.out]; decide)
   subst eA; have hg2 : w2.heap.size ≤ g := HRF.out g rfl; have hck := HCP.out; have bT : Below wr.heap.size wr (wr.alloc (.cells #[.int .i64 0, .slice none 0 0, .slice none 0 0, .slice none 0 0] 34)) := (Below.refl _ _).alloc (Nat.le_refl _) _; have oT := own_t wr wr.heap.size (Nat.le_refl _); obtain ⟨v0, k0, s0⟩ := hcc 0 (by rw [List.length_map, h2.out]; decide)
   obtain ⟨v1, k1, s1⟩ := hcc 1 (by rw [List.length_map, h2.out]; decide)
   obtain ⟨b0, d0, rfl⟩ := Sl_fm s0; obtain ⟨b2, d2, rfl⟩ := Sl_fm s1; have y0 := (bT.cell (p := ⟨g, off, none⟩) hg).trans k0; have KU2 : Hid _ := KU.out b0 d0 _ (Sl_below s0 bT); have HPK : Hid (wr.cell? ⟨g, off + 1, none⟩ = some (.slice b2 ((ks.map txt).getD 1 []).length d2) ∧ g < wr.heap.size ∧ w2.heap.size ≤ g) := ⟨k1, hg, hg2⟩; have HS1 : Hid (Sl ((ks.map txt).getD 1 []) (.slice b2 ((ks.map txt).getD 1 []).length d2) wr) := s1; have HBT : Hid (Below wr.heap.size wr (wr.alloc (.cells #[.int .i64 0, .slice none 0 0, .slice none 0 0, .slice none 0 0] 34))) := bT; have HOT : Hid ((wr.alloc (.cells #[.int .i64 0, .slice none 0 0, .slice none 0 0, .slice none 0 0] 34)).ownsRow wr.heap.size 34 4 (.slice (some ⟨wr.heap.size, 0, none⟩) 1 1) 1 [.int .i64 0, .slice none 0 0, .slice none 0 0, .slice none 0 0]) := oT; clear hL hcc k0 k1 s0 s1 hg hg2 bT oT HLS; generalize ((ks.map txt).getD 0 []).length = m0 at *; obtain ⟨beh, hbeh⟩ : ∃ beh, beh = (ks.map txt).getD 1 [] := ⟨_, rfl⟩; rw [← hbeh] at HS1 HPK; have EBH : Hid (beh = (ks.map txt).getD 1 []) := hbeh; clear hbeh; have c1c : (2 : Int) ≤ (ck : Int) := by omega
   have c1d : (1 : Int) ≤ (ck : Int) := by omega
   go_wp2_with fail
   refine Calls.mono KU2.out ?_; rintro e w6 ⟨v, z, rfl, s6, b6⟩; obtain ⟨pa, pc, rfl⟩ := Sl_fm s6; have z1 := (b6.cell (p := ⟨g, off + 1, none⟩) (Nat.lt_of_lt_of_le HPK.out.2.1 HBT.out.size)).trans ((HBT.out.cell (p := ⟨g, off + 1, none⟩) HPK.out.2.1).trans HPK.out.1); have bT := HBT.out; have oT := HOT.out; have s1' : Sl beh (.slice b2 beh.length d2) w6 := Sl_below (Sl_below HS1.out bT) b6; clear KU2 HBT HOT y0; have lk : Ls [beh] (.slice (some ⟨g, off + 1, none⟩) 1 (ck - 1)) w6 := ⟨_, _, rfl, fun _ => ⟨g, off + 1, rfl, Nat.lt_of_lt_of_le HPK.out.2.1 (Nat.le_trans bT.size b6.size), fun i hi => by
    have : i = 0 := by simp at hi; omega
    subst this; exact ⟨_, z1, s1'⟩⟩⟩
   have b7 : Below w6.heap.size w6 (w6.alloc (.cells #[.int .i64 2, .slice pa P.length pc, .slice none 0 0, .slice (some ⟨g, off + 1, none⟩) 1 (ck - 1)] 34)) := (Below.refl _ _).alloc (Nat.le_refl _) _; have b67 := b6.trans (b7.mono b6.size); have HA := heap_alloc_new w6 (.cells #[.int .i64 2, .slice pa P.length pc, .slice none 0 0, .slice (some ⟨g, off + 1, none⟩) 1 (ck - 1)] 34); have n0 : (w6.alloc (.cells #[.int .i64 2, .slice pa P.length pc, .slice none 0 0, .slice (some ⟨g, off + 1, none⟩) 1 (ck - 1)] 34)).cell? ⟨w6.heap.size, 0, none⟩ = some (.int .i64 2) := by simp only [World.cell?, HA]; rfl
   have n1 : (w6.alloc (.cells #[.int .i64 2, .slice pa P.length pc, .slice none 0 0, .slice (some ⟨g, off + 1, none⟩) 1 (ck - 1)] 34)).cell? ⟨w6.heap.size, 1, none⟩ = some (.slice pa P.length pc) := by simp only [World.cell?, HA]; rfl
   have n2 : (w6.alloc (.cells #[.int .i64 2, .slice pa P.length pc, .slice none 0 0, .slice (some ⟨g, off + 1, none⟩) 1 (ck - 1)] 34)).cell? ⟨w6.heap.size, 2, none⟩ = some (.slice none 0 0) := by simp only [World.cell?, HA]; rfl
   have n3 : (w6.alloc (.cells #[.int .i64 2, .slice pa P.length pc, .slice none 0 0, .slice (some ⟨g, off + 1, none⟩) 1 (ck - 1)] 34)).cell? ⟨w6.heap.size, 3, none⟩ = some (.slice (some ⟨g, off + 1, none⟩) 1 (ck - 1)) := by simp only [World.cell?, HA]; rfl
   have OBH : (Value.slice (some ⟨g, off + 1, none⟩) 1 (ck - 1)).ownBlock ≠ some h := fun e => by
    have : g = h := by simpa [Value.ownBlock] using e
    have := HPK.out.2.2; have := HHW.out; omega
   have OBT : (Value.slice (some ⟨g, off + 1, none⟩) 1 (ck - 1)).ownBlock ≠ some wr.heap.size := fun e => by
    have : g = wr.heap.size := by simpa [Value.ownBlock] using e
    have := HPK.out.2.1; omega
   have hx7 : BS wr.heap.size (w6.alloc (.cells #[.int .i64 2, .slice pa P.length pc, .slice none 0 0, .slice (some ⟨g, off + 1, none⟩) 1 (ck - 1)] 34)) := BS_gb (r := none) (BS_new wr) (gb_below b67) nofun; have oT7 : (w6.alloc (.cells #[.int .i64 2, .slice pa P.length pc, .slice none 0 0, .slice (some ⟨g, off + 1, none⟩) 1 (ck - 1)] 34)).ownsRow wr.heap.size 34 4 (.slice (some ⟨wr.heap.size, 0, none⟩) 1 1) 1 [.int .i64 0, .slice none 0 0, .slice none 0 0, .slice none 0 0] := ownb oT b67; have l7 : Below w.heap.size w (w6.alloc (.cells #[.int .i64 2, .slice pa P.length pc, .slice none 0 0, .slice (some ⟨g, off + 1, none⟩) 1 (ck - 1)] 34)) := HLR.out.trans ((bT.trans (b67.mono bT.size)).mono HLR.out.size); obtain ⟨G, cap, w8, hap, ho8, hgr⟩ := app_sh 62 (.int .i64 2) (.slice pa P.length pc) (.slice none 0 0) (.slice (some ⟨g, off + 1, none⟩) 1 (ck - 1)) rfl rfl rfl rfl oT7 n0 n1 n2 n3 (by have := bT.size; have := b67.size; omega)
   have hgr : (w6.alloc (.cells #[.int .i64 2, .slice pa P.length pc, .slice none 0 0, .slice (some ⟨g, off + 1, none⟩) 1 (ck - 1)] 34)).grownBy w8 (some wr.heap.size) := hgr; have hhw : h < wr.heap.size := HXR.out.hi; have HL8 : Hid (Below w.heap.size w w8) := l7.trans ⟨hgr.os, hgr.tape, hgr.output, hgr.size, fun j hj => hgr.block j (by have := l7.size; omega) (fun e => by injection e with e; have := HLR.out.size; omega)⟩
   have HX8 : Hid (BS h w8) := BS_gb (BS_gb (r := none) HXR.out (gb_below (bT.trans (b67.mono bT.size))) nofun) hgr (fun e => by injection e with e; omega)
   have S8 : Sh (2, P, [], [beh]) (.int .i64 2, .slice pa P.length pc, .slice none 0 0, .slice (some ⟨g, off + 1, none⟩) 1 (ck - 1)) w8 := Sh_gb ⟨rfl, Sl_below s6 b7, Sl_nil _, Ls_below lk b7⟩ (BS_nb hx7) OBT hgr; have HCC : Hid (G < w8.heap.size ∧ ∀ j, j < 2 → ∃ k p1 p2 p3 p4 p5 p6 p7 p8 p9, Sh (ss.getD j zS) (.int .i64 k, .slice p1 p2 p3, .slice p4 p5 p6, .slice p7 p8 p9) w8 ∧ (Value.slice p7 p8 p9).ownBlock ≠ some h ∧ w8.cell? ⟨G, j * 4, none⟩ = some (.int .i64 k) ∧ w8.cell? ⟨G, j * 4 + 1, none⟩ = some (.slice p1 p2 p3) ∧ w8.cell? ⟨G, j * 4 + 2, none⟩ = some (.slice p4 p5 p6) ∧ w8.cell? ⟨G, j * 4 + 3, none⟩ = some (.slice p7 p8 p9)) := by
    obtain ⟨gT, cT, eT, _, hgT, hcT⟩ := own_cellz ho8 (by decide); injection eT with eT _ _
    injection eT with eT
    injection eT with eT _ _
    subst eT; refine ⟨hgT, fun j hj => ?_⟩
    have hj2 : j = 0 ∨ j = 1 := by omega
    rcases hj2 with rfl | rfl
    ·exact ⟨0, none, 0, 0, none, 0, 0, none, 0, 0, by rw [hss.out]; exact ⟨rfl, Sl_nil _, Sl_nil _, Ls_nil' _⟩, nofun, hcT 0 _ rfl, hcT 1 _ rfl, hcT 2 _ rfl, hcT 3 _ rfl⟩
    ·exact ⟨_, _, _, _, _, _, _, _, _, _, by rw [hss.out, ← EBH.out]; exact S8, OBH, hcT 4 _ rfl, hcT 5 _ rfl, hcT 6 _ rfl, hcT 7 _ rfl⟩
   have hlen : Hid (ss.length = 2) := by show _ = _; rw [hss.out]; rfl
   clear b7 b67 HA n0 n1 n2 n3 hx7 oT7 l7 ho8 hgr S8 s6 b6 bT oT s1' HS1 HPK HLR HXR hhw OBH OBT lk HRF HCP HNK HHW HWR; generalize P.length = pl at *; generalize beh.length = bl at *; go_upto_region 18 with (at_builtin; refine wpList_apw rfl rfl rfl rfl hap ?_)
   have HB8 : Hid (∀ wx, Below w8.heap.size w8 wx → Sl b (.slice a n c) wx) := fun wx hbx => hb.out wx (HL8.out.trans (hbx.mono HL8.out.size))
   clear hb; go_wp2_with fail
   go_loopw [81] (fun s wx => ∃ j : Nat, j ≤ 2 ∧ s = .int .i64 (j : Int) ∧ Hid ((∀ i, i < j → fits b (ss.getD i zS) = false) ∧ Below w8.heap.size w8 wx)) (fun s _ => ((2 : Int) - intOf s).toNat)
   case atStart => exact ⟨0, Nat.zero_le _, rfl, fun i hi => absurd hi (by omega), Below.refl _ _⟩
   case round =>
    rename World => wx
    obtain ⟨j, hj, rfl, HJ⟩ := hrel; by_cases j1 : j < 2
    ·have d0 : (j : Int) < 2 := by omega
     have d1 : (0 : Int) ≤ (j : Int) := by omega
     have hw := Nb.stp j (by show _ ≤ _; omega)
     obtain ⟨k, p1, p2, p3, p4, p5, p6, p7, p8, p9, sh, ob, y0, y1, y2, y3⟩ := HCC.out.2 j j1; have r0 := (HJ.out.2.cell (p := ⟨G, j * 4, none⟩) HCC.out.1).trans y0; have r1 := (HJ.out.2.cell (p := ⟨G, j * 4 + 1, none⟩) HCC.out.1).trans y1; have r2 := (HJ.out.2.cell (p := ⟨G, j * 4 + 2, none⟩) HCC.out.1).trans y2; have r3 := (HJ.out.2.cell (p := ⟨G, j * 4 + 3, none⟩) HCC.out.1).trans y3; have bA : Below wx.heap.size wx (wx.alloc (.cells #[.int .i64 k, .slice p1 p2 p3, .slice p4 p5 p6, .slice p7 p8 p9] 34)) := (Below.refl _ _).alloc (Nat.le_refl _) _; have b8 := HJ.out.2.trans (bA.mono HJ.out.2.size); obtain ⟨s, hs'⟩ : ∃ s, s = ss.getD j zS := ⟨_, rfl⟩; have HS : Hid (s = ss.getD j zS) := hs'; rw [← hs'] at sh; have hjs : j < ss.length := by rw [hlen.out]; exact j1
     have hmem : s ∈ ss := by rw [hs', List.getD_eq_getElem?_getD, List.getElem?_eq_getElem hjs]; exact List.getElem_mem _
     have HJL : Hid (j < ss.length) := hjs; have shA := Sh_below (Sh_below sh HJ.out.2) bA; have KC : Hid _ := KH.out s (.int .i64 k, .slice p1 p2 p3, .slice p4 p5 p6, .slice p7 p8 p9) _ hmem shA; have HSA : Hid (Sh s (.int .i64 k, .slice p1 p2 p3, .slice p4 p5 p6, .slice p7 p8 p9) (wx.alloc (.cells #[.int .i64 k, .slice p1 p2 p3, .slice p4 p5 p6, .slice p7 p8 p9] 34))) := shA; have HOB : Hid ((Value.slice p7 p8 p9).ownBlock ≠ some h) := ob; have HA := heap_alloc_new wx (.cells #[.int .i64 k, .slice p1 p2 p3, .slice p4 p5 p6, .slice p7 p8 p9] 34); have q0 : (wx.alloc (.cells #[.int .i64 k, .slice p1 p2 p3, .slice p4 p5 p6, .slice p7 p8 p9] 34)).cell? ⟨wx.heap.size, 0, none⟩ = some (.int .i64 k) := by simp only [World.cell?, HA]; rfl
     have q1 : (wx.alloc (.cells #[.int .i64 k, .slice p1 p2 p3, .slice p4 p5 p6, .slice p7 p8 p9] 34)).cell? ⟨wx.heap.size, 1, none⟩ = some (.slice p1 p2 p3) := by simp only [World.cell?, HA]; rfl
     have q2 : (wx.alloc (.cells #[.int .i64 k, .slice p1 p2 p3, .slice p4 p5 p6, .slice p7 p8 p9] 34)).cell? ⟨wx.heap.size, 2, none⟩ = some (.slice p4 p5 p6) := by simp only [World.cell?, HA]; rfl
     have q3 : (wx.alloc (.cells #[.int .i64 k, .slice p1 p2 p3, .slice p4 p5 p6, .slice p7 p8 p9] 34)).cell? ⟨wx.heap.size, 3, none⟩ = some (.slice p7 p8 p9) := by simp only [World.cell?, HA]; rfl
     have hwA : wx.heap.size < (wx.alloc (.cells #[.int .i64 k, .slice p1 p2 p3, .slice p4 p5 p6, .slice p7 p8 p9] 34)).heap.size := by simp
     have HB9 : Hid (Below w8.heap.size w8 (wx.alloc (.cells #[.int .i64 k, .slice p1 p2 p3, .slice p4 p5 p6, .slice p7 p8 p9] 34))) := b8; have HFN : Hid (∀ i, i < j → fits b (ss.getD i zS) = false) := HJ.out.1; clear sh ob y0 y1 y2 y3 bA b8 hs' hjs hmem shA HA HJ; dsimp only [v4] at KC; go_upto_region 21 with fail
     generalize wx.alloc (.cells #[.int .i64 k, .slice p1 p2 p3, .slice p4 p5 p6, .slice p7 p8 p9] 34) = w9 at *; generalize wx.heap.size = g9 at *; clear r0 r1 r2 r3; go_wp2_with fail
     refine Calls.mono KC.out ?_; rintro e w10 ⟨v, rfl, sc, bc⟩; obtain ⟨va, vc, rfl⟩ := Sl_fm sc; have HB10 : Hid (Below w8.heap.size w8 w10) := HB9.out.trans (bc.mono HB9.out.size); have HS10 : Hid (Sh s (.int .i64 k, .slice p1 p2 p3, .slice p4 p5 p6, .slice p7 p8 p9) w10) := Sh_below HSA.out bc; have t0 := (bc.cell (p := ⟨g9, 0, none⟩) hwA).trans q0; have t1 := (bc.cell (p := ⟨g9, 1, none⟩) hwA).trans q1; have t2 := (bc.cell (p := ⟨g9, 2, none⟩) hwA).trans q2; have t3 := (bc.cell (p := ⟨g9, 3, none⟩) hwA).trans q3; have cv1 := Sl_bst sc; have cv2 := Sl_bst (HB8.out w10 HB10.out); have HFT : fits b s = false → Hid (∀ i, i < j + 1 → fits b (ss.getD i zS) = false) := fun e i hi => by
      by_cases e2 : i = j
      ·subst e2; rw [← HS.out]; exact e
      ·exact HFN.out i (by omega)
     clear bc sc KC HSA HB9 q0 q1 q2 q3 hwA; cases hI : isS s with
     | false =>
      have e1 : he s = 1 := by unfold he; rw [hI]; rfl
      have HF := HFT (by unfold fits; rw [hI]; rfl)
      rw [e1]; clear HFT hI e1 cv1 cv2 t0 t1 t2 t3; generalize (hc s).length = hl at *; go_wp2_with fail
      have hw := hw.out; go_roundw
      case rel => exact ⟨j + 1, j1, Nb.step_v j _ rfl, HF.out, HB10.out⟩
      case measure => exact Nb.msr j 2 j1 _ rfl
     | true =>
      have e1 : he s = 0 := by unfold he; rw [hI]; rfl
      have e2 : hc s = enc (itS s) := by unfold hc; rw [hI]; rfl
      have ef : fits b s = decide (hc s = b) := by unfold fits; rw [hI, e2]; rfl
      rw [e1]; by_cases eb : hc s = b
      ·have hq : ((bst (hc s)).toList == (bst b).toList) = true := by rw [eb]; exact beq_self_eq_true _
       have HFF : Hid (fnd b ss = (s, 0)) := by
        show _ = _
        unfold fnd
        rw [find_at (fits b) zS ss j HJL.out HFN.out (by rw [← HS.out, ef]; exact decide_eq_true eb), ← HS.out]
       clear HFT hI e1 e2 ef eb hw; generalize (hc s).length = hl at *; generalize bst (hc s) = X1 at *; generalize bst b = X2 at *; have x10 : BS h w10 := BS_gb (r := none) HX8.out (gb_below HB10.out) nofun; go_upto_region 23 with fail
       go_wp2_with (refine wpList_stS rfl rfl rfl rfl x10 ?_)
       intro w6 g6 z0 z1 z2 z3; have l5 := HL8.out.trans (HB10.out.mono HL8.out.size); have l6 : Hid (Below w.heap.size w w6) := l5.trans ⟨g6.os, g6.tape, g6.output, g6.size, fun j hj => g6.block j (by have := l5.size; omega) (fun e => by injection e with e; have := EH.out; omega)⟩
       have S6 : Hid (Sh s (.int .i64 k, .slice p1 p2 p3, .slice p4 p5 p6, .slice p7 p8 p9) w6) := Sh_gb HS10.out (BS_nb x10) HOB.out g6; clear g6 x10 l5 t0 t1 t2 t3 cv1 cv2; go_wp2_with fail
       exact bodyPost_ret (v := .tuple #[.agg #[.int .i64 k, .slice p1 p2 p3, .slice p4 p5 p6, .slice p7 p8 p9], .int .i64 0]) (resS2 _ _ _ h 2 3 _ _ _ _ _ rfl rfl rfl z0 z1 z2 z3) rfl (by rw [HFF.out]; exact ⟨(.int .i64 k, .slice p1 p2 p3, .slice p4 p5 p6, .slice p7 p8 p9), rfl, S6.out, l6.out, ⟨_, _, _, _, _, _, _, _, _, _, rfl⟩⟩)
      ·have HF := HFT (by rw [ef]; exact decide_eq_false eb)
       have hq : ((bst (hc s)).toList == (bst b).toList) = false := (bs_eq (hc s) b).trans (decide_eq_false eb); clear HFT hI e1 e2 ef eb t0 t1 t2 t3; generalize (hc s).length = hl at *; generalize bst (hc s) = X1 at *; generalize bst b = X2 at *; go_wp2_with fail
       have hw := hw.out; go_roundw
       case rel => exact ⟨j + 1, j1, Nb.step_v j _ rfl, HF.out, HB10.out⟩
       case measure => exact Nb.msr j 2 j1 _ rfl
    ·have hkl : j = 2 := by omega
     subst hkl; have HFF : Hid (fnd b ss = (zS, 1)) := by
      show _ = _
      unfold fnd
      rw [find_no (fits b) zS ss (fun i hi => HJ.out.1 i (by rw [hlen.out] at hi; exact hi))]
     have x10 : BS h wx := BS_gb (r := none) HX8.out (gb_below HJ.out.2) nofun; have l5 := HL8.out.trans (HJ.out.2.mono HL8.out.size); clear j1 hj HJ; go_upto_region 25 with fail
     go_wp2_with (refine wpList_stS rfl rfl rfl rfl x10 ?_)
     intro w6 g6 z0 z1 z2 z3; have l6 : Hid (Below w.heap.size w w6) := l5.trans ⟨g6.os, g6.tape, g6.output, g6.size, fun j hj => g6.block j (by have := l5.size; omega) (fun e => by injection e with e; have := EH.out; omega)⟩
     clear g6 x10 l5; go_wp2_with fail
     exact bodyPost_ret (v := .tuple #[.agg #[.int .i64 0, .slice none 0 0, .slice none 0 0, .slice none 0 0], .int .i64 1]) (resS2 _ _ _ h 2 3 _ _ _ _ _ rfl rfl rfl z0 z1 z2 z3) rfl (by rw [HFF.out]; exact ⟨(.int .i64 0, .slice none 0 0, .slice none 0 0, .slice none 0 0), rfl, ⟨rfl, Sl_nil _, Sl_nil _, Ls_nil' _⟩, l6.out, ⟨_, _, _, _, _, _, _, _, _, _, rfl⟩⟩)
set_option maxHeartbeats 8000000 in
set_option maxRecDepth 100000 in
theorem hr_fork (b : List UInt8) (a : Option Addr) (n c : Nat) (w : World) (ks : List It) (ss : List Shp) (hb : Hid (∀ wx, Below w.heap.size w wx → Sl b (.slice a n c) wx))
  (KD : Hid (∀ wx : World, Below w.heap.size w wx → Calls Try.prog 23 #[.slice a n c] wx fun e w' => ∃ lb a1 n1 c1 a2 n2 c2 hs, e = .returned (.tuple #[.agg #[.bool lb, .slice a1 n1 c1, .slice a2 n2 c2], .int .i64 0]) ∧ KV ks a2 n2 w' hs ∧ Below wx.heap.size wx w')) (hz : Hid (ks.length ≤ 1048576))
  (KH : Hid (∀ (s : Shp) (x : V4) (wx : World), s ∈ ss → Sh s x wx → Calls Try.prog 25 #[v4 x] wx fun e w' => ∃ v, e = .returned (.tuple #[v, .int .i64 (he s)]) ∧ Sl (hc s) v w' ∧ Below wx.heap.size wx w')) (hss : Hid (ss = [zS, (3, [], (ks.map txt).getD 16 [], (ks.map txt).take 16)])) (h2 : Hid (ks.length = 17)) :
  Calls Try.prog 16 #[.slice a n c] w (PR w (fnd b ss).1 (fnd b ss).2) := by
 have x0 := BS_new w; have l0 : Below w.heap.size w (w.alloc (.cells #[.int .i64 0, .slice none 0 0, .slice none 0 0, .slice none 0 0] 34)) := (Below.refl _ _).alloc (Nat.le_refl _) _; go_enter Try.func16, Try.ntmps16
 go_upto_region 1 with fail
 generalize w.alloc (.cells #[.int .i64 0, .slice none 0 0, .slice none 0 0, .slice none 0 0] 34) = W0 at *; obtain ⟨h, eh⟩ : ∃ h, h = w.heap.size := ⟨_, rfl⟩; have EH : Hid (h = w.heap.size) := eh; rw [← eh] at x0 ⊢; clear eh; go_wp2_with fail
 refine (KD.out _ l0).mono ?_; rintro e w1 ⟨lb, b1, n1, c1, a2, n2, c2, hs, rfl, hk, bb⟩; have l1 : Below w.heap.size w w1 := l0.trans (bb.mono l0.size); have x1 : BS h w1 := BS_gb (r := none) x0 (gb_below bb) nofun; have bA : Below w1.heap.size w1 (w1.alloc (.cells #[.bool lb, .slice b1 n1 c1, .slice a2 n2 c2] 59)) := (Below.refl _ _).alloc (Nat.le_refl _) _; have HL2 : Hid (Below w.heap.size w (w1.alloc (.cells #[.bool lb, .slice b1 n1 c1, .slice a2 n2 c2] 59))) := l1.trans (bA.mono l1.size); have HX2 : Hid (BS h (w1.alloc (.cells #[.bool lb, .slice b1 n1 c1, .slice a2 n2 c2] 59))) := BS_gb (r := none) x1 (gb_below bA) nofun; have HK : Hid (KV ks a2 n2 w1 hs) := hk; have BA : Hid (Below w1.heap.size w1 (w1.alloc (.cells #[.bool lb, .slice b1 n1 c1, .slice a2 n2 c2] 59))) := bA; clear KD l0 bb x0 x1 l1 hk bA; have HN : Hid (n2 = ks.length) := HK.out.e; have HLN : Hid (hs.length = n2) := by show _ = _; rw [HK.out.h.l, List.length_map]; exact HN.out.symm
 go_wp2_with fail
 generalize w1.alloc (.cells #[.bool lb, .slice b1 n1 c1, .slice a2 n2 c2] 59) = w2 at *; go_loopw [6, 28] (fun v i wr => ∃ k : Nat, k ≤ n2 ∧ i = .int .i64 (k : Int) ∧ Hid (wr.ownsRow w2.heap.size 24 1 v (hs.take k).length (hs.take k) ∧ Below w2.heap.size w2 wr)) (fun _ i _ => ((n2 : Int) - intOf i).toNat)
 case atStart => exact ⟨0, Nat.zero_le _, rfl, World.ownsRow_nil _ _ _ _, Below.refl _ _⟩
 case round =>
  obtain ⟨k, hk1, rfl, HI⟩ := hrel; obtain ⟨ak, nk, ck, rfl⟩ := own_form HI.out.1; have BW : Hid (Below w1.heap.size w1 wr) := BA.out.trans (HI.out.2.mono BA.out.size); by_cases h1 : k < n2
  ·have d0 : (k : Int) < (n2 : Int) := by omega
   have d1 : (0 : Int) ≤ (k : Int) := by omega
   have hw := Nb.stp k (by have := hz.out; have := HN.out; show _ ≤ _; omega)
   obtain ⟨g, off, rfl, hg, hcc⟩ := HK.out.c (by omega); obtain ⟨x1, y1, x2, m2, y2, e1, k0, k1, k2⟩ := hcc k h1; have r0 := (BW.out.cell (p := ⟨g, off + k * 3, none⟩) hg).trans k0; have r1 := (BW.out.cell (p := ⟨g, off + k * 3 + 1, none⟩) hg).trans k1; have r2 := (BW.out.cell (p := ⟨g, off + k * 3 + 2, none⟩) hg).trans k2; have HK1 : Hid (k < n2) := h1; have hkh : k < hs.length := by have := HLN.out; omega
   have HTK : Hid (hs.take (k + 1) = hs.take k ++ [.slice x1 (txt (ks.getD k It.no)).length y1]) := by
    show _ = _
    rw [List.take_add_one, List.getElem?_eq_getElem hkh]; have : hs[k] = .slice x1 (txt (ks.getD k It.no)).length y1 := by rw [← e1, List.getD_eq_getElem?_getD, List.getElem?_eq_getElem hkh]; rfl
    rw [this]; rfl
   clear hg hcc k0 k1 k2 e1 hkh BW; generalize (txt (ks.getD k It.no)).length = mk at *; generalize isL (ks.getD k It.no) = lk at *; have bA : Below wr.heap.size wr (wr.alloc (.cells #[.bool lk, .slice x1 mk y1, .slice x2 m2 y2] 59)) := (Below.refl _ _).alloc (Nat.le_refl _) _; have hs1 : (wr.alloc (.cells #[.bool lk, .slice x1 mk y1, .slice x2 m2 y2] 59)).heap.size = wr.heap.size + 1 := by simp
   have bB : Below wr.heap.size wr ((wr.alloc (.cells #[.bool lk, .slice x1 mk y1, .slice x2 m2 y2] 59)).alloc (.cells #[.slice x1 mk y1] 24)) := bA.alloc (by omega) _; have hnw := heap_alloc_new (wr.alloc (.cells #[.bool lk, .slice x1 mk y1, .slice x2 m2 y2] 59)) (.cells #[.slice x1 mk y1] 24); rw [hs1] at hnw; have oB : ((wr.alloc (.cells #[.bool lk, .slice x1 mk y1, .slice x2 m2 y2] 59)).alloc (.cells #[.slice x1 mk y1] 24)).ownsRow w2.heap.size 24 1 (.slice ak nk ck) (hs.take k).length (hs.take k) := (HI.out.1.alloc _).alloc _; have vB : Vl [.slice x1 mk y1] (.slice (some ⟨wr.heap.size + 1, 0, none⟩) 1 1) ((wr.alloc (.cells #[.bool lk, .slice x1 mk y1, .slice x2 m2 y2] 59)).alloc (.cells #[.slice x1 mk y1] 24)) := ⟨_, 1, rfl, fun _ => ⟨_, 0, rfl, by simp, fun j hj => by
    have : j = 0 := by simp at hj; omega
    subst this; simp only [World.cell?, hnw]; rfl⟩⟩
   have hbw := HI.out.2.size; obtain ⟨v', w', hap, ho', hb'⟩ := appv_r (ys := [.slice x1 mk y1]) 25 oB vB (fun u hu => by rw [List.mem_singleton.1 hu]; rfl) (by have := bB.size; omega) (by rw [List.length_take]; have := hz.out; have := HN.out; simp; omega)
   rw [← HTK.out] at ho'; obtain ⟨ak2, nk2, ck2, rfl⟩ := own_form ho'; have HI7 : Hid (w'.ownsRow w2.heap.size 24 1 (.slice ak2 nk2 ck2) (hs.take (k + 1)).length (hs.take (k + 1)) ∧ Below w2.heap.size w2 w') := ⟨ho', (HI.out.2.trans (bB.mono hbw)).trans hb'⟩; clear HI HTK bA bB hs1 hnw oB vB hbw ho' hb'; go_wp2_with (at_builtin; refine wpList_apw rfl rfl rfl rfl hap ?_)
   have hw := hw.out; go_roundw
   case rel => exact ⟨k + 1, HK1.out, Nb.step_v k _ hw, HI7⟩
   case measure => exact Nb.msr k n2 HK1.out _ hw
  ·have hkl : k = n2 := by omega
   have ex : hs.take k = hs := by rw [hkl, ← HLN.out, List.take_length]
   have ho := HI.out.1; rw [ex] at ho; have HLS : Hid (Ls (ks.map txt) (.slice ak nk ck) wr) := own_ls ho (Hds_below HK.out.h BW.out); have HRF : Hid (Rf w2.heap.size (.slice ak nk ck)) := rf_own ho; have HCP : Hid (nk ≤ ck) := own_cap ho; have HNK : Hid (nk = ks.length) := by
    obtain ⟨_, _, e⟩ := own_len ho; injection e with _ e _
    show _ = _
    rw [e, HLN.out]; exact HN.out
   have HLR : Hid (Below w.heap.size w wr) := HL2.out.trans (HI.out.2.mono HL2.out.size); have HXR : Hid (BS h wr) := BS_gb (r := none) HX2.out (gb_below HI.out.2) nofun; have HHW : Hid (h < w2.heap.size) := HX2.out.hi; have HWR : Hid (w2.heap.size ≤ wr.heap.size) := HI.out.2.size; clear HI BW ho ex h1 hk1 HK HL2 HX2 BA HN HLN; subst hkl; have e2 : nk = 17 := by rw [HNK.out]; exact h2.out
   subst e2; obtain ⟨ax, cx, ex, hL⟩ := HLS.out; injection ex with e1 e9 e3
   clear e9; subst e1 e3; obtain ⟨g, off, eA, hg, hcc⟩ := hL (by rw [List.length_map, h2.out]; decide)
   subst eA; have hg2 : w2.heap.size ≤ g := HRF.out g rfl; have hck := HCP.out; have bT : Below wr.heap.size wr (wr.alloc (.cells #[.int .i64 0, .slice none 0 0, .slice none 0 0, .slice none 0 0] 34)) := (Below.refl _ _).alloc (Nat.le_refl _) _; have oT := own_t wr wr.heap.size (Nat.le_refl _); obtain ⟨v0, k0, s0⟩ := hcc 16 (by rw [List.length_map, h2.out]; decide)
   obtain ⟨b0, d0, rfl⟩ := Sl_fm s0; have HS0 : Hid (Sl ((ks.map txt).getD 16 []) (.slice b0 ((ks.map txt).getD 16 []).length d0) wr) := s0; have HL16 : Hid (Ls ((ks.map txt).take 16) (.slice (some ⟨g, off, none⟩) 16 ck) wr) := ⟨_, ck, by rw [List.length_take, List.length_map, h2.out]; rfl, fun _ => ⟨g, off, rfl, hg, fun i hi => by
    rw [List.length_take, List.length_map, h2.out] at hi; obtain ⟨vi, q1, q2⟩ := hcc i (by rw [List.length_map, h2.out]; omega)
    refine ⟨vi, q1, ?_⟩; rw [List.getD_eq_getElem?_getD, List.getElem?_take, if_pos (by omega), ← List.getD_eq_getElem?_getD]; exact q2⟩⟩
   have kT := (bT.cell (p := ⟨g, off + 16, none⟩) hg).trans k0; have HBT : Hid (Below wr.heap.size wr (wr.alloc (.cells #[.int .i64 0, .slice none 0 0, .slice none 0 0, .slice none 0 0] 34))) := bT; have HOT : Hid ((wr.alloc (.cells #[.int .i64 0, .slice none 0 0, .slice none 0 0, .slice none 0 0] 34)).ownsRow wr.heap.size 34 4 (.slice (some ⟨wr.heap.size, 0, none⟩) 1 1) 1 [.int .i64 0, .slice none 0 0, .slice none 0 0, .slice none 0 0]) := oT; have HBN : Hid (BS wr.heap.size (wr.alloc (.cells #[.int .i64 0, .slice none 0 0, .slice none 0 0, .slice none 0 0] 34))) := BS_new wr; have HPK0 : Hid (g < wr.heap.size ∧ w2.heap.size ≤ g) := ⟨hg, hg2⟩; have HPK : Hid (g < (wr.alloc (.cells #[.int .i64 0, .slice none 0 0, .slice none 0 0, .slice none 0 0] 34)).heap.size ∧ (wr.alloc (.cells #[.int .i64 0, .slice none 0 0, .slice none 0 0, .slice none 0 0] 34)).cell? ⟨g, off + 16, none⟩ = some (.slice b0 ((ks.map txt).getD 16 []).length d0)) := ⟨Nat.lt_of_lt_of_le hg bT.size, kT⟩; clear hL hcc k0 s0 hg hg2 bT oT HLS kT; obtain ⟨val, hval⟩ : ∃ val, val = (ks.map txt).getD 16 [] := ⟨_, rfl⟩; rw [← hval] at HS0 HPK; have EVL : Hid (val = (ks.map txt).getD 16 []) := hval; clear hval; obtain ⟨m0, hm0⟩ : ∃ m0, m0 = val.length := ⟨_, rfl⟩; rw [← hm0] at HS0 HPK; clear hm0; have c1c : (17 : Int) ≤ (ck : Int) := by omega
   have c1d : (16 : Int) ≤ (ck : Int) := by omega
   go_upto_region 17 with fail
   generalize wr.alloc (.cells #[.int .i64 0, .slice none 0 0, .slice none 0 0, .slice none 0 0] 34) = w5 at *; have hL : RG.Lasts (fun wx => Below w5.heap.size w5 wx) (fun _ v wx => ∃ g7, v = .slice (some ⟨g7, 0, none⟩) 1 1 ∧ g7 < wx.heap.size ∧ wx.cell? ⟨g7, 0, none⟩ = some (.int .i64 3) ∧ wx.cell? ⟨g7, 1, none⟩ = some (.slice none 0 0) ∧ wx.cell? ⟨g7, 2, none⟩ = some (.slice b0 m0 d0) ∧ wx.cell? ⟨g7, 3, none⟩ = some (.slice (some ⟨g, off, none⟩) 16 ck)) := ⟨fun _ _ h hb => h.trans (hb.mono h.size), fun _ _ _ _ h hb => by
    obtain ⟨g7, e0, e1, e2, e3, e4, e5⟩ := h; exact ⟨g7, e0, Nat.lt_of_lt_of_le e1 hb.size, (hb.cell (p := ⟨g7, 0, none⟩) e1).trans e2, (hb.cell (p := ⟨g7, 1, none⟩) e1).trans e3, (hb.cell (p := ⟨g7, 2, none⟩) e1).trans e4, (hb.cell (p := ⟨g7, 3, none⟩) e1).trans e5⟩⟩
   refine RG.wp_region_gen (fun wx => Below w5.heap.size w5 wx) (fun _ v wx => ∃ g7, v = .slice (some ⟨g7, 0, none⟩) 1 1 ∧ g7 < wx.heap.size ∧ wx.cell? ⟨g7, 0, none⟩ = some (.int .i64 3) ∧ wx.cell? ⟨g7, 1, none⟩ = some (.slice none 0 0) ∧ wx.cell? ⟨g7, 2, none⟩ = some (.slice b0 m0 d0) ∧ wx.cell? ⟨g7, 3, none⟩ = some (.slice (some ⟨g, off, none⟩) 16 ck)) (fun _ _ => True) [0, 0, 0, 0, 0, 0, 0, 1, 2, 2] (by kernel_rfl) (by kernel_rfl) ((Below.refl _ _).drew) ?_
   dsimp only [List.toList_toArray]
   iterate 5
    refine RG.go1 (v := ?_) (a' := ?_) hL (by decide) rfl ?_ ?_ ?_; rotate_left 2
    ·intro K wx hS hK; go_simp; exact hK _ (Below.refl _ _)
    ·simp only [Act.put, zA, zB, zC]; rfl
   refine RG.go1 (v := ?_) (a' := ?_) hL (by decide) rfl ?_ ?_ ?_; rotate_left 2
   ·intro K wx hS hK; have z0 := (hS.cell (p := ⟨g, off + 16, none⟩) HPK.out.1).trans HPK.out.2; go_simp; exact hK _ (Below.refl _ _)
   ·simp only [Act.put, zA, zB, zC]; rfl
   refine RG.go1 (v := ?_) (a' := ?_) hL (by decide) rfl ?_ ?_ ?_; rotate_left 2
   ·intro K wx hS hK; go_simp; exact hK _ (Below.refl _ _)
   ·simp only [Act.put, zA, zB, zC]; rfl
   refine RG.goN hL rfl ?_ ?_
   ·intro K wx hS hK; have hn := heap_alloc_new wx (.cells #[.int .i64 3, .slice none 0 0, .slice b0 m0 d0, .slice (some ⟨g, off, none⟩) 16 ck] 34); go_simp; exact hK _ _ ((Below.refl _ _).alloc (Nat.le_refl _) _) ⟨_, rfl, by simp, by simp only [World.cell?, hn]; rfl, by simp only [World.cell?, hn]; rfl, by simp only [World.cell?, hn]; rfl, by simp only [World.cell?, hn]; rfl⟩ (fun _ _ _ => ⟨trivial, trivial⟩)
   iterate 2
    refine RG.goT ?_
   refine RG.go_end ?_; intro U w7 m7 y7 x7; simp +decide (maxSteps := 1000000) only [RG.tl, RG.putN, if_true, if_false, Act.put, List.setIfInBounds_toArray, List.set_cons_succ, List.set_cons_zero, Nat.reduceAdd]
   obtain ⟨g7, e7, _, n0, n1, n2, n3⟩ := y7 7 rfl; have bT := HBT.out; have oT := HOT.out; have OBH : (Value.slice (some ⟨g, off, none⟩) 16 ck).ownBlock ≠ some h := fun e => by
    have : g = h := by simpa [Value.ownBlock] using e
    have := HPK0.out.2; have := HHW.out; omega
   have OBT : (Value.slice (some ⟨g, off, none⟩) 16 ck).ownBlock ≠ some wr.heap.size := fun e => by
    have : g = wr.heap.size := by simpa [Value.ownBlock] using e
    have := HPK0.out.1; omega
   have hx7 : BS wr.heap.size w7 := BS_gb (r := none) HBN.out (gb_below m7) nofun; have oT7 : w7.ownsRow wr.heap.size 34 4 (.slice (some ⟨wr.heap.size, 0, none⟩) 1 1) 1 [.int .i64 0, .slice none 0 0, .slice none 0 0, .slice none 0 0] := ownb oT m7; have l7 : Below w.heap.size w w7 := HLR.out.trans ((bT.trans (m7.mono bT.size)).mono HLR.out.size); obtain ⟨G, cap, w8, hap, ho8, hgr⟩ := app_sh 62 (.int .i64 3) (.slice none 0 0) (.slice b0 m0 d0) (.slice (some ⟨g, off, none⟩) 16 ck) rfl rfl rfl rfl oT7 n0 n1 n2 n3 (by have := bT.size; have := m7.size; omega)
   have hgr : w7.grownBy w8 (some wr.heap.size) := hgr; have hhw : h < wr.heap.size := HXR.out.hi; have HL8 : Hid (Below w.heap.size w w8) := l7.trans ⟨hgr.os, hgr.tape, hgr.output, hgr.size, fun j hj => hgr.block j (by have := l7.size; omega) (fun e => by injection e with e; have := HLR.out.size; omega)⟩
   have HX8 : Hid (BS h w8) := BS_gb (BS_gb (r := none) HXR.out (gb_below (bT.trans (m7.mono bT.size))) nofun) hgr (fun e => by injection e with e; omega)
   have S8 : Sh (3, [], val, (ks.map txt).take 16) (.int .i64 3, .slice none 0 0, .slice b0 m0 d0, .slice (some ⟨g, off, none⟩) 16 ck) w8 := Sh_gb ⟨rfl, Sl_nil _, Sl_below (Sl_below HS0.out bT) m7, Ls_below (Ls_below HL16.out bT) m7⟩ (BS_nb hx7) OBT hgr; have HCC : Hid (G < w8.heap.size ∧ ∀ j, j < 2 → ∃ k p1 p2 p3 p4 p5 p6 p7 p8 p9, Sh (ss.getD j zS) (.int .i64 k, .slice p1 p2 p3, .slice p4 p5 p6, .slice p7 p8 p9) w8 ∧ (Value.slice p7 p8 p9).ownBlock ≠ some h ∧ w8.cell? ⟨G, j * 4, none⟩ = some (.int .i64 k) ∧ w8.cell? ⟨G, j * 4 + 1, none⟩ = some (.slice p1 p2 p3) ∧ w8.cell? ⟨G, j * 4 + 2, none⟩ = some (.slice p4 p5 p6) ∧ w8.cell? ⟨G, j * 4 + 3, none⟩ = some (.slice p7 p8 p9)) := by
    obtain ⟨gT, cT, eT, _, hgT, hcT⟩ := own_cellz ho8 (by decide); injection eT with eT _ _
    injection eT with eT
    injection eT with eT _ _
    subst eT; refine ⟨hgT, fun j hj => ?_⟩
    have hj2 : j = 0 ∨ j = 1 := by omega
    rcases hj2 with rfl | rfl
    ·exact ⟨0, none, 0, 0, none, 0, 0, none, 0, 0, by rw [hss.out]; exact ⟨rfl, Sl_nil _, Sl_nil _, Ls_nil' _⟩, nofun, hcT 0 _ rfl, hcT 1 _ rfl, hcT 2 _ rfl, hcT 3 _ rfl⟩
    ·exact ⟨_, _, _, _, _, _, _, _, _, _, by rw [hss.out, ← EVL.out]; exact S8, OBH, hcT 4 _ rfl, hcT 5 _ rfl, hcT 6 _ rfl, hcT 7 _ rfl⟩
   have hlen : Hid (ss.length = 2) := by show _ = _; rw [hss.out]; rfl
   rw [e7]; clear n0 n1 n2 n3 hx7 oT7 l7 ho8 hgr S8 bT oT HS0 HPK HPK0 HLR HXR hhw OBH OBT HRF HCP HNK HHW HWR HL16 HBT HOT HBN m7 y7 x7 hL e7; go_upto_region 18 with (at_builtin; refine wpList_apw rfl rfl rfl rfl hap ?_)
   have HB8 : Hid (∀ wx, Below w8.heap.size w8 wx → Sl b (.slice a n c) wx) := fun wx hbx => hb.out wx (HL8.out.trans (hbx.mono HL8.out.size))
   clear hb; go_wp2_with fail
   go_loopw [81] (fun s wx => ∃ j : Nat, j ≤ 2 ∧ s = .int .i64 (j : Int) ∧ Hid ((∀ i, i < j → fits b (ss.getD i zS) = false) ∧ Below w8.heap.size w8 wx)) (fun s _ => ((2 : Int) - intOf s).toNat)
   case atStart => exact ⟨0, Nat.zero_le _, rfl, fun i hi => absurd hi (by omega), Below.refl _ _⟩
   case round =>
    rename World => wx
    obtain ⟨j, hj, rfl, HJ⟩ := hrel; by_cases j1 : j < 2
    ·have d0 : (j : Int) < 2 := by omega
     have d1 : (0 : Int) ≤ (j : Int) := by omega
     have hw := Nb.stp j (by show _ ≤ _; omega)
     obtain ⟨k, p1, p2, p3, p4, p5, p6, p7, p8, p9, sh, ob, y0, y1, y2, y3⟩ := HCC.out.2 j j1; have r0 := (HJ.out.2.cell (p := ⟨G, j * 4, none⟩) HCC.out.1).trans y0; have r1 := (HJ.out.2.cell (p := ⟨G, j * 4 + 1, none⟩) HCC.out.1).trans y1; have r2 := (HJ.out.2.cell (p := ⟨G, j * 4 + 2, none⟩) HCC.out.1).trans y2; have r3 := (HJ.out.2.cell (p := ⟨G, j * 4 + 3, none⟩) HCC.out.1).trans y3; have bA : Below wx.heap.size wx (wx.alloc (.cells #[.int .i64 k, .slice p1 p2 p3, .slice p4 p5 p6, .slice p7 p8 p9] 34)) := (Below.refl _ _).alloc (Nat.le_refl _) _; have b8 := HJ.out.2.trans (bA.mono HJ.out.2.size); obtain ⟨s, hs'⟩ : ∃ s, s = ss.getD j zS := ⟨_, rfl⟩; have HS : Hid (s = ss.getD j zS) := hs'; rw [← hs'] at sh; have hjs : j < ss.length := by rw [hlen.out]; exact j1
     have hmem : s ∈ ss := by rw [hs', List.getD_eq_getElem?_getD, List.getElem?_eq_getElem hjs]; exact List.getElem_mem _
     have HJL : Hid (j < ss.length) := hjs; have shA := Sh_below (Sh_below sh HJ.out.2) bA; have KC : Hid _ := KH.out s (.int .i64 k, .slice p1 p2 p3, .slice p4 p5 p6, .slice p7 p8 p9) _ hmem shA; have HSA : Hid (Sh s (.int .i64 k, .slice p1 p2 p3, .slice p4 p5 p6, .slice p7 p8 p9) (wx.alloc (.cells #[.int .i64 k, .slice p1 p2 p3, .slice p4 p5 p6, .slice p7 p8 p9] 34))) := shA; have HOB : Hid ((Value.slice p7 p8 p9).ownBlock ≠ some h) := ob; have HA := heap_alloc_new wx (.cells #[.int .i64 k, .slice p1 p2 p3, .slice p4 p5 p6, .slice p7 p8 p9] 34); have q0 : (wx.alloc (.cells #[.int .i64 k, .slice p1 p2 p3, .slice p4 p5 p6, .slice p7 p8 p9] 34)).cell? ⟨wx.heap.size, 0, none⟩ = some (.int .i64 k) := by simp only [World.cell?, HA]; rfl
     have q1 : (wx.alloc (.cells #[.int .i64 k, .slice p1 p2 p3, .slice p4 p5 p6, .slice p7 p8 p9] 34)).cell? ⟨wx.heap.size, 1, none⟩ = some (.slice p1 p2 p3) := by simp only [World.cell?, HA]; rfl
     have q2 : (wx.alloc (.cells #[.int .i64 k, .slice p1 p2 p3, .slice p4 p5 p6, .slice p7 p8 p9] 34)).cell? ⟨wx.heap.size, 2, none⟩ = some (.slice p4 p5 p6) := by simp only [World.cell?, HA]; rfl
     have q3 : (wx.alloc (.cells #[.int .i64 k, .slice p1 p2 p3, .slice p4 p5 p6, .slice p7 p8 p9] 34)).cell? ⟨wx.heap.size, 3, none⟩ = some (.slice p7 p8 p9) := by simp only [World.cell?, HA]; rfl
     have hwA : wx.heap.size < (wx.alloc (.cells #[.int .i64 k, .slice p1 p2 p3, .slice p4 p5 p6, .slice p7 p8 p9] 34)).heap.size := by simp
     have HB9 : Hid (Below w8.heap.size w8 (wx.alloc (.cells #[.int .i64 k, .slice p1 p2 p3, .slice p4 p5 p6, .slice p7 p8 p9] 34))) := b8; have HFN : Hid (∀ i, i < j → fits b (ss.getD i zS) = false) := HJ.out.1; clear sh ob y0 y1 y2 y3 bA b8 hs' hjs hmem shA HA HJ; dsimp only [v4] at KC; go_upto_region 21 with fail
     generalize wx.alloc (.cells #[.int .i64 k, .slice p1 p2 p3, .slice p4 p5 p6, .slice p7 p8 p9] 34) = w9 at *; generalize wx.heap.size = g9 at *; clear r0 r1 r2 r3; go_wp2_with fail
     refine Calls.mono KC.out ?_; rintro e w10 ⟨v, rfl, sc, bc⟩; obtain ⟨va, vc, rfl⟩ := Sl_fm sc; have HB10 : Hid (Below w8.heap.size w8 w10) := HB9.out.trans (bc.mono HB9.out.size); have HS10 : Hid (Sh s (.int .i64 k, .slice p1 p2 p3, .slice p4 p5 p6, .slice p7 p8 p9) w10) := Sh_below HSA.out bc; have t0 := (bc.cell (p := ⟨g9, 0, none⟩) hwA).trans q0; have t1 := (bc.cell (p := ⟨g9, 1, none⟩) hwA).trans q1; have t2 := (bc.cell (p := ⟨g9, 2, none⟩) hwA).trans q2; have t3 := (bc.cell (p := ⟨g9, 3, none⟩) hwA).trans q3; have cv1 := Sl_bst sc; have cv2 := Sl_bst (HB8.out w10 HB10.out); have HFT : fits b s = false → Hid (∀ i, i < j + 1 → fits b (ss.getD i zS) = false) := fun e i hi => by
      by_cases e2 : i = j
      ·subst e2; rw [← HS.out]; exact e
      ·exact HFN.out i (by omega)
     clear bc sc KC HSA HB9 q0 q1 q2 q3 hwA; cases hI : isS s with
     | false =>
      have e1 : he s = 1 := by unfold he; rw [hI]; rfl
      have HF := HFT (by unfold fits; rw [hI]; rfl)
      rw [e1]; clear HFT hI e1 cv1 cv2 t0 t1 t2 t3; generalize (hc s).length = hl at *; go_wp2_with fail
      have hw := hw.out; go_roundw
      case rel => exact ⟨j + 1, j1, Nb.step_v j _ rfl, HF.out, HB10.out⟩
      case measure => exact Nb.msr j 2 j1 _ rfl
     | true =>
      have e1 : he s = 0 := by unfold he; rw [hI]; rfl
      have e2 : hc s = enc (itS s) := by unfold hc; rw [hI]; rfl
      have ef : fits b s = decide (hc s = b) := by unfold fits; rw [hI, e2]; rfl
      rw [e1]; by_cases eb : hc s = b
      ·have hq : ((bst (hc s)).toList == (bst b).toList) = true := by rw [eb]; exact beq_self_eq_true _
       have HFF : Hid (fnd b ss = (s, 0)) := by
        show _ = _
        unfold fnd
        rw [find_at (fits b) zS ss j HJL.out HFN.out (by rw [← HS.out, ef]; exact decide_eq_true eb), ← HS.out]
       clear HFT hI e1 e2 ef eb hw; generalize (hc s).length = hl at *; generalize bst (hc s) = X1 at *; generalize bst b = X2 at *; have x10 : BS h w10 := BS_gb (r := none) HX8.out (gb_below HB10.out) nofun; go_upto_region 23 with fail
       go_wp2_with (refine wpList_stS rfl rfl rfl rfl x10 ?_)
       intro w6 g6 z0 z1 z2 z3; have l5 := HL8.out.trans (HB10.out.mono HL8.out.size); have l6 : Hid (Below w.heap.size w w6) := l5.trans ⟨g6.os, g6.tape, g6.output, g6.size, fun j hj => g6.block j (by have := l5.size; omega) (fun e => by injection e with e; have := EH.out; omega)⟩
       have S6 : Hid (Sh s (.int .i64 k, .slice p1 p2 p3, .slice p4 p5 p6, .slice p7 p8 p9) w6) := Sh_gb HS10.out (BS_nb x10) HOB.out g6; clear g6 x10 l5 t0 t1 t2 t3 cv1 cv2; go_wp2_with fail
       exact bodyPost_ret (v := .tuple #[.agg #[.int .i64 k, .slice p1 p2 p3, .slice p4 p5 p6, .slice p7 p8 p9], .int .i64 0]) (resS2 _ _ _ h 2 3 _ _ _ _ _ rfl rfl rfl z0 z1 z2 z3) rfl (by rw [HFF.out]; exact ⟨(.int .i64 k, .slice p1 p2 p3, .slice p4 p5 p6, .slice p7 p8 p9), rfl, S6.out, l6.out, ⟨_, _, _, _, _, _, _, _, _, _, rfl⟩⟩)
      ·have HF := HFT (by rw [ef]; exact decide_eq_false eb)
       have hq : ((bst (hc s)).toList == (bst b).toList) = false := (bs_eq (hc s) b).trans (decide_eq_false eb); clear HFT hI e1 e2 ef eb t0 t1 t2 t3; generalize (hc s).length = hl at *; generalize bst (hc s) = X1 at *; generalize bst b = X2 at *; go_wp2_with fail
       have hw := hw.out; go_roundw
       case rel => exact ⟨j + 1, j1, Nb.step_v j _ rfl, HF.out, HB10.out⟩
       case measure => exact Nb.msr j 2 j1 _ rfl
    ·have hkl : j = 2 := by omega
     subst hkl; have HFF : Hid (fnd b ss = (zS, 1)) := by
      show _ = _
      unfold fnd
      rw [find_no (fits b) zS ss (fun i hi => HJ.out.1 i (by rw [hlen.out] at hi; exact hi))]
     have x10 : BS h wx := BS_gb (r := none) HX8.out (gb_below HJ.out.2) nofun; have l5 := HL8.out.trans (HJ.out.2.mono HL8.out.size); clear j1 hj HJ; go_upto_region 25 with fail
     go_wp2_with (refine wpList_stS rfl rfl rfl rfl x10 ?_)
     intro w6 g6 z0 z1 z2 z3; have l6 : Hid (Below w.heap.size w w6) := l5.trans ⟨g6.os, g6.tape, g6.output, g6.size, fun j hj => g6.block j (by have := l5.size; omega) (fun e => by injection e with e; have := EH.out; omega)⟩
     clear g6 x10 l5; go_wp2_with fail
     exact bodyPost_ret (v := .tuple #[.agg #[.int .i64 0, .slice none 0 0, .slice none 0 0, .slice none 0 0], .int .i64 1]) (resS2 _ _ _ h 2 3 _ _ _ _ _ rfl rfl rfl z0 z1 z2 z3) rfl (by rw [HFF.out]; exact ⟨(.int .i64 0, .slice none 0 0, .slice none 0 0, .slice none 0 0), rfl, ⟨rfl, Sl_nil _, Sl_nil _, Ls_nil' _⟩, l6.out, ⟨_, _, _, _, _, _, _, _, _, _, rfl⟩⟩)
end Rs
end Go.Proofs.Ytlbdaccmnpcccaa
namespace Go.Proofs.Ytlbdaccmnpcccaa
namespace Pk
open Go.RowKit
def PsC (N : Nat) : Prop := ∀ (b : List UInt8) (ao : Option Addr) (cap : Nat) (w : World), b.length ≤ N → (cap : Int) ≤ 9223372036854775807 → Sl b (.slice ao b.length cap) w → Calls Try.prog 35 #[.slice ao b.length cap] w fun e w' => ∃ v, e = .returned (.tuple #[v3 v, .int .i64 (sp b).2.1, .int .i64 (sp b).2.2]) ∧ Iv (w.heap.size ≤ ·) w' (sp b).1 v ∧ Below w.heap.size w w'
theorem own_form {B e z n : Nat} {v : Value} {xs : List Value} {w : World} (h : w.ownsRow B e z v n xs) : ∃ a m c, v = .slice a m c := by
 rcases h.2 with ⟨h3, _⟩ | ⟨g, cap, cur, h3, _⟩
 ·exact ⟨_, _, _, h3⟩
 ·exact ⟨_, _, _, h3⟩
theorem msr_to (a m t : Nat) (h0 : 0 < m) (h1 : a + m ≤ t) : ((t : Int) - intOf (.int .i64 ((a + m : Nat) : Int))).toNat < ((t : Int) - intOf (.int .i64 (a : Int))).toNat := by
 show ((t : Int) - ((a + m : Nat) : Int)).toNat < ((t : Int) - (a : Int)).toNat
 omega
theorem sp_yes {r r' : List UInt8} {t : It} (h : ritem r = some (t, r')) : sp r = (t, (r.length : Int) - r'.length, 0) := by unfold sp; rw [h]
theorem sp_no {r : List UInt8} (h : ritem r = none) : sp r = (It.no, 0, 1) := by unfold sp; rw [h]
set_option maxHeartbeats 2000000 in
set_option maxRecDepth 100000 in
theorem psplit_list (N : Nat) (IH : PsC N) (b : List UInt8) (g off cap f t : Nat) (w : World) (hb : b.length ≤ 4194304) (hN : t - f ≤ N) (hcap : b.length ≤ cap) (hc6 : (cap : Int) ≤ 9223372036854775807) (hft : f ≤ t) (ht : t ≤ b.length) (hg : g < w.heap.size) (hc : ∀ j, j < b.length → w.cell? ⟨g, off + j, none⟩ = some (.int .u8 (Sp.bz b j)))
  (KR : Hid (∀ wx : World, Below w.heap.size w wx → Calls Try.prog 48 #[.slice (some ⟨g, off, none⟩) b.length cap] wx fun e w' => e = .returned (.tuple #[.int .i64 (f : Int), .int .i64 (t : Int), .bool true, .bool true]) ∧ Below wx.heap.size wx w')) :
  Calls Try.prog 35 #[.slice (some ⟨g, off, none⟩) b.length cap] w fun e w' => ∃ v, ((rkids ((b.take t).drop f) = none ∧ e = .returned (.tuple #[v3 v, .int .i64 0, .int .i64 1]) ∧ Iv (w.heap.size ≤ ·) w' It.no v) ∨ ∃ ks, rkids ((b.take t).drop f) = some ks ∧ e = .returned (.tuple #[v3 v, .int .i64 (t : Int), .int .i64 0]) ∧ Iv (w.heap.size ≤ ·) w' (.mk true [] ks) v) ∧ Below w.heap.size w w' := by
 have x0 := B3_new w; have l0 : Below w.heap.size w (w.alloc (.cells #[.bool false, .slice none 0 0, .slice none 0 0] 59)) := (Below.refl _ _).alloc (Nat.le_refl _) _; have KL : Hid (∀ wx : World, Calls Try.prog 50 #[.slice none 0 0] wx fun e w' => e = .returned (.agg #[.bool true, .slice none 0 0, .slice none 0 0]) ∧ Below wx.heap.size wx w') := plist_any
 have HS : Hid (∀ (a : Nat) (wx : World), f ≤ a → a < t → Below w.heap.size w wx → Calls Try.prog 35 #[.slice (some ⟨g, off + a, none⟩) (t - a) (cap - a)] wx fun e w' => ∃ v, e = .returned (.tuple #[v3 v, .int .i64 (sp ((b.take t).drop a)).2.1, .int .i64 (sp ((b.take t).drop a)).2.2]) ∧ Iv (wx.heap.size ≤ ·) w' (sp ((b.take t).drop a)).1 v ∧ Below wx.heap.size wx w') := fun a wx h1 h2 hbw => by
  have la : ((b.take t).drop a).length = t - a := by rw [List.length_drop, List.length_take]; omega
  have s1 := sl_part (w := wx) (f := a) (t := t) (b := b) (cap := cap) (by omega) ht hcap (Nat.lt_of_lt_of_le hg hbw.size) (fun j hj => (hbw.cell (p := ⟨g, off + j, none⟩) hg).trans (hc j hj)) (some ⟨g, off + a, none⟩) (fun _ => rfl)
  have k := IH ((b.take t).drop a) (some ⟨g, off + a, none⟩) (cap - a) wx (by omega) (by omega) (by rw [la]; exact s1)
  rwa [la] at k
 have HC : Hid (((b.take t).drop f).length ≤ 4194304) := by show _ ≤ _; rw [List.length_drop, List.length_take]; omega
 have HT : Hid (t ≤ 4194304 ∧ t ≤ cap ∧ t ≤ b.length ∧ f ≤ t) := ⟨by omega, by omega, ht, hft⟩; clear IH hb hN hcap hc6 hft ht hg hc; generalize hL : b.length = L at *; go_enter Try.func35, Try.ntmps35
 go_upto_region 1 with fail
 generalize w.alloc (.cells #[.bool false, .slice none 0 0, .slice none 0 0] 59) = W0 at *; obtain ⟨h, eh⟩ : ∃ h, h = w.heap.size := ⟨_, rfl⟩; have EH : Hid (h = w.heap.size) := eh; rw [← eh] at x0 ⊢; clear eh; go_wp2_with fail
 refine (KR.out _ l0).mono (fun e w1 he => ?_)
 obtain ⟨rfl, b1⟩ := he; have x1 : B3 h w1 := B3_gb (r := none) x0 (gb_below b1) nofun; have l1 := l0.trans (b1.mono l0.size); clear x0 l0 b1 KR; go_wp2_with fail
 refine (KL.out _).mono (fun e w2 he => ?_)
 obtain ⟨rfl, b2⟩ := he; have x2 : B3 h w2 := B3_gb (r := none) x1 (gb_below b2) nofun; have l2 := l1.trans (b2.mono l1.size); clear x1 l1 b2 KL; have gA := World.grownBy_alloc w2 (.cells #[.bool true, .slice none 0 0, .slice none 0 0] 59) none; have x3 := B3_gb x2 gA nofun; have hn := heap_alloc_new w2 (.cells #[.bool true, .slice none 0 0, .slice none 0 0] 59); have y3 : B3 w2.heap.size (w2.alloc (.cells #[.bool true, .slice none 0 0, .slice none 0 0] 59)) := by
  refine ⟨by simp, fun o ho => ?_, fun o => by simp only [World.frozen?, hn]; simp⟩
  simp only [World.cell?, hn]; have : o = 0 ∨ o = 1 ∨ o = 2 := by omega
  rcases this with rfl | rfl | rfl <;> rfl
 have e0 : (w2.alloc (.cells #[.bool true, .slice none 0 0, .slice none 0 0] 59)).cell? ⟨w2.heap.size, 0, none⟩ = some (.bool true) := by simp only [World.cell?, hn]; rfl
 have e1 : (w2.alloc (.cells #[.bool true, .slice none 0 0, .slice none 0 0] 59)).cell? ⟨w2.heap.size, 1, none⟩ = some (.slice none 0 0) := by simp only [World.cell?, hn]; rfl
 have e2 : (w2.alloc (.cells #[.bool true, .slice none 0 0, .slice none 0 0] 59)).cell? ⟨w2.heap.size, 2, none⟩ = some (.slice none 0 0) := by simp only [World.cell?, hn]; rfl
 have l3 := l2.alloc l2.size (.cells #[.bool true, .slice none 0 0, .slice none 0 0] 59); have HG : Hid (h < w2.heap.size) := x2.hi; go_upto_region 7 with fail
 generalize w2.alloc (.cells #[.bool true, .slice none 0 0, .slice none 0 0] 59) = w3 at *; generalize w2.heap.size = gi at *; clear gA hn x2 l2; have L0 : PL w h gi ((b.take t).drop f) (.slice none 0 0) [] [] ((b.take t).drop f) w3 := ⟨by simp, by simp, x3, y3, e0, e1, e2, l3, World.ownsRow_nil _ _ _ _, rfl, fun j hj => absurd hj (by simp)⟩
 clear x3 y3 e0 e1 e2 l3; go_wp2_with fail
 go_loopw [10] (fun a10 wr => ∃ (a : Nat) (kv : Value) (ks : List It) (vs : List V3), f ≤ a ∧ a ≤ t ∧ a10 = .int .i64 (a : Int) ∧ PL w h gi ((b.take t).drop f) kv ks vs ((b.take t).drop a) wr) (fun a10 _ => ((t : Int) - intOf a10).toNat)
 case atStart => exact ⟨f, _, [], [], Nat.le_refl _, HT.out.2.2.2, rfl, L0⟩
 case round =>
  clear L0; obtain ⟨a, kv, ks, vs, ha1, ha2, rfl, hI⟩ := hrel; have HI : Hid (PL w h gi ((b.take t).drop f) kv ks vs ((b.take t).drop a) wr) := hI; have HA1 : Hid (f ≤ a) := ha1; by_cases hlt : a < t
  ·have d0 : decide ((a : Int) < (t : Int)) = true := decide_eq_true (by omega); have d1 : decide (a < t) = true := decide_eq_true hlt; have i1 : (a : Int) ≤ (t : Int) := by omega
   have i2 : (t : Int) ≤ (cap : Int) := by have := HT.out; omega
   have i3 : (0 : Int) ≤ (a : Int) := by omega
   have i4 : (a : Int) < (cap : Int) := by have := HT.out; omega
   have KI : Hid (Calls Try.prog 35 #[.slice (some ⟨g, off + a, none⟩) (t - a) (cap - a)] wr fun e w' => ∃ v, e = .returned (.tuple #[v3 v, .int .i64 (sp ((b.take t).drop a)).2.1, .int .i64 (sp ((b.take t).drop a)).2.2]) ∧ Iv (wr.heap.size ≤ ·) w' (sp ((b.take t).drop a)).1 v ∧ Below wr.heap.size wr w') := HS.out a wr ha1 hlt hI.b
   have LA : Hid (((b.take t).drop a).length = t - a) := by show _ = _; rw [List.length_drop, List.length_take, hL]; have := HT.out; omega
   have HLT : Hid (a < t) := hlt; clear ha1 ha2 hlt hI; have hy := HI.out.y.hi; have hgiw : Hid (gi < wr.heap.size) := hy; cases hr : ritem ((b.take t).drop a) with
   | none =>
    rw [sp_no hr] at KI; have HNO : Hid (rkids ((b.take t).drop f) = none) := by
     show _ = _
     rw [HI.out.e, rkids_none (by rw [LA.out]; have := HLT.out; omega) hr]
     rfl
    clear hr; go_wp2_with fail
    refine KI.out.mono (fun e w4 he => ?_)
    obtain ⟨v, rfl, iv, b4⟩ := he; obtain ⟨l, a1, n1, c1, a2, n2, c2, rfl⟩ := Iv_form iv; have x4 : B3 h w4 := B3_gb (r := none) HI.out.x (gb_below b4) nofun; have l4 := HI.out.b.trans (b4.mono HI.out.b.size); have x5 := B3_gb x4 (World.grownBy_alloc w4 (.cells #[.bool l, .slice a1 n1 c1, .slice a2 n2 c2] 59) none) nofun; have l5 := l4.alloc l4.size (.cells #[.bool l, .slice a1 n1 c1, .slice a2 n2 c2] 59); clear iv b4 x4 l4 KI d0 d1 i1 i2 i3 i4; dsimp only [v3]; go_upto_region 10 with fail
    generalize w4.alloc (.cells #[.bool l, .slice a1 n1 c1, .slice a2 n2 c2] 59) = w5 at *; go_wp2_with (refine wpList_st3b rfl rfl rfl rfl x5 ?_)
    intro w6 g6 b6 z0 z1 z2; have l6 : Hid (Below w.heap.size w w6) := l5.trans ⟨g6.os, g6.tape, g6.output, g6.size, fun j hj => g6.block j (by have := l5.size; omega) (fun e => by injection e with e; have := EH.out; omega)⟩
    clear g6 b6 x5 l5; go_wp2_with fail
    exact bodyPost_ret (v := .tuple #[.agg #[.bool false, .slice none 0 0, .slice none 0 0], .int .i64 0, .int .i64 1]) (resI3 _ _ _ h 2 3 4 _ _ _ _ _ rfl rfl rfl rfl z0 z1 z2) rfl ⟨(.bool false, .slice none 0 0, .slice none 0 0), .inl ⟨HNO.out, rfl, .mk _ _ _ _ _ [] (Ty_nil _ _) rfl (Kx_nil _ _) (fun j hj => absurd hj (by simp))⟩, l6.out⟩
   | some p =>
    obtain ⟨ti, r'⟩ := p; have hsh := ritem_shorter hr; have hdr := ritem_drop hr; obtain ⟨m, hm⟩ : ∃ m, m = ((b.take t).drop a).length - r'.length := ⟨_, rfl⟩; rw [← hm, List.drop_drop] at hdr; have eN : (((b.take t).drop a).length : Int) - (r'.length : Int) = (m : Int) := by omega
    have HM : Hid (0 < m ∧ a + m ≤ t) := ⟨by omega, by have := LA.out; have := HLT.out; omega⟩
    rw [sp_yes hr, eN] at KI; have EW : Hid (wrap64 ((a : Int) + (m : Int)) = ((a + m : Nat) : Int)) := by
     have := HT.out; have := HM.out; show _ = _
     rw [int_wr _ (by omega) (by omega)]; omega
    have HR : Hid (ritem ((b.take t).drop a) = some (ti, (b.take t).drop (a + m))) := by
     show _ = _
     rw [hr, ← hdr]
    clear hr hsh hdr hm eN; go_wp2_with fail
    refine KI.out.mono (fun e w4 he => ?_)
    obtain ⟨v, rfl, iv, b4⟩ := he; obtain ⟨l, a1, n1, c1, a2, n2, c2, rfl⟩ := Iv_form iv; have hn := heap_alloc_new w4 (.cells #[.bool l, .slice a1 n1 c1, .slice a2 n2 c2] 59); have bA : Below w4.heap.size w4 (w4.alloc (.cells #[.bool l, .slice a1 n1 c1, .slice a2 n2 c2] 59)) := (Below.refl _ _).alloc (Nat.le_refl _) _; have e0 : (w4.alloc (.cells #[.bool l, .slice a1 n1 c1, .slice a2 n2 c2] 59)).cell? ⟨w4.heap.size, 0, none⟩ = some (.bool l) := by simp only [World.cell?, hn]; rfl
    have e1 : (w4.alloc (.cells #[.bool l, .slice a1 n1 c1, .slice a2 n2 c2] 59)).cell? ⟨w4.heap.size, 1, none⟩ = some (.slice a1 n1 c1) := by simp only [World.cell?, hn]; rfl
    have e2 : (w4.alloc (.cells #[.bool l, .slice a1 n1 c1, .slice a2 n2 c2] 59)).cell? ⟨w4.heap.size, 2, none⟩ = some (.slice a2 n2 c2) := by simp only [World.cell?, hn]; rfl
    have b5 := b4.trans (bA.mono b4.size); have iv5 := Iv_below iv bA; have ck := (b5.cell (p := ⟨gi, 2, none⟩) hgiw.out).trans HI.out.c2; clear iv b4 bA hn KI d0 d1 i1 i2 i3 i4; dsimp only [v3]; go_upto_region 12 with fail
    generalize w4.alloc (.cells #[.bool l, .slice a1 n1 c1, .slice a2 n2 c2] 59) = w5 at *; generalize w4.heap.size = g11 at *; obtain ⟨kv', w7, hap, ⟨ck7, fz7⟩, hI7⟩ := PL_step 57 (by rw [EH.out]; exact Nat.le_refl _) HG.out HI.out (by rw [LA.out]; have := HLT.out; omega) b5 HR.out iv5 HC.out
    obtain ⟨ak, nk, ck', rfl⟩ := own_form HI.out.o; obtain ⟨ak2, nk2, ck2, rfl⟩ := own_form hI7.o; have HI7 : Hid (PL w h gi ((b.take t).drop f) (.slice ak2 nk2 ck2) (ks ++ [ti]) (vs ++ [(.bool l, .slice a1 n1 c1, .slice a2 n2 c2)]) ((b.take t).drop (a + m)) (w7.setCell ⟨gi, 2, none⟩ (.slice ak2 nk2 ck2))) := hI7; clear hI7 iv5 b5 HI HR; go_wp2_with (at_builtin; refine wpList_apw rfl rfl rfl rfl hap ?_)
    rw [EW.out]; exact ⟨⟨a + m, _, _, _, by have := HA1.out; omega, HM.out.2, rfl, HI7.out⟩, msr_to a m t HM.out.1 HM.out.2⟩
  ·obtain rfl : a = t := by omega
   have d0 : decide ((a : Int) < (a : Int)) = false := decide_eq_false (by omega); have HK : Hid (rkids ((b.take a).drop f) = some ks) := by
    show _ = _
    have er : (b.take a).drop a = [] := by rw [List.drop_eq_nil_iff, List.length_take]; omega
    rw [HI.out.e, er, rkids_nil]; simp
   obtain ⟨ak, nk, ck', rfl⟩ := own_form HI.out.o; have x4 := HI.out.x; have z3 := HI.out.c0; have z4 := HI.out.c1; have z5 := HI.out.c2; clear hI hlt ha1 ha2; go_wp2_with (refine wpList_st3b rfl rfl rfl rfl x4 ?_)
   intro w6 g6 b6 z0 z1 z2; have l5 := HI.out.b; have l6 : Hid (Below w.heap.size w w6) := l5.trans ⟨g6.os, g6.tape, g6.output, g6.size, fun j hj => g6.block j (by have := l5.size; omega) (fun e => by injection e with e; have := EH.out; omega)⟩
   have hx := HG.out; have hE := EH.out; have IV : Hid (Iv (w.heap.size ≤ ·) w6 (.mk true [] ks) (.bool true, .slice none 0 0, .slice ak nk ck')) := .mk _ _ _ _ _ vs (Ty_nil _ _) HI.out.n (Kx_gb (Kx_mono (S' := fun k => gi + 1 ≤ k) (own_kx HI.out.o) (fun k hk _ => hk.1)) g6 (fun k hk e => by injection e with e; omega) |> fun x => Kx_mono x (fun k hk _ => by omega)) (fun j hj => Iv_mono (Iv_gb (Iv_mono (S' := fun k => gi + 1 ≤ k) (HI.out.i j hj) (fun k hk _ => hk.1)) g6 (fun k hk e => by injection e with e; omega)) (fun k hk _ => by omega))
   clear g6 b6 x4 l5 z3 z4 z5 d0 hx hE; go_wp2_with fail
   exact bodyPost_ret (v := .tuple #[.agg #[.bool true, .slice none 0 0, .slice ak nk ck'], .int .i64 (a : Int), .int .i64 0]) (resI3 _ _ _ h 2 3 4 _ _ _ _ _ rfl rfl rfl rfl z0 z1 z2) rfl ⟨(.bool true, .slice none 0 0, .slice ak nk ck'), .inr ⟨ks, HK.out, rfl, IV.out⟩, l6.out⟩
end Pk
end Go.Proofs.Ytlbdaccmnpcccaa
namespace Go.Proofs.Ytlbdaccmnpcccaa
namespace Pk
open Go.RowKit
theorem ps_next (N : Nat) (IH : PsC N) (b : List UInt8) (ao : Option Addr) (cap : Nat) (w : World) (hN : b.length ≤ N + 1) (hb : b.length ≤ 4194304) (hc : (cap : Int) ≤ 9223372036854775807) (h : Sl b (.slice ao b.length cap) w) :
  Calls Try.prog 35 #[.slice ao b.length cap] w fun e w' => ∃ v, e = .returned (.tuple #[v3 v, .int .i64 (sp b).2.1, .int .i64 (sp b).2.2]) ∧ Iv (w.heap.size ≤ ·) w' (sp b).1 v ∧ Below w.heap.size w w' := by
 obtain ⟨ao', cap', e1, hcap, vw⟩ := h; injection e1 with e2 _ e3
 subst e2 e3; have KR : ∀ wx : World, Below w.heap.size w wx → Calls Try.prog 48 #[.slice ao b.length cap] wx fun e w' => e = .returned (prv (prd b)) ∧ Below wx.heap.size wx w' := fun wx hw => pread_any b ao cap wx hb hcap hc (Sp.Vw_below vw hw)
 cases hp : prd b with
 | none =>
  rw [hp, prv_none] at KR; rw [sp_none hp]; exact psplit_no b.length cap ao w KR
 | some q =>
  obtain ⟨f, t, l⟩ := q; obtain ⟨hft, ht, h1, h2⟩ := prd_some hp; have h0 : 0 < b.length := by
   cases b with
   | nil => cases hp
   | cons c r => simp
  obtain ⟨g, off, rfl, hg, hcell⟩ := vw h0; rw [hp, prv_some] at KR; cases l with
  | false =>
   rw [h1 rfl]; by_cases hf : f < t ∨ f < cap
   ·exact psplit_text b g off cap f t w hb hcap hft ht hf hg hcell KR
   ·obtain rfl : f = t := by omega
    obtain rfl : f = cap := by omega
    exact psplit_text0 b g off f w (by omega) hg hcell KR
  | true =>
   obtain ⟨hf1, hr⟩ := h2 rfl; refine (psplit_list N IH b g off cap f t w hb (by omega) hcap hc hft ht hg hcell KR).mono fun e w' he => ?_
   obtain ⟨v, ⟨hk, e1, iv⟩ | ⟨ks, hk, e1, iv⟩, bel⟩ := he
   ·rw [hk] at hr; rw [sp_no hr]; exact ⟨v, e1, iv, bel⟩
   ·rw [hk] at hr; rw [sp_yes hr]; refine ⟨v, ?_, iv, bel⟩; have e4 : ((b.length : Int) - ((b.length - t : Nat) : Int)) = (t : Int) := by omega
    rw [e1, List.length_drop, e4]
theorem ps_all : ∀ N, N ≤ 4194304 → PsC N
 | 0, _ => fun b ao cap w hb hc h => by
  have e : b = [] := List.length_eq_zero_iff.1 (by omega); subst e; obtain ⟨ao', cap', e1, hcap, vw⟩ := h; injection e1 with e2 _ e3
  subst e2 e3; have KR : ∀ wx : World, Below w.heap.size w wx → Calls Try.prog 48 #[.slice ao ([] : List UInt8).length cap] wx fun e w' => e = .returned (prv (prd [])) ∧ Below wx.heap.size wx w' := fun wx hw => pread_any [] ao cap wx (by decide) hcap hc (Sp.Vw_below vw hw)
  rw [show prd [] = none from rfl, prv_none] at KR; rw [sp_none (b := []) rfl]; exact psplit_no _ cap ao w KR
 | N + 1, hN => fun b ao cap w hb hc h => ps_next N (ps_all N (by omega)) b ao cap w hb (by omega) hc h
theorem psplit_any (b : List UInt8) (ao : Option Addr) (cap : Nat) (w : World) (hb : b.length ≤ 4194304) (hc : (cap : Int) ≤ 9223372036854775807) (h : Sl b (.slice ao b.length cap) w) :
  Calls Try.prog 35 #[.slice ao b.length cap] w fun e w' => ∃ v, e = .returned (.tuple #[v3 v, .int .i64 (sp b).2.1, .int .i64 (sp b).2.2]) ∧ Iv (w.heap.size ≤ ·) w' (sp b).1 v ∧ Below w.heap.size w w' :=
 ps_all b.length hb b ao cap w (Nat.le_refl _) hc h
end Pk
end Go.Proofs.Ytlbdaccmnpcccaa
namespace Go.Proofs.Ytlbdaccmnpcccaa
namespace Pk
open Go.RowKit
set_option maxHeartbeats 1000000 in
set_option maxRecDepth 100000 in
theorem pdecode_err (t : It) (k : Int) (n cap : Nat) (ao : Option Addr) (w : World)
  (KR : Hid (∀ wx : World, Below w.heap.size w wx → Calls Try.prog 35 #[.slice ao n cap] wx fun e w' => ∃ v, e = .returned (.tuple #[v3 v, .int .i64 k, .int .i64 1]) ∧ Iv (wx.heap.size ≤ ·) w' t v ∧ Below wx.heap.size wx w')) :
  Calls Try.prog 23 #[.slice ao n cap] w fun e w' => ∃ v, e = .returned (.tuple #[v3 v, .int .i64 1]) ∧ Iv (w.heap.size ≤ ·) w' (It.no) v ∧ Below w.heap.size w w' := by
 have x0 := B3_new w; have l0 : Below w.heap.size w (w.alloc (.cells #[.bool false, .slice none 0 0, .slice none 0 0] 59)) := (Below.refl _ _).alloc (Nat.le_refl _) _; go_enter Try.func23, Try.ntmps23
 go_upto_region 1 with fail
 generalize w.alloc (.cells #[.bool false, .slice none 0 0, .slice none 0 0] 59) = W0 at *; obtain ⟨h, eh⟩ : ∃ h, h = w.heap.size := ⟨_, rfl⟩; have EH : Hid (h = w.heap.size) := eh; rw [← eh] at x0 ⊢; clear eh; go_wp2_with fail
 refine (KR.out _ l0).mono (fun e w1 he => ?_)
 obtain ⟨v, rfl, iv, b1⟩ := he; have hx := x0.hi; obtain ⟨l, a1, n1, p1, a2, n2, p2, rfl⟩ := Iv_form iv; have x1 : B3 h w1 := B3_gb (r := none) x0 (gb_below b1) nofun; have l1 := l0.trans (b1.mono l0.size); have iv1 := Iv_mono (S' := (h + 1 ≤ ·)) iv (fun k hk _ => Nat.le_trans hx hk)
 clear KR x0 l0 iv b1 hx; have hn := heap_alloc_new w1 (.cells #[.bool l, .slice a1 n1 p1, .slice a2 n2 p2] 59); have gA := World.grownBy_alloc w1 (.cells #[.bool l, .slice a1 n1 p1, .slice a2 n2 p2] 59) none; have x2 : B3 h (w1.alloc (.cells #[.bool l, .slice a1 n1 p1, .slice a2 n2 p2] 59)) := B3_gb x1 gA nofun; have e0 : (w1.alloc (.cells #[.bool l, .slice a1 n1 p1, .slice a2 n2 p2] 59)).cell? ⟨w1.heap.size, 0, none⟩ = some (.bool l) := by simp only [World.cell?, hn]; rfl
 have e1 : (w1.alloc (.cells #[.bool l, .slice a1 n1 p1, .slice a2 n2 p2] 59)).cell? ⟨w1.heap.size, 1, none⟩ = some (.slice a1 n1 p1) := by simp only [World.cell?, hn]; rfl
 have e2 : (w1.alloc (.cells #[.bool l, .slice a1 n1 p1, .slice a2 n2 p2] 59)).cell? ⟨w1.heap.size, 2, none⟩ = some (.slice a2 n2 p2) := by simp only [World.cell?, hn]; rfl
 have iv2 := Iv_gb iv1 gA (fun _ _ => nofun)
 have l2 := l1.alloc l1.size (.cells #[.bool l, .slice a1 n1 p1, .slice a2 n2 p2] 59); clear gA x1 hn iv1 l1; dsimp only [v3]; go_upto_region 2 with fail
 generalize w1.alloc (.cells #[.bool l, .slice a1 n1 p1, .slice a2 n2 p2] 59) = w2 at *; generalize w1.heap.size = g4 at *; go_wp2_with (refine wpList_st3b rfl rfl rfl rfl x2 ?_)
 intro w3 g3 b3 z0 z1 z2; have l3 : Hid (Below w.heap.size w w3) := l2.trans ⟨g3.os, g3.tape, g3.output, g3.size, fun j hj => g3.block j (by have := l2.size; omega) (fun e => by injection e with e; have := EH.out; omega)⟩
 clear iv2 l2 g3 b3 x2 e0 e1 e2; go_wp2_with fail
 exact bodyPost_ret (v := .tuple #[.agg #[.bool false, .slice none 0 0, .slice none 0 0], .int .i64 1]) (resI2 _ _ _ h 2 3 _ _ _ _ rfl rfl rfl z0 z1 z2) rfl ⟨(.bool false, .slice none 0 0, .slice none 0 0), rfl, .mk _ _ _ _ _ [] (Ty_nil _ _) rfl (Kx_nil _ _) (fun j hj => absurd hj (by simp)), l3.out⟩
set_option maxHeartbeats 1000000 in
set_option maxRecDepth 100000 in
theorem pdecode_more (t : It) (k : Int) (n cap : Nat) (ao : Option Addr) (w : World) (hk : (k != (n : Int)) = true)
  (KR : Hid (∀ wx : World, Below w.heap.size w wx → Calls Try.prog 35 #[.slice ao n cap] wx fun e w' => ∃ v, e = .returned (.tuple #[v3 v, .int .i64 k, .int .i64 0]) ∧ Iv (wx.heap.size ≤ ·) w' t v ∧ Below wx.heap.size wx w')) :
  Calls Try.prog 23 #[.slice ao n cap] w fun e w' => ∃ v, e = .returned (.tuple #[v3 v, .int .i64 1]) ∧ Iv (w.heap.size ≤ ·) w' (It.no) v ∧ Below w.heap.size w w' := by
 have x0 := B3_new w; have l0 : Below w.heap.size w (w.alloc (.cells #[.bool false, .slice none 0 0, .slice none 0 0] 59)) := (Below.refl _ _).alloc (Nat.le_refl _) _; go_enter Try.func23, Try.ntmps23
 go_upto_region 1 with fail
 generalize w.alloc (.cells #[.bool false, .slice none 0 0, .slice none 0 0] 59) = W0 at *; obtain ⟨h, eh⟩ : ∃ h, h = w.heap.size := ⟨_, rfl⟩; have EH : Hid (h = w.heap.size) := eh; rw [← eh] at x0 ⊢; clear eh; go_wp2_with fail
 refine (KR.out _ l0).mono (fun e w1 he => ?_)
 obtain ⟨v, rfl, iv, b1⟩ := he; have hx := x0.hi; obtain ⟨l, a1, n1, p1, a2, n2, p2, rfl⟩ := Iv_form iv; have x1 : B3 h w1 := B3_gb (r := none) x0 (gb_below b1) nofun; have l1 := l0.trans (b1.mono l0.size); have iv1 := Iv_mono (S' := (h + 1 ≤ ·)) iv (fun k hk _ => Nat.le_trans hx hk)
 clear KR x0 l0 iv b1 hx; have hn := heap_alloc_new w1 (.cells #[.bool l, .slice a1 n1 p1, .slice a2 n2 p2] 59); have gA := World.grownBy_alloc w1 (.cells #[.bool l, .slice a1 n1 p1, .slice a2 n2 p2] 59) none; have x2 : B3 h (w1.alloc (.cells #[.bool l, .slice a1 n1 p1, .slice a2 n2 p2] 59)) := B3_gb x1 gA nofun; have e0 : (w1.alloc (.cells #[.bool l, .slice a1 n1 p1, .slice a2 n2 p2] 59)).cell? ⟨w1.heap.size, 0, none⟩ = some (.bool l) := by simp only [World.cell?, hn]; rfl
 have e1 : (w1.alloc (.cells #[.bool l, .slice a1 n1 p1, .slice a2 n2 p2] 59)).cell? ⟨w1.heap.size, 1, none⟩ = some (.slice a1 n1 p1) := by simp only [World.cell?, hn]; rfl
 have e2 : (w1.alloc (.cells #[.bool l, .slice a1 n1 p1, .slice a2 n2 p2] 59)).cell? ⟨w1.heap.size, 2, none⟩ = some (.slice a2 n2 p2) := by simp only [World.cell?, hn]; rfl
 have iv2 := Iv_gb iv1 gA (fun _ _ => nofun)
 have l2 := l1.alloc l1.size (.cells #[.bool l, .slice a1 n1 p1, .slice a2 n2 p2] 59); clear gA x1 hn iv1 l1; dsimp only [v3]; go_upto_region 2 with fail
 generalize w1.alloc (.cells #[.bool l, .slice a1 n1 p1, .slice a2 n2 p2] 59) = w2 at *; generalize w1.heap.size = g4 at *; go_wp2_with (refine wpList_st3b rfl rfl rfl rfl x2 ?_)
 intro w3 g3 b3 z0 z1 z2; have l3 : Hid (Below w.heap.size w w3) := l2.trans ⟨g3.os, g3.tape, g3.output, g3.size, fun j hj => g3.block j (by have := l2.size; omega) (fun e => by injection e with e; have := EH.out; omega)⟩
 clear iv2 l2 g3 b3 x2 e0 e1 e2; go_wp2_with fail
 exact bodyPost_ret (v := .tuple #[.agg #[.bool false, .slice none 0 0, .slice none 0 0], .int .i64 1]) (resI2 _ _ _ h 2 3 _ _ _ _ rfl rfl rfl z0 z1 z2) rfl ⟨(.bool false, .slice none 0 0, .slice none 0 0), rfl, .mk _ _ _ _ _ [] (Ty_nil _ _) rfl (Kx_nil _ _) (fun j hj => absurd hj (by simp)), l3.out⟩
set_option maxHeartbeats 1000000 in
set_option maxRecDepth 100000 in
theorem pdecode_ok (t : It) (k : Int) (n cap : Nat) (ao : Option Addr) (w : World) (hk : (k != (n : Int)) = false)
  (KR : Hid (∀ wx : World, Below w.heap.size w wx → Calls Try.prog 35 #[.slice ao n cap] wx fun e w' => ∃ v, e = .returned (.tuple #[v3 v, .int .i64 k, .int .i64 0]) ∧ Iv (wx.heap.size ≤ ·) w' t v ∧ Below wx.heap.size wx w')) :
  Calls Try.prog 23 #[.slice ao n cap] w fun e w' => ∃ v, e = .returned (.tuple #[v3 v, .int .i64 0]) ∧ Iv (w.heap.size ≤ ·) w' (t) v ∧ Below w.heap.size w w' := by
 have x0 := B3_new w; have l0 : Below w.heap.size w (w.alloc (.cells #[.bool false, .slice none 0 0, .slice none 0 0] 59)) := (Below.refl _ _).alloc (Nat.le_refl _) _; go_enter Try.func23, Try.ntmps23
 go_upto_region 1 with fail
 generalize w.alloc (.cells #[.bool false, .slice none 0 0, .slice none 0 0] 59) = W0 at *; obtain ⟨h, eh⟩ : ∃ h, h = w.heap.size := ⟨_, rfl⟩; have EH : Hid (h = w.heap.size) := eh; rw [← eh] at x0 ⊢; clear eh; go_wp2_with fail
 refine (KR.out _ l0).mono (fun e w1 he => ?_)
 obtain ⟨v, rfl, iv, b1⟩ := he; have hx := x0.hi; obtain ⟨l, a1, n1, p1, a2, n2, p2, rfl⟩ := Iv_form iv; have x1 : B3 h w1 := B3_gb (r := none) x0 (gb_below b1) nofun; have l1 := l0.trans (b1.mono l0.size); have iv1 := Iv_mono (S' := (h + 1 ≤ ·)) iv (fun k hk _ => Nat.le_trans hx hk)
 clear KR x0 l0 iv b1 hx; have hn := heap_alloc_new w1 (.cells #[.bool l, .slice a1 n1 p1, .slice a2 n2 p2] 59); have gA := World.grownBy_alloc w1 (.cells #[.bool l, .slice a1 n1 p1, .slice a2 n2 p2] 59) none; have x2 : B3 h (w1.alloc (.cells #[.bool l, .slice a1 n1 p1, .slice a2 n2 p2] 59)) := B3_gb x1 gA nofun; have e0 : (w1.alloc (.cells #[.bool l, .slice a1 n1 p1, .slice a2 n2 p2] 59)).cell? ⟨w1.heap.size, 0, none⟩ = some (.bool l) := by simp only [World.cell?, hn]; rfl
 have e1 : (w1.alloc (.cells #[.bool l, .slice a1 n1 p1, .slice a2 n2 p2] 59)).cell? ⟨w1.heap.size, 1, none⟩ = some (.slice a1 n1 p1) := by simp only [World.cell?, hn]; rfl
 have e2 : (w1.alloc (.cells #[.bool l, .slice a1 n1 p1, .slice a2 n2 p2] 59)).cell? ⟨w1.heap.size, 2, none⟩ = some (.slice a2 n2 p2) := by simp only [World.cell?, hn]; rfl
 have iv2 := Iv_gb iv1 gA (fun _ _ => nofun)
 have l2 := l1.alloc l1.size (.cells #[.bool l, .slice a1 n1 p1, .slice a2 n2 p2] 59); clear gA x1 hn iv1 l1; dsimp only [v3]; go_upto_region 2 with fail
 generalize w1.alloc (.cells #[.bool l, .slice a1 n1 p1, .slice a2 n2 p2] 59) = w2 at *; generalize w1.heap.size = g4 at *; go_wp2_with (refine wpList_st3b rfl rfl rfl rfl x2 ?_)
 intro w3 g3 b3 z0 z1 z2; have iv3 : Hid (Iv (w.heap.size ≤ ·) w3 t (.bool l, .slice a1 n1 p1, .slice a2 n2 p2)) := Iv_mono (Iv_gb iv2 g3 (fun j hj e => by injection e with e; omega)) (fun k hk _ => by have := EH.out; omega)
 have l3 : Hid (Below w.heap.size w w3) := l2.trans ⟨g3.os, g3.tape, g3.output, g3.size, fun j hj => g3.block j (by have := l2.size; omega) (fun e => by injection e with e; have := EH.out; omega)⟩
 clear iv2 l2 g3 b3 x2 e0 e1 e2; go_wp2_with fail
 exact bodyPost_ret (v := .tuple #[.agg #[.bool l, .slice a1 n1 p1, .slice a2 n2 p2], .int .i64 0]) (resI2 _ _ _ h 2 3 _ _ _ _ rfl rfl rfl z0 z1 z2) rfl ⟨(.bool l, .slice a1 n1 p1, .slice a2 n2 p2), rfl, iv3.out, l3.out⟩
theorem pdecode_any (b : List UInt8) (ao : Option Addr) (cap : Nat) (w : World) (hb : b.length ≤ 4194304) (hc : (cap : Int) ≤ 9223372036854775807) (h : Sl b (.slice ao b.length cap) w) :
  Calls Try.prog 23 #[.slice ao b.length cap] w fun e w' => ∃ v, e = .returned (.tuple #[v3 v, .int .i64 (dc b).2]) ∧ Iv (w.heap.size ≤ ·) w' (dc b).1 v ∧ Below w.heap.size w w' := by
 have KR : ∀ wx : World, Below w.heap.size w wx → Calls Try.prog 35 #[.slice ao b.length cap] wx fun e w' => ∃ v, e = .returned (.tuple #[v3 v, .int .i64 (sp b).2.1, .int .i64 (sp b).2.2]) ∧ Iv (wx.heap.size ≤ ·) w' (sp b).1 v ∧ Below wx.heap.size wx w' := fun wx hw => psplit_any b ao cap wx hb hc (Sl_below h hw)
 cases hr : ritem b with
 | none =>
  rw [sp_no hr] at KR; have e : dc b = (It.no, 1) := by unfold dc; rw [hr]
  rw [e]; exact pdecode_err It.no 0 b.length cap ao w KR
 | some p =>
  obtain ⟨t, r⟩ := p; rw [sp_yes hr] at KR; by_cases h0 : r.length = 0
  ·have e : dc b = (t, 0) := by unfold dc; rw [hr]; exact if_pos h0
   rw [e]; exact pdecode_ok t _ b.length cap ao w (by simp; omega) KR
  ·have e : dc b = (It.no, 1) := by unfold dc; rw [hr]; exact if_neg h0
   rw [e]; exact pdecode_more t _ b.length cap ao w (by simp; omega) KR
end Pk
end Go.Proofs.Ytlbdaccmnpcccaa
namespace Go.Proofs.Ytlbdaccmnpcccaa
namespace Rs
open Nb Sp Pk Go.RowKit
theorem un_ln : ∀ l : List UInt8, (un l).1.length ≤ l.length
 | [] => by simp [un]
 | [_] => by simp [un]
 | x :: y :: r => by
  rw [un]; repeat' split
  all_goals (simp only [List.length_cons, List.length_nil]; omega)
theorem dc_01 (b : List UInt8) : (dc b).2 = 0 ∨ (dc b).2 = 1 := by
 unfold dc
 cases ritem b with
 | none => exact .inr rfl
 | some p =>
  obtain ⟨t, r⟩ := p; dsimp only
  by_cases h : r.length = 0
  ·rw [if_pos h]; exact .inl rfl
  ·rw [if_neg h]; exact .inr rfl
theorem kid_len {t : It} (hb : bar t = t) (hl : isL t = true) (j : Nat) (hj : j < (kds t).length) : (txt ((kds t).getD j It.no)).length ≤ (enc t).length := by
 have h1 := encs_one (kds t) j hj; have h2 := enc_kds hl; have e : (kds t).getD j It.no = (kds t)[j] := by rw [List.getD_eq_getElem?_getD, List.getElem?_eq_getElem hj]; rfl
 have h3 := bar_kids hb ((kds t)[j]) (List.getElem_mem hj); rw [← e] at h3; cases hk : isL ((kds t).getD j It.no) with
 | false =>
  have := enc_txt hk; omega
 | true =>
  have := list_bar h3 hk; rw [this]; exact Nat.zero_le _
theorem nolist {t : It} (hb : bar t = t) (hl : isL t = false) : kds t = [] := by
 have := text_bar t hb hl; rw [this]; rfl
theorem path_len {t : It} (hb : bar t = t) (hz : (enc t).length ≤ 1048576) : (un (hv (txt ((kds t).getD 0 It.no)))).1.length ≤ 4194300 := by
 have h1 := un_ln (hv (txt ((kds t).getD 0 It.no))); rw [hv_len] at h1; have h2 : (txt ((kds t).getD 0 It.no)).length ≤ 1048576 := by
  cases hl : isL t with
  | false => rw [nolist hb hl]; exact Nat.zero_le _
  | true =>
   by_cases h0 : 0 < (kds t).length
   ·have := kid_len hb hl 0 h0; omega
   ·have : kds t = [] := List.length_eq_zero_iff.1 (by omega); rw [this]; exact Nat.zero_le _
 omega
theorem shp_len {t : It} {s : Shp} (hb : bar t = t) (hz : (enc t).length ≤ 1048576) (h : shp t = some s) : s.2.1.length ≤ 4194300 ∧ s.2.2.2.length ≤ 1048575 := by
 have hp := path_len hb hz; unfold shp at h
 split at h
 ·split at h
  ·cases h; exact ⟨by simp, by simp⟩
  ·cases h
 ·split at h
  ·split at h
   ·split at h
    ·cases h
     split
     ·exact ⟨hp, by simp⟩
     ·exact ⟨hp, by simp⟩
    ·cases h
   ·split at h
    ·cases h
     refine ⟨by simp, ?_⟩; simp only [List.length_take, List.length_map]; omega
    ·cases h
  ·cases h
theorem fm_of {S : Nat → Prop} {w : World} {t : It} {v : V3} (h : Iv S w t v) : Fm v := Iv_form h
theorem read_any (b : List UInt8) (ao : Option Addr) (cap : Nat) (w : World) (hb : b.length ≤ 1048576) (hcp : (cap : Int) ≤ 9223372036854775807) (h : Sl b (.slice ao b.length cap) w) :
  Calls Try.prog 19 #[.slice ao b.length cap] w (PR w (rdS b).1 (rdS b).2) := by
 have KD : ∀ wx : World, Below w.heap.size w wx → Calls Try.prog 30 #[.slice ao b.length cap] wx fun e w' => ∃ v, e = .returned (.tuple #[v3 v, .int .i64 (dc b).2]) ∧ Iv (fun _ => True) w' (dc b).1 v ∧ Below wx.heap.size wx w' ∧ Fm v := fun wx hw =>
  (decode_any b ao cap wx (by omega) hcp (Sl_below h hw)).mono fun e w' he => by
   obtain ⟨v, h1, h2, h3⟩ := he; exact ⟨v, h1, Iv_mono h2 (fun _ _ _ => trivial), h3, fm_of h2⟩
 rcases dc_01 b with hd | hd
 ·obtain ⟨e, eb⟩ := dc_yes hd (by omega); have hz : (enc (dc b).1).length ≤ 1048576 := by rw [← e]; exact hb
  rw [hd] at KD; refine read_ok' ao b.length cap w (dc b).1 (shp (dc b).1) (match shp (dc b).1 with | some x => isS x | none => false) _ _ ?_ KD (fun u wx hu => shapeof_any _ _ u wx hu hz) (fun x v wx hx hv => ?_)
  ·unfold rdS
   rw [if_pos hd]; cases ho : shp (dc b).1 with
   | none => exact ⟨rfl, rfl⟩
   | some x =>
    refine ⟨rfl, ?_⟩; dsimp only
    by_cases hi : isS x = true
    ·simp [hi]
    ·simp [hi]
  ·obtain ⟨h1, h2⟩ := shp_len eb hz hx; rw [hx]; exact isshape_any x v wx hv h1 h2
 ·have e : rdS b = (zS, 1) := by unfold rdS; rw [if_neg (by rw [hd]; decide)]
  rw [e]; exact read_bad ao b.length cap w (dc b).1 (dc b).2 hd KD
set_option maxHeartbeats 2000000 in
set_option maxRecDepth 100000 in
theorem hr_bad (a : Option Addr) (n c : Nat) (w : World) (t : It) (E : Int) (hE : Hid (E = 1))
  (KD : Hid (∀ wx : World, Below w.heap.size w wx → Calls Try.prog 23 #[.slice a n c] wx fun e w' => ∃ v, e = .returned (.tuple #[v3 v, .int .i64 E]) ∧ Iv (fun _ => True) w' t v ∧ Below wx.heap.size wx w' ∧ Fm v)) :
  Calls Try.prog 16 #[.slice a n c] w (PR w zS 1) := by
 have x0 := BS_new w; have l0 : Below w.heap.size w (w.alloc (.cells #[.int .i64 0, .slice none 0 0, .slice none 0 0, .slice none 0 0] 34)) := (Below.refl _ _).alloc (Nat.le_refl _) _; obtain rfl := hE.out; go_enter Try.func16, Try.ntmps16
 go_upto_region 1 with fail
 generalize w.alloc (.cells #[.int .i64 0, .slice none 0 0, .slice none 0 0, .slice none 0 0] 34) = W0 at *; obtain ⟨h, eh⟩ : ∃ h, h = w.heap.size := ⟨_, rfl⟩; have EH : Hid (h = w.heap.size) := eh; rw [← eh] at x0 ⊢; clear eh; go_wp2_with fail
 refine (KD.out _ l0).mono ?_; rintro e w1 ⟨v, rfl, -, b1, lb, d1, m1, e1, d2, m2, e2, rfl⟩; have l1 : Below w.heap.size w w1 := l0.trans (b1.mono l0.size); have x1 : BS h w1 := BS_gb (r := none) x0 (gb_below b1) nofun; have lA := l1.alloc l1.size (.cells #[.bool lb, .slice d1 m1 e1, .slice d2 m2 e2] 59); have xA := BS_gb (r := none) x1 (World.grownBy_alloc w1 (.cells #[.bool lb, .slice d1 m1 e1, .slice d2 m2 e2] 59) none) nofun; clear KD l0 b1 x0 x1 l1; dsimp only [v3]; go_upto_region 3 with fail
 generalize w1.alloc (.cells #[.bool lb, .slice d1 m1 e1, .slice d2 m2 e2] 59) = w2 at *; go_wp2_with (refine wpList_stS rfl rfl rfl rfl xA ?_)
 intro w6 g6 z0 z1 z2 z3; have l6 : Hid (Below w.heap.size w w6) := lA.trans ⟨g6.os, g6.tape, g6.output, g6.size, fun j hj => g6.block j (by have := lA.size; omega) (fun e => by injection e with e; have := EH.out; omega)⟩
 clear g6 xA lA; go_wp2_with fail
 exact bodyPost_ret (v := .tuple #[.agg #[.int .i64 0, .slice none 0 0, .slice none 0 0, .slice none 0 0], .int .i64 1]) (resS2 _ _ _ h 2 3 _ _ _ _ _ rfl rfl rfl z0 z1 z2 z3) rfl ⟨(.int .i64 0, .slice none 0 0, .slice none 0 0, .slice none 0 0), rfl, ⟨rfl, Sl_nil _, Sl_nil _, Ls_nil' _⟩, l6.out, ⟨_, _, _, _, _, _, _, _, _, _, rfl⟩⟩
theorem two_eq {t : It} (hb : bar t = t) (hl : isL t = true) (h2 : (kds t).length = 2) (hA : txt ((kds t).getD 0 It.no) ≠ []) (hB : txt ((kds t).getD 1 It.no) ≠ []) : t = .mk true [] [.mk false (txt ((kds t).getD 0 It.no)) [], .mk false (txt ((kds t).getD 1 It.no)) []] := by
 have et := list_bar hb hl; have hk := bar_kids hb; match hm : kds t, h2 with
 | [x, y], _ =>
  rw [hm] at hA hB hk et; have hx := hk x (by simp); have hy := hk y (by simp); have lx : isL x = false := by
   cases e : isL x with
   | false => rfl
   | true => exact absurd (by rw [show ([x, y] : List It).getD 0 It.no = x from rfl, list_bar hx e]; rfl) hA
  have ly : isL y = false := by
   cases e : isL y with
   | false => rfl
   | true => exact absurd (by rw [show ([x, y] : List It).getD 1 It.no = y from rfl, list_bar hy e]; rfl) hB
  rw [et]; have ex := text_bar x hx lx; have ey := text_bar y hy ly; show It.mk true [] [x, y] = It.mk true [] [.mk false (txt x) [], .mk false (txt y) []]
  rw [← ex, ← ey]
theorem hread_any (b : List UInt8) (ao : Option Addr) (cap : Nat) (w : World) (hb : b.length ≤ 1048576) (hcp : (cap : Int) ≤ 9223372036854775807) (h : Sl b (.slice ao b.length cap) w) :
  Calls Try.prog 16 #[.slice ao b.length cap] w (PR w (hrd b).1 (hrd b).2) := by
 have KD : ∀ wx : World, Below w.heap.size w wx → Calls Try.prog 23 #[.slice ao b.length cap] wx fun e w' => ∃ v, e = .returned (.tuple #[v3 v, .int .i64 (dc b).2]) ∧ Iv (fun _ => True) w' (dc b).1 v ∧ Below wx.heap.size wx w' ∧ Fm v := fun wx hw =>
  (pdecode_any b ao cap wx (by omega) hcp (Sl_below h hw)).mono fun e w' he => by
   obtain ⟨v, h1, h2, h3⟩ := he; exact ⟨v, h1, Iv_mono h2 (fun _ _ _ => trivial), h3, fm_of h2⟩
 rcases dc_01 b with hd | hd
 ·obtain ⟨e, eb⟩ := dc_yes hd (by omega); have hz : (enc (dc b).1).length ≤ 1048576 := by rw [← e]; exact hb
  rw [hd] at KD; have er : hrd b = fnd b (tries (dc b).1) := by unfold hrd fnd; rw [if_pos hd]; rfl
  rw [er]; generalize dc b = D at *; obtain ⟨t, E⟩ := D; dsimp only at *; clear hd er e; have KD2 : Hid (∀ wx : World, Below w.heap.size w wx → Calls Try.prog 23 #[.slice ao b.length cap] wx fun e w' => ∃ lb a1 n1 c1 a2 n2 c2 hs, e = .returned (.tuple #[.agg #[.bool lb, .slice a1 n1 c1, .slice a2 n2 c2], .int .i64 0]) ∧ KV (kds t) a2 n2 w' hs ∧ Below wx.heap.size wx w') := fun wx hw =>
   (KD wx hw).mono fun e w' he => by
    obtain ⟨v, h1, h2, h3, _⟩ := he; obtain ⟨a1, c1, a, n, c, hs, ev, hk⟩ := iv_kids h2; subst ev; exact ⟨_, _, _, _, _, _, _, hs, h1, hk, h3⟩
  have hbs : Hid (∀ wx, Below w.heap.size w wx → Sl b (.slice ao b.length cap) wx) := fun wx hw => Sl_below h hw
  have hkl : (kds t).length ≤ 1048576 := by
   cases hl : isL t with
   | false => rw [nolist eb hl]; exact Nat.zero_le _
   | true =>
    have h1 := encs_many (kds t); have h2 := enc_kds hl; omega
  have hlt : ∀ m, (kds t).length = m → 0 < m → isL t = true := fun m hm h0 => by
   cases hl : isL t with
   | true => rfl
   | false => rw [nolist eb hl] at hm; simp at hm; omega
  have hp := path_len eb hz; have hA : (txt ((kds t).getD 0 It.no)).length ≤ 2097140 := by
   by_cases h0 : 0 < (kds t).length
   ·have := kid_len eb (hlt _ rfl h0) 0 h0; omega
   ·have : kds t = [] := List.length_eq_zero_iff.1 (by omega); rw [this]; exact Nat.zero_le _
  have KZ : ∀ (x : V4) (wx : World), Sh zS x wx → Calls Try.prog 25 #[v4 x] wx fun e w' => ∃ v, e = .returned (.tuple #[v, .int .i64 (he zS)]) ∧ Sl (hc zS) v w' ∧ Below wx.heap.size wx w' := fun x wx hx => hcode_any zS x wx hx (by show (0 : Nat) ≤ _; omega) (fun hs => encS_len zS hs (by show (0 : Nat) ≤ _; omega))
  have KU : ∀ lf, (un (hv (txt ((kds t).getD 0 It.no)))).2.1 = lf → Hid (∀ (x : Option Addr) (y : Nat) (wx : World), Sl (((kds t).map txt).getD 0 []) (.slice x (((kds t).map txt).getD 0 []).length y) wx → Calls Try.prog 24 #[.slice x (((kds t).map txt).getD 0 []).length y] wx fun e w' => ∃ v z, e = .returned (.tuple #[v, .bool lf, .int .i64 z]) ∧ Sl (un (hv (txt ((kds t).getD 0 It.no)))).1 v w' ∧ Below wx.heap.size wx w') := fun lf hlf x y wx hs => by
   rw [map_txt] at hs ⊢; obtain ⟨ao', cap', e, hcap, hvv⟩ := hs; injection e with e1 _ e3
   refine (nuntag_sl _ x y wx (by show _ ≤ _; exact hA) (by rw [e3]; exact hcap) (by rw [e1]; exact hvv)).mono fun e w' he => ?_
   obtain ⟨v, h1, h2, h3⟩ := he; rw [hlf] at h1; exact ⟨v, _, h1, h2, h3⟩
  unfold tries
  by_cases k2 : (kds t).length = 2
  ·rw [if_pos k2]; have hl := hlt 2 k2 (by decide); have HE : ∀ s : Shp, isS s = true → (∀ p lf, un (hv (txt ((kds t).getD 0 It.no))) = (p, lf, 0) → txt ((kds t).getD 1 It.no) ≠ [] → itS s = .mk true [] [.mk false (jl (tg p lf)) [], .mk false (txt ((kds t).getD 1 It.no)) []]) → (un (hv (txt ((kds t).getD 0 It.no)))).2.2 = 0 → txt ((kds t).getD 1 It.no) ≠ [] → (enc (itS s)).length ≤ 1048576 := fun s _ hi hu hB => by
    rcases un_or' (txt ((kds t).getD 0 It.no)) with ⟨p, lf, e1, e2, _⟩ | e1
    ·have hA0 : txt ((kds t).getD 0 It.no) ≠ [] := fun e0 => by
      rw [e0] at e1; simp [hv, un] at e1
     rw [hi p lf e1 hB, e2, ← two_eq eb hl k2 hA0 hB]; exact hz
    ·rw [e1] at hu; cases hu
   cases hlf : (un (hv (txt ((kds t).getD 0 It.no)))).2.1 with
   | true =>
    rw [if_pos rfl]; refine hr_leaf b ao b.length cap w (kds t) _ hbs KD2 hkl (fun s x wx hm hx => ?_) _ (KU true hlf) (by show _ = _; rw [map_txt]) k2
    simp only [List.mem_cons, List.not_mem_nil, or_false] at hm; rcases hm with rfl | rfl
    ·exact KZ x wx hx
    ·refine hcode_any _ x wx hx hp (fun hs => HE _ hs (fun p lf e1 _ => ?_) ?_ ?_)
     ·have : lf = true := by rw [e1] at hlf; exact hlf
      subst this; rw [e1]; rfl
     ·rcases un_or' (txt ((kds t).getD 0 It.no)) with ⟨p, lf, e1, _⟩ | e1
      ·rw [e1]
      ·rw [e1] at hlf; cases hlf
     ·intro e0; rw [e0] at hs; simp [isS] at hs
   | false =>
    rw [if_neg (by decide)]; refine hr_road b ao b.length cap w (kds t) _ hbs KD2 hkl (fun s x wx hm hx => ?_) _ (KU false hlf) (by show _ = _; rw [map_txt]) k2
    simp only [List.mem_cons, List.not_mem_nil, or_false] at hm; rcases hm with rfl | rfl
    ·exact KZ x wx hx
    ·refine hcode_any _ x wx hx hp (fun hs => HE _ hs (fun p lf e1 _ => ?_) ?_ ?_)
     ·have : lf = false := by rw [e1] at hlf; exact hlf
      subst this; rw [e1]; rfl
     ·rcases un_or' (txt ((kds t).getD 0 It.no)) with ⟨p, lf, e1, _⟩ | e1
      ·rw [e1]
      ·rw [e1] at hs; simp [isS] at hs
     ·intro e0; rw [e0] at hs; simp [isS] at hs
  ·rw [if_neg k2]; by_cases k3 : (kds t).length = 17
   ·rw [if_pos k3]; refine hr_fork b ao b.length cap w (kds t) _ hbs KD2 hkl (fun s x wx hm hx => ?_) (by show _ = _; rw [map_txt]) k3
    simp only [List.mem_cons, List.not_mem_nil, or_false] at hm; rcases hm with rfl | rfl
    ·exact KZ x wx hx
    ·exact hcode_any _ x wx hx (by show (0 : Nat) ≤ _; omega) (fun hs => encS_len _ hs (by show (0 : Nat) ≤ _; omega))
   ·rw [if_neg k3]; refine hr_other b ao b.length cap w (kds t) _ hbs KD2 hkl (fun s x wx hm hx => ?_) rfl k2 k3
    rw [List.mem_singleton.1 hm] at hx ⊢; exact KZ x wx hx
 ·have e : hrd b = (zS, 1) := by unfold hrd; rw [if_neg (by rw [hd]; decide)]
  rw [e]; exact hr_bad ao b.length cap w (dc b).1 (dc b).2 hd KD
end Rs
end Go.Proofs.Ytlbdaccmnpcccaa
namespace Go.Proofs.Ytlbdaccmnpcccaa
namespace Rs
open Nb Sp Pk Go.RowKit
def PR2 (w : World) (s : Shp) (z : Int) (e : Ending) (w' : World) : Prop := ∃ v, e = .returned (.tuple #[v4 v, .int .i64 z]) ∧ Sh s v w' ∧ Below w.heap.size w w' ∧ F4 v ∧ Rf w.heap.size v.2.2.2
set_option maxHeartbeats 2000000 in
set_option maxRecDepth 100000 in
theorem read_bad2 (a : Option Addr) (n c : Nat) (w : World) (t : It) (E : Int) (hE : Hid (E = 1))
  (KD : Hid (∀ wx : World, Below w.heap.size w wx → Calls Try.prog 30 #[.slice a n c] wx fun e w' => ∃ v, e = .returned (.tuple #[v3 v, .int .i64 E]) ∧ Iv (fun _ => True) w' t v ∧ Below wx.heap.size wx w' ∧ Fm v)) :
  Calls Try.prog 19 #[.slice a n c] w (PR2 w zS 1) := by
 have x0 := BS_new w; have l0 : Below w.heap.size w (w.alloc (.cells #[.int .i64 0, .slice none 0 0, .slice none 0 0, .slice none 0 0] 34)) := (Below.refl _ _).alloc (Nat.le_refl _) _; obtain rfl := hE.out; go_enter Try.func19, Try.ntmps19
 go_upto_region 1 with fail
 generalize w.alloc (.cells #[.int .i64 0, .slice none 0 0, .slice none 0 0, .slice none 0 0] 34) = W0 at *; obtain ⟨h, eh⟩ : ∃ h, h = w.heap.size := ⟨_, rfl⟩; have EH : Hid (h = w.heap.size) := eh; rw [← eh] at x0 ⊢; clear eh; go_wp2_with fail
 refine (KD.out _ l0).mono ?_; rintro e w1 ⟨v, rfl, -, b1, lb, d1, m1, e1, d2, m2, e2, rfl⟩; have l1 : Below w.heap.size w w1 := l0.trans (b1.mono l0.size); have x1 : BS h w1 := BS_gb (r := none) x0 (gb_below b1) nofun; have lA := l1.alloc l1.size (.cells #[.bool lb, .slice d1 m1 e1, .slice d2 m2 e2] 59); have xA := BS_gb (r := none) x1 (World.grownBy_alloc w1 (.cells #[.bool lb, .slice d1 m1 e1, .slice d2 m2 e2] 59) none) nofun; clear KD l0 b1 x0 x1 l1; dsimp only [v3]; go_upto_region 3 with fail
 generalize w1.alloc (.cells #[.bool lb, .slice d1 m1 e1, .slice d2 m2 e2] 59) = w2 at *; go_wp2_with (refine wpList_stS rfl rfl rfl rfl xA ?_)
 intro w6 g6 z0 z1 z2 z3; have l6 : Hid (Below w.heap.size w w6) := lA.trans ⟨g6.os, g6.tape, g6.output, g6.size, fun j hj => g6.block j (by have := lA.size; omega) (fun e => by injection e with e; have := EH.out; omega)⟩
 clear g6 xA lA; go_wp2_with fail
 exact bodyPost_ret (v := .tuple #[.agg #[.int .i64 0, .slice none 0 0, .slice none 0 0, .slice none 0 0], .int .i64 1]) (resS2 _ _ _ h 2 3 _ _ _ _ _ rfl rfl rfl z0 z1 z2 z3) rfl ⟨(.int .i64 0, .slice none 0 0, .slice none 0 0, .slice none 0 0), rfl, ⟨rfl, Sl_nil _, Sl_nil _, Ls_nil' _⟩, l6.out, ⟨_, _, _, _, _, _, _, _, _, _, rfl⟩, nofun⟩
set_option maxHeartbeats 2000000 in
set_option maxRecDepth 100000 in
theorem read_ok2 (a : Option Addr) (n c : Nat) (w : World) (t : It) (o : Option Shp) (R : Bool) (s : Shp) (z : Int) (hz : Hid (match o with | some x => (R = isS x ∧ (if R then s = x ∧ z = 0 else s = zS ∧ z = 1)) | none => s = zS ∧ z = 1))
  (KD : Hid (∀ wx : World, Below w.heap.size w wx → Calls Try.prog 30 #[.slice a n c] wx fun e w' => ∃ v, e = .returned (.tuple #[v3 v, .int .i64 0]) ∧ Iv (fun _ => True) w' t v ∧ Below wx.heap.size wx w' ∧ Fm v))
  (KS : Hid (∀ (u : V3) (wx : World), Iv (fun _ => True) wx t u → Calls Try.prog 31 #[v3 u] wx (PS wx o)))
  (KI : Hid (∀ (x : Shp) (v : V4) (wx : World), o = some x → Sh x v wx → Calls Try.prog 32 #[v4 v] wx fun e w' => e = .returned (.bool R) ∧ Below wx.heap.size wx w')) :
  Calls Try.prog 19 #[.slice a n c] w (PR2 w s z) := by
 have x0 := BS_new w; have l0 : Below w.heap.size w (w.alloc (.cells #[.int .i64 0, .slice none 0 0, .slice none 0 0, .slice none 0 0] 34)) := (Below.refl _ _).alloc (Nat.le_refl _) _; go_enter Try.func19, Try.ntmps19
 go_upto_region 1 with fail
 generalize w.alloc (.cells #[.int .i64 0, .slice none 0 0, .slice none 0 0, .slice none 0 0] 34) = W0 at *; obtain ⟨h, eh⟩ : ∃ h, h = w.heap.size := ⟨_, rfl⟩; have EH : Hid (h = w.heap.size) := eh; rw [← eh] at x0 ⊢; clear eh; go_wp2_with fail
 refine (KD.out _ l0).mono ?_; rintro e w1 ⟨v, rfl, iv, b1, lb, d1, m1, e1, d2, m2, e2, rfl⟩; have l1 : Below w.heap.size w w1 := l0.trans (b1.mono l0.size); have x1 : BS h w1 := BS_gb (r := none) x0 (gb_below b1) nofun; have bA : Below w1.heap.size w1 (w1.alloc (.cells #[.bool lb, .slice d1 m1 e1, .slice d2 m2 e2] 59)) := (Below.refl _ _).alloc (Nat.le_refl _) _; have lA := l1.trans (bA.mono l1.size); have xA := BS_gb (r := none) x1 (gb_below bA) nofun; have KS2 : Hid _ := KS.out (.bool lb, .slice d1 m1 e1, .slice d2 m2 e2) _ (Iv_below iv bA); have HA := heap_alloc_new w1 (.cells #[.bool lb, .slice d1 m1 e1, .slice d2 m2 e2] 59); have p0 : (w1.alloc (.cells #[.bool lb, .slice d1 m1 e1, .slice d2 m2 e2] 59)).cell? ⟨w1.heap.size, 0, none⟩ = some (.bool lb) := by simp only [World.cell?, HA]; rfl
 have p1 : (w1.alloc (.cells #[.bool lb, .slice d1 m1 e1, .slice d2 m2 e2] 59)).cell? ⟨w1.heap.size, 1, none⟩ = some (.slice d1 m1 e1) := by simp only [World.cell?, HA]; rfl
 have p2 : (w1.alloc (.cells #[.bool lb, .slice d1 m1 e1, .slice d2 m2 e2] 59)).cell? ⟨w1.heap.size, 2, none⟩ = some (.slice d2 m2 e2) := by simp only [World.cell?, HA]; rfl
 clear KD l0 b1 x0 x1 l1 KS iv bA HA; dsimp only [v3] at KS2 ⊢; go_upto_region 4 with fail
 generalize w1.alloc (.cells #[.bool lb, .slice d1 m1 e1, .slice d2 m2 e2] 59) = w2 at *; generalize w1.heap.size = g1 at *; have HH : Hid (h < w2.heap.size) := xA.hi; go_wp2_with fail
 refine Calls.mono KS2.out ?_; rintro e w3 ⟨v, rfl, hv, b3, k, f1, f2, f3, f4, f5, f6, f7, f8, f9, rfl⟩; have l3 : Below w.heap.size w w3 := lA.trans (b3.mono lA.size); have x3 : BS h w3 := BS_gb (r := none) xA (gb_below b3) nofun; have bB : Below w3.heap.size w3 (w3.alloc (.cells #[.int .i64 k, .slice f1 f2 f3, .slice f4 f5 f6, .slice f7 f8 f9] 34)) := (Below.refl _ _).alloc (Nat.le_refl _) _; have lB := l3.trans (bB.mono l3.size); have xB := BS_gb (r := none) x3 (gb_below bB) nofun; have HB := heap_alloc_new w3 (.cells #[.int .i64 k, .slice f1 f2 f3, .slice f4 f5 f6, .slice f7 f8 f9] 34); have s0 : (w3.alloc (.cells #[.int .i64 k, .slice f1 f2 f3, .slice f4 f5 f6, .slice f7 f8 f9] 34)).cell? ⟨w3.heap.size, 0, none⟩ = some (.int .i64 k) := by simp only [World.cell?, HB]; rfl
 have s1 : (w3.alloc (.cells #[.int .i64 k, .slice f1 f2 f3, .slice f4 f5 f6, .slice f7 f8 f9] 34)).cell? ⟨w3.heap.size, 1, none⟩ = some (.slice f1 f2 f3) := by simp only [World.cell?, HB]; rfl
 have s2 : (w3.alloc (.cells #[.int .i64 k, .slice f1 f2 f3, .slice f4 f5 f6, .slice f7 f8 f9] 34)).cell? ⟨w3.heap.size, 2, none⟩ = some (.slice f4 f5 f6) := by simp only [World.cell?, HB]; rfl
 have s3 : (w3.alloc (.cells #[.int .i64 k, .slice f1 f2 f3, .slice f4 f5 f6, .slice f7 f8 f9] 34)).cell? ⟨w3.heap.size, 3, none⟩ = some (.slice f7 f8 f9) := by simp only [World.cell?, HB]; rfl
 have hw4 : w3.heap.size < (w3.alloc (.cells #[.int .i64 k, .slice f1 f2 f3, .slice f4 f5 f6, .slice f7 f8 f9] 34)).heap.size := by simp
 have HV : Hid (∀ s, o = some s → Sh s (.int .i64 k, .slice f1 f2 f3, .slice f4 f5 f6, .slice f7 f8 f9) (w3.alloc (.cells #[.int .i64 k, .slice f1 f2 f3, .slice f4 f5 f6, .slice f7 f8 f9] 34)) ∧ Rf w2.heap.size (.slice f7 f8 f9)) := fun s hs => ⟨Sh_below (hv s hs).1 bB, (hv s hs).2⟩
 clear b3 lA xA KS2 hv l3 x3 bB HB p0 p1 p2; dsimp only [v4]; go_upto_region 5 with fail
 generalize w3.alloc (.cells #[.int .i64 k, .slice f1 f2 f3, .slice f4 f5 f6, .slice f7 f8 f9] 34) = w4 at *; generalize w3.heap.size = g3 at *; cases o with
 | none =>
  obtain ⟨rfl, rfl⟩ := hz.out; have e0 : (none : Option Shp).isSome = false := rfl; rw [e0]; clear HV s0 s1 s2 s3 KI hz; go_upto_region 6 with fail
  go_wp2_with (refine wpList_stS rfl rfl rfl rfl xB ?_)
  intro w6 g6 z0 z1 z2 z3; have l6 : Hid (Below w.heap.size w w6) := lB.trans ⟨g6.os, g6.tape, g6.output, g6.size, fun j hj => g6.block j (by have := lB.size; omega) (fun e => by injection e with e; have := EH.out; omega)⟩
  clear g6 xB lB; go_wp2_with fail
  exact bodyPost_ret (v := .tuple #[.agg #[.int .i64 0, .slice none 0 0, .slice none 0 0, .slice none 0 0], .int .i64 1]) (resS2 _ _ _ h 2 3 _ _ _ _ _ rfl rfl rfl z0 z1 z2 z3) rfl ⟨(.int .i64 0, .slice none 0 0, .slice none 0 0, .slice none 0 0), rfl, ⟨rfl, Sl_nil _, Sl_nil _, Ls_nil' _⟩, l6.out, ⟨_, _, _, _, _, _, _, _, _, _, rfl⟩, nofun⟩
 | some x =>
  have e0 : (some x : Option Shp).isSome = true := rfl; rw [e0]; have KI2 : Hid _ := KI.out x (.int .i64 k, .slice f1 f2 f3, .slice f4 f5 f6, .slice f7 f8 f9) w4 rfl (HV.out x rfl).1; clear KI; dsimp only [v4] at KI2; go_wp2_with fail
  refine Calls.mono KI2.out ?_; rintro e w5 ⟨rfl, b5⟩; have l5 : Below w.heap.size w w5 := lB.trans (b5.mono lB.size); have x5 : BS h w5 := BS_gb (r := none) xB (gb_below b5) nofun; have r0 := (b5.cell (p := ⟨g3, 0, none⟩) hw4).trans s0; have r1 := (b5.cell (p := ⟨g3, 1, none⟩) hw4).trans s1; have r2 := (b5.cell (p := ⟨g3, 2, none⟩) hw4).trans s2; have r3 := (b5.cell (p := ⟨g3, 3, none⟩) hw4).trans s3; have HV5 : Hid (Sh x (.int .i64 k, .slice f1 f2 f3, .slice f4 f5 f6, .slice f7 f8 f9) w5 ∧ Rf w2.heap.size (.slice f7 f8 f9)) := ⟨Sh_below (HV.out x rfl).1 b5, (HV.out x rfl).2⟩; clear HV b5 KI2 lB xB s0 s1 s2 s3 hw4; obtain ⟨-, hz2⟩ := hz.out; clear hz; cases R with
  | false =>
   obtain ⟨rfl, rfl⟩ := hz2; clear HV5 r0 r1 r2 r3; go_upto_region 6 with fail
   go_wp2_with (refine wpList_stS rfl rfl rfl rfl x5 ?_)
   intro w6 g6 z0 z1 z2 z3; have l6 : Hid (Below w.heap.size w w6) := l5.trans ⟨g6.os, g6.tape, g6.output, g6.size, fun j hj => g6.block j (by have := l5.size; omega) (fun e => by injection e with e; have := EH.out; omega)⟩
   clear g6 x5 l5; go_wp2_with fail
   exact bodyPost_ret (v := .tuple #[.agg #[.int .i64 0, .slice none 0 0, .slice none 0 0, .slice none 0 0], .int .i64 1]) (resS2 _ _ _ h 2 3 _ _ _ _ _ rfl rfl rfl z0 z1 z2 z3) rfl ⟨(.int .i64 0, .slice none 0 0, .slice none 0 0, .slice none 0 0), rfl, ⟨rfl, Sl_nil _, Sl_nil _, Ls_nil' _⟩, l6.out, ⟨_, _, _, _, _, _, _, _, _, _, rfl⟩, nofun⟩
  | true =>
   obtain ⟨rfl, rfl⟩ := hz2; go_upto_region 7 with fail
   go_wp2_with (refine wpList_stS rfl rfl rfl rfl x5 ?_)
   intro w6 g6 z0 z1 z2 z3; have l6 : Hid (Below w.heap.size w w6) := l5.trans ⟨g6.os, g6.tape, g6.output, g6.size, fun j hj => g6.block j (by have := l5.size; omega) (fun e => by injection e with e; have := EH.out; omega)⟩
   have S6 : Hid (Sh s (.int .i64 k, .slice f1 f2 f3, .slice f4 f5 f6, .slice f7 f8 f9) w6) := Sh_gb HV5.out.1 (BS_nb x5) (fun e => by have := HV5.out.2 _ e; have := HH.out; omega) g6
   have R6 : Hid (Rf w.heap.size (.slice f7 f8 f9)) := fun a ha => Nat.le_trans (Nat.le_of_lt (by have := HH.out; have := EH.out; omega)) (HV5.out.2 a ha)
   clear g6 x5 l5 HV5 r0 r1 r2 r3; go_wp2_with fail
   exact bodyPost_ret (v := .tuple #[.agg #[.int .i64 k, .slice f1 f2 f3, .slice f4 f5 f6, .slice f7 f8 f9], .int .i64 0]) (resS2 _ _ _ h 2 3 _ _ _ _ _ rfl rfl rfl z0 z1 z2 z3) rfl ⟨(.int .i64 k, .slice f1 f2 f3, .slice f4 f5 f6, .slice f7 f8 f9), rfl, S6.out, l6.out, ⟨_, _, _, _, _, _, _, _, _, _, rfl⟩, R6.out⟩
theorem read2_any (b : List UInt8) (ao : Option Addr) (cap : Nat) (w : World) (hb : b.length ≤ 1048576) (hcp : (cap : Int) ≤ 9223372036854775807) (h : Sl b (.slice ao b.length cap) w) :
  Calls Try.prog 19 #[.slice ao b.length cap] w (PR2 w (rdS b).1 (rdS b).2) := by
 have KD : ∀ wx : World, Below w.heap.size w wx → Calls Try.prog 30 #[.slice ao b.length cap] wx fun e w' => ∃ v, e = .returned (.tuple #[v3 v, .int .i64 (dc b).2]) ∧ Iv (fun _ => True) w' (dc b).1 v ∧ Below wx.heap.size wx w' ∧ Fm v := fun wx hw =>
  (decode_any b ao cap wx (by omega) hcp (Sl_below h hw)).mono fun e w' he => by
   obtain ⟨v, h1, h2, h3⟩ := he; exact ⟨v, h1, Iv_mono h2 (fun _ _ _ => trivial), h3, fm_of h2⟩
 rcases dc_01 b with hd | hd
 ·obtain ⟨e, eb⟩ := dc_yes hd (by omega); have hz : (enc (dc b).1).length ≤ 1048576 := by rw [← e]; exact hb
  rw [hd] at KD; refine read_ok2 ao b.length cap w (dc b).1 (shp (dc b).1) (match shp (dc b).1 with | some x => isS x | none => false) _ _ ?_ KD (fun u wx hu => shapeof_any _ _ u wx hu hz) (fun x v wx hx hv => ?_)
  ·unfold rdS
   rw [if_pos hd]; cases ho : shp (dc b).1 with
   | none => exact ⟨rfl, rfl⟩
   | some x =>
    refine ⟨rfl, ?_⟩; dsimp only
    by_cases hi : isS x = true
    ·simp [hi]
    ·simp [hi]
  ·obtain ⟨h1, h2⟩ := shp_len eb hz hx; rw [hx]; exact isshape_any x v wx hv h1 h2
 ·have e : rdS b = (zS, 1) := by unfold rdS; rw [if_neg (by rw [hd]; decide)]
  rw [e]; exact read_bad2 ao b.length cap w (dc b).1 (dc b).2 hd KD
end Rs
end Go.Proofs.Ytlbdaccmnpcccaa
namespace Go.Proofs.Ytlbdaccmnpcccaa
namespace Hh
open Go.RowKit Sp
set_option maxRecDepth 100000 in
theorem ld {K : Value → World → Prop} {a : Act} {o : Oper} {s g : Nat} {F : Nat → Int} {w : World} (ho : o.op = .load 23 (.tmp s)) (ha : a.eval (.tmp s) = .pointer (some ⟨g, 0, none⟩))
  (hc : Sp.CK .u8 g 32 F w) (hK : K (Hv F) w) : RS.upv Try.prog K ((execOp a.eval o).run Try.prog w) := by
 obtain ⟨dst, op, ty, pos, after, guard⟩ := o; simp only at ho; subst ho; generalize a.eval = ρ at *; unfold execOp
 simp only [ha, Instr.loadAt, Instr.sureAddr, Sem.run_bind, Sem.run_pure, Result.andThen_ok, run_loadVar_mid w g 0 23 (h32 F) _ (range32 hc) Try.underlying23 rfl info32]; exact hK
theorem neq {K : Value → World → Prop} {a : Act} {o : Oper} {X Y : Operand} {F G : Nat → Int} {b : Bool} {w : World} (ho : o.op = .binOp .neq 23 X Y 23) (hx : a.eval X = Hv F) (hy : a.eval Y = Hv G)
  (hb : (!same 32 F G) = b) (hK : K (.bool b) w) : RS.upv Try.prog K ((execOp a.eval o).run Try.prog w) := by
 obtain ⟨dst, op, ty, pos, after, guard⟩ := o; simp only at ho; subst ho; generalize a.eval = ρ at *; have e1 := neq32 F G w; rw [hb] at e1; have g1 := eq_guard32 .neq X Y F G w; go_simp; exact hK
end Hh
end Go.Proofs.Ytlbdaccmnpcccaa
namespace Go.Proofs.Ytlbdaccmnpcccaa
namespace RF
open RS
variable {P : Program} {ops : Array Oper} {Q : Exit → Act → World → Prop}
theorem go {o : Oper} {rest : List Oper} {a : Act} {w : World} (hw : Region.wanted o (yielded ops a.tmps) = true) (h : upv P (fun v w' => wpList P ops Q rest (a.put o.dst v) w') ((execOp a.eval o).run P w)) : wpList P ops Q (o :: rest) a w := by
 unfold wpList
 rw [if_pos hw]; exact .inl (upv_upon (K := fun a' w' => wpList P ops Q rest a' w') h)
theorem skip {o : Oper} {rest : List Oper} {a a' : Act} {w : World} (hw : Region.wanted o (yielded ops a.tmps) = false) (ha : a.put o.dst undef = a') (h : wpList P ops Q rest a' w) : wpList P ops Q (o :: rest) a w := by
 subst ha; simp only [wpList, hw]; exact h
end RF
end Go.Proofs.Ytlbdaccmnpcccaa
