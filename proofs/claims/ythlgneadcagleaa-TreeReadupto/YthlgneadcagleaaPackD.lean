import Derived.Test.YthlgneadcagleaaPackC
import Derived.Deep.Cut
import Derived.Deep.MidRow
namespace Go.Proofs.Ythlgneadcagleaa
namespace Tr
open Nb Go.RowKit
def Kid (lo : Nat) (W0 : World) (t : Nd) (q x : By) (D : Nat → Prop) (y : Value) (wx : World) : Prop := ∃ (t' : Nd) (F' : Nat → Prop), In lo wx t' y F' ∧ Rs t' ∧ Up t' t q x ∧ (∀ z, F' z → D z ∨ W0.heap.size ≤ z) ∧ Ch lo D W0 wx
def Fin (lo : Nat) (W0 : World) (p v : By) (ks : List Nd) (g : Nat) (F : Nat → Prop) (q x : By) (wx : World) : Prop := ∃ (v' : By) (ks' : List Nd) (F' : Nat → Prop), In lo wx (.mk 3 p v' ks') (.iface 73 (.pointer (some ⟨g, 0, none⟩))) F' ∧ (∀ j, j < 16 → Rs (ks'.getD j Nd.no)) ∧ Up (.mk 3 p v' ks') (.mk 3 p v ks) q x ∧ (∀ z, F' z → F z ∨ W0.heap.size ≤ z) ∧ Ch lo F W0 wx
theorem fp_kid {lo : Nat} {W0 wx : World} {p v q x : By} {ks : List Nd} {g cN : Nat} {c : Array Value} {F : Nat → Prop} {D : Nat → Nat → Prop} {y : Value} (hc16 : cN < 16) (hl : ks.length = 16) (hlo : lo ≤ g) (hb : W0.heap[g]? = some (.cells c 98 (0, 0))) (hc : c.size = 17) (hFg : F g)
    (hv : Bs (Sb lo W0) v (c.getD 0 undef) W0) (hi : ∀ j, j < 16 → In lo W0 (ks.getD j Nd.no) (c.getD (j + 1) undef) (D j)) (hg : ∀ j, j < 16 → ¬ D j g) (hD : ∀ i j z, i < 16 → j < 16 → D i z → D j z → i = j) (hs : ∀ j z, j < 16 → D j z → F z) (hr : ∀ j, j < 16 → Rs (ks.getD j Nd.no)) (cb : UInt8) (hcb : cb.toNat = cN)
    (hk : Kid lo W0 (ks.getD cN Nd.no) q x (D cN) y wx) : wx.heap[g]? = some (.cells c 98 (0, 0)) ∧ Fin lo W0 p v ks g F (cb :: q) x (wx.setCell ⟨g, 1 + cN, none⟩ y) := by
  obtain ⟨t', F', h1, h2, h3, h4, h5⟩ := hk
  have hgl := Pk.lt_of_heap hb
  have b1 : wx.heap[g]? = some (.cells c 98 (0, 0)) := by rw [h5.block g hgl (fun hh => hg cN hc16 hh.1)]; exact hb
  have hch : Ch lo (· = g) wx (wx.setCell ⟨g, 1 + cN, none⟩ y) := ch_set y hlo b1
  have h1' := In_lt h1
  refine ⟨b1, v, ks.set cN t', fun z => F z ∨ W0.heap.size ≤ z, ?_, fun j hj => ?_, ?_, fun z hz => hz, ?_⟩
  · refine .fork p v _ g (c.setIfInBounds (1 + cN) y) _ (fun j z => if j = cN then (F' z ∧ z < wx.heap.size) else (D j z ∧ z < W0.heap.size)) (by simp [hl]) hlo (heap_setCell_same b1 y) (by simp [hc]) (.inl hFg) ?_ (fun j hj => ?_) (fun j hj hh => ?_) (fun i j z hi' hj hz1 hz2 => ?_) (fun j z hj hz => ?_)
    · rw [getD_setIf _ _ _ _ (by omega), if_neg (by omega)]
      exact Bs_ch (Bs_ch hv h5) hch
    · rw [getD_setIf _ _ _ _ (by omega), getD_set _ _ _ _ _ (by omega)]
      by_cases e : j = cN
      · subst e
        rw [if_pos rfl, if_pos (show j + 1 = 1 + j by omega)]
        simp only [if_true]
        refine In_ch h1' hch (fun z _ hz e => ?_)
        subst e
        rcases h4 z hz.1 with h | h
        · exact hg j hj h
        · omega
      · rw [if_neg e, if_neg (show ¬ j + 1 = 1 + cN by omega)]
        simp only [if_neg e]
        refine In_ch (In_ch (In_lt (hi j hj)) h5 (fun z _ hz hd => e (hD j cN z hj hc16 hz.1 hd))) hch (fun z _ hz e2 => ?_)
        subst e2
        exact hg j hj hz.1
    · by_cases e : j = cN
      · simp only [if_pos e] at hh
        rcases h4 g hh.1 with h | h
        · exact hg cN hc16 h
        · omega
      · simp only [if_neg e] at hh
        exact hg j hj hh.1
    · by_cases e : i = cN
      · by_cases e2 : j = cN
        · omega
        · simp only [if_pos e, if_neg e2] at hz1 hz2
          rcases h4 z hz1.1 with h | h
          · exact absurd (hD cN j z hc16 hj h hz2.1) (fun e3 => e2 e3.symm)
          · omega
      · by_cases e2 : j = cN
        · simp only [if_neg e, if_pos e2] at hz1 hz2
          rcases h4 z hz2.1 with h | h
          · exact absurd (hD i cN z hi' hc16 hz1.1 h) e
          · omega
        · simp only [if_neg e, if_neg e2] at hz1 hz2
          exact hD i j z hi' hj hz1.1 hz2.1
    · by_cases e : j = cN
      · simp only [if_pos e] at hz
        rcases h4 z hz.1 with h | h
        · exact .inl (hs cN z hc16 h)
        · exact .inr h
      · simp only [if_neg e] at hz
        exact .inl (hs j z hj hz.1)
  · rw [getD_set _ _ _ _ _ (by omega)]
    by_cases e : j = cN
    · rw [if_pos e]; exact h2
    · rw [if_neg e]; exact hr j hj
  · subst hcb
    exact up_fork_cons p v x ks cb q t' (by omega) h3
  · exact (h5.mono (fun z _ hz => hs cN z hc16 hz)).trans hch (fun z _ hz => by rw [hz]; exact hFg)
theorem fp_nil {lo : Nat} {W0 : World} {p v x : By} {ks : List Nd} {g : Nat} {c : Array Value} {F : Nat → Prop} {D : Nat → Nat → Prop} {xv : Value} (hl : ks.length = 16) (hlo : lo ≤ g) (hb : W0.heap[g]? = some (.cells c 98 (0, 0))) (hc : c.size = 17) (hFg : F g)
    (hi : ∀ j, j < 16 → In lo W0 (ks.getD j Nd.no) (c.getD (j + 1) undef) (D j)) (hg : ∀ j, j < 16 → ¬ D j g) (hD : ∀ i j z, i < 16 → j < 16 → D i z → D j z → i = j) (hs : ∀ j z, j < 16 → D j z → F z) (hr : ∀ j, j < 16 → Rs (ks.getD j Nd.no))
    (hx : Bs (Sb lo W0) x xv W0) : Fin lo W0 p v ks g F [] x (W0.setCell ⟨g, 0, none⟩ xv) := by
  have hch : Ch lo (· = g) W0 (W0.setCell ⟨g, 0, none⟩ xv) := ch_set xv hlo hb
  refine ⟨x, ks, F, ?_, hr, up_fork_nil p v x ks, fun z hz => .inl hz, hch.mono (fun z _ hz => by rw [hz]; exact hFg)⟩
  refine .fork p x ks g (c.setIfInBounds 0 xv) F D hl hlo (heap_setCell_same hb xv) (by simp [hc]) hFg ?_ (fun j hj => ?_) hg hD hs
  · rw [getD_setIf _ _ _ _ (by omega), if_pos rfl]
    exact Bs_ch hx hch
  · rw [getD_setIf _ _ _ _ (by omega), if_neg (by omega)]
    exact In_ch (hi j hj) hch (fun z _ hz e => by subst e; exact hg j hj hz)
structure PW (lo : Nat) (W0 : World) (q : By) (qv : Value) (FIN : World → Prop) (f15 f19 : Bool) (wx : World) : Prop where
  k : f15 = false → wx = W0
  q : f19 = false → Bs (Sb lo wx) q qv wx
  e : f19 = true → FIN wx
theorem qcell {S : Nat → Prop} {q : By} {gq oq n cq : Nat} {w : World} (h : Bs S q (.slice (some ⟨gq, oq, none⟩) n cq) w) (h0 : 0 < n) : w.cell? ⟨gq, oq, none⟩ = some (.int .u8 (Sp.bz q 0)) := by
  obtain ⟨ao, cap, e1, _, h3⟩ := h
  injection e1 with e1 e2 e3
  subst e1
  obtain ⟨k, off, e4, _, _, hc⟩ := h3 (by omega)
  injection e4 with e4
  injection e4 with e5 e6
  subst e5 e6
  exact hc 0 (by omega)
inductive FPI (lo : Nat) (W0 : World) (q : By) (g gq oq nq cq nx cx cN : Nat) (ax : Option Addr) (y0 : Value) (KD : Value → World → Prop) (FIN : World → Prop) (d : Nat → Bool) (x : Act) (wx : World) : Prop where
  | mk (u13 u14 u15 u16 u17 u18 u19 u20 u21 u22 u23 u24 u25 u26 u27 u28 u29 u30 u31 : Value) (hx : x = { tmps := #[.pointer (some ⟨g, 0, none⟩), .slice (some ⟨gq, oq, none⟩) nq cq, .slice ax nx cx, undef, undef, undef, .slice (some ⟨gq, oq, none⟩) nq cq, .int .i64 (nq : Int), .bool false, undef, undef, undef, undef, u13, u14, u15, u16, u17, u18, u19, u20, u21, u22, u23, u24, u25, u26, u27, u28, u29, u30, u31], defers := [] }) (hw : PW lo W0 q (.slice (some ⟨gq, oq, none⟩) nq cq) FIN (d 15) (d 19) wx) (p0 : d 0 = true → u13 = .pointer (some ⟨g, 0, none⟩)) (p1 : d 1 = true → u14 = .slice (some ⟨gq, oq, none⟩) nq cq) (p2 : d 2 = true → u15 = .pointer (some ⟨gq, oq, none⟩)) (p3 : d 3 = true → u16 = .int .u8 (cN : Int)) (p4 : d 4 = true → u17 = .pointer (some ⟨g, 0, none⟩)) (p5 : d 5 = true → u18 = .slice (some ⟨gq, oq, none⟩) nq cq) (p6 : d 6 = true → u19 = .pointer (some ⟨gq, oq, none⟩)) (p7 : d 7 = true → u20 = .int .u8 (cN : Int)) (p8 : d 8 = true → u21 = .pointer (some ⟨g, 0, none⟩)) (p9 : d 9 = true → u22 = .pointer (some ⟨g, 1, none⟩)) (p10 : d 10 = true → u23 = .pointer (some ⟨g, 1 + cN, none⟩)) (p11 : d 11 = true → u24 = y0) (p12 : d 12 = true → u25 = .slice (some ⟨gq, oq, none⟩) nq cq) (p13 : d 13 = true → u26 = sfrom (some ⟨gq, oq, none⟩) nq cq 1) (p14 : d 14 = true → u27 = .slice ax nx cx) (p16 : d 16 = true → u29 = .pointer (some ⟨g, 0, none⟩)) (p17 : d 17 = true → u30 = .pointer (some ⟨g, 1, none⟩)) (p18 : d 18 = true → u31 = .pointer (some ⟨g, 1 + cN, none⟩)) (z15 : d 15 = true → ∃ ty yy, u28 = .iface ty yy ∧ (d 19 = false → KD (.iface ty yy) wx)) (y15 : d 15 = true → d 11 = true) (y19 : d 19 = true → d 3 = true ∧ d 7 = true ∧ d 15 = true) : FPI lo W0 q g gq oq nq cq nx cx cN ax y0 KD FIN d x wx
set_option maxHeartbeats 4000000 in
set_option maxRecDepth 100000 in
theorem fput_cons (lo : Nat) (w : World) (q : By) (g gq oq nq cq nx cx cN : Nat) (ax : Option Addr) (y0 : Value) (KD : World → Value → World → Prop) (FIN : World → World → Prop) (h0 : 0 < nq) (hc16 : cN < 16) (hbz : Sp.bz q 0 = (cN : Int)) (hq : Bs (Sb lo w) q (.slice (some ⟨gq, oq, none⟩) nq cq) w)
    (HKW : ∀ W0 : World, Below w.heap.size w W0 → w.heap.size = W0.heap.size → W0.cell? ⟨g, 1 + cN, none⟩ = some y0 ∧ (Calls Try.prog 30 #[y0, sfrom (some ⟨gq, oq, none⟩) nq cq 1, .slice ax nx cx] W0 fun e w' => ∃ ty yy, e = .returned (.iface ty yy) ∧ KD W0 (.iface ty yy) w' ∧ Bs (Sb lo w') q (.slice (some ⟨gq, oq, none⟩) nq cq) w') ∧ ∀ y wx, KD W0 y wx → ((∃ z, wx.cell? ⟨g, 1 + cN, none⟩ = some z) ∧ wx.frozen? ⟨g, 1 + cN, none⟩ = false) ∧ FIN W0 (wx.setCell ⟨g, 1 + cN, none⟩ y)) :
    Calls Try.prog 49 #[.pointer (some ⟨g, 0, none⟩), .slice (some ⟨gq, oq, none⟩) nq cq, .slice ax nx cx] w fun e w' => e = .returned (.tuple #[]) ∧ ∃ W0, Below w.heap.size w W0 ∧ w.heap.size = W0.heap.size ∧ FIN W0 w' := by
  obtain ⟨k1, k2, k3⟩ := HKW w.drew (Below.refl _ _).drew rfl
  have e0 : ((nq : Int) == 0) = false := beq_eq_false_iff_ne.2 (by omega)
  have e0' : (nq == 0) = false := beq_eq_false_iff_ne.2 (by omega)
  have HQ0 : Hid (0 < nq) := h0
  have HN1 : Hid (1 ≤ nq) := h0
  have HQ1 : Hid (Sp.bz q 0 = (cN : Int)) := hbz
  have HI0 : Hid ((0 : Int) < (nq : Int)) := by show _ < _; omega
  have HI1 : Hid (0 < nq) := h0
  have HC0 : Hid ((0 : Int) ≤ (cN : Int)) := by show _ ≤ _; omega
  have HC1 : Hid ((cN : Int) < 16) := by show _ < _; omega
  generalize hKD : KD w.drew = KDx at k2 k3
  generalize hFN : FIN w.drew = FNx at k3
  have HFX : Hid (∀ w', FNx w' → FIN w.drew w') := fun w' h => by rw [hFN]; exact h
  have HK0 : Hid (w.drew.cell? ⟨g, 1 + cN, none⟩ = some y0) := k1
  have KP : Hid (Calls Try.prog 30 #[y0, sfrom (some ⟨gq, oq, none⟩) nq cq 1, .slice ax nx cx] w.drew fun e w' => ∃ ty yy, e = .returned (.iface ty yy) ∧ KDx (.iface ty yy) w' ∧ Bs (Sb lo w') q (.slice (some ⟨gq, oq, none⟩) nq cq) w') := k2
  have HST : Hid (∀ y wx, KDx y wx → (∃ z, wx.cell? ⟨g, 1 + cN, none⟩ = some z) ∧ wx.frozen? ⟨g, 1 + cN, none⟩ = false) := fun y wx h => (k3 y wx h).1
  have HFIN : Hid (∀ y wx, KDx y wx → FNx (wx.setCell ⟨g, 1 + cN, none⟩ y)) := fun y wx h => (k3 y wx h).2
  have hw0 : PW lo w.drew q (.slice (some ⟨gq, oq, none⟩) nq cq) FNx false false w.drew := ⟨fun _ => rfl, fun _ => Bs_ch hq (ch_below (G := fun _ => False) (Below.refl _ _).drew), nofun⟩
  have HW : Hid (Below w.heap.size w w.drew ∧ w.heap.size = w.drew.heap.size) := ⟨(Below.refl _ _).drew, rfl⟩
  clear h0 hc16 hbz hq HKW k1 k2 k3 hKD hFN
  go_enter Try.func49, Try.ntmps49
  go_upto_region 2 with fail
  refine RI.wp_region_inv (FPI lo w.drew q g gq oq nq cq nx cx cN ax y0 KDx FNx) (by kernel_rfl) (by kernel_rfl) ?_ ?_ ?_
  · exact ⟨undef, undef, undef, undef, undef, undef, undef, undef, undef, undef, undef, undef, undef, undef, undef, undef, undef, undef, undef, rfl, hw0, nofun, nofun, nofun, nofun, nofun, nofun, nofun, nofun, nofun, nofun, nofun, nofun, nofun, nofun, nofun, nofun, nofun, nofun, nofun, nofun, nofun⟩
  · skip
    intro d x wx i hI hi hm
    obtain ⟨u13, u14, u15, u16, u17, u18, u19, u20, u21, u22, u23, u24, u25, u26, u27, u28, u29, u30, u31, rfl, hw, p0, p1, p2, p3, p4, p5, p6, p7, p8, p9, p10, p11, p12, p13, p14, p16, p17, p18, z15, y15, y19⟩ := hI
    have hi' : i = 0 ∨ i = 1 ∨ i = 2 ∨ i = 3 ∨ i = 4 ∨ i = 5 ∨ i = 6 ∨ i = 7 ∨ i = 8 ∨ i = 9 ∨ i = 10 ∨ i = 11 ∨ i = 12 ∨ i = 13 ∨ i = 14 ∨ i = 15 ∨ i = 16 ∨ i = 17 ∨ i = 18 ∨ i = 19 := by simp at hi; omega
    have hd := hm.2
    have hf := hm.1
    clear hm hi
    rcases hi' with rfl | rfl | rfl | rfl | rfl | rfl | rfl | rfl | rfl | rfl | rfl | rfl | rfl | rfl | rfl | rfl | rfl | rfl | rfl | rfl
    · refine RI.wpOp_plain rfl rfl ?_
      go_simp
      exact ⟨_, u14, u15, u16, u17, u18, u19, u20, u21, u22, u23, u24, u25, u26, u27, u28, u29, u30, u31, rfl, hw, fun _ => rfl, p1, p2, p3, p4, p5, p6, p7, p8, p9, p10, p11, p12, p13, p14, p16, p17, p18, z15, y15, y19⟩
    · refine RI.wpOp_plain rfl rfl ?_
      go_simp
      exact ⟨u13, _, u15, u16, u17, u18, u19, u20, u21, u22, u23, u24, u25, u26, u27, u28, u29, u30, u31, rfl, hw, p0, fun _ => rfl, p2, p3, p4, p5, p6, p7, p8, p9, p10, p11, p12, p13, p14, p16, p17, p18, z15, y15, y19⟩
    · have hd := hd _ rfl
      simp [Region.binds] at hd
      obtain rfl := p1 (by simp [hd])
      refine RI.wpOp_plain rfl rfl ?_
      have e1 := HI0.out
      have e2 := HI1.out
      go_simp
      exact ⟨u13, _, _, u16, u17, u18, u19, u20, u21, u22, u23, u24, u25, u26, u27, u28, u29, u30, u31, rfl, hw, p0, p1, fun _ => rfl, p3, p4, p5, p6, p7, p8, p9, p10, p11, p12, p13, p14, p16, p17, p18, z15, y15, y19⟩
    · have hd := hd _ rfl
      simp [Region.binds] at hd
      obtain rfl := p2 (by simp [hd])
      refine RI.wpOp_plain rfl rfl ?_
      have h19 : d 19 = false := by cases h : d 19 with | false => rfl | true => exact absurd (y19 h).1 (by simp [hf])
      have qc := qcell (hw.q h19) HQ0.out
      have qe := HQ1.out
      rw [qe] at qc
      clear qe
      go_simp
      exact ⟨u13, u14, _, _, u17, u18, u19, u20, u21, u22, u23, u24, u25, u26, u27, u28, u29, u30, u31, rfl, hw, p0, p1, p2, fun _ => rfl, p4, p5, p6, p7, p8, p9, p10, p11, p12, p13, p14, p16, p17, p18, z15, y15, (fun h => absurd h (by simp [RI.don, h19]))⟩
    · refine RI.wpOp_plain rfl rfl ?_
      go_simp
      exact ⟨u13, u14, u15, u16, _, u18, u19, u20, u21, u22, u23, u24, u25, u26, u27, u28, u29, u30, u31, rfl, hw, p0, p1, p2, p3, fun _ => rfl, p5, p6, p7, p8, p9, p10, p11, p12, p13, p14, p16, p17, p18, z15, y15, y19⟩
    · refine RI.wpOp_plain rfl rfl ?_
      go_simp
      exact ⟨u13, u14, u15, u16, u17, _, u19, u20, u21, u22, u23, u24, u25, u26, u27, u28, u29, u30, u31, rfl, hw, p0, p1, p2, p3, p4, fun _ => rfl, p6, p7, p8, p9, p10, p11, p12, p13, p14, p16, p17, p18, z15, y15, y19⟩
    · have hd := hd _ rfl
      simp [Region.binds] at hd
      obtain rfl := p5 (by simp [hd])
      refine RI.wpOp_plain rfl rfl ?_
      have e1 := HI0.out
      have e2 := HI1.out
      go_simp
      exact ⟨u13, u14, u15, u16, u17, _, _, u20, u21, u22, u23, u24, u25, u26, u27, u28, u29, u30, u31, rfl, hw, p0, p1, p2, p3, p4, p5, fun _ => rfl, p7, p8, p9, p10, p11, p12, p13, p14, p16, p17, p18, z15, y15, y19⟩
    · have hd := hd _ rfl
      simp [Region.binds] at hd
      obtain rfl := p6 (by simp [hd])
      refine RI.wpOp_plain rfl rfl ?_
      have h19 : d 19 = false := by cases h : d 19 with | false => rfl | true => exact absurd (y19 h).2.1 (by simp [hf])
      have qc := qcell (hw.q h19) HQ0.out
      have qe := HQ1.out
      rw [qe] at qc
      clear qe
      go_simp
      exact ⟨u13, u14, u15, u16, u17, u18, _, _, u21, u22, u23, u24, u25, u26, u27, u28, u29, u30, u31, rfl, hw, p0, p1, p2, p3, p4, p5, p6, fun _ => rfl, p8, p9, p10, p11, p12, p13, p14, p16, p17, p18, z15, y15, (fun h => absurd h (by simp [RI.don, h19]))⟩
    · have hd := hd _ rfl
      simp [Region.binds] at hd
      obtain rfl := p4 (by simp [hd])
      refine RI.wpOp_plain rfl rfl ?_
      go_simp
      exact ⟨u13, u14, u15, u16, _, u18, u19, u20, _, u22, u23, u24, u25, u26, u27, u28, u29, u30, u31, rfl, hw, p0, p1, p2, p3, p4, p5, p6, p7, fun _ => rfl, p9, p10, p11, p12, p13, p14, p16, p17, p18, z15, y15, y19⟩
    · have hd := hd _ rfl
      simp [Region.binds] at hd
      obtain rfl := p8 (by simp [hd])
      refine RI.wpOp_plain rfl rfl ?_
      go_simp
      exact ⟨u13, u14, u15, u16, u17, u18, u19, u20, _, _, u23, u24, u25, u26, u27, u28, u29, u30, u31, rfl, hw, p0, p1, p2, p3, p4, p5, p6, p7, p8, fun _ => rfl, p10, p11, p12, p13, p14, p16, p17, p18, z15, y15, y19⟩
    · have hd := hd _ rfl
      simp [Region.binds] at hd
      obtain rfl := p7 (by simp [hd])
      obtain rfl := p9 (by simp [hd])
      refine RI.wpOp_plain rfl rfl ?_
      have e1 := HC0.out
      have e2 := HC1.out
      go_simp
      exact ⟨u13, u14, u15, u16, u17, u18, u19, _, u21, _, _, u24, u25, u26, u27, u28, u29, u30, u31, rfl, hw, p0, p1, p2, p3, p4, p5, p6, p7, p8, p9, fun _ => rfl, p11, p12, p13, p14, p16, p17, p18, z15, y15, y19⟩
    · have hd := hd _ rfl
      simp [Region.binds] at hd
      obtain rfl := p10 (by simp [hd])
      refine RI.wpOp_plain rfl rfl ?_
      have h15 : d 15 = false := by cases h : d 15 with | false => rfl | true => exact absurd (y15 h) (by simp [hf])
      have x0 := HK0.out
      rw [← hw.k h15] at x0
      go_simp
      exact ⟨u13, u14, u15, u16, u17, u18, u19, u20, u21, u22, _, _, u25, u26, u27, u28, u29, u30, u31, rfl, hw, p0, p1, p2, p3, p4, p5, p6, p7, p8, p9, p10, fun _ => rfl, p12, p13, p14, p16, p17, p18, z15, (fun h => absurd h (by simp [RI.don, h15])), y19⟩
    · refine RI.wpOp_plain rfl rfl ?_
      go_simp
      exact ⟨u13, u14, u15, u16, u17, u18, u19, u20, u21, u22, u23, u24, _, u26, u27, u28, u29, u30, u31, rfl, hw, p0, p1, p2, p3, p4, p5, p6, p7, p8, p9, p10, p11, fun _ => rfl, p13, p14, p16, p17, p18, z15, y15, y19⟩
    · have hd := hd _ rfl
      simp [Region.binds] at hd
      obtain rfl := p12 (by simp [hd])
      refine RI.wpOp_plain rfl rfl ?_
      refine wp_sl rfl rfl rfl rfl (run_from (some ⟨gq, oq, none⟩) nq cq 1 HN1.out _) ?_
      simp only [Act.put]
      exact ⟨u13, u14, u15, u16, u17, u18, u19, u20, u21, u22, u23, u24, _, _, u27, u28, u29, u30, u31, rfl, hw, p0, p1, p2, p3, p4, p5, p6, p7, p8, p9, p10, p11, p12, fun _ => rfl, p14, p16, p17, p18, z15, y15, y19⟩
    · refine RI.wpOp_plain rfl rfl ?_
      go_simp
      exact ⟨u13, u14, u15, u16, u17, u18, u19, u20, u21, u22, u23, u24, u25, u26, _, u28, u29, u30, u31, rfl, hw, p0, p1, p2, p3, p4, p5, p6, p7, p8, p9, p10, p11, p12, p13, fun _ => rfl, p16, p17, p18, z15, y15, y19⟩
    · have hd := hd _ rfl
      simp [Region.binds] at hd
      obtain rfl := p11 (by simp [hd])
      obtain rfl := p13 (by simp [hd])
      obtain rfl := p14 (by simp [hd])
      refine RI.wpOp_plain rfl rfl ?_
      have h19 : d 19 = false := by cases h : d 19 with | false => rfl | true => exact absurd (y19 h).2.2 (by simp [hf])
      have kp := KP.out
      rw [← hw.k hf] at kp
      go_simp
      refine (kp).mono ?_
      rintro e w1 ⟨ty, yy, rfl, hk, hq1⟩
      exact ⟨u13, u14, u15, u16, u17, u18, u19, u20, u21, u22, u23, _, u25, _, _, _, u29, u30, u31, rfl, ⟨nofun, fun _ => hq1, fun h => absurd h (by simp [RI.don, h19])⟩, p0, p1, p2, p3, p4, p5, p6, p7, p8, p9, p10, p11, p12, p13, p14, p16, p17, p18, fun _ => ⟨_, _, rfl, fun _ => hk⟩, fun _ => by simp [RI.don, hd], (fun h => absurd h (by simp [RI.don, h19]))⟩
    · have hd := hd _ rfl
      simp [Region.binds] at hd
      obtain rfl := p0 (by simp [hd])
      refine RI.wpOp_plain rfl rfl ?_
      go_simp
      exact ⟨_, u14, u15, u16, u17, u18, u19, u20, u21, u22, u23, u24, u25, u26, u27, u28, _, u30, u31, rfl, hw, p0, p1, p2, p3, p4, p5, p6, p7, p8, p9, p10, p11, p12, p13, p14, fun _ => rfl, p17, p18, z15, y15, y19⟩
    · have hd := hd _ rfl
      simp [Region.binds] at hd
      obtain rfl := p16 (by simp [hd])
      refine RI.wpOp_plain rfl rfl ?_
      go_simp
      exact ⟨u13, u14, u15, u16, u17, u18, u19, u20, u21, u22, u23, u24, u25, u26, u27, u28, _, _, u31, rfl, hw, p0, p1, p2, p3, p4, p5, p6, p7, p8, p9, p10, p11, p12, p13, p14, p16, fun _ => rfl, p18, z15, y15, y19⟩
    · have hd := hd _ rfl
      simp [Region.binds] at hd
      obtain rfl := p0 (by simp [hd])
      obtain rfl := p1 (by simp [hd])
      obtain rfl := p2 (by simp [hd])
      obtain rfl := p3 (by simp [hd])
      obtain rfl := p4 (by simp [hd])
      obtain rfl := p5 (by simp [hd])
      obtain rfl := p6 (by simp [hd])
      obtain rfl := p7 (by simp [hd])
      obtain rfl := p8 (by simp [hd])
      obtain rfl := p9 (by simp [hd])
      obtain rfl := p10 (by simp [hd])
      obtain rfl := p11 (by simp [hd])
      obtain rfl := p12 (by simp [hd])
      obtain rfl := p13 (by simp [hd])
      obtain rfl := p14 (by simp [hd])
      obtain rfl := p17 (by simp [hd])
      refine RI.wpOp_plain rfl rfl ?_
      have e1 := HC0.out
      have e2 := HC1.out
      go_simp
      exact ⟨_, _, _, _, _, _, _, _, _, _, _, _, _, _, _, u28, u29, _, _, rfl, hw, p0, p1, p2, p3, p4, p5, p6, p7, p8, p9, p10, p11, p12, p13, p14, p16, p17, fun _ => rfl, z15, y15, y19⟩
    · have hd := hd _ rfl
      simp [Region.binds] at hd
      obtain rfl := p0 (by simp [hd])
      obtain rfl := p1 (by simp [hd])
      obtain rfl := p2 (by simp [hd])
      obtain rfl := p3 (by simp [hd])
      obtain rfl := p4 (by simp [hd])
      obtain rfl := p5 (by simp [hd])
      obtain rfl := p6 (by simp [hd])
      obtain rfl := p7 (by simp [hd])
      obtain rfl := p8 (by simp [hd])
      obtain rfl := p9 (by simp [hd])
      obtain rfl := p10 (by simp [hd])
      obtain rfl := p11 (by simp [hd])
      obtain rfl := p12 (by simp [hd])
      obtain rfl := p13 (by simp [hd])
      obtain rfl := p14 (by simp [hd])
      obtain rfl := p18 (by simp [hd])
      refine RI.wpOp_plain rfl rfl ?_
      obtain ⟨ty, yy, rfl, hkd⟩ := z15 (by simp [hd])
      have hk := hkd hf
      obtain ⟨⟨cz, hcell⟩, hfz⟩ := HST.out _ _ hk
      have hfin := HFIN.out _ _ hk
      go_simp
      exact ⟨_, _, _, _, _, _, _, _, _, _, _, _, _, _, _, _, u29, u30, _, rfl, ⟨fun h => absurd h (by simp [RI.don, hd]), nofun, fun _ => hfin⟩, p0, p1, p2, p3, p4, p5, p6, p7, p8, p9, p10, p11, p12, p13, p14, p16, p17, p18, fun _ => ⟨_, _, rfl, fun h => nomatch h⟩, y15, fun _ => ⟨by simp [RI.don, hd], by simp [RI.don, hd], by simp [RI.don, hd]⟩⟩
  · skip
    intro d x wx hI hd
    obtain ⟨u13, u14, u15, u16, u17, u18, u19, u20, u21, u22, u23, u24, u25, u26, u27, u28, u29, u30, u31, rfl, hw, p0, p1, p2, p3, p4, p5, p6, p7, p8, p9, p10, p11, p12, p13, p14, p16, p17, p18, z15, y15, y19⟩ := hI
    have hfin := hw.e (hd 19 (by decide))
    clear hw p0 p1 p2 p3 p4 p5 p6 p7 p8 p9 p10 p11 p12 p13 p14 p16 p17 p18 z15 y15 y19
    have HF : Hid (FNx wx) := hfin
    clear hfin
    go_wp2_with fail
    go_end0
    exact ⟨rfl, w.drew, HW.out.1, HW.out.2, HFX.out _ HF.out⟩
set_option maxHeartbeats 1000000 in
set_option maxRecDepth 100000 in
theorem fput_nil (w : World) (g cq nx cx : Nat) (aq ax : Option Addr) (z : Value) (hc : w.cell? ⟨g, 0, none⟩ = some z) (hf : w.frozen? ⟨g, 0, none⟩ = false) :
    Calls Try.prog 49 #[.pointer (some ⟨g, 0, none⟩), .slice aq 0 cq, .slice ax nx cx] w fun e w' => e = .returned (.tuple #[]) ∧ w' = w.setCell ⟨g, 0, none⟩ (.slice ax nx cx) := by
  go_enter Try.func49, Try.ntmps49
  go_wp2_with fail
  exact bodyPost_ret (v := .tuple #[]) (by simp [results, go_sem]) rfl ⟨rfl, rfl⟩
theorem fin_drew {lo : Nat} {w W0 wx : World} {p v q x : By} {ks : List Nd} {g : Nat} {F : Nat → Prop} (hb : Below w.heap.size w W0) (hs : w.heap.size = W0.heap.size) (h : Fin lo W0 p v ks g F q x wx) : Fin lo w p v ks g F q x wx := by
  obtain ⟨v', ks', F', h1, h2, h3, h4, h5⟩ := h
  exact ⟨v', ks', F', h1, h2, h3, by rw [hs]; exact h4, (ch_below hb).trans h5 (fun z _ hz => hz)⟩
theorem fput_any {lo : Nat} {w : World} {p v q x : By} {ks : List Nd} {g : Nat} {F : Nat → Prop} {qv xv : Value} (ht : In lo w (.mk 3 p v ks) (.iface 73 (.pointer (some ⟨g, 0, none⟩))) F) (hr : ∀ j, j < 16 → Rs (ks.getD j Nd.no)) (hq : Bs (Sb lo w) q qv w) (hx : Bs (Sb lo w) x xv w) (hpt : Pt q)
    (KP : ∀ (c : UInt8) (r : By), q = c :: r → ∀ (W0 : World) (y qv' : Value) (D : Nat → Prop), Below w.heap.size w W0 → In lo W0 (ks.getD c.toNat Nd.no) y D → Bs (Sb lo W0) r qv' W0 → Bs (Sb lo W0) x xv W0 → Calls Try.prog 30 #[y, qv', xv] W0 fun e w' => ∃ y', e = .returned y' ∧ Kid lo W0 (ks.getD c.toNat Nd.no) r x D y' w') :
    Calls Try.prog 49 #[.pointer (some ⟨g, 0, none⟩), qv, xv] w fun e w' => e = .returned (.tuple #[]) ∧ Fin lo w p v ks g F q x w' := by
  cases ht with
  | fork _ _ _ _ c _ D hl hlo hb hc hFg hv hi hg hD hs =>
    obtain ⟨ax, cx, ex, _⟩ := Bs_form hx
    subst ex
    obtain ⟨aq, cq, eq, _⟩ := Bs_form hq
    subst eq
    cases hqq : q with
    | nil =>
      subst hqq
      refine (fput_nil w g cq _ cx aq ax _ (cell_fork hb 0 (by omega)) (by unfold World.frozen?; simp [hb])).mono fun e w' he => ⟨he.1, ?_⟩
      rw [he.2]
      exact fp_nil hl hlo hb hc hFg hi hg hD hs hr hx
    | cons cb r =>
      have hlen : q.length = r.length + 1 := by rw [hqq]; rfl
      have hc16 : cb.toNat < 16 := hpt cb (by rw [hqq]; exact List.mem_cons_self ..)
      obtain ⟨gq, oq, e1⟩ : ∃ gq oq, aq = some ⟨gq, oq, none⟩ := by
        obtain ⟨a2, c2, e2, _, h3⟩ := hq
        injection e2 with e2 _ _
        subst e2
        obtain ⟨k, off, e4, _⟩ := h3 (by omega)
        exact ⟨k, off, e4⟩
      subst e1
      have hbz : Sp.bz q 0 = (cb.toNat : Int) := by rw [hqq]; rfl
      rw [← hqq]
      refine (fput_cons lo w q g gq oq q.length cq x.length cx cb.toNat ax (c.getD (cb.toNat + 1) undef) (fun W0 y wx => Kid lo W0 (ks.getD cb.toNat Nd.no) r x (D cb.toNat) y wx) (fun W0 wx => Fin lo W0 p v ks g F q x wx) (by omega) hc16 hbz hq ?_).mono fun e w' he => ?_
      · intro W0 hW hsz
        have hb0 : W0.heap[g]? = some (.cells c 98 (0, 0)) := by rw [hW.block g (Pk.lt_of_heap hb)]; exact hb
        have hq0 : Bs (Sb lo W0) q (.slice (some ⟨gq, oq, none⟩) q.length cq) W0 := Bs_ch hq (ch_below (G := fun _ => False) hW)
        have hdr : q.drop 1 = r := by rw [hqq]; rfl
        refine ⟨by rw [Nat.add_comm]; exact cell_fork hb0 (cb.toNat + 1) (by omega), ?_, fun y wx hk => ?_⟩
        · refine (KP cb r hqq W0 _ _ (D cb.toNat) hW (In_below (hi _ hc16) hW) (by have := Bs_from hq0 (c := 1) (by omega); rwa [hdr] at this) (Bs_ch hx (ch_below (G := fun _ => False) hW))).mono fun e w' he => ?_
          obtain ⟨y', h1, h2⟩ := he
          obtain ⟨t', F', k1, k2, k3, k4, k5⟩ := h2
          obtain ⟨ty, yy, rfl⟩ := In_form k1
          exact ⟨ty, yy, h1, ⟨t', F', k1, k2, k3, k4, k5⟩, Bs_ch hq0 k5⟩
        · obtain ⟨b1, fin⟩ := fp_kid (p := p) hc16 hl hlo hb0 hc hFg (Bs_ch hv (ch_below (G := fun _ => False) hW)) (fun j hj => In_below (hi j hj) hW) hg hD hs hr cb rfl hk
          rw [← hqq] at fin
          exact ⟨⟨⟨_, cell_fork b1 (1 + cb.toNat) (by omega)⟩, by unfold World.frozen?; simp [b1]⟩, fin⟩
      · obtain ⟨h1, W0, h2, h3, h4⟩ := he
        exact ⟨h1, fin_drew h2 h3 h4⟩
end Tr
end Go.Proofs.Ythlgneadcagleaa
namespace Go.Proofs.Ythlgneadcagleaa
namespace Tr
open Nb Go.RowKit
set_option maxHeartbeats 1000000 in
set_option maxRecDepth 100000 in
theorem put_none {lo : Nat} {p v : By} {pv vv x : Value} {w : World} (F : Nat → Prop) (hp : Bs (Sb lo w) p pv w) (hv : Bs (Sb lo w) v vv w) :
    Calls Try.prog 30 #[.iface 69 x, pv, vv] w fun e w' => (∃ y, e = .returned y ∧ In lo w (sing p v) y F) ∧ w' = w := by
  have a1 := fun w => no_leaf 69 x w (by decide)
  have a2 := fun w => no_road 69 x w (by decide)
  have a3 := fun w => no_fork 69 x w (by decide)
  have K := single_any F hp hv
  obtain ⟨b1, c1, rfl, _⟩ := Bs_form hp
  obtain ⟨b2, c2, rfl, _⟩ := Bs_form hv
  have KS : Hid (Calls Try.prog 51 #[.slice b1 p.length c1, .slice b2 v.length c2] w fun e w' => (∃ x, e = .returned x ∧ In lo w (sing p v) x F) ∧ w' = w) := K
  clear hp hv K
  generalize p.length = n1 at *
  generalize v.length = n2 at *
  go_enter Try.func30, Try.ntmps30
  go_wp2_with fail
  refine KS.out.mono ?_
  rintro e w1 ⟨⟨y, rfl, hy⟩, rfl⟩
  have HY : Hid (In lo w1 (sing p v) y F) := hy
  clear hy
  go_wp2_with fail
  go_ret
  exact ⟨⟨_, rfl, HY.out⟩, rfl⟩
theorem kid_none {lo : Nat} {r x : By} {qv xv y : Value} {t : Nd} {D : Nat → Prop} {W0 : World} (ht : In lo W0 t y D) (hk : t.kind = 0) (hr : Bs (Sb lo W0) r qv W0) (hx : Bs (Sb lo W0) x xv W0) (hp : Pt r) :
    Calls Try.prog 30 #[y, qv, xv] W0 fun e w' => ∃ y', e = .returned y' ∧ Kid lo W0 t r x D y' w' := by
  cases ht with
  | none p v ks F =>
    refine (put_none D hr hx).mono fun e w' he => ?_
    obtain ⟨⟨y', h1, h2⟩, rfl⟩ := he
    obtain ⟨s1, s2⟩ := sing_spec r x hp
    refine ⟨y', h1, _, D, h2, s1, fun q => ?_, fun z hz => .inl hz, Ch.refl _ _ _⟩
    rw [s2, gt_zero 0 p v ks q (by decide) (by decide) (by decide)]
  | leaf p v ks pv vv F hp hv => exact absurd hk (by show ¬ (1 : Int) = 0; decide)
  | road p v t pv g F hp hk' => exact absurd hk (by show ¬ (2 : Int) = 0; decide)
  | fork p v ks g c F D hl' hlo hb hc hFg hv hi hg hD hs => exact absurd hk (by show ¬ (3 : Int) = 0; decide)
structure HW (W0 : World) (FIN : World → Prop) (f : Bool) (wx : World) : Prop where
  k : f = false → wx = W0
  e : f = true → FIN wx
inductive HGI (W0 : World) (FIN : World → Prop) (ap av : Option Addr) (np cp nv cv c g g6 : Nat) (d : Nat → Bool) (x : Act) (wx : World) : Prop where
  | mk (u12 u13 u14 u15 u16 u17 u18 u19 : Value) (hx : x = { tmps := #[.pointer (some ⟨g, 0, none⟩), .iface 71 (.agg #[.slice ap np cp, .slice av nv cv]), .int .i64 (c : Int), undef, undef, undef, .pointer (some ⟨g6, 0, none⟩), undef, .iface 71 (.agg #[.slice ap np cp, .slice av nv cv]), .tuple #[.agg #[.slice ap np cp, .slice av nv cv], .bool true], .bool true, .agg #[.slice ap np cp, .slice av nv cv], u12, u13, u14, u15, u16, u17, u18, u19, undef, undef, undef, undef, undef, undef, undef, undef, undef, undef, undef, undef, undef, undef, undef, undef, undef, undef, undef, undef, undef], defers := [] }) (hw : HW W0 FIN (d 7) wx) (p0 : d 0 = true → u12 = .pointer (some ⟨g, 0, none⟩)) (p1 : d 1 = true → u13 = .pointer (some ⟨g6, 0, none⟩)) (p2 : d 2 = true → u14 = .slice ap np cp) (p3 : d 3 = true → u15 = .int .i64 (c : Int)) (p4 : d 4 = true → u16 = sfrom ap np cp c) (p5 : d 5 = true → u17 = .pointer (some ⟨g6, 1, none⟩)) (p6 : d 6 = true → u18 = .slice av nv cv) (y4 : d 4 = true → d 2 = true) (y7 : d 7 = true → d 2 = true ∧ d 6 = true) : HGI W0 FIN ap av np cp nv cv c g g6 d x wx
set_option maxHeartbeats 2000000 in
set_option maxRecDepth 100000 in
theorem hang_leaf (ap av : Option Addr) (np cp nv cv c g : Nat) (w : World) (FIN : World → Prop) (hc : c ≤ np) (KF0 : ∀ W0 : World, Below w.heap.size w W0 → Calls Try.prog 49 #[.pointer (some ⟨g, 0, none⟩), sfrom ap np cp c, .slice av nv cv] W0 fun e w' => e = .returned (.tuple #[]) ∧ FIN w') :
    Calls Try.prog 62 #[.pointer (some ⟨g, 0, none⟩), .iface 71 (.agg #[.slice ap np cp, .slice av nv cv]), .int .i64 (c : Int)] w fun e w' => e = .returned (.tuple #[]) ∧ FIN w' := by
  have HB : Below w.heap.size w (w.alloc (.cells #[.slice ap np cp, .slice av nv cv] 71)) := (Below.refl _ _).alloc (Nat.le_refl _) _
  have HA := heap_alloc_new w (.cells #[.slice ap np cp, .slice av nv cv] 71)
  have q0 : (w.alloc (.cells #[.slice ap np cp, .slice av nv cv] 71)).cell? ⟨w.heap.size, 0, none⟩ = some (.slice ap np cp) := by simp only [World.cell?, HA]; rfl
  have q1 : (w.alloc (.cells #[.slice ap np cp, .slice av nv cv] 71)).cell? ⟨w.heap.size, 1, none⟩ = some (.slice av nv cv) := by simp only [World.cell?, HA]; rfl
  have KF : Hid (Calls Try.prog 49 #[.pointer (some ⟨g, 0, none⟩), sfrom ap np cp c, .slice av nv cv] (w.alloc (.cells #[.slice ap np cp, .slice av nv cv] 71)).drew fun e w' => e = .returned (.tuple #[]) ∧ FIN w') := KF0 _ HB.drew
  have HC : Hid (c ≤ np) := hc
  have a1 := fun w => as_leaf (.agg #[.slice ap np cp, .slice av nv cv]) w
  clear HA KF0 hc HB
  go_enter Try.func62, Try.ntmps62
  go_upto_region 3 with fail
  generalize (w.alloc (.cells #[.slice ap np cp, .slice av nv cv] 71)) = W1 at *
  have Q0 : Hid (W1.drew.cell? ⟨w.heap.size, 0, none⟩ = some (.slice ap np cp)) := q0
  have Q1 : Hid (W1.drew.cell? ⟨w.heap.size, 1, none⟩ = some (.slice av nv cv)) := q1
  have hw0 : HW W1.drew FIN false W1.drew := ⟨fun _ => rfl, nofun⟩
  clear q0 q1
  generalize w.heap.size = g6 at *
  refine RI.wp_region_inv (HGI W1.drew FIN ap av np cp nv cv c g g6) (by kernel_rfl) (by kernel_rfl) ?_ ?_ ?_
  · exact ⟨undef, undef, undef, undef, undef, undef, undef, undef, rfl, hw0, nofun, nofun, nofun, nofun, nofun, nofun, nofun, nofun, nofun⟩
  · skip
    intro d x wx i hI hi hm
    obtain ⟨u12, u13, u14, u15, u16, u17, u18, u19, rfl, hw, p0, p1, p2, p3, p4, p5, p6, y4, y7⟩ := hI
    have hi' : i = 0 ∨ i = 1 ∨ i = 2 ∨ i = 3 ∨ i = 4 ∨ i = 5 ∨ i = 6 ∨ i = 7 := by simp at hi; omega
    have hd := hm.2
    have hf := hm.1
    clear hm hi
    rcases hi' with rfl | rfl | rfl | rfl | rfl | rfl | rfl | rfl
    · refine RI.wpOp_plain rfl rfl ?_
      go_simp
      exact ⟨_, u13, u14, u15, u16, u17, u18, u19, rfl, hw, fun _ => rfl, p1, p2, p3, p4, p5, p6, y4, y7⟩
    · refine RI.wpOp_plain rfl rfl ?_
      go_simp
      exact ⟨u12, _, u14, u15, u16, u17, u18, u19, rfl, hw, p0, fun _ => rfl, p2, p3, p4, p5, p6, y4, y7⟩
    · have hd := hd _ rfl
      simp [Region.binds] at hd
      obtain rfl := p1 (by simp [hd])
      refine RI.wpOp_plain rfl rfl ?_
      have h7 : d 7 = false := by cases h : d 7 with | false => rfl | true => exact absurd (y7 h).1 (by simp [hf])
      have x0 := Q0.out
      rw [← hw.k h7] at x0
      go_simp
      exact ⟨u12, _, _, u15, u16, u17, u18, u19, rfl, hw, p0, p1, fun _ => rfl, p3, p4, p5, p6, fun _ => rfl, (fun h => absurd h (by simp [RI.don, h7]))⟩
    · refine RI.wpOp_plain rfl rfl ?_
      go_simp
      exact ⟨u12, u13, u14, _, u16, u17, u18, u19, rfl, hw, p0, p1, p2, fun _ => rfl, p4, p5, p6, y4, y7⟩
    · have hd := hd _ rfl
      simp [Region.binds] at hd
      obtain rfl := p2 (by simp [hd])
      obtain rfl := p3 (by simp [hd])
      refine RI.wpOp_plain rfl rfl ?_
      refine wp_sl rfl rfl rfl rfl (run_from ap np cp c HC.out _) ?_
      simp only [Act.put]
      exact ⟨u12, u13, _, _, _, u17, u18, u19, rfl, hw, p0, p1, p2, p3, fun _ => rfl, p5, p6, fun _ => by simp [RI.don, hd], y7⟩
    · refine RI.wpOp_plain rfl rfl ?_
      go_simp
      exact ⟨u12, u13, u14, u15, u16, _, u18, u19, rfl, hw, p0, p1, p2, p3, p4, fun _ => rfl, p6, y4, y7⟩
    · have hd := hd _ rfl
      simp [Region.binds] at hd
      obtain rfl := p5 (by simp [hd])
      refine RI.wpOp_plain rfl rfl ?_
      have h7 : d 7 = false := by cases h : d 7 with | false => rfl | true => exact absurd (y7 h).2 (by simp [hf])
      have x0 := Q1.out
      rw [← hw.k h7] at x0
      go_simp
      exact ⟨u12, u13, u14, u15, u16, _, _, u19, rfl, hw, p0, p1, p2, p3, p4, p5, fun _ => rfl, y4, (fun h => absurd h (by simp [RI.don, h7]))⟩
    · have hd := hd _ rfl
      simp [Region.binds] at hd
      obtain rfl := p0 (by simp [hd])
      obtain rfl := p4 (by simp [hd])
      obtain rfl := p6 (by simp [hd])
      refine RI.wpOp_plain rfl rfl ?_
      have kf := KF.out
      rw [← hw.k hf] at kf
      go_simp
      refine (kf).mono ?_
      rintro e w1 ⟨rfl, hfin⟩
      exact ⟨_, u13, _, u15, _, u17, _, _, rfl, ⟨nofun, fun _ => hfin⟩, p0, p1, fun _ => rfl, p3, p4, p5, p6, (y4), fun _ => ⟨by have := y4 (by simp [hd]); simp [RI.don, this], by simp [RI.don, hd]⟩⟩
  · skip
    intro d x wx hI hd
    obtain ⟨u12, u13, u14, u15, u16, u17, u18, u19, rfl, hw, p0, p1, p2, p3, p4, p5, p6, y4, y7⟩ := hI
    have hfin := hw.e (hd 7 (by decide))
    have HF : Hid (FIN wx) := hfin
    clear hw hfin p0 p1 p2 p3 p4 p5 p6 y4 y7
    go_wp2_with fail
    first | go_end0 | skip
    exact ⟨rfl, HF.out⟩
structure HV (W0 : World) (FIN : World → Prop) (f : Bool) (wx : World) : Prop where
  a : f = false → Below W0.heap.size W0 wx
  e : f = true → FIN wx
inductive HRI (W0 : World) (KD : Value → World → Prop) (FIN : World → Prop) (np cp gp op gk c cN g g7 : Nat) (d : Nat → Bool) (x : Act) (wx : World) : Prop where
  | mk (u23 u24 u25 u26 u27 u28 u29 u30 u31 u32 u33 u34 u35 u36 u37 u38 u39 u40 : Value) (hx : x = { tmps := #[.pointer (some ⟨g, 0, none⟩), .iface 82 (.agg #[.slice (some ⟨gp, op, none⟩) np cp, .pointer (some ⟨gk, 0, none⟩)]), .int .i64 (c : Int), undef, undef, undef, undef, .pointer (some ⟨g7, 0, none⟩), .iface 82 (.agg #[.slice (some ⟨gp, op, none⟩) np cp, .pointer (some ⟨gk, 0, none⟩)]), .tuple #[.agg #[.slice none 0 0, .slice none 0 0], .bool false], .bool false, .agg #[.slice none 0 0, .slice none 0 0], undef, undef, undef, undef, undef, undef, undef, undef, .tuple #[.agg #[.slice (some ⟨gp, op, none⟩) np cp, .pointer (some ⟨gk, 0, none⟩)], .bool true], .bool true, .agg #[.slice (some ⟨gp, op, none⟩) np cp, .pointer (some ⟨gk, 0, none⟩)], u23, u24, u25, u26, u27, u28, u29, u30, u31, u32, u33, u34, u35, u36, u37, u38, u39, u40], defers := [] }) (hw : HV W0 FIN (d 18) wx) (p0 : d 0 = true → u23 = .pointer (some ⟨g, 0, none⟩)) (p1 : d 1 = true → u24 = .pointer (some ⟨g7, 0, none⟩)) (p2 : d 2 = true → u25 = .slice (some ⟨gp, op, none⟩) np cp) (p3 : d 3 = true → u26 = .int .i64 (c : Int)) (p4 : d 4 = true → u27 = .pointer (some ⟨gp, op + c, none⟩)) (p5 : d 5 = true → u28 = .int .u8 (cN : Int)) (p6 : d 6 = true → u29 = .pointer (some ⟨g7, 0, none⟩)) (p7 : d 7 = true → u30 = .slice (some ⟨gp, op, none⟩) np cp) (p8 : d 8 = true → u31 = .int .i64 (c : Int)) (p9 : d 9 = true → u32 = .int .i64 ((c + 1 : Nat) : Int)) (p10 : d 10 = true → u33 = sfrom (some ⟨gp, op, none⟩) np cp (c + 1)) (p11 : d 11 = true → u34 = .pointer (some ⟨g7, 1, none⟩)) (p12 : d 12 = true → u35 = .pointer (some ⟨gk, 0, none⟩)) (p13 : d 13 = true → u36 = .iface 73 (.pointer (some ⟨gk, 0, none⟩))) (p15 : d 15 = true → u38 = .pointer (some ⟨g, 0, none⟩)) (p16 : d 16 = true → u39 = .pointer (some ⟨g, 1, none⟩)) (p17 : d 17 = true → u40 = .pointer (some ⟨g, 1 + cN, none⟩)) (z14 : d 14 = true → ∃ ty yy, u37 = .iface ty yy ∧ (d 18 = false → KD (.iface ty yy) wx)) (y18 : d 18 = true → d 2 = true ∧ d 5 = true ∧ d 7 = true ∧ d 12 = true ∧ d 14 = true) : HRI W0 KD FIN np cp gp op gk c cN g g7 d x wx
set_option maxHeartbeats 4000000 in
set_option maxRecDepth 100000 in
theorem hang_road (np cp gp op gk c cN g : Nat) (w : World) (KD : Value → World → Prop) (FIN : World → Prop) (hc : c < np) (hnp : np ≤ 4194304) (hcN : cN < 16) (hgp : gp < w.heap.size) (qp : w.cell? ⟨gp, op + c, none⟩ = some (.int .u8 (cN : Int)))
    (KB0 : ∀ wx : World, Below w.heap.size w wx → Calls Try.prog 48 #[sfrom (some ⟨gp, op, none⟩) np cp (c + 1), .iface 73 (.pointer (some ⟨gk, 0, none⟩))] wx fun e w' => ∃ ty yy, e = .returned (.iface ty yy) ∧ KD (.iface ty yy) w' ∧ Below wx.heap.size wx w')
    (HST0 : ∀ y wx, KD y wx → Below w.heap.size w wx → (∃ z, wx.cell? ⟨g, 1 + cN, none⟩ = some z) ∧ wx.frozen? ⟨g, 1 + cN, none⟩ = false ∧ FIN (wx.setCell ⟨g, 1 + cN, none⟩ y)) :
    Calls Try.prog 62 #[.pointer (some ⟨g, 0, none⟩), .iface 82 (.agg #[.slice (some ⟨gp, op, none⟩) np cp, .pointer (some ⟨gk, 0, none⟩)]), .int .i64 (c : Int)] w fun e w' => e = .returned (.tuple #[]) ∧ FIN w' := by
  have HB : Below w.heap.size w (w.alloc (.cells #[.slice (some ⟨gp, op, none⟩) np cp, .pointer (some ⟨gk, 0, none⟩)] 82)) := (Below.refl _ _).alloc (Nat.le_refl _) _
  have HA := heap_alloc_new w (.cells #[.slice (some ⟨gp, op, none⟩) np cp, .pointer (some ⟨gk, 0, none⟩)] 82)
  have Q0 : Hid ((w.alloc (.cells #[.slice (some ⟨gp, op, none⟩) np cp, .pointer (some ⟨gk, 0, none⟩)] 82)).cell? ⟨w.heap.size, 0, none⟩ = some (.slice (some ⟨gp, op, none⟩) np cp)) := by show _ = _; simp only [World.cell?, HA]; rfl
  have Q1 : Hid ((w.alloc (.cells #[.slice (some ⟨gp, op, none⟩) np cp, .pointer (some ⟨gk, 0, none⟩)] 82)).cell? ⟨w.heap.size, 1, none⟩ = some (.pointer (some ⟨gk, 0, none⟩))) := by show _ = _; simp only [World.cell?, HA]; rfl
  have QP : Hid ((w.alloc (.cells #[.slice (some ⟨gp, op, none⟩) np cp, .pointer (some ⟨gk, 0, none⟩)] 82)).cell? ⟨gp, op + c, none⟩ = some (.int .u8 (cN : Int))) := (HB.cell (p := ⟨gp, op + c, none⟩) hgp).trans qp
  have HG7 : Hid (w.heap.size < (w.alloc (.cells #[.slice (some ⟨gp, op, none⟩) np cp, .pointer (some ⟨gk, 0, none⟩)] 82)).heap.size) := by show _ < _; simp
  have HGP : Hid (gp < (w.alloc (.cells #[.slice (some ⟨gp, op, none⟩) np cp, .pointer (some ⟨gk, 0, none⟩)] 82)).heap.size) := Nat.lt_of_lt_of_le hgp HB.size
  have HC0 : Hid ((0 : Int) ≤ (c : Int)) := by show _ ≤ _; omega
  have HC1 : Hid ((c : Int) < (np : Int)) := by show _ < _; omega
  have HC2 : Hid (IntKind.i64.wrap ((c : Int) + 1) = ((c + 1 : Nat) : Int)) := by show _ = _; rw [IntKind.wrap_i64]; omega
  have HC3 : Hid (c + 1 ≤ np) := by show _ ≤ _; omega
  have HN0 : Hid ((0 : Int) ≤ (cN : Int)) := by show _ ≤ _; omega
  have HN1 : Hid ((cN : Int) < 16) := by show _ < _; omega
  have KB : Hid (∀ wx : World, Below (w.alloc (.cells #[.slice (some ⟨gp, op, none⟩) np cp, .pointer (some ⟨gk, 0, none⟩)] 82)).heap.size (w.alloc (.cells #[.slice (some ⟨gp, op, none⟩) np cp, .pointer (some ⟨gk, 0, none⟩)] 82)) wx → Calls Try.prog 48 #[sfrom (some ⟨gp, op, none⟩) np cp (c + 1), .iface 73 (.pointer (some ⟨gk, 0, none⟩))] wx fun e w' => ∃ ty yy, e = .returned (.iface ty yy) ∧ KD (.iface ty yy) w' ∧ Below wx.heap.size wx w') := fun wx hb => KB0 wx (HB.trans (hb.mono HB.size))
  have HST : Hid (∀ y wx, KD y wx → Below (w.alloc (.cells #[.slice (some ⟨gp, op, none⟩) np cp, .pointer (some ⟨gk, 0, none⟩)] 82)).heap.size (w.alloc (.cells #[.slice (some ⟨gp, op, none⟩) np cp, .pointer (some ⟨gk, 0, none⟩)] 82)) wx → (∃ z, wx.cell? ⟨g, 1 + cN, none⟩ = some z) ∧ wx.frozen? ⟨g, 1 + cN, none⟩ = false ∧ FIN (wx.setCell ⟨g, 1 + cN, none⟩ y)) := fun y wx hk hb => HST0 y wx hk (HB.trans (hb.mono HB.size))
  have a1 := fun w => no_leaf 82 (.agg #[.slice (some ⟨gp, op, none⟩) np cp, .pointer (some ⟨gk, 0, none⟩)]) w (by decide)
  have a2 := fun w => as_road (.agg #[.slice (some ⟨gp, op, none⟩) np cp, .pointer (some ⟨gk, 0, none⟩)]) w
  clear HA KB0 HST0 hc hnp hcN hgp qp HB
  go_enter Try.func62, Try.ntmps62
  go_upto_region 6 with fail
  generalize (w.alloc (.cells #[.slice (some ⟨gp, op, none⟩) np cp, .pointer (some ⟨gk, 0, none⟩)] 82)) = W1 at *
  have hw0 : HV W1 FIN false W1.drew := ⟨fun _ => (Below.refl _ _).drew, nofun⟩
  generalize w.heap.size = g7 at *
  refine RI.wp_region_inv (HRI W1 KD FIN np cp gp op gk c cN g g7) (by kernel_rfl) (by kernel_rfl) ?_ ?_ ?_
  · exact ⟨undef, undef, undef, undef, undef, undef, undef, undef, undef, undef, undef, undef, undef, undef, undef, undef, undef, undef, rfl, hw0, nofun, nofun, nofun, nofun, nofun, nofun, nofun, nofun, nofun, nofun, nofun, nofun, nofun, nofun, nofun, nofun, nofun, nofun, nofun⟩
  · skip
    intro d x wx i hI hi hm
    obtain ⟨u23, u24, u25, u26, u27, u28, u29, u30, u31, u32, u33, u34, u35, u36, u37, u38, u39, u40, rfl, hw, p0, p1, p2, p3, p4, p5, p6, p7, p8, p9, p10, p11, p12, p13, p15, p16, p17, z14, y18⟩ := hI
    have hi' : i = 0 ∨ i = 1 ∨ i = 2 ∨ i = 3 ∨ i = 4 ∨ i = 5 ∨ i = 6 ∨ i = 7 ∨ i = 8 ∨ i = 9 ∨ i = 10 ∨ i = 11 ∨ i = 12 ∨ i = 13 ∨ i = 14 ∨ i = 15 ∨ i = 16 ∨ i = 17 ∨ i = 18 := by simp at hi; omega
    have hd := hm.2
    have hf := hm.1
    clear hm hi
    rcases hi' with rfl | rfl | rfl | rfl | rfl | rfl | rfl | rfl | rfl | rfl | rfl | rfl | rfl | rfl | rfl | rfl | rfl | rfl | rfl
    · refine RI.wpOp_plain rfl rfl ?_
      go_simp
      exact ⟨_, u24, u25, u26, u27, u28, u29, u30, u31, u32, u33, u34, u35, u36, u37, u38, u39, u40, rfl, hw, fun _ => rfl, p1, p2, p3, p4, p5, p6, p7, p8, p9, p10, p11, p12, p13, p15, p16, p17, z14, y18⟩
    · refine RI.wpOp_plain rfl rfl ?_
      go_simp
      exact ⟨u23, _, u25, u26, u27, u28, u29, u30, u31, u32, u33, u34, u35, u36, u37, u38, u39, u40, rfl, hw, p0, fun _ => rfl, p2, p3, p4, p5, p6, p7, p8, p9, p10, p11, p12, p13, p15, p16, p17, z14, y18⟩
    · have hd := hd _ rfl
      simp [Region.binds] at hd
      obtain rfl := p1 (by simp [hd])
      refine RI.wpOp_plain rfl rfl ?_
      have h18 : d 18 = false := by cases h : d 18 with | false => rfl | true => exact absurd (y18 h).1 (by simp [hf])
      have x0 := ((hw.a h18).cell (p := ⟨g7, 0, none⟩) HG7.out).trans Q0.out
      go_simp
      exact ⟨u23, _, _, u26, u27, u28, u29, u30, u31, u32, u33, u34, u35, u36, u37, u38, u39, u40, rfl, hw, p0, p1, fun _ => rfl, p3, p4, p5, p6, p7, p8, p9, p10, p11, p12, p13, p15, p16, p17, z14, (fun h => absurd h (by simp [RI.don, h18]))⟩
    · refine RI.wpOp_plain rfl rfl ?_
      go_simp
      exact ⟨u23, u24, u25, _, u27, u28, u29, u30, u31, u32, u33, u34, u35, u36, u37, u38, u39, u40, rfl, hw, p0, p1, p2, fun _ => rfl, p4, p5, p6, p7, p8, p9, p10, p11, p12, p13, p15, p16, p17, z14, y18⟩
    · have hd := hd _ rfl
      simp [Region.binds] at hd
      obtain rfl := p2 (by simp [hd])
      obtain rfl := p3 (by simp [hd])
      refine RI.wpOp_plain rfl rfl ?_
      have e1 := HC0.out
      have e2 := HC1.out
      go_simp
      exact ⟨u23, u24, _, _, _, u28, u29, u30, u31, u32, u33, u34, u35, u36, u37, u38, u39, u40, rfl, hw, p0, p1, p2, p3, fun _ => rfl, p5, p6, p7, p8, p9, p10, p11, p12, p13, p15, p16, p17, z14, y18⟩
    · have hd := hd _ rfl
      simp [Region.binds] at hd
      obtain rfl := p4 (by simp [hd])
      refine RI.wpOp_plain rfl rfl ?_
      have h18 : d 18 = false := by cases h : d 18 with | false => rfl | true => exact absurd (y18 h).2.1 (by simp [hf])
      have x0 := ((hw.a h18).cell (p := ⟨gp, op + c, none⟩) HGP.out).trans QP.out
      go_simp
      exact ⟨u23, u24, u25, u26, _, _, u29, u30, u31, u32, u33, u34, u35, u36, u37, u38, u39, u40, rfl, hw, p0, p1, p2, p3, p4, fun _ => rfl, p6, p7, p8, p9, p10, p11, p12, p13, p15, p16, p17, z14, (fun h => absurd h (by simp [RI.don, h18]))⟩
    · refine RI.wpOp_plain rfl rfl ?_
      go_simp
      exact ⟨u23, u24, u25, u26, u27, u28, _, u30, u31, u32, u33, u34, u35, u36, u37, u38, u39, u40, rfl, hw, p0, p1, p2, p3, p4, p5, fun _ => rfl, p7, p8, p9, p10, p11, p12, p13, p15, p16, p17, z14, y18⟩
    · have hd := hd _ rfl
      simp [Region.binds] at hd
      obtain rfl := p6 (by simp [hd])
      refine RI.wpOp_plain rfl rfl ?_
      have h18 : d 18 = false := by cases h : d 18 with | false => rfl | true => exact absurd (y18 h).2.2.1 (by simp [hf])
      have x0 := ((hw.a h18).cell (p := ⟨g7, 0, none⟩) HG7.out).trans Q0.out
      go_simp
      exact ⟨u23, u24, u25, u26, u27, u28, _, _, u31, u32, u33, u34, u35, u36, u37, u38, u39, u40, rfl, hw, p0, p1, p2, p3, p4, p5, p6, fun _ => rfl, p8, p9, p10, p11, p12, p13, p15, p16, p17, z14, (fun h => absurd h (by simp [RI.don, h18]))⟩
    · refine RI.wpOp_plain rfl rfl ?_
      go_simp
      exact ⟨u23, u24, u25, u26, u27, u28, u29, u30, _, u32, u33, u34, u35, u36, u37, u38, u39, u40, rfl, hw, p0, p1, p2, p3, p4, p5, p6, p7, fun _ => rfl, p9, p10, p11, p12, p13, p15, p16, p17, z14, y18⟩
    · have hd := hd _ rfl
      simp [Region.binds] at hd
      obtain rfl := p8 (by simp [hd])
      refine RI.wpOp_plain rfl rfl ?_
      have e1 := HC2.out
      go_simp
      exact ⟨u23, u24, u25, u26, u27, u28, u29, u30, _, _, u33, u34, u35, u36, u37, u38, u39, u40, rfl, hw, p0, p1, p2, p3, p4, p5, p6, p7, p8, fun _ => rfl, p10, p11, p12, p13, p15, p16, p17, z14, y18⟩
    · have hd := hd _ rfl
      simp [Region.binds] at hd
      obtain rfl := p7 (by simp [hd])
      obtain rfl := p9 (by simp [hd])
      refine RI.wpOp_plain rfl rfl ?_
      refine wp_sl rfl rfl rfl rfl (run_from (some ⟨gp, op, none⟩) np cp (c + 1) HC3.out _) ?_
      simp only [Act.put]
      exact ⟨u23, u24, u25, u26, u27, u28, u29, _, u31, _, _, u34, u35, u36, u37, u38, u39, u40, rfl, hw, p0, p1, p2, p3, p4, p5, p6, p7, p8, p9, fun _ => rfl, p11, p12, p13, p15, p16, p17, z14, y18⟩
    · refine RI.wpOp_plain rfl rfl ?_
      go_simp
      exact ⟨u23, u24, u25, u26, u27, u28, u29, u30, u31, u32, u33, _, u35, u36, u37, u38, u39, u40, rfl, hw, p0, p1, p2, p3, p4, p5, p6, p7, p8, p9, p10, fun _ => rfl, p12, p13, p15, p16, p17, z14, y18⟩
    · have hd := hd _ rfl
      simp [Region.binds] at hd
      obtain rfl := p11 (by simp [hd])
      refine RI.wpOp_plain rfl rfl ?_
      have h18 : d 18 = false := by cases h : d 18 with | false => rfl | true => exact absurd (y18 h).2.2.2.1 (by simp [hf])
      have x0 := ((hw.a h18).cell (p := ⟨g7, 1, none⟩) HG7.out).trans Q1.out
      go_simp
      exact ⟨u23, u24, u25, u26, u27, u28, u29, u30, u31, u32, u33, _, _, u36, u37, u38, u39, u40, rfl, hw, p0, p1, p2, p3, p4, p5, p6, p7, p8, p9, p10, p11, fun _ => rfl, p13, p15, p16, p17, z14, (fun h => absurd h (by simp [RI.don, h18]))⟩
    · have hd := hd _ rfl
      simp [Region.binds] at hd
      obtain rfl := p12 (by simp [hd])
      refine RI.wpOp_plain rfl rfl ?_
      go_simp
      exact ⟨u23, u24, u25, u26, u27, u28, u29, u30, u31, u32, u33, u34, _, _, u37, u38, u39, u40, rfl, hw, p0, p1, p2, p3, p4, p5, p6, p7, p8, p9, p10, p11, p12, fun _ => rfl, p15, p16, p17, z14, y18⟩
    · have hd := hd _ rfl
      simp [Region.binds] at hd
      obtain rfl := p10 (by simp [hd])
      obtain rfl := p13 (by simp [hd])
      refine RI.wpOp_plain rfl rfl ?_
      have h18 : d 18 = false := by cases h : d 18 with | false => rfl | true => exact absurd (y18 h).2.2.2.2 (by simp [hf])
      have kb := KB.out _ (hw.a h18)
      go_simp
      refine (kb).mono ?_
      rintro e w1 ⟨ty, yy, rfl, hk, hb1⟩
      exact ⟨u23, u24, u25, u26, u27, u28, u29, u30, u31, u32, _, u34, u35, _, _, u38, u39, u40, rfl, ⟨fun _ => (hw.a h18).trans (hb1.mono (hw.a h18).size), fun h => absurd h (by simp [RI.don, h18])⟩, p0, p1, p2, p3, p4, p5, p6, p7, p8, p9, p10, p11, p12, p13, p15, p16, p17, fun _ => ⟨_, _, rfl, fun _ => hk⟩, (fun h => absurd h (by simp [RI.don, h18]))⟩
    · have hd := hd _ rfl
      simp [Region.binds] at hd
      obtain rfl := p0 (by simp [hd])
      refine RI.wpOp_plain rfl rfl ?_
      go_simp
      exact ⟨_, u24, u25, u26, u27, u28, u29, u30, u31, u32, u33, u34, u35, u36, u37, _, u39, u40, rfl, hw, p0, p1, p2, p3, p4, p5, p6, p7, p8, p9, p10, p11, p12, p13, fun _ => rfl, p16, p17, z14, y18⟩
    · have hd := hd _ rfl
      simp [Region.binds] at hd
      obtain rfl := p15 (by simp [hd])
      refine RI.wpOp_plain rfl rfl ?_
      go_simp
      exact ⟨u23, u24, u25, u26, u27, u28, u29, u30, u31, u32, u33, u34, u35, u36, u37, _, _, u40, rfl, hw, p0, p1, p2, p3, p4, p5, p6, p7, p8, p9, p10, p11, p12, p13, p15, fun _ => rfl, p17, z14, y18⟩
    · have hd := hd _ rfl
      simp [Region.binds] at hd
      obtain rfl := p0 (by simp [hd])
      obtain rfl := p1 (by simp [hd])
      obtain rfl := p2 (by simp [hd])
      obtain rfl := p3 (by simp [hd])
      obtain rfl := p4 (by simp [hd])
      obtain rfl := p5 (by simp [hd])
      obtain rfl := p6 (by simp [hd])
      obtain rfl := p7 (by simp [hd])
      obtain rfl := p8 (by simp [hd])
      obtain rfl := p9 (by simp [hd])
      obtain rfl := p10 (by simp [hd])
      obtain rfl := p11 (by simp [hd])
      obtain rfl := p12 (by simp [hd])
      obtain rfl := p13 (by simp [hd])
      obtain rfl := p16 (by simp [hd])
      refine RI.wpOp_plain rfl rfl ?_
      have e1 := HN0.out
      have e2 := HN1.out
      go_simp
      exact ⟨_, _, _, _, _, _, _, _, _, _, _, _, _, _, u37, u38, _, _, rfl, hw, p0, p1, p2, p3, p4, p5, p6, p7, p8, p9, p10, p11, p12, p13, p15, p16, fun _ => rfl, z14, y18⟩
    · have hd := hd _ rfl
      simp [Region.binds] at hd
      obtain rfl := p0 (by simp [hd])
      obtain rfl := p1 (by simp [hd])
      obtain rfl := p2 (by simp [hd])
      obtain rfl := p3 (by simp [hd])
      obtain rfl := p4 (by simp [hd])
      obtain rfl := p5 (by simp [hd])
      obtain rfl := p6 (by simp [hd])
      obtain rfl := p7 (by simp [hd])
      obtain rfl := p8 (by simp [hd])
      obtain rfl := p9 (by simp [hd])
      obtain rfl := p10 (by simp [hd])
      obtain rfl := p11 (by simp [hd])
      obtain rfl := p12 (by simp [hd])
      obtain rfl := p13 (by simp [hd])
      obtain rfl := p17 (by simp [hd])
      refine RI.wpOp_plain rfl rfl ?_
      obtain ⟨ty, yy, rfl, hkd⟩ := z14 (by simp [hd])
      have hk := hkd hf
      obtain ⟨⟨cz, hcell⟩, hfz, hfin⟩ := HST.out _ _ hk (hw.a hf)
      go_simp
      exact ⟨_, _, _, _, _, _, _, _, _, _, _, _, _, _, _, u38, u39, _, rfl, ⟨nofun, fun _ => hfin⟩, p0, p1, p2, p3, p4, p5, p6, p7, p8, p9, p10, p11, p12, p13, p15, p16, p17, fun _ => ⟨_, _, rfl, fun h => nomatch h⟩, fun _ => ⟨by simp [RI.don, hd], by simp [RI.don, hd], by simp [RI.don, hd], by simp [RI.don, hd], by simp [RI.don, hd]⟩⟩
  · skip
    intro d x wx hI hd
    obtain ⟨u23, u24, u25, u26, u27, u28, u29, u30, u31, u32, u33, u34, u35, u36, u37, u38, u39, u40, rfl, hw, p0, p1, p2, p3, p4, p5, p6, p7, p8, p9, p10, p11, p12, p13, p15, p16, p17, z14, y18⟩ := hI
    have hfin := hw.e (hd 18 (by decide))
    have HF : Hid (FIN wx) := hfin
    clear hw hfin p0 p1 p2 p3 p4 p5 p6 p7 p8 p9 p10 p11 p12 p13 p15 p16 p17 z14 y18
    go_wp2_with fail
    first | go_end0 | skip
    exact ⟨rfl, HF.out⟩
end Tr
end Go.Proofs.Ythlgneadcagleaa
namespace Go.Proofs.Ythlgneadcagleaa
namespace Tr
open Nb Go.RowKit
set_option maxHeartbeats 1000000 in
set_option maxRecDepth 100000 in
theorem branch_empty (x av pv : Value) (ax : Option Addr) (cx : Nat) (w : World) :
    Calls Try.prog 46 #[x, av, pv, .slice ax 0 cx] w fun e w' => e = .returned x ∧ w' = w := by
  go_enter Try.func46, Try.ntmps46
  go_wp2_with fail
  go_ret
  exact ⟨rfl, rfl⟩
set_option maxHeartbeats 2000000 in
set_option maxRecDepth 100000 in
theorem branch_walk (x : Value) (aa ap ax : Option Addr) (na ca np cp nx cx c : Nat) (w : World) (A1 A2 A3 : Nat → World → Prop) (A4 : Value → World → Prop) (hx : nx ≠ 0) (hc : c ≤ np) (hcap : np ≤ cp)
    (K1 : Hid (Calls Try.prog 60 #[.slice aa na ca, .slice ap np cp] w fun e w' => e = .returned (.int .i64 (c : Int)) ∧ Below w.heap.size w w'))
    (K2 : Hid (∀ W : World, Below w.heap.size w W → Calls Try.prog 61 #[] W fun e w' => ∃ g, e = .returned (.pointer (some ⟨g, 0, none⟩)) ∧ A1 g w'))
    (K3 : Hid (∀ (g : Nat) (W : World), A1 g W → Calls Try.prog 62 #[.pointer (some ⟨g, 0, none⟩), x, .int .i64 (c : Int)] W fun e w' => e = .returned (.tuple #[]) ∧ A2 g w'))
    (K4 : Hid (∀ (g : Nat) (W : World), A2 g W → Calls Try.prog 49 #[.pointer (some ⟨g, 0, none⟩), sfrom ap np cp c, .slice ax nx cx] W fun e w' => e = .returned (.tuple #[]) ∧ A3 g w'))
    (K5 : Hid (∀ (g : Nat) (W : World), A3 g W → Calls Try.prog 48 #[.slice ap c cp, .iface 73 (.pointer (some ⟨g, 0, none⟩))] W fun e w' => ∃ y, e = .returned y ∧ A4 y w')) :
    Calls Try.prog 46 #[x, .slice aa na ca, .slice ap np cp, .slice ax nx cx] w fun e w' => ∃ y, e = .returned y ∧ A4 y w' := by
  have e0 : ((nx : Int) == 0) = false := beq_eq_false_iff_ne.2 (by omega)
  have e0' : (nx == 0) = false := beq_eq_false_iff_ne.2 hx
  have RF := fun w => run_from ap np cp c hc w
  have RU := fun w => run_upto ap np cp c (by omega) w
  clear hx hc hcap
  go_enter Try.func46, Try.ntmps46
  go_wp2_with fail
  refine K1.out.mono ?_
  rintro e w1 ⟨rfl, hb1⟩
  have HB1 : Hid (Below w.heap.size w w1) := hb1
  clear hb1
  go_wp2_with fail
  refine (K2.out _ HB1.out).mono ?_
  rintro e w2 ⟨g, rfl, a1⟩
  have HA1 : Hid (A1 g w2) := a1
  clear a1
  go_wp2_with fail
  refine (K3.out _ _ HA1.out).mono ?_
  rintro e w3 ⟨rfl, a2⟩
  have HA2 : Hid (A2 g w3) := a2
  clear a2
  go_wp2_with (refine wpList_sl rfl rfl rfl rfl rfl (RF _) ?_)
  refine (K4.out _ _ HA2.out).mono ?_
  rintro e w4 ⟨rfl, a3⟩
  have HA3 : Hid (A3 g w4) := a3
  clear a3
  go_wp2_with (refine wpList_sl rfl rfl rfl rfl rfl (RU _) ?_)
  refine (K5.out _ _ HA3.out).mono ?_
  rintro e w5 ⟨y, rfl, a4⟩
  have HA4 : Hid (A4 y w5) := a4
  clear a4
  go_wp2_with fail
  go_ret
  exact ⟨y, rfl, HA4.out⟩
theorem behind_in {lo : Nat} {p v q : By} {ks : List Nd} {pv : Value} {g : Nat} {F : Nat → Prop} {w : World} (hp : Bs (Sb lo w) p pv w) (ht : In lo w (.mk 3 q v ks) (.iface 73 (.pointer (some ⟨g, 0, none⟩))) F) :
    Calls Try.prog 48 #[pv, .iface 73 (.pointer (some ⟨g, 0, none⟩))] w fun e w' => ∃ y, e = .returned y ∧ In lo w (beh p (.mk 3 q v ks)) y F ∧ w' = w := by
  obtain ⟨a1, c1, rfl, _⟩ := Bs_form hp
  refine (behind_fork (some ⟨g, 0, none⟩) a1 p.length c1 w).mono fun e w' he => ⟨_, he.1, ?_, he.2⟩
  rw [beh_eq, if_neg (by decide), if_neg (by decide), if_pos rfl]
  by_cases e0 : p = []
  · subst e0
    rw [if_pos rfl, if_pos (show ([] : By).length = 0 from rfl)]
    exact ht
  · rw [if_neg e0, if_neg (fun h => e0 (List.length_eq_zero_iff.1 h))]
    exact .road p [] _ _ g F hp ht
def Brn (lo : Nat) (w : World) (F : Nat → Prop) (G : By → By) (g : Nat) (W : World) : Prop := ∃ (v' : By) (ks' : List Nd) (F' : Nat → Prop), In lo W (.mk 3 [] v' ks') (.iface 73 (.pointer (some ⟨g, 0, none⟩))) F' ∧ (∀ j, j < 16 → Rs (ks'.getD j Nd.no)) ∧ ks'.length = 16 ∧ (∀ q, gt (.mk 3 [] v' ks') q = G q) ∧ (∀ z, F' z → F z ∨ w.heap.size ≤ z) ∧ Ch lo F w W
theorem in_len {lo : Nat} {w : World} {p v : By} {ks : List Nd} {y : Value} {F : Nat → Prop} (h : In lo w (.mk 3 p v ks) y F) : ks.length = 16 := by
  cases h with
  | fork _ _ _ g c F D hl hlo hb hc hFg hv hi hg hD hs => exact hl
theorem branch_tail {lo : Nat} {w : World} {t : Nd} {a p x : By} {y0 av pv xv : Value} {F : Nat → Prop} {q0 : By}
    (ha : Bs (Sb lo w) a av w) (hp : Bs (Sb lo w) p pv w) (hx : Bs (Sb lo w) x xv w) (hx0 : x ≠ []) (hpt : Pt p) (hal : a.length ≤ 4194304)
    (hpre : ∀ q, gt t q ≠ [] → a <+: q) (hq0 : gt t (a ++ q0) ≠ []) (hnp : a ++ q0 ≠ p) (hcm : cmn (a.drop (cmn a p) ++ q0) (p.drop (cmn a p)) = 0)
    (hno : ∀ (cb : UInt8) (r s : By), p.drop (cmn a p) = cb :: s → gt t (a.take (cmn a p) ++ cb :: r) = [])
    (K3 : ∀ (g : Nat) (W : World), NF g 16 W → w.heap.size ≤ g → Below w.heap.size w W → Calls Try.prog 62 #[.pointer (some ⟨g, 0, none⟩), y0, .int .i64 ((cmn a p : Nat) : Int)] W fun e w' => e = .returned (.tuple #[]) ∧ Brn lo w F (fun q => gt t (a.take (cmn a p) ++ q)) g w') :
    Calls Try.prog 46 #[y0, av, pv, xv] w fun e w' => ∃ y, e = .returned y ∧ Kid lo w t p x F y w' := by
  have ha' := Bs_sl ha
  have hp' := Bs_sl hp
  obtain ⟨aa, ca, rfl, hca⟩ := Bs_form ha
  obtain ⟨ap, cp, rfl, hcp⟩ := Bs_form hp
  obtain ⟨ax, cx, rfl, hcx⟩ := Bs_form hx
  have hle := cmn_le a p
  refine branch_walk y0 aa ap ax _ ca _ cp _ cx (cmn a p) w (fun g W => NF g 16 W ∧ w.heap.size ≤ g ∧ Below w.heap.size w W) (Brn lo w F (fun q => gt t (a.take (cmn a p) ++ q))) (Brn lo w F (fun q => if q = p.drop (cmn a p) then x else gt t (a.take (cmn a p) ++ q))) (Kid lo w t p x F) (fun h => hx0 (List.length_eq_zero_iff.1 h)) hle.2 hcp ?_ ?_ ?_ ?_ ?_
  · obtain ⟨_, _, e1, _, va⟩ := ha'
    injection e1 with e1 _ _
    subst e1
    obtain ⟨_, _, e2, _, vp⟩ := hp'
    injection e2 with e2 _ _
    subst e2
    exact common_any a p _ _ ca cp w (by show (_ : Int) ≤ _; omega) va vp
  · intro W hW
    refine (newfork_any W).mono fun e w' he => ⟨W.heap.size, he.1, he.2.1, hW.size, hW.trans (he.2.2.mono hW.size)⟩
  · intro g W hA
    exact K3 g W hA.1 hA.2.1 hA.2.2
  · intro g W hA
    obtain ⟨v', ks', F', h1, h2, hl, h3, h4, h5⟩ := hA
    have hW := h5
    refine (fput_any h1 h2 (q := p.drop (cmn a p)) (Bs_ch (Bs_from hp hle.2) h5) (Bs_ch hx h5) (fun c hc => hpt c (List.mem_of_mem_drop hc)) (fun cb s hqs W0 y qv' D hb hi hr' hx' => ?_)).mono fun e w' he => ⟨he.1, ?_⟩
    · have hc16 : cb.toNat < 16 := hpt cb (List.mem_of_mem_drop (by rw [hqs]; exact List.mem_cons_self ..))
      refine kid_none hi ?_ hr' hx' (fun c hc => hpt c (List.mem_of_mem_drop (by rw [hqs]; exact List.mem_cons_of_mem _ hc)))
      apply Classical.byContradiction
      intro hk
      obtain ⟨r, hr⟩ := some_val (h2 cb.toNat hc16) hk
      have : gt (.mk 3 [] v' ks') (cb :: r) = gt t (a.take (cmn a p) ++ cb :: r) := h3 (cb :: r)
      rw [gt_fork_cons, hno cb r s hqs] at this
      exact hr this
    · obtain ⟨v2, ks2, F2, k1, k2, k3, k4, k5⟩ := he.2
      refine ⟨v2, ks2, F2, k1, k2, in_len k1, fun q => by rw [k3 q, h3 q], fun z hz => ?_, h5.trans (k5.mono (fun z _ hz => hz)) (fun z hzl hz => ?_)⟩
      · rcases k4 z hz with h | h
        · exact h4 z h
        · exact .inr (Nat.le_trans h5.size h)
      · rcases h4 z hz with h | h
        · exact h
        · omega
  · intro g W hA
    obtain ⟨v', ks', F', h1, h2, hl, h3, h4, h5⟩ := hA
    have hbs := Bs_upto (c := cmn a p) (Bs_ch hp h5) hle.2
    refine (behind_in hbs h1).mono fun e w' he => ?_
    obtain ⟨y, k1, k2, k3⟩ := he
    obtain ⟨s1, s2⟩ := branch_spec (t := t) (T := beh (p.take (cmn a p)) (.mk 3 [] v' ks')) hx0 hl h2 hpt v' h3 hpre hq0 hnp hcm rfl
    subst k3
    exact ⟨y, k1, _, F', k2, s1, s2, h4, h5⟩
theorem cmn_head {x y : By} {c : UInt8} (h : cmn (c :: x) (c :: y) = 0) : False := by simp [cmn] at h
theorem branch_leaf {lo : Nat} {w : World} {a lv p x : By} {js : List Nd} {av vv pv xv : Value} {F : Nat → Prop} (hlo : lo ≤ w.heap.size)
    (ha : Bs (Sb lo w) a av w) (hv : Bs (Sb lo w) lv vv w) (hp : Bs (Sb lo w) p pv w) (hx : Bs (Sb lo w) x xv w) (hpa : Pt a) (hpt : Pt p) (hal : a.length ≤ 4194304) (hlv : lv ≠ []) (hne : a ≠ p) :
    Calls Try.prog 46 #[.iface 71 (.agg #[av, vv]), av, pv, xv] w fun e w' => ∃ y, e = .returned y ∧ Kid lo w (.mk 1 a lv js) p x F y w' := by
  by_cases hx0 : x = []
  · subst hx0
    obtain ⟨ax, cx, rfl, _⟩ := Bs_form hx
    refine (branch_empty _ av pv ax cx w).mono fun e w' he => ⟨_, he.1, .mk 1 a lv js, F, ?_, .leaf _ _ _ hpa hlv, up_same (by rw [gt_leaf, if_neg (fun e => hne e.symm)]), fun z hz => .inl hz, ?_⟩
    · rw [he.2]; exact .leaf a lv js av vv F ha hv
    · rw [he.2]; exact Ch.refl _ _ _
  · have hle := cmn_le a p
    have ea : a.take (cmn a p) ++ a.drop (cmn a p) = a := List.take_append_drop _ _
    refine branch_tail (q0 := []) ha hp hx hx0 hpt hal (fun q hq => ?_) (by rw [List.append_nil, gt_leaf, if_pos rfl]; exact hlv) (by rw [List.append_nil]; exact hne) (by rw [List.append_nil]; exact cmn_drop a p) (fun cb r s hps => ?_) (fun g W hN hg hW => ?_)
    · rw [gt_leaf] at hq
      split at hq
      · rename_i e; rw [e]; exact List.prefix_refl a
      · exact absurd rfl hq
    · rw [gt_leaf]
      split
      · rename_i e
        exfalso
        have e2 := List.append_cancel_left (e.trans ea.symm)
        have := cmn_drop a p
        rw [← e2, hps] at this
        exact cmn_head this
      · rfl
    · have ha2 : Bs (Sb lo W) a av W := Bs_ch ha (ch_below (G := fun _ => False) hW)
      have hv2 : Bs (Sb lo W) lv vv W := Bs_ch hv (ch_below (G := fun _ => False) hW)
      obtain ⟨aa, ca, rfl, hca⟩ := Bs_form ha
      obtain ⟨a3, c3, rfl, hc3⟩ := Bs_form hv
      refine hang_leaf aa a3 _ ca _ c3 (cmn a p) g W _ hle.1 (fun W0 hW0 => ?_)
      have hI : In lo W0 (.mk 3 [] [] ks0) (.iface 73 (.pointer (some ⟨g, 0, none⟩))) (· = g) := In_below (NF_in hN (Nat.le_trans hlo hg) rfl) hW0
      have hW0' : Below w.heap.size w W0 := hW.trans (hW0.mono hW.size)
      refine (fput_any hI (fun j hj => by rw [ks0_at]; exact .none [] [] []) (q := a.drop (cmn a p)) (x := lv) (Bs_from (Bs_ch ha2 (ch_below (G := fun _ => False) hW0)) hle.1) (Bs_ch hv2 (ch_below (G := fun _ => False) hW0)) (fun c hc => hpa c (List.mem_of_mem_drop hc)) (fun cb s hqs W1 y qv' D hb hi hr' hx' => ?_)).mono fun e w' he => ⟨he.1, ?_⟩
      · exact kid_none hi (by rw [ks0_at]; rfl) hr' hx' (fun c hc => hpa c (List.mem_of_mem_drop (by rw [hqs]; exact List.mem_cons_of_mem _ hc)))
      · obtain ⟨v2, ks2, F2, k1, k2, k3, k4, k5⟩ := he.2
        refine ⟨v2, ks2, F2, k1, k2, in_len k1, fun q => ?_, fun z hz => ?_, (ch_below hW0').trans k5 (fun z hzl hz => ?_)⟩
        · show gt _ q = gt (.mk 1 a lv js) (a.take (cmn a p) ++ q)
          rw [k3 q, gt_leaf]
          by_cases e : q = a.drop (cmn a p)
          · rw [if_pos e, if_pos (by rw [e, ea])]
          · rw [if_neg e, if_neg (fun h => e (List.append_cancel_left (h.trans ea.symm)))]
            cases q with
            | nil => exact gt_fork_nil _ _ _
            | cons c q => rw [gt_fork_cons, ks0_at, gt_no]
        · rcases k4 z hz with h | h
          · right; rw [h]; exact hg
          · exact .inr (Nat.le_trans hW0'.size h)
        · have hz : z = g := hz
          omega
theorem branch_road {lo : Nat} {w : World} {a rv p x : By} {t : Nd} {av pv xv : Value} {gk : Nat} {F : Nat → Prop} (hlo : lo ≤ w.heap.size)
    (ha : Bs (Sb lo w) a av w) (ht : In lo w t (.iface 73 (.pointer (some ⟨gk, 0, none⟩))) F) (hp : Bs (Sb lo w) p pv w) (hx : Bs (Sb lo w) x xv w) (hpa : Pt a) (hpt : Pt p) (hal : a.length ≤ 1048576) (hs : Rs t) (hk : t.kind = 3) (ha0 : a ≠ []) (hne : ¬ a <+: p) :
    Calls Try.prog 46 #[.iface 82 (.agg #[av, .pointer (some ⟨gk, 0, none⟩)]), av, pv, xv] w fun e w' => ∃ y, e = .returned y ∧ Kid lo w (.mk 2 a rv [t]) p x F y w' := by
  have hR : Rs (.mk 2 a rv [t]) := .road a rv t hpa ha0 hk hs
  by_cases hx0 : x = []
  · subst hx0
    obtain ⟨ax, cx, rfl, _⟩ := Bs_form hx
    refine (branch_empty _ av pv ax cx w).mono fun e w' he => ⟨_, he.1, .mk 2 a rv [t], F, ?_, hR, up_same (by rw [gt_road, if_neg (fun h => hne (List.isPrefixOf_iff_prefix.1 h))]), fun z hz => .inl hz, ?_⟩
    · rw [he.2]; exact .road a rv t av gk F ha ht
    · rw [he.2]; exact Ch.refl _ _ _
  · have hle := cmn_le a p
    have ea : a.take (cmn a p) ++ a.drop (cmn a p) = a := List.take_append_drop _ _
    have hclt : cmn a p < a.length := by
      apply Classical.byContradiction
      intro h
      have e : cmn a p = a.length := by omega
      have := cmn_take a p
      rw [e, List.take_length] at this
      exact hne (by rw [this]; exact List.take_prefix _ _)
    obtain ⟨hb, rest, hdr⟩ : ∃ hb rest, a.drop (cmn a p) = hb :: rest := by
      cases e : a.drop (cmn a p) with
      | nil => have := congrArg List.length e; rw [List.length_drop] at this; simp at this; omega
      | cons c r => exact ⟨c, r, rfl⟩
    have hdrop1 : a.drop (cmn a p + 1) = rest := by rw [← List.drop_drop, hdr]; rfl
    have hb16 : hb.toNat < 16 := hpa hb (List.mem_of_mem_drop (by rw [hdr]; exact List.mem_cons_self ..))
    have hrp : Pt rest := fun c hc => hpa c (List.mem_of_mem_drop (by rw [hdr]; exact List.mem_cons_of_mem _ hc))
    have hcd := cmn_drop a p
    obtain ⟨q0, hq0⟩ := some_val hs (by rw [hk]; decide)
    have hhead : ∀ cb s, p.drop (cmn a p) = cb :: s → hb ≠ cb := fun cb s hps e => by
      rw [hdr, hps, e] at hcd
      exact cmn_head hcd
    have hpre : ∀ q, gt (.mk 2 a rv [t]) q ≠ [] → a <+: q := fun q hq => by
      obtain ⟨r, rfl, _⟩ := gt_road_off a rv t q hq
      exact ⟨r, rfl⟩
    refine branch_tail (q0 := q0) ha hp hx hx0 hpt (by omega) hpre (by rw [gt_road_at]; exact hq0) (fun e => hne ⟨q0, e⟩) ?_ (fun cb r s hps => ?_) (fun g W hN hg hW => ?_)
    · rw [hdr]
      cases hps : p.drop (cmn a p) with
      | nil => rfl
      | cons cb s =>
        show cmn (hb :: (rest ++ q0)) (cb :: s) = 0
        simp only [cmn, if_neg (hhead cb s hps)]
    · apply Classical.byContradiction
      intro h
      obtain ⟨z, hz⟩ := hpre _ h
      have := List.append_cancel_left (show a.take (cmn a p) ++ (a.drop (cmn a p) ++ z) = a.take (cmn a p) ++ cb :: r by rw [← List.append_assoc, ea]; exact hz)
      rw [hdr] at this
      injection this with e1 _
      exact hhead cb s hps e1
    · have ha2 : Bs (Sb lo W) a av W := Bs_ch ha (ch_below (G := fun _ => False) hW)
      obtain ⟨aa, ca, rfl, hca⟩ := Bs_form ha
      obtain ⟨gp, op, e1, hgp, hcell⟩ : ∃ gp op, aa = some ⟨gp, op, none⟩ ∧ gp < W.heap.size ∧ W.cell? ⟨gp, op + cmn a p, none⟩ = some (.int .u8 (hb.toNat : Int)) := by
        obtain ⟨a2, c2, e2, _, h3⟩ := ha2
        injection e2 with e2 _ _
        subst e2
        obtain ⟨k, off, e4, _, hlt, hc⟩ := h3 (by omega)
        refine ⟨k, off, e4, hlt, ?_⟩
        rw [hc _ hclt]
        have : Sp.bz a (cmn a p) = (hb.toNat : Int) := by
          unfold Sp.bz
          have e5 : a[cmn a p]? = some hb := by
            have := congrArg (fun l => l[0]?) hdr
            simpa [List.getElem?_drop] using this
          rw [List.getD_eq_getElem?_getD, e5]
          rfl
        rw [this]
      subst e1
      have hg16 : g < W.heap.size := by obtain ⟨c, h1, _⟩ := hN; exact Pk.lt_of_heap h1
      refine hang_road _ ca gp op gk (cmn a p) hb.toNat g W (fun y wx => In lo wx (beh rest t) y (fun z => F z ∧ z < w.heap.size)) _ hclt (by omega) hb16 hgp hcell (fun wx hbx => ?_) (fun y wx hky hbx => ?_)
      · have hwx : Below w.heap.size w wx := hW.trans (hbx.mono hW.size)
        have hbs := Bs_from (c := cmn a p + 1) (Bs_ch ha2 (ch_below (G := fun _ => False) hbx)) (by omega)
        rw [hdrop1] at hbs
        obtain ⟨k3, p3, v3, ks3⟩ := t
        have hk3 : k3 = 3 := hk
        subst hk3
        refine (behind_in hbs (In_below (In_lt ht) hwx)).mono fun e w' he => ?_
        obtain ⟨y, h1, h2, h3⟩ := he
        obtain ⟨ty, yy, rfl⟩ := In_form h2
        subst h3
        exact ⟨ty, yy, h1, h2, Below.refl _ _⟩
      · have hwx : Below w.heap.size w wx := hW.trans (hbx.mono hW.size)
        obtain ⟨c, n1, n2, n3, n4⟩ := hN
        have b1 : wx.heap[g]? = some (.cells c 98 (0, 0)) := by rw [hbx.block g hg16]; exact n1
        obtain ⟨s1, s2, s3⟩ := beh_spec hs rest hrp
        have hch : Ch lo (· = g) wx (wx.setCell ⟨g, 1 + hb.toNat, none⟩ y) := ch_set y (Nat.le_trans hlo hg) b1
        have hlen0 : ks0.length = 16 := by unfold ks0; simp
        refine ⟨⟨_, cell_fork b1 (1 + hb.toNat) (by omega)⟩, by unfold World.frozen?; simp [b1], [], ks0.set hb.toNat (beh rest t), fun z => z = g ∨ (F z ∧ z < w.heap.size), ?_, fun j hj => ?_, by simp [hlen0], fun q => ?_, fun z hz => ?_, (ch_below hwx).trans hch (fun z hzl hz => ?_)⟩
        · refine .fork [] [] _ g (c.setIfInBounds (1 + hb.toNat) y) _ (fun j z => if j = hb.toNat then (F z ∧ z < w.heap.size) else False) (by simp [hlen0]) (Nat.le_trans hlo hg) (heap_setCell_same b1 y) (by simp [n2]) (.inl rfl) ?_ (fun j hj => ?_) (fun j hj hh => ?_) (fun i j z hi hj h1 h2 => ?_) (fun j z hj hz => ?_)
          · rw [getD_setIf _ _ _ _ (by omega), if_neg (by omega), n3]
            exact Bs_nil _ _
          · rw [getD_setIf _ _ _ _ (by omega), getD_set _ _ _ _ _ (by omega)]
            by_cases e : j = hb.toNat
            · rw [if_pos e, if_pos (show j + 1 = 1 + hb.toNat by omega)]
              simp only [if_pos e]
              exact In_ch hky hch (fun z _ hz e2 => by have : z = g := e2; omega)
            · rw [if_neg e, if_neg (show ¬ j + 1 = 1 + hb.toNat by omega), n4 j hj, ks0_at]
              simp only [if_neg e]
              exact .none [] [] [] _
          · by_cases e : j = hb.toNat
            · simp only [if_pos e] at hh; omega
            · simp only [if_neg e] at hh
          · by_cases e : i = hb.toNat
            · by_cases e2 : j = hb.toNat
              · omega
              · simp only [if_neg e2] at h2
            · simp only [if_neg e] at h1
          · by_cases e : j = hb.toNat
            · simp only [if_pos e] at hz; exact .inr hz
            · simp only [if_neg e] at hz
        · rw [getD_set _ _ _ _ _ (by omega)]
          by_cases e : j = hb.toNat
          · rw [if_pos e]; exact s1
          · rw [if_neg e, ks0_at]; exact .none [] [] []
        · have eG : gt (.mk 2 a rv [t]) (a.take (cmn a p) ++ q) = if a.drop (cmn a p) <+: q then gt t (q.drop (a.drop (cmn a p)).length) else [] := by
            rw [gt_road]
            by_cases e : a.drop (cmn a p) <+: q
            · obtain ⟨z, rfl⟩ := e
              rw [← List.append_assoc, ea, if_pos (show a.isPrefixOf (a ++ z) = true by simp), List.drop_left, if_pos (show a.drop (cmn a p) <+: a.drop (cmn a p) ++ z from ⟨z, rfl⟩), List.drop_left]
            · rw [if_neg e, if_neg (fun h => e (by
                obtain ⟨z, hz⟩ := List.isPrefixOf_iff_prefix.1 h
                exact ⟨z, List.append_cancel_left (show a.take (cmn a p) ++ (a.drop (cmn a p) ++ z) = a.take (cmn a p) ++ q by rw [← List.append_assoc, ea]; exact hz)⟩))]
          show gt _ q = gt (.mk 2 a rv [t]) (a.take (cmn a p) ++ q)
          rw [eG]
          cases q with
          | nil =>
            rw [gt_fork_nil, hdr, if_neg (by simp)]
          | cons cc q =>
            rw [gt_fork_cons, getD_set _ _ _ _ _ (by omega), hdr]
            by_cases e : cc = hb
            · subst e
              rw [if_pos rfl]
              by_cases e2 : rest <+: q
              · obtain ⟨z, rfl⟩ := e2
                rw [s2, if_pos ⟨z, rfl⟩, List.length_cons, List.drop_succ_cons, List.drop_left]
              · rw [s3 q e2, if_neg (fun h => e2 (List.cons_prefix_cons.1 h).2)]
            · rw [if_neg (fun h => e (UInt8.toNat_inj.1 h)), ks0_at, gt_no, if_neg (fun h => e (List.cons_prefix_cons.1 h).1.symm)]
        · rcases hz with h | h
          · right; rw [h]; exact hg
          · exact .inl h.1
        · have : z = g := hz
          omega
end Tr
end Go.Proofs.Ythlgneadcagleaa
namespace Go.Proofs.Ythlgneadcagleaa
namespace Tr
open Nb Go.RowKit
set_option maxHeartbeats 1000000 in
set_option maxRecDepth 100000 in
theorem put_leaf_eq (aa av ap ax : Option Addr) (na ca nv cv np cp nx cx : Nat) (w : World) (A : Value → World → Prop)
    (KE0 : ∀ W : World, Below w.heap.size w W → Calls Try.prog 45 #[.slice aa na ca, .slice ap np cp] W fun e w' => e = .returned (.bool true) ∧ w' = W)
    (KS0 : ∀ W : World, Below w.heap.size w W → Calls Try.prog 51 #[.slice ap np cp, .slice ax nx cx] W fun e w' => ∃ y, e = .returned y ∧ A y w') :
    Calls Try.prog 30 #[.iface 71 (.agg #[.slice aa na ca, .slice av nv cv]), .slice ap np cp, .slice ax nx cx] w fun e w' => ∃ y, e = .returned y ∧ A y w' := by
  have HB : Below w.heap.size w (w.alloc (.cells #[.slice aa na ca, .slice av nv cv] 71)) := (Below.refl _ _).alloc (Nat.le_refl _) _
  have HA := heap_alloc_new w (.cells #[.slice aa na ca, .slice av nv cv] 71)
  have q0 : (w.alloc (.cells #[.slice aa na ca, .slice av nv cv] 71)).cell? ⟨w.heap.size, 0, none⟩ = some (.slice aa na ca) := by simp only [World.cell?, HA]; rfl
  have q1 : (w.alloc (.cells #[.slice aa na ca, .slice av nv cv] 71)).cell? ⟨w.heap.size, 1, none⟩ = some (.slice av nv cv) := by simp only [World.cell?, HA]; rfl
  have KE : Hid (Calls Try.prog 45 #[.slice aa na ca, .slice ap np cp] (w.alloc (.cells #[.slice aa na ca, .slice av nv cv] 71)) fun e w' => e = .returned (.bool true) ∧ w' = (w.alloc (.cells #[.slice aa na ca, .slice av nv cv] 71))) := KE0 _ HB
  have KS : Hid (Calls Try.prog 51 #[.slice ap np cp, .slice ax nx cx] (w.alloc (.cells #[.slice aa na ca, .slice av nv cv] 71)) fun e w' => ∃ y, e = .returned y ∧ A y w') := KS0 _ HB
  have a1 := fun w => as_leaf (.agg #[.slice aa na ca, .slice av nv cv]) w
  clear HA KE0 KS0 HB
  go_enter Try.func30, Try.ntmps30
  go_wp2_with fail
  refine KE.out.mono ?_
  rintro e w1 ⟨rfl, rfl⟩
  go_wp2_with fail
  refine KS.out.mono ?_
  rintro e w2 ⟨y, rfl, hy⟩
  have HY : Hid (A y w2) := hy
  clear hy
  go_wp2_with fail
  go_ret
  exact ⟨y, rfl, HY.out⟩
set_option maxHeartbeats 1000000 in
set_option maxRecDepth 100000 in
theorem put_leaf_ne (aa av ap ax : Option Addr) (na ca nv cv np cp nx cx : Nat) (w : World) (A : Value → World → Prop)
    (KE0 : ∀ W : World, Below w.heap.size w W → Calls Try.prog 45 #[.slice aa na ca, .slice ap np cp] W fun e w' => e = .returned (.bool false) ∧ w' = W)
    (KS0 : ∀ W : World, Below w.heap.size w W → Calls Try.prog 46 #[.iface 71 (.agg #[.slice aa na ca, .slice av nv cv]), .slice aa na ca, .slice ap np cp, .slice ax nx cx] W fun e w' => ∃ y, e = .returned y ∧ A y w') :
    Calls Try.prog 30 #[.iface 71 (.agg #[.slice aa na ca, .slice av nv cv]), .slice ap np cp, .slice ax nx cx] w fun e w' => ∃ y, e = .returned y ∧ A y w' := by
  have HB : Below w.heap.size w (w.alloc (.cells #[.slice aa na ca, .slice av nv cv] 71)) := (Below.refl _ _).alloc (Nat.le_refl _) _
  have HA := heap_alloc_new w (.cells #[.slice aa na ca, .slice av nv cv] 71)
  have q0 : (w.alloc (.cells #[.slice aa na ca, .slice av nv cv] 71)).cell? ⟨w.heap.size, 0, none⟩ = some (.slice aa na ca) := by simp only [World.cell?, HA]; rfl
  have q1 : (w.alloc (.cells #[.slice aa na ca, .slice av nv cv] 71)).cell? ⟨w.heap.size, 1, none⟩ = some (.slice av nv cv) := by simp only [World.cell?, HA]; rfl
  have KE : Hid (Calls Try.prog 45 #[.slice aa na ca, .slice ap np cp] (w.alloc (.cells #[.slice aa na ca, .slice av nv cv] 71)) fun e w' => e = .returned (.bool false) ∧ w' = (w.alloc (.cells #[.slice aa na ca, .slice av nv cv] 71))) := KE0 _ HB
  have KS : Hid (Calls Try.prog 46 #[.iface 71 (.agg #[.slice aa na ca, .slice av nv cv]), .slice aa na ca, .slice ap np cp, .slice ax nx cx] (w.alloc (.cells #[.slice aa na ca, .slice av nv cv] 71)) fun e w' => ∃ y, e = .returned y ∧ A y w') := KS0 _ HB
  have a1 := fun w => as_leaf (.agg #[.slice aa na ca, .slice av nv cv]) w
  clear HA KE0 KS0 HB
  go_enter Try.func30, Try.ntmps30
  go_wp2_with fail
  refine KE.out.mono ?_
  rintro e w1 ⟨rfl, rfl⟩
  go_wp2_with fail
  refine KS.out.mono ?_
  rintro e w2 ⟨y, rfl, hy⟩
  have HY : Hid (A y w2) := hy
  clear hy
  go_wp2_with fail
  go_ret
  exact ⟨y, rfl, HY.out⟩
set_option maxHeartbeats 1000000 in
set_option maxRecDepth 100000 in
theorem put_road_no (aa ap ax : Option Addr) (na ca np cp nx cx gk : Nat) (w : World) (A : Value → World → Prop)
    (KE0 : ∀ W : World, Below w.heap.size w W → Calls Try.prog 47 #[.slice ap np cp, .slice aa na ca] W fun e w' => (∃ r, e = .returned (.tuple #[r, .bool false])) ∧ w' = W)
    (KS0 : ∀ W : World, Below w.heap.size w W → Calls Try.prog 46 #[.iface 82 (.agg #[.slice aa na ca, .pointer (some ⟨gk, 0, none⟩)]), .slice aa na ca, .slice ap np cp, .slice ax nx cx] W fun e w' => ∃ y, e = .returned y ∧ A y w') :
    Calls Try.prog 30 #[.iface 82 (.agg #[.slice aa na ca, .pointer (some ⟨gk, 0, none⟩)]), .slice ap np cp, .slice ax nx cx] w fun e w' => ∃ y, e = .returned y ∧ A y w' := by
  have HB : Below w.heap.size w (w.alloc (.cells #[.slice aa na ca, .pointer (some ⟨gk, 0, none⟩)] 82)) := (Below.refl _ _).alloc (Nat.le_refl _) _
  have HA := heap_alloc_new w (.cells #[.slice aa na ca, .pointer (some ⟨gk, 0, none⟩)] 82)
  have q0 : (w.alloc (.cells #[.slice aa na ca, .pointer (some ⟨gk, 0, none⟩)] 82)).cell? ⟨w.heap.size, 0, none⟩ = some (.slice aa na ca) := by simp only [World.cell?, HA]; rfl
  have q1 : (w.alloc (.cells #[.slice aa na ca, .pointer (some ⟨gk, 0, none⟩)] 82)).cell? ⟨w.heap.size, 1, none⟩ = some (.pointer (some ⟨gk, 0, none⟩)) := by simp only [World.cell?, HA]; rfl
  have KE : Hid (Calls Try.prog 47 #[.slice ap np cp, .slice aa na ca] (w.alloc (.cells #[.slice aa na ca, .pointer (some ⟨gk, 0, none⟩)] 82)) fun e w' => (∃ r, e = .returned (.tuple #[r, .bool false])) ∧ w' = (w.alloc (.cells #[.slice aa na ca, .pointer (some ⟨gk, 0, none⟩)] 82))) := KE0 _ HB
  have KS : Hid (Calls Try.prog 46 #[.iface 82 (.agg #[.slice aa na ca, .pointer (some ⟨gk, 0, none⟩)]), .slice aa na ca, .slice ap np cp, .slice ax nx cx] (w.alloc (.cells #[.slice aa na ca, .pointer (some ⟨gk, 0, none⟩)] 82)) fun e w' => ∃ y, e = .returned y ∧ A y w') := KS0 _ HB
  have a1 := fun w => no_leaf 82 (.agg #[.slice aa na ca, .pointer (some ⟨gk, 0, none⟩)]) w (by decide)
  have a2 := fun w => as_road (.agg #[.slice aa na ca, .pointer (some ⟨gk, 0, none⟩)]) w
  clear HA KE0 KS0 HB
  go_enter Try.func30, Try.ntmps30
  go_wp2_with fail
  refine KE.out.mono ?_
  rintro e w1 ⟨⟨r, rfl⟩, rfl⟩
  go_wp2_with fail
  refine KS.out.mono ?_
  rintro e w2 ⟨y, rfl, hy⟩
  have HY : Hid (A y w2) := hy
  clear hy
  go_wp2_with fail
  go_ret
  exact ⟨y, rfl, HY.out⟩
set_option maxHeartbeats 1000000 in
set_option maxRecDepth 100000 in
theorem put_fork (gk : Nat) (ap ax : Option Addr) (np cp nx cx : Nat) (w : World) (A1 : World → Prop) (A : Value → World → Prop)
    (K1 : Hid (Calls Try.prog 49 #[.pointer (some ⟨gk, 0, none⟩), .slice ap np cp, .slice ax nx cx] w fun e w' => e = .returned (.tuple #[]) ∧ A1 w'))
    (K2 : Hid (∀ W : World, A1 W → Calls Try.prog 50 #[.pointer (some ⟨gk, 0, none⟩)] W fun e w' => ∃ y, e = .returned y ∧ A y w')) :
    Calls Try.prog 30 #[.iface 73 (.pointer (some ⟨gk, 0, none⟩)), .slice ap np cp, .slice ax nx cx] w fun e w' => ∃ y, e = .returned y ∧ A y w' := by
  have a1 := fun w => no_leaf 73 (.pointer (some ⟨gk, 0, none⟩)) w (by decide)
  have a2 := fun w => no_road 73 (.pointer (some ⟨gk, 0, none⟩)) w (by decide)
  have a3 := fun w => as_fork (.pointer (some ⟨gk, 0, none⟩)) w
  go_enter Try.func30, Try.ntmps30
  go_wp2_with fail
  refine K1.out.mono ?_
  rintro e w1 ⟨rfl, h1⟩
  have H1 : Hid (A1 w1) := h1
  clear h1
  go_wp2_with fail
  refine (K2.out _ H1.out).mono ?_
  rintro e w2 ⟨y, rfl, hy⟩
  have HY : Hid (A y w2) := hy
  clear hy
  go_wp2_with fail
  go_ret
  exact ⟨y, rfl, HY.out⟩
structure RW11 (W0 : World) (K1 : World → Prop) (f7 f8 : Bool) (wx : World) : Prop where
  k : f7 = false → wx = W0
  b : f7 = true → f8 = false → K1 wx
inductive PR11 (W0 : World) (K1 : World → Prop) (KD A : Value → World → Prop) (aa ap ax ar : Option Addr) (na ca np cp nx cx nr cr gk g8 : Nat) (d : Nat → Bool) (x : Act) (wx : World) : Prop where
  | mk (u6 u47 u48 u49 u50 u51 u52 u53 u54 u55 : Value) (hx : x = { tmps := #[.iface 82 (.agg #[.slice aa na ca, .pointer (some ⟨gk, 0, none⟩)]), .slice ap np cp, .slice ax nx cx, undef, undef, undef, u6, undef, .pointer (some ⟨g8, 0, none⟩), .slice ar nr cr, .bool true, undef, .iface 82 (.agg #[.slice aa na ca, .pointer (some ⟨gk, 0, none⟩)]), .tuple #[.agg #[.slice none 0 0, .slice none 0 0], .bool false], .bool false, .agg #[.slice none 0 0, .slice none 0 0], undef, undef, undef, undef, undef, undef, undef, undef, undef, undef, undef, undef, .tuple #[.agg #[.slice aa na ca, .pointer (some ⟨gk, 0, none⟩)], .bool true], .bool true, .agg #[.slice aa na ca, .pointer (some ⟨gk, 0, none⟩)], .tuple #[.slice ar nr cr, .bool true], .slice ap np cp, .pointer (some ⟨g8, 0, none⟩), .slice aa na ca, .tuple #[.slice ar nr cr, .bool true], .slice ar nr cr, .bool true, .bool true, .bool false, undef, undef, undef, undef, undef, undef, undef, u47, u48, u49, u50, u51, u52, u53, u54, u55, undef, undef, undef, undef, undef, undef, undef, undef, undef, undef, undef, undef], defers := [] }) (hw : RW11 W0 K1 (d 7) (d 8) wx) (p0 : d 0 = true → u47 = .pointer (some ⟨g8, 0, none⟩)) (p1 : d 1 = true → u48 = .slice aa na ca) (p2 : d 2 = true → u49 = .pointer (some ⟨g8, 1, none⟩)) (p3 : d 3 = true → u50 = .pointer (some ⟨gk, 0, none⟩)) (p4 : d 4 = true → u51 = .iface 73 (.pointer (some ⟨gk, 0, none⟩))) (p5 : d 5 = true → u52 = .slice ar nr cr) (p6 : d 6 = true → u53 = .slice ax nx cx) (z7 : d 7 = true → ∃ ty yy, u54 = .iface ty yy ∧ (d 8 = false → KD (.iface ty yy) wx)) (z8 : d 8 = true → A u55 wx) (z9 : d 9 = true → A u6 wx) (y4 : d 4 = true → d 3 = true) (y7 : d 7 = true → d 3 = true) (y8 : d 8 = true → d 1 = true ∧ d 7 = true) (y9 : d 9 = true → d 8 = true) : PR11 W0 K1 KD A aa ap ax ar na ca np cp nx cx nr cr gk g8 d x wx
set_option maxHeartbeats 4000000 in
set_option maxRecDepth 100000 in
theorem put_road_yes (aa ap ax ar : Option Addr) (na ca np cp nx cx nr cr gk : Nat) (w : World) (K1 : World → World → Prop) (KD : World → Value → World → Prop) (A : Value → World → Prop)
    (KE0 : ∀ W : World, Below w.heap.size w W → Calls Try.prog 47 #[.slice ap np cp, .slice aa na ca] W fun e w' => e = .returned (.tuple #[.slice ar nr cr, .bool true]) ∧ w' = W)
    (KP0 : ∀ W : World, Below w.heap.size w W → W.heap[w.heap.size]? = some (.cells #[.slice aa na ca, .pointer (some ⟨gk, 0, none⟩)] 82) → (Calls Try.prog 30 #[.iface 73 (.pointer (some ⟨gk, 0, none⟩)), .slice ar nr cr, .slice ax nx cx] W fun e w' => ∃ ty yy, e = .returned (.iface ty yy) ∧ KD W (.iface ty yy) w' ∧ K1 W w') ∧ (∀ W', K1 W W' → W'.cell? ⟨w.heap.size, 0, none⟩ = W.cell? ⟨w.heap.size, 0, none⟩) ∧ ∀ y W', KD W y W' → Calls Try.prog 48 #[.slice aa na ca, y] W' fun e w' => ∃ y', e = .returned y' ∧ A y' w') :
    Calls Try.prog 30 #[.iface 82 (.agg #[.slice aa na ca, .pointer (some ⟨gk, 0, none⟩)]), .slice ap np cp, .slice ax nx cx] w fun e w' => ∃ y, e = .returned y ∧ A y w' := by
  have HB : Below w.heap.size w (w.alloc (.cells #[.slice aa na ca, .pointer (some ⟨gk, 0, none⟩)] 82)) := (Below.refl _ _).alloc (Nat.le_refl _) _
  have HA := heap_alloc_new w (.cells #[.slice aa na ca, .pointer (some ⟨gk, 0, none⟩)] 82)
  have q0 : (w.alloc (.cells #[.slice aa na ca, .pointer (some ⟨gk, 0, none⟩)] 82)).cell? ⟨w.heap.size, 0, none⟩ = some (.slice aa na ca) := by simp only [World.cell?, HA]; rfl
  have q1 : (w.alloc (.cells #[.slice aa na ca, .pointer (some ⟨gk, 0, none⟩)] 82)).cell? ⟨w.heap.size, 1, none⟩ = some (.pointer (some ⟨gk, 0, none⟩)) := by simp only [World.cell?, HA]; rfl
  have KE : Hid (Calls Try.prog 47 #[.slice ap np cp, .slice aa na ca] (w.alloc (.cells #[.slice aa na ca, .pointer (some ⟨gk, 0, none⟩)] 82)) fun e w' => e = .returned (.tuple #[.slice ar nr cr, .bool true]) ∧ w' = (w.alloc (.cells #[.slice aa na ca, .pointer (some ⟨gk, 0, none⟩)] 82))) := KE0 _ HB
  obtain ⟨k1, k2, k3⟩ := KP0 (w.alloc (.cells #[.slice aa na ca, .pointer (some ⟨gk, 0, none⟩)] 82)).drew HB.drew HA
  generalize hKD : KD (w.alloc (.cells #[.slice aa na ca, .pointer (some ⟨gk, 0, none⟩)] 82)).drew = KDx at k1 k3
  generalize hK1 : K1 (w.alloc (.cells #[.slice aa na ca, .pointer (some ⟨gk, 0, none⟩)] 82)).drew = K1x at k1 k2
  have KP : Hid (Calls Try.prog 30 #[.iface 73 (.pointer (some ⟨gk, 0, none⟩)), .slice ar nr cr, .slice ax nx cx] (w.alloc (.cells #[.slice aa na ca, .pointer (some ⟨gk, 0, none⟩)] 82)).drew fun e w' => ∃ ty yy, e = .returned (.iface ty yy) ∧ KDx (.iface ty yy) w' ∧ K1x w') := k1
  have QK : Hid (∀ W', K1x W' → W'.cell? ⟨w.heap.size, 0, none⟩ = some (.slice aa na ca)) := fun W' h => (k2 W' h).trans q0
  have KB : Hid (∀ y W', KDx y W' → Calls Try.prog 48 #[.slice aa na ca, y] W' fun e w' => ∃ y', e = .returned y' ∧ A y' w') := k3
  have a1 := fun w => no_leaf 82 (.agg #[.slice aa na ca, .pointer (some ⟨gk, 0, none⟩)]) w (by decide)
  have a2 := fun w => as_road (.agg #[.slice aa na ca, .pointer (some ⟨gk, 0, none⟩)]) w
  clear HA KE0 KP0 HB k1 k2 k3 hKD hK1
  go_enter Try.func30, Try.ntmps30
  go_wp2_with fail
  refine KE.out.mono ?_
  rintro e w1 ⟨rfl, rfl⟩
  go_upto_region 11 with fail
  generalize (w.alloc (.cells #[.slice aa na ca, .pointer (some ⟨gk, 0, none⟩)] 82)) = W1 at *
  have Q0 : Hid (W1.drew.cell? ⟨w.heap.size, 0, none⟩ = some (.slice aa na ca)) := q0
  have Q1 : Hid (W1.drew.cell? ⟨w.heap.size, 1, none⟩ = some (.pointer (some ⟨gk, 0, none⟩))) := q1
  have hw0 : RW11 W1.drew K1x false false W1.drew := ⟨fun _ => rfl, nofun⟩
  clear q0 q1
  generalize w.heap.size = g8 at *
  refine RI.wp_region_inv (PR11 W1.drew K1x KDx A aa ap ax ar na ca np cp nx cx nr cr gk g8) (by kernel_rfl) (by kernel_rfl) ?_ ?_ ?_
  · exact ⟨.nilIface, undef, undef, undef, undef, undef, undef, undef, undef, undef, rfl, hw0, nofun, nofun, nofun, nofun, nofun, nofun, nofun, nofun, nofun, nofun, nofun, nofun, nofun, nofun⟩
  · skip
    intro d x wx i hI hi hm
    obtain ⟨u6, u47, u48, u49, u50, u51, u52, u53, u54, u55, rfl, hw, p0, p1, p2, p3, p4, p5, p6, z7, z8, z9, y4, y7, y8, y9⟩ := hI
    have hi' : i = 0 ∨ i = 1 ∨ i = 2 ∨ i = 3 ∨ i = 4 ∨ i = 5 ∨ i = 6 ∨ i = 7 ∨ i = 8 ∨ i = 9 := by simp at hi; omega
    have hd := hm.2
    have hf := hm.1
    clear hm hi
    rcases hi' with rfl | rfl | rfl | rfl | rfl | rfl | rfl | rfl | rfl | rfl
    · refine RI.wpOp_plain rfl rfl ?_
      go_simp
      exact ⟨u6, _, u48, u49, u50, u51, u52, u53, u54, u55, rfl, hw, fun _ => rfl, p1, p2, p3, p4, p5, p6, z7, z8, z9, y4, y7, y8, y9⟩
    · have hd := hd _ rfl
      simp [Region.binds] at hd
      obtain rfl := p0 (by simp [hd])
      refine RI.wpOp_plain rfl rfl ?_
      have h8 : d 8 = false := by cases h : d 8 with | false => rfl | true => exact absurd (y8 h).1 (by simp [hf])
      have x0 : wx.cell? ⟨g8, 0, none⟩ = some (.slice aa na ca) := by
        cases h7 : d 7 with
        | false => rw [hw.k h7]; exact Q0.out
        | true => exact QK.out _ (hw.b h7 h8)
      go_simp
      exact ⟨u6, _, _, u49, u50, u51, u52, u53, u54, u55, rfl, hw, p0, fun _ => rfl, p2, p3, p4, p5, p6, z7, z8, z9, y4, y7, (fun h => absurd h (by simp [RI.don, h8])), y9⟩
    · refine RI.wpOp_plain rfl rfl ?_
      go_simp
      exact ⟨u6, u47, u48, _, u50, u51, u52, u53, u54, u55, rfl, hw, p0, p1, fun _ => rfl, p3, p4, p5, p6, z7, z8, z9, y4, y7, y8, y9⟩
    · have hd := hd _ rfl
      simp [Region.binds] at hd
      obtain rfl := p2 (by simp [hd])
      refine RI.wpOp_plain rfl rfl ?_
      have h7 : d 7 = false := by cases h : d 7 with | false => rfl | true => exact absurd (y7 h) (by simp [hf])
      have x0 := Q1.out
      rw [← hw.k h7] at x0
      go_simp
      exact ⟨u6, u47, u48, _, _, u51, u52, u53, u54, u55, rfl, hw, p0, p1, p2, fun _ => rfl, p4, p5, p6, z7, z8, z9, fun _ => rfl, (fun h => absurd h (by simp [RI.don, h7])), y8, y9⟩
    · have hd := hd _ rfl
      simp [Region.binds] at hd
      obtain rfl := p3 (by simp [hd])
      refine RI.wpOp_plain rfl rfl ?_
      go_simp
      exact ⟨u6, u47, u48, u49, _, _, u52, u53, u54, u55, rfl, hw, p0, p1, p2, p3, fun _ => rfl, p5, p6, z7, z8, z9, fun _ => by simp [RI.don, hd], y7, y8, y9⟩
    · refine RI.wpOp_plain rfl rfl ?_
      go_simp
      exact ⟨u6, u47, u48, u49, u50, u51, _, u53, u54, u55, rfl, hw, p0, p1, p2, p3, p4, fun _ => rfl, p6, z7, z8, z9, y4, y7, y8, y9⟩
    · refine RI.wpOp_plain rfl rfl ?_
      go_simp
      exact ⟨u6, u47, u48, u49, u50, u51, u52, _, u54, u55, rfl, hw, p0, p1, p2, p3, p4, p5, fun _ => rfl, z7, z8, z9, y4, y7, y8, y9⟩
    · have hd := hd _ rfl
      simp [Region.binds] at hd
      obtain rfl := p4 (by simp [hd])
      obtain rfl := p5 (by simp [hd])
      obtain rfl := p6 (by simp [hd])
      refine RI.wpOp_plain rfl rfl ?_
      have h8 : d 8 = false := by cases h : d 8 with | false => rfl | true => exact absurd (y8 h).2 (by simp [hf])
      have kp := KP.out
      rw [← hw.k hf] at kp
      go_simp
      refine (kp).mono ?_
      rintro e w1 ⟨ty, yy, rfl, hk, hk1⟩
      exact ⟨u6, u47, u48, u49, _, _, _, _, _, u55, rfl, ⟨nofun, fun _ _ => hk1⟩, p0, p1, p2, fun _ => rfl, p4, p5, p6, fun _ => ⟨_, _, rfl, fun _ => hk⟩, (fun h => absurd h (by simp [RI.don, h8])), (fun h => absurd (y9 h) (by simp [h8])), (y4), fun _ => by have := y4 (by simp [hd]); simp [RI.don, this], (fun h => absurd h (by simp [RI.don, h8])), (y9)⟩
    · have hd := hd _ rfl
      simp [Region.binds] at hd
      obtain rfl := p1 (by simp [hd])
      refine RI.wpOp_plain rfl rfl ?_
      obtain ⟨ty, yy, rfl, hkd⟩ := z7 (by simp [hd])
      have kb := KB.out _ _ (hkd hf)
      have h9 : d 9 = false := by cases h : d 9 with | false => rfl | true => exact absurd (y9 h) (by simp [hf])
      go_simp
      refine (kb).mono ?_
      rintro e w1 ⟨y, rfl, hy⟩
      exact ⟨u6, u47, _, u49, _, u51, u52, u53, _, _, rfl, ⟨fun h => absurd h (by simp [RI.don, hd]), fun _ h => nomatch h⟩, p0, p1, p2, fun _ => rfl, p4, p5, p6, fun _ => ⟨_, _, rfl, fun h => nomatch h⟩, fun _ => hy, (fun h => absurd h (by simp [RI.don, h9])), (y4), (y7), fun _ => ⟨by simp [RI.don, hd], by simp [RI.don, hd]⟩, (fun h => absurd h (by simp [RI.don, h9]))⟩
    · have hd := hd _ rfl
      simp [Region.binds] at hd
      obtain rfl := p0 (by simp [hd])
      obtain rfl := p1 (by simp [hd])
      obtain rfl := p2 (by simp [hd])
      obtain rfl := p3 (by simp [hd])
      obtain rfl := p4 (by simp [hd])
      obtain rfl := p5 (by simp [hd])
      obtain rfl := p6 (by simp [hd])
      refine RI.wpOp_plain rfl rfl ?_
      go_simp
      exact ⟨_, _, _, _, _, _, _, _, u54, u55, rfl, hw, p0, p1, p2, p3, p4, p5, p6, z7, z8, fun _ => z8 (by simp [hd]), y4, y7, y8, fun _ => by simp [RI.don, hd]⟩
  · skip
    intro d x wx hI hd
    obtain ⟨u6, u47, u48, u49, u50, u51, u52, u53, u54, u55, rfl, hw, p0, p1, p2, p3, p4, p5, p6, z7, z8, z9, y4, y7, y8, y9⟩ := hI
    have hfin := z9 (hd 9 (by decide))
    have HF : Hid (A u6 wx) := hfin
    clear hw hfin p0 p1 p2 p3 p4 p5 p6 z7 z8 z9 y4 y7 y8 y9
    go_wp2_with fail
    go_ret
    exact ⟨_, rfl, HF.out⟩
end Tr
end Go.Proofs.Ythlgneadcagleaa
namespace Go.Proofs.Ythlgneadcagleaa
namespace Tr
open Nb Go.RowKit
theorem cut_yes {S T : Nat → Prop} {p q : By} {ao : Option Addr} {c1 : Nat} {v : Value} {w : World} (hp : Bs S p (.slice ao p.length c1) w) (hq : Bs T q v w) (h0 : q ≠ []) (hpre : q <+: p) : Calls Try.prog 47 #[.slice ao p.length c1, v] w fun e w' => e = .returned (.tuple #[sfrom ao p.length c1 q.length, .bool true]) ∧ w' = w := by
  obtain ⟨a2, c2, rfl, _⟩ := Bs_form hq
  have k := Try.bytes_CutPrefix_all ao a2 p.length c1 q.length c2 (ns p) (ns q) w (ns_len p) (ns_len q) (Bs_in hp).2.1 (Bs_in hp).2.2 (Bs_in hq).2.2
  rw [ns_of, ns_of] at k
  have hb : Lib.hasPrefix p q = true := List.isPrefixOf_iff_prefix.2 hpre
  refine k.mono fun e w' he => ⟨?_, he.2⟩
  rw [he.1, hb]
  have hl : 0 < p.length := by
    have := hpre.length_le
    have := List.length_pos_iff.2 h0
    omega
  obtain ⟨ax, cx, ex, _, h3⟩ := hp
  injection ex with e1 e2 e3
  subst e1
  obtain ⟨kk, off, rfl, _⟩ := h3 hl
  cases hqq : q with
  | nil => exact absurd hqq h0
  | cons c r =>
    rw [← hqq]
    have e1 : Lib.trimPrefixV (some ⟨kk, off, none⟩) p.length c1 (ns p) (ns q) = Lib.sliceFrom kk off p.length c1 q.length := by
      rw [hqq]
      show Lib.bytesTrimPrefix kk off p.length c1 (ns p) (ns (c :: r)) = _
      unfold Lib.bytesTrimPrefix
      rw [ns_of, ns_of, ← hqq, if_pos hb, ns_len]
    rw [e1, sf_eq]
theorem cut_no {S T : Nat → Prop} {p q : By} {u v : Value} {w : World} (hp : Bs S p u w) (hq : Bs T q v w) (hpre : ¬ q <+: p) : Calls Try.prog 47 #[u, v] w fun e w' => (∃ r, e = .returned (.tuple #[r, .bool false])) ∧ w' = w := by
  refine (cut_bs hp hq).mono fun e w' he => ?_
  obtain ⟨x, h1, _, h3⟩ := he
  have hb : q.isPrefixOf p = false := by
    cases h : q.isPrefixOf p with
    | false => rfl
    | true => exact absurd (List.isPrefixOf_iff_prefix.1 h) hpre
  rw [hb] at h1
  exact ⟨⟨x, h1⟩, h3⟩
theorem kid_below {lo : Nat} {w W wx : World} {t : Nd} {p x : By} {F : Nat → Prop} {y : Value} (hb : Below w.heap.size w W) (h : Kid lo W t p x F y wx) : Kid lo w t p x F y wx := by
  obtain ⟨t', F', h1, h2, h3, h4, h5⟩ := h
  exact ⟨t', F', h1, h2, h3, fun z hz => (h4 z hz).imp id (fun h => Nat.le_trans hb.size h), (ch_below hb).trans h5 (fun z _ hz => hz)⟩
theorem ln_up {N : Nat} {t' t : Nd} {p x : By} (h : Up t' t p x) (hl : Ln N t) (hp : p.length ≤ N) : Ln N t' := fun q hq => by
  rw [h q] at hq
  split at hq
  · rename_i e; rw [e]; exact hp
  · exact hl q hq
theorem put_all (lo N : Nat) (hN : N ≤ 65536) : ∀ (n : Nat) (t : Nd) (p x : By) (y pv xv : Value) (F : Nat → Prop) (w : World), p.length ≤ n → In lo w t y F → Rs t → Ln N t → p.length ≤ N → Bs (Sb lo w) p pv w → Bs (Sb lo w) x xv w → Pt p → lo ≤ w.heap.size →
    Calls Try.prog 30 #[y, pv, xv] w fun e w' => ∃ y', e = .returned y' ∧ Kid lo w t p x F y' w' := by
  intro n
  induction n with
  | zero =>
    intro t p x y pv xv F w hn ht hs hl hpN hp hx hpt hlo
    have hp0 : p = [] := List.length_eq_zero_iff.1 (by omega)
    have ht0 := ht
    cases ht with
    | none a v ks F => exact kid_none ht0 rfl hp hx hpt
    | leaf a lv ks av vv F ha hv =>
      cases hs with
      | leaf _ _ _ hpa hlv =>
        obtain ⟨aa, ca, rfl, _⟩ := Bs_form ha
        obtain ⟨a3, c3, rfl, _⟩ := Bs_form hv
        obtain ⟨ap, cp, rfl, _⟩ := Bs_form hp
        obtain ⟨ax, cx, rfl, _⟩ := Bs_form hx
        have hal : a.length ≤ N := hl a (by rw [gt_leaf, if_pos rfl]; exact hlv)
        by_cases e : a = p
        · refine put_leaf_eq aa a3 ap ax _ ca _ c3 _ cp _ cx w _ (fun W hW => ?_) (fun W hW => ?_)
          · have := equal_bs (Bs_ch ha (ch_below (G := fun _ => False) hW)) (Bs_ch hp (ch_below (G := fun _ => False) hW))
            rw [show (a == p) = true from beq_iff_eq.2 e] at this
            exact this
          · refine (single_any F (Bs_ch hp (ch_below (G := fun _ => False) hW)) (Bs_ch hx (ch_below (G := fun _ => False) hW))).mono fun e' w' he => ?_
            obtain ⟨⟨y', h1, h2⟩, rfl⟩ := he
            obtain ⟨s1, s2⟩ := sing_spec p x hpt
            refine ⟨y', h1, _, F, h2, s1, fun q => ?_, fun z hz => .inl hz, ch_below hW⟩
            rw [s2, gt_leaf, e]
            by_cases e2 : q = p
            · rw [if_pos e2, if_pos e2]
            · rw [if_neg e2, if_neg e2, if_neg e2]
        · refine put_leaf_ne aa a3 ap ax _ ca _ c3 _ cp _ cx w _ (fun W hW => ?_) (fun W hW => ?_)
          · have := equal_bs (Bs_ch ha (ch_below (G := fun _ => False) hW)) (Bs_ch hp (ch_below (G := fun _ => False) hW))
            rw [show (a == p) = false from beq_eq_false_iff_ne.2 e] at this
            exact this
          · refine (branch_leaf (js := ks) (F := F) (Nat.le_trans hlo hW.size) (Bs_ch ha (ch_below (G := fun _ => False) hW)) (Bs_ch hv (ch_below (G := fun _ => False) hW)) (Bs_ch hp (ch_below (G := fun _ => False) hW)) (Bs_ch hx (ch_below (G := fun _ => False) hW)) hpa hpt (by omega) hlv e).mono fun e' w' he => ?_
            obtain ⟨y', h1, h2⟩ := he
            exact ⟨y', h1, kid_below hW h2⟩
    | road a v t av g F ha hk =>
      cases hs with
      | road _ _ _ hpa ha0 hk3 hst =>
        obtain ⟨aa, ca, rfl, _⟩ := Bs_form ha
        obtain ⟨ap, cp, rfl, _⟩ := Bs_form hp
        obtain ⟨ax, cx, rfl, _⟩ := Bs_form hx
        have hal : a.length ≤ N := by
          have := pl_le (.road a v t hpa ha0 hk3 hst) hl (by show (2 : Int) ≠ 3; decide) (by show (2 : Int) ≠ 0; decide)
          exact this
        have hnp : ¬ a <+: p := fun h => by
          have := h.length_le
          have := List.length_pos_iff.2 ha0
          omega
        refine put_road_no aa ap ax _ ca _ cp _ cx g w _ (fun W hW => cut_no (Bs_ch hp (ch_below (G := fun _ => False) hW)) (Bs_ch ha (ch_below (G := fun _ => False) hW)) hnp) (fun W hW => ?_)
        refine (branch_road (rv := v) (F := F) (Nat.le_trans hlo hW.size) (Bs_ch ha (ch_below (G := fun _ => False) hW)) (In_below hk hW) (Bs_ch hp (ch_below (G := fun _ => False) hW)) (Bs_ch hx (ch_below (G := fun _ => False) hW)) hpa hpt (by omega) hst hk3 ha0 hnp).mono fun e' w' he => ?_
        obtain ⟨y', h1, h2⟩ := he
        exact ⟨y', h1, kid_below hW h2⟩
    | fork a v ks g c F D hl16 hlo' hb hc hFg hv hi hg hD hs' =>
      cases hs with
      | fork _ _ _ _ hks h2 =>
        have KF := fput_any ht0 hks hp hx hpt (fun cb r e => absurd (hp0.symm.trans e) (by simp))
        obtain ⟨ap, cp, rfl, _⟩ := Bs_form hp
        obtain ⟨ax, cx, rfl, _⟩ := Bs_form hx
        refine put_fork g ap ax _ cp _ cx w _ _ KF (fun W hW => ?_)
        obtain ⟨v', ks', F', k1, k2, k3, k4, k5⟩ := hW
        refine (settle_any k1 k2 (ln_up k3 hl hpN) hN).mono fun e' w' he => ?_
        obtain ⟨⟨t', y', j1, j2, j3, j4⟩, j5⟩ := he
        exact ⟨y', j1, t', F', j2, j3, fun q => by rw [j4 q, k3 q], k4, k5.trans (ch_below j5) (fun _ _ h => h)⟩
  | succ n IH =>
    intro t p x y pv xv F w hn ht hs hl hpN hp hx hpt hlo
    have ht0 := ht
    cases ht with
    | none a v ks F => exact kid_none ht0 rfl hp hx hpt
    | leaf a lv ks av vv F ha hv =>
      cases hs with
      | leaf _ _ _ hpa hlv =>
        obtain ⟨aa, ca, rfl, _⟩ := Bs_form ha
        obtain ⟨a3, c3, rfl, _⟩ := Bs_form hv
        obtain ⟨ap, cp, rfl, _⟩ := Bs_form hp
        obtain ⟨ax, cx, rfl, _⟩ := Bs_form hx
        have hal : a.length ≤ N := hl a (by rw [gt_leaf, if_pos rfl]; exact hlv)
        by_cases e : a = p
        · refine put_leaf_eq aa a3 ap ax _ ca _ c3 _ cp _ cx w _ (fun W hW => ?_) (fun W hW => ?_)
          · have := equal_bs (Bs_ch ha (ch_below (G := fun _ => False) hW)) (Bs_ch hp (ch_below (G := fun _ => False) hW))
            rw [show (a == p) = true from beq_iff_eq.2 e] at this
            exact this
          · refine (single_any F (Bs_ch hp (ch_below (G := fun _ => False) hW)) (Bs_ch hx (ch_below (G := fun _ => False) hW))).mono fun e' w' he => ?_
            obtain ⟨⟨y', h1, h2⟩, rfl⟩ := he
            obtain ⟨s1, s2⟩ := sing_spec p x hpt
            refine ⟨y', h1, _, F, h2, s1, fun q => ?_, fun z hz => .inl hz, ch_below hW⟩
            rw [s2, gt_leaf, e]
            by_cases e2 : q = p
            · rw [if_pos e2, if_pos e2]
            · rw [if_neg e2, if_neg e2, if_neg e2]
        · refine put_leaf_ne aa a3 ap ax _ ca _ c3 _ cp _ cx w _ (fun W hW => ?_) (fun W hW => ?_)
          · have := equal_bs (Bs_ch ha (ch_below (G := fun _ => False) hW)) (Bs_ch hp (ch_below (G := fun _ => False) hW))
            rw [show (a == p) = false from beq_eq_false_iff_ne.2 e] at this
            exact this
          · refine (branch_leaf (js := ks) (F := F) (Nat.le_trans hlo hW.size) (Bs_ch ha (ch_below (G := fun _ => False) hW)) (Bs_ch hv (ch_below (G := fun _ => False) hW)) (Bs_ch hp (ch_below (G := fun _ => False) hW)) (Bs_ch hx (ch_below (G := fun _ => False) hW)) hpa hpt (by omega) hlv e).mono fun e' w' he => ?_
            obtain ⟨y', h1, h2⟩ := he
            exact ⟨y', h1, kid_below hW h2⟩
    | road a v t av g F ha hk =>
      cases hs with
      | road _ _ _ hpa ha0 hk3 hst =>
        obtain ⟨aa, ca, rfl, _⟩ := Bs_form ha
        obtain ⟨ap, cp, rfl, _⟩ := Bs_form hp
        obtain ⟨ax, cx, rfl, _⟩ := Bs_form hx
        have hal : a.length ≤ N := by
          have := pl_le (.road a v t hpa ha0 hk3 hst) hl (by show (2 : Int) ≠ 3; decide) (by show (2 : Int) ≠ 0; decide)
          exact this
        by_cases hpre : a <+: p
        · obtain ⟨r, hr⟩ := hpre
          have hdr : p.drop a.length = r := by rw [← hr, List.drop_left]
          have hlp : p.length = a.length + r.length := by rw [← hr, List.length_append]
          have ha1 := List.length_pos_iff.2 ha0
          have hlt : Ln N t := fun q hq => by
            have := hl (a ++ q) (by rw [gt_road_at]; exact hq)
            rw [List.length_append] at this
            omega
          have hptr : Pt r := fun c hc => hpt c (by rw [← hr]; exact List.mem_append_right _ hc)
          refine put_road_yes aa ap ax _ _ ca _ cp _ cx _ _ g w (fun W W' => Ch lo F W W' ∧ W.heap[w.heap.size]? = some (.cells #[.slice aa a.length ca, .pointer (some ⟨g, 0, none⟩)] 82) ∧ w.heap.size < W.heap.size) (fun W y' W' => Kid lo W t r x F y' W') _ (fun W hW => cut_yes (Bs_ch hp (ch_below (G := fun _ => False) hW)) (Bs_ch ha (ch_below (G := fun _ => False) hW)) ha0 ⟨r, hr⟩) (fun W hW hbox => ⟨?_, fun W' hW' => ?_, fun y' W' hkd => ?_⟩)
          · have hbs := Bs_from (c := a.length) (Bs_ch hp (ch_below (G := fun _ => False) hW)) (by omega)
            rw [hdr] at hbs
            refine (IH t r x _ _ _ F W (by omega) (In_below hk hW) hst hlt (by omega) hbs (Bs_ch hx (ch_below (G := fun _ => False) hW)) hptr (Nat.le_trans hlo hW.size)).mono fun e' w' he => ?_
            obtain ⟨y', h1, h2⟩ := he
            have h2' := h2
            obtain ⟨t', F', k1, k2, k3, k4, k5⟩ := h2
            obtain ⟨ty, yy, rfl⟩ := In_form k1
            exact ⟨ty, yy, h1, h2', k5, hbox, Pk.lt_of_heap hbox⟩
          · obtain ⟨c1, c2, c3⟩ := hW'
            refine World.cell?_of_block (a := ⟨w.heap.size, 0, none⟩) (c1.block _ c3 (fun hh => ?_))
            obtain ⟨_, _, c, hcc⟩ := hh
            rw [c2] at hcc
            injection hcc with hcc
            injection hcc with _ hcc
            exact absurd hcc (by decide)
          · obtain ⟨t', F', k1, k2, k3, k4, k5⟩ := hkd
            obtain ⟨b1, b2⟩ := beh_spec k2 a hpa
            have hch : Ch lo F w W' := (ch_below hW).trans k5 (fun _ _ h => h)
            refine (behind_tree (Bs_ch ha hch) k1 k2 (ln_up k3 hlt (by omega)) (by omega)).mono fun e' w' he => ?_
            obtain ⟨⟨y2, h1, h2⟩, h3⟩ := he
            refine ⟨y2, h1, _, F', h2, b1, ?_, fun z hz => (k4 z hz).imp id (fun h => Nat.le_trans hW.size h), hch.trans (ch_below h3) (fun _ _ h => h)⟩
            rw [← hr]
            exact up_road k3 b2
        · refine put_road_no aa ap ax _ ca _ cp _ cx g w _ (fun W hW => cut_no (Bs_ch hp (ch_below (G := fun _ => False) hW)) (Bs_ch ha (ch_below (G := fun _ => False) hW)) hpre) (fun W hW => ?_)
          refine (branch_road (rv := v) (F := F) (Nat.le_trans hlo hW.size) (Bs_ch ha (ch_below (G := fun _ => False) hW)) (In_below hk hW) (Bs_ch hp (ch_below (G := fun _ => False) hW)) (Bs_ch hx (ch_below (G := fun _ => False) hW)) hpa hpt (by omega) hst hk3 ha0 hpre).mono fun e' w' he => ?_
          obtain ⟨y', h1, h2⟩ := he
          exact ⟨y', h1, kid_below hW h2⟩
    | fork a v ks g c F D hl16 hlo' hb hc hFg hv hi hg hD hs' =>
      cases hs with
      | fork _ _ _ _ hks h2 =>
        have KF := fput_any ht0 hks hp hx hpt (fun cb r e W0 y' qv' D' hb' hi' hr' hx' => by
          have hc16 : cb.toNat < 16 := hpt cb (by rw [e]; exact List.mem_cons_self ..)
          have hlen : p.length = r.length + 1 := by rw [e]; rfl
          exact IH _ r x y' qv' _ D' W0 (by omega) hi' (hks _ hc16) (ln_kid hl hc16) (by omega) hr' hx' (fun c hc => hpt c (by rw [e]; exact List.mem_cons_of_mem _ hc)) (Nat.le_trans hlo hb'.size))
        obtain ⟨ap, cp, rfl, _⟩ := Bs_form hp
        obtain ⟨ax, cx, rfl, _⟩ := Bs_form hx
        refine put_fork g ap ax _ cp _ cx w _ _ KF (fun W hW => ?_)
        obtain ⟨v', ks', F', k1, k2, k3, k4, k5⟩ := hW
        refine (settle_any k1 k2 (ln_up k3 hl hpN) hN).mono fun e' w' he => ?_
        obtain ⟨⟨t', y', j1, j2, j3, j4⟩, j5⟩ := he
        exact ⟨y', j1, t', F', j2, j3, fun q => by rw [j4 q, k3 q], k4, k5.trans (ch_below j5) (fun _ _ h => h)⟩
end Tr
end Go.Proofs.Ythlgneadcagleaa
namespace Go.Proofs.Ythlgneadcagleaa
namespace RI
end RI
namespace Tr
open Nb Go.RowKit
end Tr
end Go.Proofs.Ythlgneadcagleaa
namespace Go.Proofs.Ythlgneadcagleaa
namespace Tr
open Nb Go.RowKit
theorem infoNd : (Try.prog.info? 25).map (·.size) = some 4 := by kernel_rfl
structure B4 (G : Nat) (w : World) : Prop where
  hi : G < w.heap.size
  c : ∀ o, o < 4 → (w.cell? ⟨G, o, none⟩).isSome = true
  f : ∀ o, w.frozen? ⟨G, o, none⟩ = false
theorem B4_gb {G : Nat} {w w' : World} {r : Option Nat} (h : B4 G w) (hb : w.grownBy w' r) (hr : some G ≠ r) : B4 G w' := by
  have hbk : w'.heap[G]? = w.heap[G]? := hb.block G h.hi hr
  exact ⟨Nat.lt_of_lt_of_le h.hi hb.size, fun o ho => by rw [World.cell?_of_block (a := ⟨G, o, none⟩) hbk]; exact h.c o ho, fun o => (World.frozen?_of_block (a := ⟨G, o, none⟩) hbk).trans (h.f o)⟩
theorem B4_new (w : World) : B4 w.heap.size (w.alloc (.cells #[.int .i64 0, .slice none 0 0, .slice none 0 0, .slice none 0 0] 25)) := by
  have hn := heap_alloc_new w (.cells #[.int .i64 0, .slice none 0 0, .slice none 0 0, .slice none 0 0] 25)
  refine ⟨by simp, fun o ho => ?_, fun o => by simp only [World.frozen?, hn]; simp⟩
  simp only [World.cell?, hn]
  have : o = 0 ∨ o = 1 ∨ o = 2 ∨ o = 3 := by omega
  rcases this with rfl | rfl | rfl | rfl <;> rfl
theorem gb_refl (w : World) (r : Option Nat) : w.grownBy w r := ⟨rfl, rfl, rfl, Nat.le_refl _, fun _ _ _ => rfl⟩
theorem gb_trans {a b c : World} {r : Option Nat} (h : a.grownBy b r) (k : b.grownBy c r) : a.grownBy c r :=
  ⟨k.os.trans h.os, k.tape.trans h.tape, k.output.trans h.output, Nat.le_trans h.size k.size, fun j hj hne => (k.block j (Nat.lt_of_lt_of_le hj h.size) hne).trans (h.block j hj hne)⟩
theorem gb_set (a : World) (g o : Nat) (v : Value) : a.grownBy (a.setCell ⟨g, o, none⟩ v) (some g) := ⟨rfl, rfl, rfl, by simp [World.setCell], fun k _ hne => Below.heap_setCell _ _ _ _ (fun e => hne (by rw [e]))⟩
theorem gb_sets (G : Nat) : ∀ (vs : List Value) (o : Nat) (w : World), w.grownBy (w.setCells G o vs) (some G)
  | [], _, w => gb_refl w _
  | v :: vs, o, w => gb_trans (gb_set w G o v) (gb_sets G vs (o + 1) (w.setCell ⟨G, o, none⟩ v))
theorem wp_st4 {op : Oper} {a : Act} {w : World} {K : Act → World → Prop} {Q : Exit → Act → World → Prop} {x y : Operand} {G : Nat} {k : Int} {a1 a2 a3 : Option Addr} {n1 c1 n2 c2 n3 c3 : Nat} (ho : op.op = .store 25 x y)
    (hx : a.eval x = .pointer (some ⟨G, 0, none⟩)) (hy : a.eval y = .agg #[.int .i64 k, .slice a1 n1 c1, .slice a2 n2 c2, .slice a3 n3 c3]) (hB : B4 G w)
    (h : ∀ w', w.grownBy w' (some G) → w'.cell? ⟨G, 0, none⟩ = some (.int .i64 k) → w'.cell? ⟨G, 1, none⟩ = some (.slice a1 n1 c1) → w'.cell? ⟨G, 2, none⟩ = some (.slice a2 n2 c2) → w'.cell? ⟨G, 3, none⟩ = some (.slice a3 n3 c3) → K (a.put op.dst undef) w') : op.wp Try.prog a w K Q := by
  have ht : w.there G 0 4 := fun j hj => by rw [Nat.zero_add]; exact ⟨hB.c j hj, hB.f j⟩
  have hs := World.rangeAt_setCells_same w G 0 [.int .i64 k, .slice a1 n1 c1, .slice a2 n2 c2, .slice a3 n3 c3] ht
  refine wp_store_mid 25 x y ho G 0 #[.int .i64 k, .slice a1 n1 c1, .slice a2 n2 c2, .slice a3 n3 c3] hx hy ht infoNd (all_oneCell_toArray (cs := [.int .i64 k, .slice a1 n1 c1, .slice a2 n2 c2, .slice a3 n3 c3]) (fun v hv => by simp only [List.mem_cons, List.not_mem_nil, or_false] at hv; rcases hv with rfl | rfl | rfl | rfl <;> rfl)) ?_
  exact h _ (gb_sets G _ 0 w) (hs 0 _ rfl) (hs 1 _ rfl) (hs 2 _ rfl) (hs 3 _ rfl)
theorem resN (f : Func) (tm : Array Value) (W : World) (g s : Nat) (p q r t : Value) (hf : f.results = #[.cell s 25]) (h : tm.getD s undef = .pointer (some ⟨g, 0, none⟩)) (c0 : W.cell? ⟨g, 0, none⟩ = some p) (c1 : W.cell? ⟨g, 1, none⟩ = some q) (c2 : W.cell? ⟨g, 2, none⟩ = some r) (c3 : W.cell? ⟨g, 3, none⟩ = some t) : (results f tm).run Try.prog W = .ok (.agg #[p, q, r, t]) W := by
  simp at h
  simp [results, hf, go_sem, h, c0, c1, c2, c3]
end Tr
end Go.Proofs.Ythlgneadcagleaa
namespace Go.Proofs.Ythlgneadcagleaa
namespace Tr
open Nb Go.RowKit
theorem ks_lit {B : Nat} {w : World} {k : Int} {b1 b2 b3 : Option Addr} {m1 e1 m2 e2 m3 e3 : Nat} (h : B ≤ w.heap.size) : Ks (B ≤ ·) [(.int .i64 k, .slice b1 m1 e1, .slice b2 m2 e2, .slice b3 m3 e3)] (.slice (some ⟨w.heap.size, 0, none⟩) 1 1) (w.alloc (.cells #[.int .i64 k, .slice b1 m1 e1, .slice b2 m2 e2, .slice b3 m3 e3] 25)) := by
  have HA := heap_alloc_new w (.cells #[.int .i64 k, .slice b1 m1 e1, .slice b2 m2 e2, .slice b3 m3 e3] 25)
  refine ⟨_, _, rfl, Nat.le_refl _, fun _ => ⟨_, _, rfl, h, by simp, fun j hj => ?_⟩⟩
  have e : j = 0 := by simpa using hj
  subst e
  refine ⟨?_, ?_, ?_, ?_⟩ <;> (simp only [World.cell?, HA]; rfl)
end Tr
end Go.Proofs.Ythlgneadcagleaa
