import Derived.Test.YtefgamhnikeekaaDoorPackE
import Derived.Test.YtefgamhnikeekaaDoorPackC
import Derived.Test.YtefgamhnikeekaaDoorPackB
import Derived.Lib.ConvBytes
import Derived.Laws.Concat
import Derived.Test.YtefgamhnikeekaaDoorPackD
import Derived.Test.YtefgamhnikeekaaDoorPackA
namespace Go.Proofs.YtefgamhnikeekaaDoor
namespace Pk
open Go.RowKit Go.Shelf
attribute [local go_sem] Oper.semAt_some
set_option maxRecDepth 100000 in
set_option maxHeartbeats 4000000 in
theorem lay_any (g : Nat) (bs zs : List UInt8) (v : Value) (ao : Option Addr) (cap b : Nat) (w : World) (hw : Wt g bs v w) (hz : zs.length ≤ 1048576) (hlen : bs.length + zs.length ≤ 4398046511103) (vw : Sp.Vw zs ao w) (hb : 0 < zs.length → ∃ off, ao = some ⟨b, off, none⟩) (hbw : b < w.heap.size) (hbg : b ≠ g) (hbv : some b ≠ v.ownBlock) :
    Calls Tryd.prog 68 #[.pointer (some ⟨g, 0, none⟩), .slice ao zs.length cap] w fun e w' => e = .returned (.tuple #[]) ∧ ∃ v', Wt g (bs ++ zs.reverse) v' w' ∧ Fw g v v' w w' := by
  refine (callsIn_wide (n := 5)).1 ?_
  refine callsIn_of_wp_marks Tryd.func68 rfl trivial ?_ rfl
  simp only [Tryd.ntmps68, List.size_toArray, List.length_cons, List.length_nil, Nat.reduceAdd, Nat.reduceSub, Array.replicate_succ, Array.replicate_zero, List.push_toArray, List.append_toArray, List.nil_append, List.cons_append]
  gi_wp2_with (refine ⟨trivial, ?_⟩; gi_at_call 76; refine (bwd_in _ _ trivial rfl _ _ _ _).mono ?_; rintro e w' ⟨rfl, rfl⟩)
  have b1 : Below w.heap.size w (w.alloc (.cells #[.pointer (some ⟨g, 0, none⟩)] 110)) := (Below.refl _ _).alloc (Nat.le_refl _) _
  have b2 : Below w.heap.size w ((w.alloc (.cells #[.pointer (some ⟨g, 0, none⟩)] 110)).alloc (.cells #[.slice ao zs.length cap] 22)) := b1.alloc b1.size _
  have k1 : ((w.alloc (.cells #[.pointer (some ⟨g, 0, none⟩)] 110)).alloc (.cells #[.slice ao zs.length cap] 22)).cell? ⟨w.heap.size, 0, none⟩ = some (.pointer (some ⟨g, 0, none⟩)) := by simp [go_sem]
  have k2 : ((w.alloc (.cells #[.pointer (some ⟨g, 0, none⟩)] 110)).alloc (.cells #[.slice ao zs.length cap] 22)).cell? ⟨w.heap.size + 1, 0, none⟩ = some (.slice ao zs.length cap) := by simp [go_sem]
  have k3 : ((w.alloc (.cells #[.pointer (some ⟨g, 0, none⟩)] 110)).alloc (.cells #[.slice ao zs.length cap] 22)).heap.size = w.heap.size + 2 := by simp
  generalize (w.alloc (.cells #[.pointer (some ⟨g, 0, none⟩)] 110)).alloc (.cells #[.slice ao zs.length cap] 22) = W0 at *
  have g0 : Wt g bs v W0 := ⟨Nat.lt_of_lt_of_le hw.hi b2.size, (b2.frozen (p := ⟨g, 0, none⟩) hw.hi).trans hw.f, (b2.cell (p := ⟨g, 0, none⟩) hw.hi).trans hw.c, ownb hw.o b2⟩
  have L0 : Lw w g v w.heap.size (bs ++ ([] : List (Int × UInt8)).map (·.2)) W0 := by
    rw [List.map_nil, List.append_nil]
    exact ⟨v, g0, k1, by omega, ⟨b2.os, b2.tape, b2.output, b2.size, fun j hj _ _ => b2.block j hj, .inl rfl⟩, fun k hk => .inl (hw.o.lt k hk).2⟩
  refine wpIn_rangeFunc_ownF (F := Fence.wide) rfl (by decide) (gf := 79) (lb := #[.pointer (some ⟨w.heap.size + 1, 0, none⟩)]) rfl trivial (enters_of Tryd.func79 (by kernel_rfl) rfl)
    (bwd_stops Fence.wide 4 trivial rfl (by decide) (w.heap.size + 1) b cap ao zs (by omega) W0 (by omega) k2 (Sp.Vw_below vw b2) hb) Kp2_t ?hKb (Below.refl _ _) (fun _ => rfl)
    (fun pre W => Lw w g v w.heap.size (bs ++ pre.map (·.2)) W) (fun _ _ _ => False) (Lw_own w g v w.heap.size W0.heap.size (by omega) _) (fun _ _ _ _ _ h _ _ => h) L0
    (fun x => { tmps := #[.pointer (some ⟨g, 0, none⟩), .slice ao zs.length cap, .pointer (some ⟨w.heap.size, 0, none⟩), undef, undef, .int .u8 (x.2.toNat : Int), .slice ao zs.length cap, .func (.func 79) #[] #[.pointer (some ⟨w.heap.size + 1, 0, none⟩)], .int .i64 x.1, .int .u8 (x.2.toNat : Int), undef, undef, undef, undef, undef, undef, undef, undef, undef, undef], defers := [] }) ?assign ?body ?done ?stop
  case hKb =>
    intro W l o o' hl _ _ _ i
    have e1 : (W.putObj l o').heap[w.heap.size + 1]? = W.heap[w.heap.size + 1]? := World.putObj_heap_other (fun e => by omega)
    have e2 : (W.putObj l o').heap[b]? = W.heap[b]? := World.putObj_heap_other (fun e => by omega)
    exact ⟨World.cell?_of_block (a := ⟨w.heap.size + 1, i, none⟩) e1, World.cell?_of_block (a := ⟨b, i, none⟩) e2⟩
  case assign =>
    intro l x W K hK
    gi_wp2
    exact hK
  case body =>
    rintro l pre x W hI hN
    obtain ⟨v1, hw1, hc1, hh1, hf1, hx1⟩ := hI
    obtain ⟨a1, n1, p1, rfl⟩ : ∃ a1 n1 p1, v1 = .slice a1 n1 p1 := by
      rcases hw1.o.2 with ⟨h3, _⟩ | ⟨g3, cap3, cur, h3, _⟩
      · exact ⟨_, _, _, h3⟩
      · exact ⟨_, _, _, h3⟩
    obtain ⟨G, pq, WC, hap, own2, hgr, hG⟩ := app_one (w := W.drew) x.2 hw1.o.drew (by have := hw1.hi; show g + 1 ≤ W.heap.size; omega) (by rw [List.length_append, List.length_map]; omega)
    obtain ⟨kB, kC, mB, mC, fC, kO, kP, hL⟩ := Lw_step (w := w) (b := b) (v := v) x.2 hw1 hc1 hh1 hw.hi hbw hbg hbv hf1 hx1 own2 hgr hG
    have kA : W.drew.cell? ⟨w.heap.size, 0, none⟩ = some (.pointer (some ⟨g, 0, none⟩)) := hc1
    have mA : W.drew.cell? ⟨g, 0, none⟩ = some (.slice a1 n1 p1) := hw1.c
    have HL : Lw w g v w.heap.size (bs ++ (pre ++ [x]).map (·.2)) (WC.setCell ⟨g, 0, none⟩ (.slice (some ⟨G, 0, none⟩) ((bs ++ pre.map (·.2)).length + 1) pq)) := by
      rw [List.map_append, ← List.append_assoc]
      exact hL
    clear hL own2 hgr hG hf1 hx1
    obtain ⟨nn, hnn⟩ : ∃ nn, nn = (bs ++ pre.map (·.2)).length + 1 := ⟨_, rfl⟩
    rw [← hnn] at hap kO kP HL
    obtain ⟨WD, hWD⟩ : ∃ WD, WD = WC.setCell ⟨g, 0, none⟩ (.slice (some ⟨G, 0, none⟩) nn pq) := ⟨_, rfl⟩
    rw [← hWD] at kO kP HL
    obtain ⟨cz, hcz⟩ : ∃ cz : Int, cz = (x.2.toNat : Int) := ⟨_, rfl⟩
    rw [← hcz] at hap kB mB ⊢
    obtain ⟨WA, hWA⟩ : ∃ WA, WA = W.drew := ⟨_, rfl⟩
    obtain ⟨GB, hGB⟩ : ∃ GB, GB = WA.heap.size := ⟨_, rfl⟩
    rw [← hWA] at hap kB mB kA mA
    rw [← hGB] at hap
    obtain ⟨WB, hWB⟩ : ∃ WB, WB = WA.alloc (.cells #[.int .u8 cz] 5) := ⟨_, rfl⟩
    rw [← hWB] at hap kB mB
    have HWA : Hid (WA = W.drew) := hWA
    have HGB : Hid (GB = WA.heap.size) := hGB
    have HWB : Hid (WB = WA.alloc (.cells #[.int .u8 cz] 5)) := hWB
    have HWD : Hid (WD = WC.setCell ⟨g, 0, none⟩ (.slice (some ⟨G, 0, none⟩) nn pq)) := hWD
    clear hcz hnn hWA hGB hWB hWD
    refine wpIn_block ?_
    refine RI.wpIn_region_inv (LB w.heap.size g GB cz a1 (some ⟨G, 0, none⟩) n1 p1 nn pq (.pointer (some ⟨g, 0, none⟩)) (.slice ao zs.length cap) undef undef (.slice ao zs.length cap) (.func (.func 79) #[] #[.pointer (some ⟨w.heap.size + 1, 0, none⟩)]) (.int .i64 x.1) (.int .u8 cz) WA WB WC WD) (by kernel_rfl) (by kernel_rfl) ?_ ?_ ?_
    · exact ⟨undef, undef, undef, undef, undef, undef, undef, undef, undef, undef, rfl, .inl ⟨HWA.out.symm, rfl, rfl, rfl⟩, nofun, nofun, nofun, nofun, nofun, nofun, nofun, nofun, nofun, nofun⟩
    · intro d x wx i hI hi hm
      obtain ⟨u10, u11, u12, u13, u14, u15, u16, u17, u18, u19, rfl, hw, p0, p1, p2, p3, p4, p5, p6, p7, p8, p9⟩ := hI
      have hi' : i = 0 ∨ i = 1 ∨ i = 2 ∨ i = 3 ∨ i = 4 ∨ i = 5 ∨ i = 6 ∨ i = 7 ∨ i = 8 ∨ i = 9 ∨ i = 10 := by simp at hi; omega
      clear hi
      rcases hi' with rfl | rfl | rfl | rfl | rfl | rfl | rfl | rfl | rfl | rfl | rfl
      · have hi0 := hm.1
        have hr := WS_rd hw hi0 (by decide) kA kB kC
        clear hm
        refine RI.wpOpIn_plain rfl rfl (RI.wpIn_round nofun ?_)
        go_simp
        exact ⟨_, u11, u12, u13, u14, u15, u16, u17, u18, u19, rfl, WS_keep 0 (by decide) (by decide) (by decide) hw, fun _ => rfl, RI.keep (by decide) p1, RI.keep (by decide) p2, RI.keep (by decide) p3, RI.keep (by decide) p4, RI.keep (by decide) p5, RI.keep (by decide) p6, RI.keep (by decide) p7, RI.keep (by decide) p8, RI.keep (by decide) p9⟩
      · have hi0 := hm.1
        have hr := WS_rd hw hi0 (by decide) kA kB kC
        clear hm
        refine RI.wpOpIn_plain rfl rfl (RI.wpIn_round nofun ?_)
        go_simp
        exact ⟨u10, _, u12, u13, u14, u15, u16, u17, u18, u19, rfl, WS_keep 1 (by decide) (by decide) (by decide) hw, RI.keep (by decide) p0, fun _ => rfl, RI.keep (by decide) p2, RI.keep (by decide) p3, RI.keep (by decide) p4, RI.keep (by decide) p5, RI.keep (by decide) p6, RI.keep (by decide) p7, RI.keep (by decide) p8, RI.keep (by decide) p9⟩
      · have hd := hm.2 _ rfl
        simp [Region.binds] at hd
        have hi0 := hm.1
        obtain rfl := p1 (by simp [hd])
        clear hm
        refine RI.wpOpIn_plain rfl rfl (RI.wpIn_round nofun ?_)
        go_simp
        exact ⟨u10, _, _, u13, u14, u15, u16, u17, u18, u19, rfl, WS_keep 2 (by decide) (by decide) (by decide) hw, RI.keep (by decide) p0, RI.keep (by decide) p1, fun _ => rfl, RI.keep (by decide) p3, RI.keep (by decide) p4, RI.keep (by decide) p5, RI.keep (by decide) p6, RI.keep (by decide) p7, RI.keep (by decide) p8, RI.keep (by decide) p9⟩
      · have hd := hm.2 _ rfl
        simp [Region.binds] at hd
        have hi0 := hm.1
        obtain rfl := p2 (by simp [hd])
        clear hm
        refine RI.wpOpIn_plain rfl rfl (RI.wpIn_round nofun ?_)
        go_simp
        exact ⟨u10, u11, _, _, u14, u15, u16, u17, u18, u19, rfl, WS_keep 3 (by decide) (by decide) (by decide) hw, RI.keep (by decide) p0, RI.keep (by decide) p1, RI.keep (by decide) p2, fun _ => rfl, RI.keep (by decide) p4, RI.keep (by decide) p5, RI.keep (by decide) p6, RI.keep (by decide) p7, RI.keep (by decide) p8, RI.keep (by decide) p9⟩
      · have hd := hm.2 _ rfl
        simp [Region.binds] at hd
        have hi0 := hm.1
        obtain rfl := p3 (by simp [hd])
        have hr := WS_rd hw hi0 (by decide) mA mB mC
        clear hm
        refine RI.wpOpIn_plain rfl rfl (RI.wpIn_round nofun ?_)
        go_simp
        exact ⟨u10, u11, u12, _, _, u15, u16, u17, u18, u19, rfl, WS_keep 4 (by decide) (by decide) (by decide) hw, RI.keep (by decide) p0, RI.keep (by decide) p1, RI.keep (by decide) p2, RI.keep (by decide) p3, fun _ => rfl, RI.keep (by decide) p5, RI.keep (by decide) p6, RI.keep (by decide) p7, RI.keep (by decide) p8, RI.keep (by decide) p9⟩
      · have hi0 := hm.1
        clear hm
        refine RI.wpOpIn_plain rfl rfl (RI.wpIn_round nofun ?_)
        go_simp
        exact ⟨u10, u11, u12, u13, u14, _, u16, u17, u18, u19, rfl, WS_keep 5 (by decide) (by decide) (by decide) hw, RI.keep (by decide) p0, RI.keep (by decide) p1, RI.keep (by decide) p2, RI.keep (by decide) p3, RI.keep (by decide) p4, fun _ => rfl, RI.keep (by decide) p6, RI.keep (by decide) p7, RI.keep (by decide) p8, RI.keep (by decide) p9⟩
      · have hd := hm.2 _ rfl
        simp [Region.binds] at hd
        have hi0 := hm.1
        obtain ⟨ew, h7, h10⟩ := WS_A hw hi0
        subst ew
        obtain rfl := p5 (by simp [hd])
        clear hm
        refine RI.wpOpIn_plain rfl rfl (RI.wpIn_round nofun ?_)
        go_simp
        rw [← HGB.out, ← HWB.out]
        exact ⟨u10, u11, u12, u13, u14, _, _, u17, u18, u19, rfl, (.inr (.inl ⟨rfl, RI.don_same _ _, by rw [RI.don_other _ _ _ (by decide)]; exact h7, by rw [RI.don_other _ _ _ (by decide)]; exact h10⟩)), RI.keep (by decide) p0, RI.keep (by decide) p1, RI.keep (by decide) p2, RI.keep (by decide) p3, RI.keep (by decide) p4, RI.keep (by decide) p5, fun _ => rfl, RI.keep (by decide) p7, RI.keep (by decide) p8, RI.keep (by decide) p9⟩
      · have hd := hm.2 _ rfl
        simp [Region.binds] at hd
        have hi0 := hm.1
        obtain ⟨ew, h10⟩ := WS_B hw hi0 (by simp [hd])
        subst ew
        obtain rfl := p4 (by simp [hd])
        obtain rfl := p6 (by simp [hd])
        clear hm
        refine RI.wpOpIn_plain rfl rfl (RI.wpIn_round nofun ?_)
        refine upw_app rfl rfl rfl hap ?_
        exact ⟨u10, u11, u12, u13, _, u15, _, _, u18, u19, rfl, (.inr (.inr (.inl ⟨rfl, by rw [RI.don_other _ _ _ (by decide)]; simp [hd], RI.don_same _ _, by rw [RI.don_other _ _ _ (by decide)]; exact h10⟩))), RI.keep (by decide) p0, RI.keep (by decide) p1, RI.keep (by decide) p2, RI.keep (by decide) p3, RI.keep (by decide) p4, RI.keep (by decide) p5, RI.keep (by decide) p6, fun _ => rfl, RI.keep (by decide) p8, RI.keep (by decide) p9⟩
      · have hd := hm.2 _ rfl
        simp [Region.binds] at hd
        have hi0 := hm.1
        obtain rfl := p0 (by simp [hd])
        obtain rfl := p1 (by simp [hd])
        obtain rfl := p2 (by simp [hd])
        obtain rfl := p3 (by simp [hd])
        obtain rfl := p4 (by simp [hd])
        obtain rfl := p5 (by simp [hd])
        obtain rfl := p6 (by simp [hd])
        obtain rfl := p7 (by simp [hd])
        clear hm
        refine RI.wpOpIn_plain rfl rfl (RI.wpIn_round nofun ?_)
        go_simp
        exact ⟨_, _, _, _, _, _, _, _, _, u19, rfl, WS_keep 8 (by decide) (by decide) (by decide) hw, RI.keep (by decide) p0, RI.keep (by decide) p1, RI.keep (by decide) p2, RI.keep (by decide) p3, RI.keep (by decide) p4, RI.keep (by decide) p5, RI.keep (by decide) p6, RI.keep (by decide) p7, fun _ => rfl, RI.keep (by decide) p9⟩
      · have hd := hm.2 _ rfl
        simp [Region.binds] at hd
        have hi0 := hm.1
        obtain rfl := p0 (by simp [hd])
        obtain rfl := p1 (by simp [hd])
        obtain rfl := p2 (by simp [hd])
        obtain rfl := p3 (by simp [hd])
        obtain rfl := p4 (by simp [hd])
        obtain rfl := p5 (by simp [hd])
        obtain rfl := p6 (by simp [hd])
        obtain rfl := p7 (by simp [hd])
        obtain rfl := p8 (by simp [hd])
        clear hm
        refine RI.wpOpIn_plain rfl rfl (RI.wpIn_round nofun ?_)
        go_simp
        exact ⟨_, _, _, _, _, _, _, _, _, _, rfl, WS_keep 9 (by decide) (by decide) (by decide) hw, RI.keep (by decide) p0, RI.keep (by decide) p1, RI.keep (by decide) p2, RI.keep (by decide) p3, RI.keep (by decide) p4, RI.keep (by decide) p5, RI.keep (by decide) p6, RI.keep (by decide) p7, RI.keep (by decide) p8, fun _ => rfl⟩
      · have hd := hm.2 _ rfl
        simp [Region.binds] at hd
        have hi0 := hm.1
        obtain ew := WS_C hw hi0 (by simp [hd])
        subst ew
        obtain rfl := p0 (by simp [hd])
        obtain rfl := p1 (by simp [hd])
        obtain rfl := p2 (by simp [hd])
        obtain rfl := p3 (by simp [hd])
        obtain rfl := p4 (by simp [hd])
        obtain rfl := p5 (by simp [hd])
        obtain rfl := p6 (by simp [hd])
        obtain rfl := p7 (by simp [hd])
        obtain rfl := p9 (by simp [hd])
        clear hm
        refine RI.wpOpIn_plain rfl rfl (RI.wpIn_round nofun ?_)
        go_simp
        rw [← HWD.out]
        exact ⟨_, _, _, _, _, _, _, _, u18, _, rfl, (.inr (.inr (.inr ⟨rfl, RI.don_same _ _, fun j hj => by
          rw [RI.don_other _ _ _ (by omega)]
          have : j = 0 ∨ j = 1 ∨ j = 2 ∨ j = 3 ∨ j = 4 ∨ j = 5 ∨ j = 6 ∨ j = 7 := by omega
          rcases this with rfl | rfl | rfl | rfl | rfl | rfl | rfl | rfl <;> simp [hd]⟩))), RI.keep (by decide) p0, RI.keep (by decide) p1, RI.keep (by decide) p2, RI.keep (by decide) p3, RI.keep (by decide) p4, RI.keep (by decide) p5, RI.keep (by decide) p6, RI.keep (by decide) p7, RI.keep (by decide) p8, RI.keep (by decide) p9⟩
    · intro d x wx hI hd
      obtain ⟨u10, u11, u12, u13, u14, u15, u16, u17, u18, u19, rfl, hw, p0, p1, p2, p3, p4, p5, p6, p7, p8, p9⟩ := hI
      obtain rfl := WS_D hw (hd 10 (by decide))
      exact ⟨kO, kP, HL⟩
  case done =>
    rintro D ys W hD hS hI hK
    have hI2 := (Lw_own w g v w.heap.size W0.heap.size (by omega) (fun pre : List (Int × UInt8) => bs ++ pre.map (·.2))).putObj (.deferred none) hI hD hK rfl
    rw [hS] at hI2
    obtain ⟨v', hw', _, _, hf', _⟩ := hI2
    gi_wp2
    refine ⟨by simp, .inl ⟨_, _, rfl, run_takeDeferred hK, ?_⟩⟩
    exact ⟨_, results_none rfl _ _ _, rfl, v', hw', hf'⟩
  case stop =>
    rintro D c pre W _ _ h _
    exact h.elim
end Pk
end Go.Proofs.YtefgamhnikeekaaDoor
namespace Go.Proofs.YtefgamhnikeekaaDoor
namespace Pk
open Go.RowKit
def hdr (mark n : Nat) : List UInt8 := if n < 48 then [UInt8.ofNat (mark + n)] else UInt8.ofNat (mark + 47 + (nu n).length) :: nu n
mutual
def enc : It → List UInt8
  | .mk false t _ => if t.length = 1 ∧ Sp.bz t 0 < 128 then t else hdr 128 t.length ++ t
  | .mk true _ ks => hdr 192 (encs ks).length ++ encs ks
def encs : List It → List UInt8
  | [] => []
  | k :: r => enc k ++ encs r
end
theorem nu_8 (n : Nat) (h : n < 18446744073709551616) : (nu n).length ≤ 8 := by
  rcases Nat.lt_or_ge 8 (nu n).length with h1 | h1
  · exfalso
    have k := cb_low (nu n) (nu_cb n) (by omega)
    have hv : vb 0 (nu n) = n := nu_vb n (Nat.lt_trans h (by decide))
    rw [hv] at k
    have k2 : 256 ^ 8 ≤ 256 ^ ((nu n).length - 1) := Nat.pow_le_pow_right (by decide) (by omega)
    have k3 : (256 : Nat) ^ 8 = 18446744073709551616 := by decide
    omega
  · exact h1
theorem nu_pos (n : Nat) (h0 : 0 < n) (h : n < 18446744073709551616) : 0 < (nu n).length := by
  rcases Nat.eq_zero_or_pos (nu n).length with h1 | h1
  · exfalso
    have e : nu n = [] := List.length_eq_zero_iff.1 h1
    have hv : vb 0 (nu n) = n := nu_vb n (Nat.lt_trans h (by decide))
    rw [e] at hv
    have : vb 0 [] = 0 := rfl
    omega
  · exact h1
theorem u8_of (n : Nat) (h : n < 256) : (UInt8.ofNat n).toNat = n := by rw [UInt8.toNat_ofNat']; omega
theorem enc_pos (t : It) : 0 < (enc t).length := by
  cases t with
  | mk l t ks =>
    have hh : ∀ m n, 0 < (hdr m n).length := fun m n => by unfold hdr; split <;> simp
    cases l
    · unfold enc
      split
      · rename_i h; omega
      · rw [List.length_append]; have := hh 128 t.length; omega
    · unfold enc
      rw [List.length_append]
      have := hh 192 (encs ks).length
      omega
end Pk
end Go.Proofs.YtefgamhnikeekaaDoor
namespace Go.Proofs.YtefgamhnikeekaaDoor
namespace Pk
open Go.RowKit Go.Shelf
theorem wt_form {g : Nat} {bs : List UInt8} {v : Value} {w : World} (h : Wt g bs v w) : ∃ a n c, v = .slice a n c := by
  rcases h.o.2 with ⟨h3, _⟩ | ⟨g3, cap3, cur, h3, _⟩
  · exact ⟨_, _, _, h3⟩
  · exact ⟨_, _, _, h3⟩
theorem Wt_step {W WC : World} {g G pq n1 p1 : Nat} {a1 : Option Addr} {bs : List UInt8} (c : UInt8) (hw1 : Wt g bs (.slice a1 n1 p1) W)
    (own2 : WC.ownsRow (g + 1) 5 1 (.slice (some ⟨G, 0, none⟩) (bs.length + 1) pq) (bs ++ [c]).length (bcs (bs ++ [c]))) (hgr : (W.alloc (.cells #[.int .u8 (c.toNat : Int)] 5)).grownBy WC (Value.slice a1 n1 p1).ownBlock) (hG : (Value.slice a1 n1 p1).ownBlock = some G ∨ (W.alloc (.cells #[.int .u8 (c.toNat : Int)] 5)).heap.size ≤ G) :
    (W.alloc (.cells #[.int .u8 (c.toNat : Int)] 5)).cell? ⟨g, 0, none⟩ = some (.slice a1 n1 p1) ∧ WC.cell? ⟨g, 0, none⟩ = some (.slice a1 n1 p1) ∧ WC.frozen? ⟨g, 0, none⟩ = false ∧
    Wt g (bs ++ [c]) (.slice (some ⟨G, 0, none⟩) (bs.length + 1) pq) (WC.setCell ⟨g, 0, none⟩ (.slice (some ⟨G, 0, none⟩) (bs.length + 1) pq)) ∧ Fw g (.slice a1 n1 p1) (.slice (some ⟨G, 0, none⟩) (bs.length + 1) pq) W (WC.setCell ⟨g, 0, none⟩ (.slice (some ⟨G, 0, none⟩) (bs.length + 1) pq)) := by
  have hlo := hw1.o.lt
  have bB : Below W.heap.size W (W.alloc (.cells #[.int .u8 (c.toNat : Int)] 5)) := (Below.refl _ _).alloc (Nat.le_refl _) _
  have hsB := bB.size
  generalize W.alloc (.cells #[.int .u8 (c.toNat : Int)] 5) = WB at *
  have gs := gb_set WC g 0 (.slice (some ⟨G, 0, none⟩) (bs.length + 1) pq)
  have hgi := hw1.hi
  have ng : some g ≠ (Value.slice a1 n1 p1).ownBlock := fun e => by have := (hlo g e.symm).1; omega
  have cBg : WB.cell? ⟨g, 0, none⟩ = some (.slice a1 n1 p1) := (bB.cell (p := ⟨g, 0, none⟩) hgi).trans hw1.c
  have cCg : WC.cell? ⟨g, 0, none⟩ = some (.slice a1 n1 p1) := (World.cell?_of_block (a := ⟨g, 0, none⟩) (hgr.block g (by omega) ng)).trans cBg
  have fCg : WC.frozen? ⟨g, 0, none⟩ = false := (World.frozen?_of_block (a := ⟨g, 0, none⟩) (hgr.block g (by omega) ng)).trans ((bB.frozen (p := ⟨g, 0, none⟩) hgi).trans hw1.f)
  have hGg : G ≠ g := by
    rcases hG with h | h
    · have := (hlo G h).1; omega
    · omega
  have szD : (WC.setCell ⟨g, 0, none⟩ (.slice (some ⟨G, 0, none⟩) (bs.length + 1) pq)).heap.size = WC.heap.size := by simp [World.setCell]
  have hsC := hgr.size
  refine ⟨cBg, cCg, fCg, ⟨by rw [szD]; omega, by rw [World.frozen?_setCell]; exact fCg, World.cell?_setCell_same WC ⟨g, 0, none⟩ _ cCg, own2.kept gs (.inr (fun e => by
    have e2 : (some G : Option Nat) = some g := e
    injection e2 with e2
    exact hGg e2))⟩, ⟨gs.os.trans (hgr.os.trans bB.os), gs.tape.trans (hgr.tape.trans bB.tape), gs.output.trans (hgr.output.trans bB.output), by rw [szD]; omega, fun j hj h1 h2 => (gs.block j (by omega) (fun e => h1 (by injection e))).trans ((hgr.block j (by omega) h2).trans (bB.block j hj)), ?_⟩⟩
  rcases hG with h | h
  · exact .inl h.symm
  · right
    intro k hk
    have e2 : (some G : Option Nat) = some k := hk
    injection e2 with e2
    omega
set_option maxHeartbeats 1000000 in
set_option maxRecDepth 100000 in
theorem head_short (g mark n : Nat) (bs : List UInt8) (v : Value) (w : World) (hw : Wt g bs v w) (hn : n < 48) (hm : mark + 48 ≤ 256) (hl : bs.length + 1 ≤ 4398046511103) :
    Calls Tryd.prog 61 #[.pointer (some ⟨g, 0, none⟩), .int .u8 (mark : Int), .int .i64 (n : Int)] w fun e w' => e = .returned (.tuple #[]) ∧ ∃ v', Wt g (bs ++ [UInt8.ofNat (mark + n)]) v' w' ∧ Fw g v v' w w' := by
  obtain ⟨a1, n1, p1, rfl⟩ := wt_form hw
  have hu : (UInt8.ofNat (mark + n)).toNat = mark + n := u8_of _ (by omega)
  obtain ⟨G, pq, WC, hap, own2, hgr, hG⟩ := app_one (w := w) (UInt8.ofNat (mark + n)) hw.o (by have := hw.hi; omega) (by omega)
  obtain ⟨mB, mC, fC, HW, HF⟩ := Wt_step _ hw own2 hgr hG
  have mA := hw.c
  have ec : ((UInt8.ofNat (mark + n)).toNat : Int) = (mark : Int) + (n : Int) := by rw [hu]; omega
  rw [ec] at hap mB
  have d0 : decide ((n : Int) < 48) = true := decide_eq_true (by omega)
  have e1 : IntKind.u8.wrap (n : Int) = (n : Int) := by rw [IntKind.wrap_u8]; omega
  have e2 : IntKind.u8.wrap ((mark : Int) + (n : Int)) = (mark : Int) + (n : Int) := by rw [IntKind.wrap_u8]; omega
  have HR : Hid (∃ v', Wt g (bs ++ [UInt8.ofNat (mark + n)]) v' (WC.setCell ⟨g, 0, none⟩ (.slice (some ⟨G, 0, none⟩) (bs.length + 1) pq)) ∧ Fw g (.slice a1 n1 p1) v' w (WC.setCell ⟨g, 0, none⟩ (.slice (some ⟨G, 0, none⟩) (bs.length + 1) pq))) := ⟨_, HW, HF⟩
  clear HW HF own2 hgr hG hu ec hw hn hm hl
  generalize bs.length + 1 = m2 at *
  go_enter Tryd.func61, Tryd.ntmps61
  go_wp2_with (at_builtin; refine wpList_apw rfl rfl rfl rfl hap ?_)
  exact bodyPost_ret (results_none rfl _ _ _) rfl ⟨rfl, HR.out⟩
end Pk
end Go.Proofs.YtefgamhnikeekaaDoor
namespace Go.Proofs.YtefgamhnikeekaaDoor
namespace Pk
open Go.RowKit
set_option maxHeartbeats 400000 in
set_option maxRecDepth 100000 in
theorem trimb_at (l : List UInt8) (g off cap : Nat) (hcap : l.length ≤ cap) (hc63 : (cap : Int) ≤ 9223372036854775807) (w : World) (hg : g < w.heap.size) (hc : ∀ j, j < l.length → w.cell? ⟨g, off + j, none⟩ = some (.int .u8 (Sp.bz l j))) :
    Calls Tryd.prog 80 #[.slice (some ⟨g, off, none⟩) l.length cap, .int .u8 0] w fun e w' => ∃ v, e = .returned v ∧ Ty (· = g) (nz l) v w ∧ w' = w := by
  go_enter Tryd.func80, Tryd.ntmps80
  go_wp2_with fail
  have HG : Hid (g < w.heap.size) := hg
  go_loopw [0] (fun s wr => ∃ (l' : List UInt8) (ao : Option Addr) (o c : Nat), s = .slice ao l'.length c ∧ Hid (nz l' = nz l) ∧ l'.length ≤ c ∧ (c : Int) ≤ 9223372036854775807 ∧ (0 < l'.length → ao = some ⟨g, o, none⟩) ∧ Hid (∀ j, j < l'.length → w.cell? ⟨g, o + j, none⟩ = some (.int .u8 (Sp.bz l' j))) ∧ w = wr) (fun s _ => slen s)
  case atStart => exact ⟨l, _, off, cap, rfl, rfl, hcap, hc63, fun _ => rfl, hc, rfl⟩
  case round =>
    clear hc hcap hc63 hg
    obtain ⟨l', ao, o, c, rfl, ht, hlc, hc63, hao, hc, rfl⟩ := hrel
    cases l' with
    | nil =>
      simp only [List.length_nil]
      clear hao hc
      go_wp2
      go_ret
      exact ⟨_, rfl, by rw [← ht.out]; exact Ty_nil _ _, rfl⟩
    | cons x r =>
      obtain rfl := hao (by rw [List.length_cons]; omega)
      have c0 := hc.out 0 (by rw [List.length_cons]; omega)
      rw [Nat.add_zero, bz_head] at c0
      rw [List.length_cons] at hlc
      have hn : (x :: r).length = r.length + 1 := List.length_cons ..
      have HT0 : Hid (nz (x :: r) = nz l) := ht
      have HC0 : Hid (∀ j, j < (x :: r).length → w.cell? ⟨g, o + j, none⟩ = some (.int .u8 (Sp.bz (x :: r) j))) := hc
      have HC : Hid (∀ j, j < r.length → w.cell? ⟨g, o + 1 + j, none⟩ = some (.int .u8 (Sp.bz r j))) := fun j hj => by
        have := hc.out (j + 1) (by rw [List.length_cons]; omega)
        rw [bz_cons] at this
        rw [← this]
        congr 2
        omega
      have HV : Hid (Ty (· = g) (x :: r) (.slice (some ⟨g, o, none⟩) (x :: r).length c) w) := ⟨_, c, rfl, by rw [hn]; exact hlc, fun _ => ⟨g, o, rfl, rfl, HG.out, hc.out⟩⟩
      clear ht hc hao
      generalize (x :: r).length = n at *
      have n0 : (0 : Int) < (n : Int) := by omega
      have n1 : (1 : Int) ≤ (n : Int) := by omega
      have n2 : (1 : Int) ≤ (c : Int) := by omega
      have n3 : (n : Int) ≤ (c : Int) := by omega
      have n4 : decide ((0 : Int) < (n : Int)) = true := decide_eq_true n0
      have ne : Hid (n - 1 = r.length) := by show _ = _; omega
      have HN : Hid (n = r.length + 1) := hn
      clear hn
      by_cases hx : x = 0
      · subst hx
        have c1 : w.cell? ⟨g, o, none⟩ = some (.int .u8 0) := c0
        have HT : Hid (nz r = nz l) := by rw [← HT0.out]; rfl
        clear c0 HT0 HC0 HV
        by_cases hc1 : c = 1
        · subst hc1
          have hn1 : n = 1 := by have := HN.out; omega
          have hr : r = [] := List.length_eq_zero_iff.1 (by have := HN.out; omega)
          subst hr
          clear hlc n0 n1 n2 n3 n4 ne HN hc63
          subst hn1
          go_wp2_with fail
          go_roundw
          case rel => exact ⟨[], _, o, 0, rfl, HT, Nat.le_refl _, by decide, fun h => absurd h (by decide), fun j hj => absurd hj (by simp), trivial⟩
          case measure => exact Nat.zero_lt_one
        · have n5 : (1 : Int) < (c : Int) := by omega
          go_wp2_with fail
          go_roundw
          case rel => exact ⟨r, _, o + 1, c - 1, by rw [← ne.out], HT, by omega, by omega, fun _ => rfl, HC, trivial⟩
          case measure => simp only [slen]; omega
      · have hx2 : ¬ ((x.toNat : Int) = 0) := fun h => hx (UInt8.toNat_inj.1 (show x.toNat = (0 : UInt8).toNat by have : ((0 : UInt8).toNat) = 0 := rfl; omega))
        have hx3 : ((x.toNat : Int) == 0) = false := beq_false_of_ne hx2
        have hx4 : decide ((x.toNat : Int) = 0) = false := decide_eq_false hx2
        have n6 : ((n : Int) == 0) = false := beq_false_of_ne (by omega)
        have n7 : decide ((n : Int) = 0) = false := decide_eq_false (by omega)
        have hz : nz (x :: r) = x :: r := by rw [nz, if_neg hx]
        have HZ : Hid (nz l = x :: r) := HT0.out.symm.trans hz
        clear HC HC0 HT0 hx2 hz HN ne
        go_wp2
        go_ret
        exact ⟨_, rfl, by rw [HZ.out]; exact HV.out, rfl⟩
set_option maxHeartbeats 400000 in
set_option maxRecDepth 100000 in
theorem trim_at (l : List UInt8) (g off cap : Nat) (h0 : 0 < l.length) (hcap : l.length ≤ cap) (hc63 : (cap : Int) ≤ 9223372036854775807) (w : World) (hg : g < w.heap.size) (hc : ∀ j, j < l.length → w.cell? ⟨g, off + j, none⟩ = some (.int .u8 (Sp.bz l j))) :
    Calls Tryd.prog 78 #[.slice (some ⟨g, off, none⟩) l.length cap, .string ⟨#[0]⟩] w fun e w' => ∃ v, e = .returned v ∧ Ty (· = g) (nz l) v w ∧ w' = w := by
  have K : Hid (Calls Tryd.prog 80 #[.slice (some ⟨g, off, none⟩) l.length cap, .int .u8 0] w fun e w' => ∃ v, e = .returned v ∧ Ty (· = g) (nz l) v w ∧ w' = w) := trimb_at l g off cap hcap hc63 w hg hc
  have n6 : ((l.length : Int) == 0) = false := beq_false_of_ne (by omega)
  have n7 : decide ((l.length : Int) = 0) = false := decide_eq_false (by omega)
  have e0 : (({ data := #[0] } : ByteArray)[0]).toNat = 0 := rfl
  clear hc hg hcap hc63
  generalize nz l = Z at *
  generalize l.length = n at *
  go_enter Tryd.func78, Tryd.ntmps78
  go_wp2_with fail
  refine K.out.mono (fun e w2 he => ?_)
  obtain ⟨v, rfl, hs, rfl⟩ := he
  have HS : Hid (Ty (· = g) Z v w2) := hs
  clear hs K n6 n7 h0
  go_wp2
  go_ret
  exact ⟨_, rfl, HS.out, rfl⟩
set_option maxHeartbeats 400000 in
set_option maxRecDepth 100000 in
theorem num_new (a : Nat) (w : World) :
    Calls Tryd.prog 70 #[Wd a] w fun e w' => ∃ v, e = .returned v ∧ Ty (w.heap.size ≤ ·) (nu a) v w' ∧ Below w.heap.size w w' := by
  have KT : Hid (∀ (g : Nat) (W3 : World), g < W3.heap.size → Sp.CK .u8 g 32 (bt a) W3 → Calls Tryd.prog 78 #[.slice (some ⟨g, 0, none⟩) 32 32, .string ⟨#[0]⟩] W3 fun e w' => ∃ v, e = .returned v ∧ Ty (· = g) (nu a) v W3 ∧ w' = W3) := fun g W3 Z0 C0 => by
    have k := trim_at (wb a) g 0 32 (by rw [wb_len]; decide) (by rw [wb_len]; decide) (by decide) W3 Z0 (fun j hj => by
      rw [wb_len] at hj
      rw [Nat.zero_add, wb_bz a j hj]
      exact C0 j hj)
    rw [wb_len] at k
    exact k
  generalize nu a = N at *
  conv => arg 3; unfold Wd
  go_enter Tryd.func70, Tryd.ntmps70
  go_wp2_with fail
  have b0 : Below w.heap.size w (w.alloc (.cells #[.int .u64 (dg a 0), .int .u64 (dg a 1), .int .u64 (dg a 2), .int .u64 (dg a 3)] 92)) := (Below.refl _ _).alloc (Nat.le_refl _) _
  generalize w.alloc (.cells #[.int .u64 (dg a 0), .int .u64 (dg a 1), .int .u64 (dg a 2), .int .u64 (dg a 3)] 92) = W0 at b0 ⊢
  refine (bytes_any a W0).mono ?_
  rintro e w1 ⟨rfl, hb1⟩
  have b1 : Below w.heap.size w w1 := b0.trans (hb1.mono b0.size)
  clear b0 hb1
  dsimp only
  go_step
  go_step
  go_step
  go_step
  have q2 := Sp.Vb_zero32 w.heap.size w1 36 b1.size
  have b2 : Below w.heap.size w (w1.alloc (.cells #[.int .u8 0, .int .u8 0, .int .u8 0, .int .u8 0, .int .u8 0, .int .u8 0, .int .u8 0, .int .u8 0, .int .u8 0, .int .u8 0, .int .u8 0, .int .u8 0, .int .u8 0, .int .u8 0, .int .u8 0, .int .u8 0, .int .u8 0, .int .u8 0, .int .u8 0, .int .u8 0, .int .u8 0, .int .u8 0, .int .u8 0, .int .u8 0, .int .u8 0, .int .u8 0, .int .u8 0, .int .u8 0, .int .u8 0, .int .u8 0, .int .u8 0, .int .u8 0] 36)) := b1.alloc b1.size _
  generalize w1.alloc (.cells #[.int .u8 0, .int .u8 0, .int .u8 0, .int .u8 0, .int .u8 0, .int .u8 0, .int .u8 0, .int .u8 0, .int .u8 0, .int .u8 0, .int .u8 0, .int .u8 0, .int .u8 0, .int .u8 0, .int .u8 0, .int .u8 0, .int .u8 0, .int .u8 0, .int .u8 0, .int .u8 0, .int .u8 0, .int .u8 0, .int .u8 0, .int .u8 0, .int .u8 0, .int .u8 0, .int .u8 0, .int .u8 0, .int .u8 0, .int .u8 0, .int .u8 0, .int .u8 0] 36) = W2 at q2 b2 ⊢
  have hg9 : w.heap.size ≤ w1.heap.size := b1.size
  clear b1
  generalize w1.heap.size = g9 at q2 hg9 ⊢
  have t1 : W2.there g9 0 (Sp.h32 (bt a)).toArray.size := Sp.there32a q2.c q2.f
  have C0 : Sp.CK .u8 g9 32 (bt a) (W2.setCells g9 0 (Sp.h32 (bt a)).toArray.toList) := Sp.CK_set32 q2.c q2.f
  have B0 : Below w.heap.size w (W2.setCells g9 0 (Sp.h32 (bt a)).toArray.toList) := Sp.Bel_sets hg9 _ _ _ b2
  have Z0 : g9 < (W2.setCells g9 0 (Sp.h32 (bt a)).toArray.toList).heap.size := by rw [Sp.size_setCells]; exact q2.hi
  refine wpList_store_mid rfl 36 (.tmp 3) (.tmp 5) rfl g9 0 (Sp.h32 (bt a)).toArray rfl rfl t1 Sp.info32a (all_oneCell_toArray (Sp.h32_one (bt a))) ?_
  refine wpList_nil ?_
  clear q2 b2 t1
  generalize W2.setCells g9 0 (Sp.h32 (bt a)).toArray.toList = W3 at C0 B0 Z0 ⊢
  have KW : Hid (Calls Tryd.prog 78 #[.slice (some ⟨g9, 0, none⟩) 32 32, .string ⟨#[0]⟩] W3 fun e w' => ∃ v, e = .returned v ∧ Ty (· = g9) N v W3 ∧ w' = W3) := KT.out g9 W3 Z0 C0
  clear C0 Z0 KT
  generalize Sp.h32 (bt a) = hh at *
  go_wp2_with fail
  refine KW.out.mono (fun e w4 he => ?_)
  obtain ⟨v, rfl, hs, rfl⟩ := he
  have HS : Hid (Ty (w.heap.size ≤ ·) N v w4) := Ty_mono hs (fun k hk _ => by omega)
  have HB : Hid (Below w.heap.size w w4) := B0
  clear hs B0 KW
  go_wp2
  go_ret
  exact ⟨_, rfl, HS.out, HB.out⟩
end Pk
end Go.Proofs.YtefgamhnikeekaaDoor
namespace Go.Proofs.YtefgamhnikeekaaDoor
namespace Pk
open Go.RowKit Go.Shelf
theorem Wt_below {g : Nat} {bs : List UInt8} {v : Value} {w w' : World} (h : Wt g bs v w) (b : Below w.heap.size w w') : Wt g bs v w' :=
  ⟨Nat.lt_of_lt_of_le h.hi b.size, (b.frozen (p := ⟨g, 0, none⟩) h.hi).trans h.f, (b.cell (p := ⟨g, 0, none⟩) h.hi).trans h.c, ownb h.o b⟩
theorem Fw_below {g : Nat} {v : Value} {w w' : World} (b : Below w.heap.size w w') : Fw g v v w w' := ⟨b.os, b.tape, b.output, b.size, fun j hj _ _ => b.block j hj, .inl rfl⟩
set_option maxHeartbeats 2000000 in
set_option maxRecDepth 100000 in
theorem head_long (g mark n : Nat) (bs : List UInt8) (v : Value) (w : World) (hw : Wt g bs v w) (hn : 48 ≤ n) (hn2 : n ≤ 4194304) (hm : mark + 64 ≤ 256) (hl : bs.length + 16 ≤ 4398046511103) :
    Calls Tryd.prog 61 #[.pointer (some ⟨g, 0, none⟩), .int .u8 (mark : Int), .int .i64 (n : Int)] w fun e w' => e = .returned (.tuple #[]) ∧ ∃ v', Wt g (bs ++ (nu n).reverse ++ [UInt8.ofNat (mark + 47 + (nu n).length)]) v' w' ∧ Fw g v v' w w' := by
  have l8 := nu_8 n (by omega)
  have l0 := nu_pos n (by omega) (by omega)
  have KI : Hid (∀ wx : World, Calls Tryd.prog 71 #[.int .u64 (n : Int)] wx fun e w' => e = .returned (Wd n) ∧ Below wx.heap.size wx w') := fun wx => (int_any n (by omega) wx).mono fun e w' he => by
    first | exact he | exact ⟨he.1, by rw [he.2]; exact Below.refl _ _⟩
  have KN : Hid (∀ wx : World, Calls Tryd.prog 70 #[Wd n] wx fun e w' => ∃ v, e = .returned v ∧ Ty (wx.heap.size ≤ ·) (nu n) v w' ∧ Below wx.heap.size wx w') := num_new n
  have KL : Hid (∀ (ao : Option Addr) (cap b : Nat) (wx : World), Below w.heap.size w wx → Sp.Vw (nu n) ao wx → (∃ off, ao = some ⟨b, off, none⟩) → w.heap.size ≤ b → b < wx.heap.size → Calls Tryd.prog 68 #[.pointer (some ⟨g, 0, none⟩), .slice ao (nu n).length cap] wx fun e w' => e = .returned (.tuple #[]) ∧ ∃ v', Wt g (bs ++ (nu n).reverse) v' w' ∧ Fw g v v' w w') := fun ao cap b wx hb vw ho h1 h2 =>
    (lay_any g bs (nu n) v ao cap b wx (Wt_below hw hb) (by omega) (by omega) vw (fun _ => ho) h2 (by have := hw.hi; omega) (fun e => by have := (hw.o.lt b e.symm).2; omega)).mono fun e w' he => by
      obtain ⟨h3, v', h4, h5⟩ := he
      exact ⟨h3, v', h4, Fw_trans (Fw_below hb) h5⟩
  have HS : Hid (∀ (v1 : Value) (W : World), Wt g (bs ++ (nu n).reverse) v1 W → Fw g v v1 w W → ∃ a1 n1 p1 G m2 pq WC, v1 = .slice a1 n1 p1 ∧ W.cell? ⟨g, 0, none⟩ = some (.slice a1 n1 p1) ∧ (Builtin.append_ #[22, 22] 22 #[.slice a1 n1 p1, .slice (some ⟨W.heap.size, 0, none⟩) 1 1]).run Tryd.prog (W.alloc (.cells #[.int .u8 ((mark + 47 + (nu n).length : Nat) : Int)] 5)) = .ok (.slice (some ⟨G, 0, none⟩) m2 pq) WC ∧ (W.alloc (.cells #[.int .u8 ((mark + 47 + (nu n).length : Nat) : Int)] 5)).cell? ⟨g, 0, none⟩ = some (.slice a1 n1 p1) ∧ WC.cell? ⟨g, 0, none⟩ = some (.slice a1 n1 p1) ∧ WC.frozen? ⟨g, 0, none⟩ = false ∧ ∃ v', Wt g (bs ++ (nu n).reverse ++ [UInt8.ofNat (mark + 47 + (nu n).length)]) v' (WC.setCell ⟨g, 0, none⟩ (.slice (some ⟨G, 0, none⟩) m2 pq)) ∧ Fw g v v' w (WC.setCell ⟨g, 0, none⟩ (.slice (some ⟨G, 0, none⟩) m2 pq))) := fun v1 W h1 h2 => by
    obtain ⟨a1, n1, p1, rfl⟩ := wt_form h1
    have hu : (UInt8.ofNat (mark + 47 + (nu n).length)).toNat = mark + 47 + (nu n).length := u8_of _ (by omega)
    obtain ⟨G, pq, WC, hap, own2, hgr, hG⟩ := app_one (w := W) (UInt8.ofNat (mark + 47 + (nu n).length)) h1.o (by have := h1.hi; omega) (by rw [List.length_append, List.length_reverse]; omega)
    obtain ⟨mB, mC, fC, HW, HF⟩ := Wt_step _ h1 own2 hgr hG
    rw [hu] at hap mB
    exact ⟨a1, n1, p1, G, _, pq, WC, rfl, h1.c, hap, mB, mC, fC, _, HW, Fw_trans h2 HF⟩
  have d0 : decide ((n : Int) < 48) = false := decide_eq_false (by omega)
  have e1 : IntKind.u64.wrap (n : Int) = (n : Int) := by rw [IntKind.wrap_u64]; omega
  obtain ⟨L, hL⟩ : ∃ L, L = (nu n).length := ⟨_, rfl⟩
  have e2 : IntKind.u8.wrap ((mark : Int) + 48) = (mark : Int) + 48 := by rw [IntKind.wrap_u8]; omega
  have e3 : Hid (wrap64 ((L : Int) - 1) = (L : Int) - 1) := by show _ = _; unfold wrap64; omega
  have e4 : IntKind.u8.wrap ((L : Int) - 1) = (L : Int) - 1 := by rw [IntKind.wrap_u8]; omega
  have e5 : IntKind.u8.wrap ((mark : Int) + 48 + ((L : Int) - 1)) = ((mark + 47 + L : Nat) : Int) := by rw [IntKind.wrap_u8]; omega
  have HN : Hid (0 < (nu n).length) := l0
  rw [← hL] at KL HS ⊢
  have HLN : Hid (L = (nu n).length) := hL
  clear hw hn hn2 hm hl l8 l0 hL
  go_enter Tryd.func61, Tryd.ntmps61
  go_wp2_with fail
  refine (KI.out _).mono (fun e w1 he => ?_)
  obtain ⟨rfl, b1⟩ := he
  go_wp2_with fail
  refine (KN.out _).mono (fun e w2 he => ?_)
  obtain ⟨vs, rfl, ⟨ao, cap, rfl, hcap, hty⟩, b2'⟩ := he
  have b2 := b1.trans (b2'.mono b1.size)
  obtain ⟨b, off, rfl, hb1, hb2, hcs⟩ := hty HN.out
  have VW : Hid (Sp.Vw (nu n) (some ⟨b, off, none⟩) w2) := fun _ => ⟨b, off, rfl, hb2, hcs⟩
  have hbl : w.heap.size ≤ b := Nat.le_trans b1.size hb1
  rw [← HLN.out]
  clear KI KN hcap hty b2' hb1 hcs
  go_wp2_with fail
  refine (KL.out (some ⟨b, off, none⟩) cap b _ b2 VW.out ⟨off, rfl⟩ hbl hb2).mono (fun e w3 he => ?_)
  obtain ⟨rfl, v1, hw3, hf3⟩ := he
  obtain ⟨a1, n1, p1, G, m2, pq, WC, rfl, mA, hap, mB, mC, fC, HR⟩ := HS.out v1 w3 hw3 hf3
  have HR : Hid (∃ v', Wt g (bs ++ (nu n).reverse ++ [UInt8.ofNat (mark + 47 + L)]) v' (WC.setCell ⟨g, 0, none⟩ (.slice (some ⟨G, 0, none⟩) m2 pq)) ∧ Fw g v v' w (WC.setCell ⟨g, 0, none⟩ (.slice (some ⟨G, 0, none⟩) m2 pq))) := HR
  clear KL HS hw3 hf3 VW hbl hb2 b1 b2
  have e3 := e3.out
  go_wp2_with (at_builtin; refine wpList_apw rfl rfl rfl rfl hap ?_)
  go_end0
  exact ⟨rfl, HR.out⟩
theorem head_any (g mark n : Nat) (bs : List UInt8) (v : Value) (w : World) (hw : Wt g bs v w) (hn2 : n ≤ 4194304) (hm : mark + 64 ≤ 256) (hl : bs.length + 16 ≤ 4398046511103) :
    Calls Tryd.prog 61 #[.pointer (some ⟨g, 0, none⟩), .int .u8 (mark : Int), .int .i64 (n : Int)] w fun e w' => e = .returned (.tuple #[]) ∧ ∃ v', Wt g (bs ++ (hdr mark n).reverse) v' w' ∧ Fw g v v' w w' := by
  by_cases h : n < 48
  · have e : (hdr mark n).reverse = [UInt8.ofNat (mark + n)] := by unfold hdr; rw [if_pos h]; rfl
    rw [e]
    exact head_short g mark n bs v w hw h (by omega) (by omega)
  · have e : (hdr mark n).reverse = (nu n).reverse ++ [UInt8.ofNat (mark + 47 + (nu n).length)] := by unfold hdr; rw [if_neg h, List.reverse_cons]
    rw [e, ← List.append_assoc]
    exact head_long g mark n bs v w hw (by omega) hn2 hm hl
end Pk
end Go.Proofs.YtefgamhnikeekaaDoor
namespace Go.Proofs.YtefgamhnikeekaaDoor
namespace Pk
open Go.RowKit Go.Shelf
set_option maxHeartbeats 2000000 in
set_option maxRecDepth 100000 in
theorem text_w (g : Nat) (bs t : List UInt8) (ks : List It) (v : Value) (ao : Option Addr) (cap b : Nat) (w : World) (hw : Wt g bs v w) (hz : t.length ≤ 1048576) (hlen : bs.length + t.length + 16 ≤ 4398046511103) (vw : Sp.Vw t ao w) (hb : 0 < t.length → ∃ off, ao = some ⟨b, off, none⟩) (hbw : b < w.heap.size) (hbg : b ≠ g) (hbv : some b ≠ v.ownBlock) :
    Calls Tryd.prog 59 #[.pointer (some ⟨g, 0, none⟩), .slice ao t.length cap] w fun e w' => e = .returned (.tuple #[]) ∧ ∃ v', Wt g (bs ++ (enc (.mk false t ks)).reverse) v' w' ∧ Fw g v v' w w' := by
  have KL : Hid (Calls Tryd.prog 68 #[.pointer (some ⟨g, 0, none⟩), .slice ao t.length cap] w fun e w' => e = .returned (.tuple #[]) ∧ ∃ v', Wt g (bs ++ t.reverse) v' w' ∧ Fw g v v' w w') := lay_any g bs t v ao cap b w hw hz (by omega) vw hb hbw hbg hbv
  have KH : Hid (∀ (v1 : Value) (W : World), Wt g (bs ++ t.reverse) v1 W → Fw g v v1 w W → Calls Tryd.prog 61 #[.pointer (some ⟨g, 0, none⟩), .int .u8 128, .int .i64 (t.length : Int)] W fun e w' => e = .returned (.tuple #[]) ∧ ∃ v', Wt g (bs ++ t.reverse ++ (hdr 128 t.length).reverse) v' w' ∧ Fw g v v' w w') := fun v1 W h1 h2 =>
    (head_any g 128 t.length (bs ++ t.reverse) v1 W h1 (by omega) (by decide) (by rw [List.length_append, List.length_reverse]; omega)).mono fun e w' he => by
      obtain ⟨h3, v', h4, h5⟩ := he
      exact ⟨h3, v', h4, Fw_trans h2 h5⟩
  by_cases h1 : t.length = 1
  · obtain ⟨off, rfl⟩ := hb (by omega)
    obtain ⟨g', off', e1, hg', hc⟩ := vw (by omega)
    injection e1 with e1
    injection e1 with e2 e3 _
    subst e2 e3
    have c0 : w.cell? ⟨b, off, none⟩ = some (.int .u8 (Sp.bz t 0)) := hc 0 (by omega)
    have HB : Hid (∀ (v1 : Value) (W : World), Fw g v v1 w W → W.cell? ⟨b, off, none⟩ = some (.int .u8 (Sp.bz t 0))) := fun v1 W hf => (World.cell?_of_block (a := ⟨b, off, none⟩) (hf.block b hbw hbg hbv)).trans c0
    have d0 : ((t.length : Int) != 1) = false := by rw [h1]; rfl
    have l0 : (0 : Int) < (t.length : Int) := by omega
    by_cases h2 : Sp.bz t 0 < 128
    · have e : enc (.mk false t ks) = t := by unfold enc; rw [if_pos ⟨h1, h2⟩]
      rw [e]
      have d1 : decide ((128 : Int) ≤ Sp.bz t 0) = false := decide_eq_false (by omega)
      clear hw hz hlen vw hb hbw hbg hbv hc c0 h1 h2 e KH hg'
      generalize Sp.bz t 0 = X at *
      generalize t.length = n at *
      go_enter Tryd.func59, Tryd.ntmps59
      go_wp2_with fail
      refine KL.out.mono (fun e w1 he => ?_)
      obtain ⟨rfl, v1, h3, h4⟩ := he
      have cx := HB.out v1 w1 h4
      have HR : Hid (∃ v', Wt g (bs ++ t.reverse) v' w1 ∧ Fw g v v' w w1) := ⟨v1, h3, h4⟩
      clear h3 h4 HB KL
      go_wp2_with fail
      go_end0
      exact ⟨rfl, HR.out⟩
    · have e : (enc (.mk false t ks)).reverse = t.reverse ++ (hdr 128 t.length).reverse := by unfold enc; rw [if_neg (fun h => h2 h.2), List.reverse_append]
      rw [e, ← List.append_assoc]
      have d1 : decide ((128 : Int) ≤ Sp.bz t 0) = true := decide_eq_true (by omega)
      clear hw hz hlen vw hb hbw hbg hbv hc c0 h1 h2 e hg'
      generalize Sp.bz t 0 = X at *
      generalize bs ++ t.reverse ++ (hdr 128 t.length).reverse = Z at *
      generalize t.length = n at *
      go_enter Tryd.func59, Tryd.ntmps59
      go_wp2_with fail
      refine KL.out.mono (fun e w1 he => ?_)
      obtain ⟨rfl, v1, h3, h4⟩ := he
      have cx := HB.out v1 w1 h4
      have KK : Hid _ := KH.out v1 w1 h3 h4
      clear h3 h4 HB KL KH
      go_wp2_with fail
      refine Calls.mono KK.out (fun e w2 he => ?_)
      obtain ⟨rfl, hr⟩ := he
      have HR : Hid _ := hr
      clear hr
      go_wp2_with fail
      go_end0
      exact ⟨rfl, HR.out⟩
  · have e : (enc (.mk false t ks)).reverse = t.reverse ++ (hdr 128 t.length).reverse := by unfold enc; rw [if_neg (fun h => h1 h.1), List.reverse_append]
    rw [e, ← List.append_assoc]
    have d0 : ((t.length : Int) != 1) = true := bne_iff_ne.2 (by omega)
    clear hw hz hlen vw hb hbw hbg hbv h1 e
    generalize bs ++ t.reverse ++ (hdr 128 t.length).reverse = Z at *
    generalize t.length = n at *
    go_enter Tryd.func59, Tryd.ntmps59
    go_wp2_with fail
    refine KL.out.mono (fun e w1 he => ?_)
    obtain ⟨rfl, v1, h3, h4⟩ := he
    have KK : Hid _ := KH.out v1 w1 h3 h4
    clear h3 h4 KL KH
    go_wp2_with fail
    refine Calls.mono KK.out (fun e w2 he => ?_)
    obtain ⟨rfl, hr⟩ := he
    have HR : Hid _ := hr
    clear hr
    go_wp2_with fail
    go_end0
    exact ⟨rfl, HR.out⟩
end Pk
end Go.Proofs.YtefgamhnikeekaaDoor
namespace Go.Proofs.YtefgamhnikeekaaDoor
namespace Pk
open Go.RowKit Go.Shelf
attribute [local go_sem] Oper.semAt_some
def dn (n : Nat) (k : Nat) : Nat := n - 1 - k
theorem upto_dn (n : Nat) : upto (dn n) n = (List.range n).reverse := by
  apply List.ext_getElem
  · simp [upto]
  · intro i h1 h2
    simp [upto, dn]
def Fm (v : V3) : Prop := ∃ l b1 m1 q1 b2 m2 q2, v = (.bool l, .slice b1 m1 q1, .slice b2 m2 q2)
set_option maxRecDepth 100000 in
set_option maxHeartbeats 2000000 in
theorem bwi1_in (F : Fence) (n : Nat) (hf : F.fn 69) (hro : F.round = none) (hn : 1 ≤ n) (l Bs b off cap : Nat) (vs : List V3) (hreach : vs.length ≤ 4194304) (hfm : ∀ j, j < vs.length → Fm (vs.getD j n3)) (J Jx : List (Fin vs.length) → World → Prop)
    (hY : ∀ pre (x : Fin vs.length) W, J pre W → pre.length < vs.length → YieldAt F (n - 1) Tryd.prog l #[.int .i64 (x.1 : Int), v3 (vs.getD x.1 n3)] W fun e W' =>
      (e = .returned (.bool true) ∧ J (pre ++ [x]) W' ∧ Kp2 Bs b W W') ∨ (e = .returned (.bool false) ∧ Jx (pre ++ [x]) W'))
    (W : World) (hBs : W.cell? ⟨Bs, 0, none⟩ = some (.slice (some ⟨b, off, none⟩) vs.length cap))
    (hc : ∀ j, j < vs.length → W.cell? ⟨b, off + 3 * j, none⟩ = some (vs.getD j n3).1 ∧ W.cell? ⟨b, off + 3 * j + 1, none⟩ = some (vs.getD j n3).2.1 ∧ W.cell? ⟨b, off + 3 * j + 2, none⟩ = some (vs.getD j n3).2.2) (h0 : J [] W) :
    CallsIn F n Tryd.prog 69 #[.func (.yield l) #[] #[], .pointer (some ⟨Bs, 0, none⟩)] W fun e W' => (∃ v, e = .returned v) ∧
      ((∃ ys : List (Fin vs.length), ys.map (·.1) = upto (dn vs.length) vs.length ∧ J ys W') ∨ (∃ pre, Jx pre W')) := by
  refine callsIn_of_wp Tryd.func69 rfl hf ?_ hro
  simp only [Tryd.ntmps69, List.size_toArray, List.length_cons, List.length_nil, Nat.reduceAdd, Nat.reduceSub, Array.replicate_succ, Array.replicate_zero, List.push_toArray, List.append_toArray, List.nil_append, List.cons_append]
  have hw0 := (bwd_wrap vs.length hreach).out
  gi_wp2
  clear hw0
  gi_loopw [3] (fun i wr => ∃ k : Nat, k ≤ vs.length ∧ i = .int .i64 ((vs.length - k : Nat) - 1 : Int) ∧ (∃ pre : List (Fin vs.length), pre.map (·.1) = upto (dn vs.length) k ∧ J pre wr) ∧ Kp2 Bs b W wr)
    (fun i _ => (intOf i + 1).toNat)
  case atStart => exact ⟨0, Nat.zero_le _, by simp, ⟨[], rfl, h0⟩, fun o => ⟨rfl, rfl⟩⟩
  case round =>
    obtain ⟨k, hk, rfl, ⟨pre, hpre, hJs⟩, hkp⟩ := hrel
    have hBs' : wr.cell? ⟨Bs, 0, none⟩ = some (.slice (some ⟨b, off, none⟩) vs.length cap) := (hkp 0).1.trans hBs
    by_cases hlt : k < vs.length
    · obtain ⟨j, hj⟩ : ∃ j, vs.length - k = j + 1 := ⟨vs.length - k - 1, by omega⟩
      have ei : (((vs.length - k : Nat) : Int) - 1) = (j : Int) := by omega
      have HJ : Hid (vs.length - k = j + 1) := hj
      have hjn : j < vs.length := by omega
      have hjl : (j : Int) < (vs.length : Int) := by omega
      have hj0 : (0 : Int) ≤ (j : Int) := by omega
      have hjd : decide ((0 : Int) ≤ (j : Int)) = true := decide_eq_true hj0
      have hpl : pre.length = k := by rw [← List.length_map (f := (·.1)), hpre, upto_length]
      have HB : Hid ((pre ++ [(⟨j, hjn⟩ : Fin vs.length)]).map (·.1) = upto (dn vs.length) (k + 1)) := by
        show _ = _
        rw [List.map_append, hpre, upto_succ]
        congr 1
        show [j] = [dn vs.length k]
        unfold dn
        congr 1
        omega
      have Y := hY _ (⟨j, hjn⟩ : Fin vs.length) wr hJs (by omega)
      obtain ⟨c0, c1, c2⟩ := hc j hjn
      obtain ⟨lb, b1, m1, q1, b2, m2, q2, ev⟩ := hfm j hjn
      have x0 := ((hkp (off + 3 * j)).2.trans c0)
      have x1 := ((hkp (off + 3 * j + 1)).2.trans c1)
      have x2 := ((hkp (off + 3 * j + 2)).2.trans c2)
      dsimp only at Y
      rw [ev] at x0 x1 x2 Y
      rw [Nat.mul_comm 3 j] at x0 x1 x2
      obtain ⟨fn, tmps, assign, body, hy, hR⟩ := Y
      dsimp only [v3] at hy
      have hw := (bwd_wrap j (by omega)).out
      rw [ei]
      have HPL : Hid (pre.length = k) := hpl
      clear hj ei hpre hpl c0 c1 c2 ev
      gi_wp2
      refine hR.mono ?_
      rintro e W3 (⟨rfl, hJ3, hk3⟩ | ⟨rfl, hJx3⟩)
      · gi_wp2
        go_roundw
        case rel => exact ⟨k + 1, hlt, by have := HJ.out; first | rfl | (congr 1; omega) | (rw [hw]; congr 1; omega), ⟨_, HB.out, hJ3⟩, Kp2_t hkp hk3⟩
        case measure => simp [intOf] <;> omega
      · gi_wp2
        refine bodyPost_ret (results_none rfl _ _ _) rfl ?_
        exact ⟨⟨_, rfl⟩, .inr ⟨_, hJx3⟩⟩
    · obtain rfl : k = vs.length := by omega
      have ei : (((vs.length - vs.length : Nat) : Int) - 1) = -1 := by omega
      rw [ei]
      gi_wp2
      go_end0
      exact ⟨⟨_, rfl⟩, .inl ⟨_, hpre, hJs⟩⟩
set_option maxRecDepth 100000 in
set_option maxHeartbeats 1000000 in
theorem bwi1_nil_in (F : Fence) (n : Nat) (hf : F.fn 69) (hro : F.round = none) (l Bs : Nat) (a : Option Addr) (cap : Nat) {α : Type} (J : List α → World → Prop) (W : World) (hBs : W.cell? ⟨Bs, 0, none⟩ = some (.slice a 0 cap)) (h0 : J [] W) :
    CallsIn F n Tryd.prog 69 #[.func (.yield l) #[] #[], .pointer (some ⟨Bs, 0, none⟩)] W fun e W' => (∃ v, e = .returned v) ∧ J [] W' := by
  refine callsIn_of_wp Tryd.func69 rfl hf ?_ hro
  simp only [Tryd.ntmps69, List.size_toArray, List.length_cons, List.length_nil, Nat.reduceAdd, Nat.reduceSub, Array.replicate_succ, Array.replicate_zero, List.push_toArray, List.append_toArray, List.nil_append, List.cons_append]
  gi_wp2
  gi_loopw [3] (fun i wr => i = .int .i64 (-1) ∧ J [] wr) (fun _ _ => 0)
  case atStart => exact ⟨rfl, h0⟩
  case round =>
    obtain ⟨rfl, hJs⟩ := hrel
    gi_wp2
    go_end0
    exact ⟨⟨_, rfl⟩, hJs⟩
set_option maxHeartbeats 1000000 in
theorem bwi_in (F : Fence) (n : Nat) (hf : F.fn 60) (hro : F.round = none) (a : Option Addr) (len cap : Nat) (w : World) :
    CallsIn F n Tryd.prog 60 #[.slice a len cap] w fun e w' => e = .returned (.func (.func 69) #[] #[.pointer (some ⟨w.heap.size, 0, none⟩)]) ∧ w' = w.alloc (.cells #[.slice a len cap] 42) := by
  refine callsIn_of_wp Tryd.func60 rfl hf ?_ hro
  simp only [Tryd.ntmps60, List.size_toArray, List.length_cons, List.length_nil, Nat.reduceAdd, Nat.reduceSub, Array.replicate_succ, Array.replicate_zero, List.push_toArray, List.append_toArray, List.nil_append, List.cons_append]
  gi_wp2
  go_ret
  exact ⟨rfl, rfl⟩
theorem bwi_stops (F : Fence) (n : Nat) (hf : F.fn 69) (hro : F.round = none) (hn : 1 ≤ n) (Bs b cap : Nat) (ao : Option Addr) (vs : List V3) (hreach : vs.length ≤ 4194304) (hfm : ∀ j, j < vs.length → Fm (vs.getD j n3)) (w : World) (hBs : Bs < w.heap.size)
    (hc : w.cell? ⟨Bs, 0, none⟩ = some (.slice ao vs.length cap)) (hb : 0 < vs.length → ∃ off, ao = some ⟨b, off, none⟩ ∧ b < w.heap.size ∧ ∀ j, j < vs.length → w.cell? ⟨b, off + 3 * j, none⟩ = some (vs.getD j n3).1 ∧ w.cell? ⟨b, off + 3 * j + 1, none⟩ = some (vs.getD j n3).2.1 ∧ w.cell? ⟨b, off + 3 * j + 2, none⟩ = some (vs.getD j n3).2.2) :
    SeqStopsK F n Tryd.prog 69 #[.pointer (some ⟨Bs, 0, none⟩)] (fun x : Fin vs.length => #[Value.int .i64 (x.1 : Int), v3 (vs.getD x.1 n3)]) (Kp2 Bs b) (fun ys => ys.map (·.1) = (List.range vs.length).reverse) (fun _ => True) vs.length w := fun l J Jx W hW _ _ hY h0 => by
  have hc' := (hW.cell (p := ⟨Bs, 0, none⟩) hBs).trans hc
  by_cases h1 : 0 < vs.length
  · obtain ⟨off, rfl, hg, hcs⟩ := hb h1
    refine (bwi1_in F n hf hro hn l Bs b off cap vs hreach hfm J Jx hY W hc' (fun j hj => ⟨(hW.cell (p := ⟨b, off + 3 * j, none⟩) hg).trans (hcs j hj).1, (hW.cell (p := ⟨b, off + 3 * j + 1, none⟩) hg).trans (hcs j hj).2.1, (hW.cell (p := ⟨b, off + 3 * j + 2, none⟩) hg).trans (hcs j hj).2.2⟩) h0).mono ?_
    rintro e W' ⟨he, ⟨ys, hy, hj⟩ | ⟨pre, hj⟩⟩
    · exact ⟨he, .inl ⟨_, hy.trans (upto_dn _), hj⟩⟩
    · exact ⟨he, .inr ⟨_, trivial, hj⟩⟩
  · have e : vs = [] := List.length_eq_zero_iff.1 (by omega)
    subst e
    exact (bwi1_nil_in F n hf hro l Bs ao cap J W hc' h0).mono fun e W' ⟨he, hj⟩ => ⟨he, .inl ⟨[], rfl, hj⟩⟩
end Pk
end Go.Proofs.YtefgamhnikeekaaDoor
namespace Go.Proofs.YtefgamhnikeekaaDoor
namespace Pk
open Go.RowKit Go.Shelf
def So (w : World) (g : Nat) (v : Value) (k : Nat) : Prop := k < w.heap.size ∧ k ≠ g ∧ some k ≠ v.ownBlock
theorem So_fw {w W : World} {g k : Nat} {v v' : Value} (h : So w g v k) (hf : Fw g v v' w W) : So W g v' k ∧ W.heap[k]? = w.heap[k]? := by
  refine ⟨⟨Nat.lt_of_lt_of_le h.1 hf.size, h.2.1, fun e => ?_⟩, hf.block k h.1 h.2.1 h.2.2⟩
  rcases hf.own with h1 | h1
  · exact h.2.2 (e.trans h1)
  · have := h1 k e.symm
    have := h.1
    omega
theorem Ty_fw {w W : World} {g : Nat} {v v' u : Value} {b : List UInt8} (h : Ty (So w g v) b u w) (hf : Fw g v v' w W) : Ty (So W g v') b u W := by
  obtain ⟨ao, cap, h1, h2, h4⟩ := h
  refine ⟨ao, cap, h1, h2, fun h0 => ?_⟩
  obtain ⟨k, off, e, hne, hlt, hc⟩ := h4 h0
  have hs := So_fw hne hf
  exact ⟨k, off, e, hs.1, hs.1.1, fun j hj => (World.cell?_of_block (a := ⟨k, off + j, none⟩) hs.2).trans (hc j hj)⟩
theorem Kx_fw {w W : World} {g : Nat} {v v' u : Value} {vs : List V3} (h : Kx (So w g v) vs u w) (hf : Fw g v v' w W) : Kx (So W g v') vs u W := by
  obtain ⟨ao, cap, h1, h2, h4⟩ := h
  refine ⟨ao, cap, h1, h2, fun h0 => ?_⟩
  obtain ⟨k, off, e, hne, hlt, hc⟩ := h4 h0
  have hs := So_fw hne hf
  exact ⟨k, off, e, hs.1, hs.1.1, fun j hj => ⟨(World.cell?_of_block (a := ⟨k, off + 3 * j, none⟩) hs.2).trans (hc j hj).1, (World.cell?_of_block (a := ⟨k, off + 3 * j + 1, none⟩) hs.2).trans (hc j hj).2.1, (World.cell?_of_block (a := ⟨k, off + 3 * j + 2, none⟩) hs.2).trans (hc j hj).2.2⟩⟩
theorem Iv_fw {w W : World} {g : Nat} {v v' : Value} {t : It} {u : V3} (h : Iv (So w g v) w t u) (hf : Fw g v v' w W) : Iv (So W g v') W t u := by
  induction h with
  | mk l t ks tv kv vs ht hl hk hi ih => exact .mk l t ks tv kv vs (Ty_fw ht hf) hl (Kx_fw hk hf) ih
inductive Wf : It → Prop where
  | mk (l : Bool) (t : List UInt8) (ks : List It) (h : ∀ j, j < ks.length → Wf (ks.getD j It.no)) : Wf (.mk l t ks)
mutual
theorem wf_any : ∀ t : It, Wf t
  | .mk l t ks => .mk l t ks (wf_all ks)
theorem wf_all : ∀ (ks : List It) (j : Nat), j < ks.length → Wf (ks.getD j It.no)
  | [], j, h => absurd h (by simp)
  | k :: _, 0, _ => wf_any k
  | _ :: r, j + 1, h => wf_all r j (by simpa using h)
end
theorem enc_text_len (t : List UInt8) (ks : List It) : t.length ≤ (enc (.mk false t ks)).length := by
  unfold enc
  split
  · omega
  · rw [List.length_append]; omega
theorem encs_many : ∀ ks : List It, ks.length ≤ (encs ks).length
  | [] => Nat.zero_le _
  | k :: r => by
    have := encs_many r
    have := enc_pos k
    unfold encs
    rw [List.length_append, List.length_cons]; omega
theorem encs_one : ∀ (ks : List It) (j : Nat), j < ks.length → (enc (ks.getD j It.no)).length + (ks.length - 1) ≤ (encs ks).length
  | [], j, h => absurd h (by simp)
  | k :: r, 0, _ => by
    have := encs_many r
    unfold encs
    rw [List.length_append, List.length_cons, List.getD_cons_zero]; omega
  | k :: r, j + 1, h => by
    have := encs_one r j (by simpa using h)
    have := enc_pos k
    have h2 : j < r.length := by simpa using h
    unfold encs
    rw [List.length_append, List.length_cons, List.getD_cons_succ]; omega
def flN (ks : List It) (ns : List Nat) : List UInt8 := (ns.map fun j => (enc (ks.getD j It.no)).reverse).flatten
theorem flN_app (ks : List It) (x : List Nat) (j : Nat) : flN ks (x ++ [j]) = flN ks x ++ (enc (ks.getD j It.no)).reverse := by simp [flN]
theorem flN_all : ∀ ks : List It, flN ks (List.range ks.length).reverse = (encs ks).reverse
  | [] => rfl
  | k :: r => by
    have ih := flN_all r
    have e : ∀ l : List Nat, flN (k :: r) (l.map Nat.succ) = flN r l := fun l => by
      unfold flN
      rw [List.map_map]
      rfl
    rw [List.length_cons, List.range_succ_eq_map, List.reverse_cons, ← List.map_reverse, flN_app, e, ih, List.getD_cons_zero]
    show _ = (enc k ++ encs r).reverse
    rw [List.reverse_append]
theorem flN_len (ks : List It) (M : Nat) (hM : ∀ j, j < ks.length → (enc (ks.getD j It.no)).length ≤ M) : ∀ ns : List Nat, (∀ j, j ∈ ns → j < ks.length) → (flN ks ns).length ≤ ns.length * M
  | [], _ => Nat.zero_le _
  | j :: r, h => by
    have ih := flN_len ks M hM r (fun i hi => h i (List.mem_cons_of_mem _ hi))
    have h1 := hM j (h j (List.mem_cons_self ..))
    have e : flN ks (j :: r) = (enc (ks.getD j It.no)).reverse ++ flN ks r := rfl
    rw [e, List.length_append, List.length_reverse, List.length_cons, Nat.add_mul, Nat.one_mul]
    omega
theorem kid_room (ks : List It) (B : Nat) (h : B + (encs ks).length * (encs ks).length + 32 ≤ 4398046511103) (ns : List Nat) (hns : ∀ j, j ∈ ns → j < ks.length) (x : Nat) (hx : x < ks.length) (hp : ns.length < ks.length) :
    B + (flN ks ns).length + (enc (ks.getD x It.no)).length * (enc (ks.getD x It.no)).length + 32 ≤ 4398046511103 := by
  obtain ⟨E, hE⟩ : ∃ E, E = (encs ks).length := ⟨_, rfl⟩
  obtain ⟨N, hN⟩ : ∃ N, ks.length = N + 1 := ⟨ks.length - 1, by omega⟩
  have hM : ∀ j, j < ks.length → (enc (ks.getD j It.no)).length ≤ E - N := fun j hj => by have := encs_one ks j hj; omega
  have h1 := flN_len ks (E - N) hM ns hns
  have h2 : ns.length * (E - N) ≤ N * (E - N) := Nat.mul_le_mul_right _ (by omega)
  have hx := hM x hx
  have h3 := Nat.mul_le_mul hx hx
  have h4 : N ≤ E := by have := encs_many ks; omega
  have h5 : N * (E - N) + (E - N) * (E - N) = E * (E - N) := by rw [← Nat.add_mul]; congr 1; omega
  have h6 : E * (E - N) ≤ E * E := Nat.mul_le_mul_left _ (by omega)
  rw [← hE] at h
  omega
set_option maxHeartbeats 2000000 in
set_option maxRecDepth 100000 in
theorem itemw_text (g : Nat) (bs t : List UInt8) (ks : List It) (v tv : Value) (a2 : Option Addr) (n2 c2 : Nat) (w : World) (hw : Wt g bs v w) (ht : Ty (So w g v) t tv w) (hz : t.length ≤ 1048576) (hlen : bs.length + t.length + 16 ≤ 4398046511103) :
    Calls Tryd.prog 42 #[.pointer (some ⟨g, 0, none⟩), .agg #[.bool false, tv, .slice a2 n2 c2]] w fun e w' => e = .returned (.tuple #[]) ∧ ∃ v', Wt g (bs ++ (enc (.mk false t ks)).reverse) v' w' ∧ Fw g v v' w w' := by
  obtain ⟨ao, cap, rfl, hcap, hty⟩ := ht
  have KT : Hid (∀ wx : World, Below w.heap.size w wx → w.heap.size < wx.heap.size → Calls Tryd.prog 59 #[.pointer (some ⟨g, 0, none⟩), .slice ao t.length cap] wx fun e w' => e = .returned (.tuple #[]) ∧ ∃ v', Wt g (bs ++ (enc (.mk false t ks)).reverse) v' w' ∧ Fw g v v' w w') := fun wx b hs => by
    have hn : ∀ k, v.ownBlock = some k → k < w.heap.size := fun k e => (hw.o.lt k e).2
    by_cases h0 : 0 < t.length
    · obtain ⟨k, off, rfl, hne, hlt, hc⟩ := hty h0
      refine (text_w g bs t ks v _ cap k wx (Wt_below hw b) hz hlen (fun _ => ⟨k, off, rfl, Nat.lt_of_lt_of_le hlt b.size, fun j hj => (b.cell (p := ⟨k, off + j, none⟩) hlt).trans (hc j hj)⟩) (fun _ => ⟨off, rfl⟩) (Nat.lt_of_lt_of_le hlt b.size) hne.2.1 hne.2.2).mono fun e w' he => ?_
      obtain ⟨h3, v', h4, h5⟩ := he
      exact ⟨h3, v', h4, Fw_trans (Fw_below b) h5⟩
    · refine (text_w g bs t ks v _ cap w.heap.size wx (Wt_below hw b) hz hlen (fun h => absurd h h0) (fun h => absurd h h0) hs (by have := hw.hi; omega) (fun e => by have := hn _ e.symm; omega)).mono fun e w' he => ?_
      obtain ⟨h3, v', h4, h5⟩ := he
      exact ⟨h3, v', h4, Fw_trans (Fw_below b) h5⟩
  have B1 : Hid (Below w.heap.size w ((w.alloc (.cells #[.pointer (some ⟨g, 0, none⟩)] 110)).alloc (.cells #[.bool false, .slice ao t.length cap, .slice a2 n2 c2] 44))) := ((Below.refl _ _).alloc (Nat.le_refl _) _).alloc (by simp) _
  generalize bs ++ (enc (.mk false t ks)).reverse = Z at *
  generalize t.length = n at *
  clear hw hz hlen hcap hty
  go_enter Tryd.func42, Tryd.ntmps42
  go_wp2_with fail
  refine (KT.out _ B1.out (by simp; omega)).mono (fun e w2 he => ?_)
  obtain ⟨rfl, hr⟩ := he
  have HR : Hid _ := hr
  clear hr
  go_wp2_with fail
  exact bodyPost_ret (results_none rfl _ _ _) rfl ⟨rfl, HR.out⟩
end Pk
end Go.Proofs.YtefgamhnikeekaaDoor
namespace Go.Proofs.YtefgamhnikeekaaDoor
namespace Pk
open Go.RowKit
theorem lit_own2 (l : List UInt8) (w : World) (B : Nat) (h : B ≤ w.heap.size) (hl : l.length ≤ 64) : (w.alloc (.cells (bcs l).toArray 5)).ownsRow B 5 1 (.slice (some ⟨w.heap.size, 0, none⟩) l.length l.length) l.length (bcs l) := by
  have k := World.ownsRow_lit (size := 1) (e := 5) w (bcs l).toArray l.length h (by unfold maxLen; omega) (by simp [bcs_len])
  simpa using k
def bst (l : List UInt8) : ByteArray := ⟨l.toArray⟩
theorem bst_size (l : List UInt8) : (bst l).size = l.length := by simp [bst, ByteArray.size]
theorem Sl_bst {b : List UInt8} {v : Value} {w : World} (h : Sl b v w) : (convert 22 9 v).run Tryd.prog w = .ok (.string (bst b)) w := Sl_conv h
theorem str_sl (l : List UInt8) (w : World) : ∃ c W, (convert 9 22 (.string (bst l))).run Tryd.prog w = .ok (.slice (some ⟨w.heap.size, 0, none⟩) l.length c) W ∧ Sl l (.slice (some ⟨w.heap.size, 0, none⟩) l.length c) W ∧ Below w.heap.size w W := by
  have h := Lib.run_convert_string_bytes w 9 22 5 (bst l) Tryd.underlying9 Tryd.underlying22 Tryd.underlying5
  rw [bst_size] at h
  refine ⟨_, _, h, ⟨_, _, rfl, grownCap_ge _ _ _ _, fun h0 => ⟨_, _, rfl, ?_, fun j hj => ?_⟩⟩, ⟨?_, ?_, ?_, ?_, fun k hk => Lib.bytesWorld_at_old w _ _ k hk⟩⟩
  · rw [Lib.bytesWorld_size]; omega
  · rw [Nat.zero_add, Lib.bytesWorld_cell w _ _ j (by rw [bst_size]; exact hj)]
    rfl
  · rfl
  · rfl
  · rfl
  · rw [Lib.bytesWorld_size]; omega
theorem cat_bst (l m : List UInt8) (hl : l.length ≤ 8388608) (hm : m.length ≤ 8388608) (w : World) : (Op.stringOp .add (bst l) (bst m)).run Tryd.prog w = .ok (.string (bst (l ++ m))) w := run_string_add_lists w l m (by omega) (by omega)
def mkh (l : Bool) : Nat := if l then 192 else 128
theorem lit_sl1 (c : UInt8) (w : World) : Sl [c] (.slice (some ⟨w.heap.size, 0, none⟩) 1 1) (w.alloc (.cells #[.int .u8 (c.toNat : Int)] 5)) := own_sl (lit_own2 [c] w w.heap.size (Nat.le_refl _) (by simp))
set_option maxHeartbeats 1000000 in
set_option maxRecDepth 100000 in
theorem phead_short (l : Bool) (n : Nat) (w : World) (hn : n < 48) :
    Calls Tryd.prog 30 #[.int .i64 (n : Int), .bool l] w fun e w' => e = .returned (.string (bst (hdr (mkh l) n))) ∧ Below w.heap.size w w' := by
  have d0 : decide ((n : Int) < 48) = true := decide_eq_true (by omega)
  have eh : hdr (mkh l) n = [UInt8.ofNat (mkh l + n)] := by unfold hdr; rw [if_pos hn]
  have hm : mkh l ≤ 192 := by unfold mkh; split <;> omega
  have hu : (UInt8.ofNat (mkh l + n)).toNat = mkh l + n := u8_of _ (by omega)
  have hs := lit_sl1 (UInt8.ofNat (mkh l + n)) w
  rw [hu] at hs
  have hcv := Sl_bst hs
  have B : Hid (Below w.heap.size w (w.alloc (.cells #[.int .u8 ((mkh l + n : Nat) : Int)] 5))) := (Below.refl _ _).alloc (Nat.le_refl _) _
  rw [eh]
  generalize bst [UInt8.ofNat (mkh l + n)] = X at *
  clear eh hu hs hm
  cases l with
  | false =>
    have ec : ((mkh false + n : Nat) : Int) = 128 + (n : Int) := by show ((128 + n : Nat) : Int) = _; omega
    rw [ec] at hcv B
    have e1 : wrap64 (128 + (n : Int)) = 128 + (n : Int) := by unfold wrap64; omega
    have e2 : IntKind.u8.wrap (128 + (n : Int)) = 128 + (n : Int) := by rw [IntKind.wrap_u8]; omega
    clear ec hn
    go_enter Tryd.func30, Tryd.ntmps30
    go_wp2_with fail
    go_ret
    exact ⟨rfl, B.out⟩
  | true =>
    have ec : ((mkh true + n : Nat) : Int) = 192 + (n : Int) := by show ((192 + n : Nat) : Int) = _; omega
    rw [ec] at hcv B
    have e1 : wrap64 (192 + (n : Int)) = 192 + (n : Int) := by unfold wrap64; omega
    have e2 : IntKind.u8.wrap (192 + (n : Int)) = 192 + (n : Int) := by rw [IntKind.wrap_u8]; omega
    clear ec hn
    go_enter Tryd.func30, Tryd.ntmps30
    go_wp2_with fail
    go_ret
    exact ⟨rfl, B.out⟩
set_option maxHeartbeats 1000000 in
set_option maxRecDepth 100000 in
theorem phead_long (l : Bool) (n : Nat) (w : World) (hn : 48 ≤ n) (hz : n ≤ 4194304) :
    Calls Tryd.prog 30 #[.int .i64 (n : Int), .bool l] w fun e w' => e = .returned (.string (bst (hdr (mkh l) n))) ∧ Below w.heap.size w w' := by
  have d0 : decide ((n : Int) < 48) = false := decide_eq_false (by omega)
  have hk := nu_8 n (by omega)
  have hm : mkh l ≤ 192 := by unfold mkh; split <;> omega
  have hu : (UInt8.ofNat (mkh l + 47 + (nu n).length)).toNat = mkh l + 47 + (nu n).length := u8_of _ (by omega)
  have eh : hdr (mkh l) n = [UInt8.ofNat (mkh l + 47 + (nu n).length)] ++ nu n := by
    unfold hdr
    rw [if_neg (by omega)]
    rfl
  have HC : Hid (∀ W : World, (Op.stringOp .add (bst [UInt8.ofNat (mkh l + 47 + (nu n).length)]) (bst (nu n))).run Tryd.prog W = .ok (.string (bst ([UInt8.ofNat (mkh l + 47 + (nu n).length)] ++ nu n))) W) := fun W => cat_bst _ _ (by simp) (by omega) W
  have e0 : IntKind.u64.wrap (n : Int) = (n : Int) := by rw [IntKind.wrap_u64]; omega
  have KI : Hid (∀ w : World, Calls Tryd.prog 48 #[.int .u64 (n : Int)] w fun e w' => e = .returned (Wd n) ∧ Below w.heap.size w w') := fun w => wint_any n (by omega) w
  have KP : Hid (∀ w : World, Calls Tryd.prog 47 #[Wd n] w fun e w' => ∃ a c, e = .returned (.slice a (nu n).length c) ∧ Sl (nu n) (.slice a (nu n).length c) w' ∧ Below w.heap.size w w') := fun w => (pnum_any n w).mono fun e w' he => by
    obtain ⟨v, h1, h2, h3⟩ := he
    obtain ⟨a, c, rfl, h4, h5⟩ := h2
    exact ⟨a, c, h1, ⟨a, c, rfl, h4, h5⟩, h3⟩
  have HL : Hid (∀ W : World, Sl [UInt8.ofNat (mkh l + 47 + (nu n).length)] (.slice (some ⟨W.heap.size, 0, none⟩) 1 1) (W.alloc (.cells #[.int .u8 ((mkh l + 47 + (nu n).length : Nat) : Int)] 5))) := fun W => by
    have := lit_sl1 (UInt8.ofNat (mkh l + 47 + (nu n).length)) W
    rw [hu] at this
    exact this
  rw [eh]
  generalize hm' : (nu n).length = m at *
  generalize [UInt8.ofNat (mkh l + 47 + m)] = L at *
  generalize nu n = M at *
  clear eh hu hm hm' hn
  cases l with
  | false =>
    have ec : ((mkh false + 47 + m : Nat) : Int) = 175 + (m : Int) := by show ((128 + 47 + m : Nat) : Int) = _; omega
    rw [ec] at HL
    have e1 : wrap64 (175 + (m : Int)) = 175 + (m : Int) := by unfold wrap64; omega
    have e2 : IntKind.u8.wrap (175 + (m : Int)) = 175 + (m : Int) := by rw [IntKind.wrap_u8]; omega
    clear ec hz hk
    go_enter Tryd.func30, Tryd.ntmps30
    go_wp2_with fail
    refine (KI.out _).mono (fun e w1 he => ?_)
    obtain ⟨rfl, b1⟩ := he
    go_wp2_with fail
    refine (KP.out _).mono (fun e w2 he => ?_)
    obtain ⟨a, c, rfl, hs, b2⟩ := he
    have bA : Below w2.heap.size w2 (w2.alloc (.cells #[.int .u8 (175 + (m : Int))] 5)) := (Below.refl _ _).alloc (Nat.le_refl _) _
    have q1 := Sl_bst (HL.out w2)
    have q2 := Sl_bst (Sl_below hs bA)
    have B : Hid (Below w.heap.size w (w2.alloc (.cells #[.int .u8 (175 + (m : Int))] 5))) := (b1.trans (b2.mono b1.size)).trans (bA.mono (Nat.le_trans b1.size b2.size))
    have q3 := HC.out (w2.alloc (.cells #[.int .u8 (175 + (m : Int))] 5))
    clear b1 b2 bA hs KI KP HL HC
    go_wp2_with fail
    go_ret
    exact ⟨rfl, B.out⟩
  | true =>
    have ec : ((mkh true + 47 + m : Nat) : Int) = 239 + (m : Int) := by show ((192 + 47 + m : Nat) : Int) = _; omega
    rw [ec] at HL
    have e1 : wrap64 (239 + (m : Int)) = 239 + (m : Int) := by unfold wrap64; omega
    have e2 : IntKind.u8.wrap (239 + (m : Int)) = 239 + (m : Int) := by rw [IntKind.wrap_u8]; omega
    clear ec hz hk
    go_enter Tryd.func30, Tryd.ntmps30
    go_wp2_with fail
    refine (KI.out _).mono (fun e w1 he => ?_)
    obtain ⟨rfl, b1⟩ := he
    go_wp2_with fail
    refine (KP.out _).mono (fun e w2 he => ?_)
    obtain ⟨a, c, rfl, hs, b2⟩ := he
    have bA : Below w2.heap.size w2 (w2.alloc (.cells #[.int .u8 (239 + (m : Int))] 5)) := (Below.refl _ _).alloc (Nat.le_refl _) _
    have q1 := Sl_bst (HL.out w2)
    have q2 := Sl_bst (Sl_below hs bA)
    have B : Hid (Below w.heap.size w (w2.alloc (.cells #[.int .u8 (239 + (m : Int))] 5))) := (b1.trans (b2.mono b1.size)).trans (bA.mono (Nat.le_trans b1.size b2.size))
    have q3 := HC.out (w2.alloc (.cells #[.int .u8 (239 + (m : Int))] 5))
    clear b1 b2 bA hs KI KP HL HC
    go_wp2_with fail
    go_ret
    exact ⟨rfl, B.out⟩
theorem phead_any (l : Bool) (n : Nat) (w : World) (hz : n ≤ 4194304) :
    Calls Tryd.prog 30 #[.int .i64 (n : Int), .bool l] w fun e w' => e = .returned (.string (bst (hdr (mkh l) n))) ∧ Below w.heap.size w w' := by
  rcases Nat.lt_or_ge n 48 with h | h
  · exact phead_short l n w h
  · exact phead_long l n w h hz
end Pk
end Go.Proofs.YtefgamhnikeekaaDoor
namespace Go.Proofs.YtefgamhnikeekaaDoor
namespace Pk
open Go.RowKit
theorem hdr_9 (m n : Nat) (h : n < 18446744073709551616) : (hdr m n).length ≤ 9 := by
  unfold hdr
  split
  · simp
  · have := nu_8 n h
    rw [List.length_cons]; omega
theorem enc_one (c : UInt8) (ks : List It) (h : c.toNat < 128) : enc (.mk false [c] ks) = [c] := by
  unfold enc
  rw [if_pos]
  exact ⟨rfl, by have : Sp.bz [c] 0 = (c.toNat : Int) := rfl; omega⟩
set_option maxHeartbeats 1000000 in
set_option maxRecDepth 100000 in
theorem pencode_one (c : UInt8) (a1 a2 : Option Addr) (n2 c1 c2 : Nat) (w : World) (hc : c.toNat < 128) (hs : Sl [c] (.slice a1 1 c1) w) :
    Calls Tryd.prog 15 #[.agg #[.bool false, .slice a1 1 c1, .slice a2 n2 c2]] w fun e w' => ∃ v, e = .returned v ∧ Sl [c] v w' ∧ Below w.heap.size w w' := by
  have B1 : Below w.heap.size w (w.alloc (.cells #[.bool false, .slice a1 1 c1, .slice a2 n2 c2] 44)) := (Below.refl _ _).alloc (Nat.le_refl _) _
  have q1 : (convert 22 9 (.slice a1 1 c1)).run Tryd.prog (w.alloc (.cells #[.bool false, .slice a1 1 c1, .slice a2 n2 c2] 44)) = .ok (.string ⟨#[c]⟩) (w.alloc (.cells #[.bool false, .slice a1 1 c1, .slice a2 n2 c2] 44)) := Sl_conv (Sl_below hs B1)
  obtain ⟨k, W, hcv', h2, h3⟩ := str_sl [c] (w.alloc (.cells #[.bool false, .slice a1 1 c1, .slice a2 n2 c2] 44))
  have hcv : (convert 9 22 (.string ⟨#[c]⟩)).run Tryd.prog (w.alloc (.cells #[.bool false, .slice a1 1 c1, .slice a2 n2 c2] 44)) = .ok (.slice (some ⟨(w.alloc (.cells #[.bool false, .slice a1 1 c1, .slice a2 n2 c2] 44)).heap.size, 0, none⟩) 1 k) W := hcv'
  have hsz : (w.alloc (.cells #[.bool false, .slice a1 1 c1, .slice a2 n2 c2] 44)).heap.size = w.heap.size + 1 := by simp
  rw [hsz] at h2
  have HR : Hid (∃ v, Ending.returned (.slice (some ⟨w.heap.size + 1, 0, none⟩) 1 k) = .returned v ∧ Sl [c] v W ∧ Below w.heap.size w W) := ⟨_, rfl, h2, B1.trans (h3.mono B1.size)⟩
  have hx : ((⟨#[c]⟩ : ByteArray)[0]'Nat.zero_lt_one).toNat = c.toNat := rfl
  have d0 : decide ((c.toNat : Int) < 128) = true := decide_eq_true (by omega)
  have d1 : (c.toNat : Int) < 128 := by omega
  clear hcv' h2 h3 B1 hs hc hsz
  go_enter Tryd.func15, Tryd.ntmps15
  go_wp2_with fail
  go_ret
  exact HR.out
set_option maxHeartbeats 1000000 in
set_option maxRecDepth 100000 in
theorem pencode_head (t : List UInt8) (n : Nat) (a1 a2 : Option Addr) (n2 c1 c2 : Nat) (w : World) (hn : n = t.length) (hz : n ≤ 4194304) (hs : Sl t (.slice a1 n c1) w) (ht : n = 1 → ∃ c : UInt8, t = [c] ∧ 128 ≤ c.toNat) :
    Calls Tryd.prog 15 #[.agg #[.bool false, .slice a1 n c1, .slice a2 n2 c2]] w fun e w' => ∃ v, e = .returned v ∧ Sl (hdr 128 n ++ t) v w' ∧ Below w.heap.size w w' := by
  have B1 : Below w.heap.size w (w.alloc (.cells #[.bool false, .slice a1 n c1, .slice a2 n2 c2] 44)) := (Below.refl _ _).alloc (Nat.le_refl _) _
  have q1 := Sl_bst (Sl_below hs B1)
  have hN := heap_alloc_new w (.cells #[.bool false, .slice a1 n c1, .slice a2 n2 c2] 44)
  have KH : Hid (∀ W : World, Calls Tryd.prog 30 #[.int .i64 (n : Int), .bool false] W fun e w' => e = .returned (.string (bst (hdr 128 n))) ∧ Below W.heap.size W w') := fun W => phead_any false n W hz
  have KC : Hid (∀ W : World, ∃ c W', (convert 9 22 (.string (bst (hdr 128 n ++ t)))).run Tryd.prog W = .ok (.slice (some ⟨W.heap.size, 0, none⟩) (hdr 128 n ++ t).length c) W' ∧ Sl (hdr 128 n ++ t) (.slice (some ⟨W.heap.size, 0, none⟩) (hdr 128 n ++ t).length c) W' ∧ Below W.heap.size W W') := fun W => str_sl _ W
  have HC : Hid (∀ W : World, (Op.stringOp .add (bst (hdr 128 n)) (bst t)).run Tryd.prog W = .ok (.string (bst (hdr 128 n ++ t))) W) := fun W => cat_bst _ _ (by have := hdr_9 128 n (by omega); omega) (by omega) W
  by_cases h1 : n = 1
  · obtain ⟨c, rfl, hc⟩ := ht h1
    subst h1
    have d0 : decide ((c.toNat : Int) < 128) = false := decide_eq_false (by omega)
    have d1 : ¬ (c.toNat : Int) < 128 := by omega
    have e1 : bst [c] = ⟨#[c]⟩ := rfl
    rw [e1] at q1 HC
    have BH : Hid _ := B1
    generalize bst (hdr 128 1 ++ [c]) = Z at *
    generalize hdr 128 1 ++ [c] = E at *
    generalize bst (hdr 128 1) = H at *
    clear e1 ht hz hs hn B1 hc
    go_enter Tryd.func15, Tryd.ntmps15
    go_wp2_with fail
    refine (KH.out _).mono (fun e w2 he => ?_)
    obtain ⟨rfl, b2⟩ := he
    obtain ⟨k, W, hcv, h2, h3⟩ := KC.out w2
    have HR : Hid (Sl E (.slice (some ⟨w2.heap.size, 0, none⟩) E.length k) W ∧ Below w.heap.size w W) := ⟨h2, (BH.out.trans (b2.mono BH.out.size)).trans (h3.mono (Nat.le_trans BH.out.size b2.size))⟩
    generalize E.length = L at *
    have q3 := HC.out w2
    clear h2 h3 b2 KC KH BH HC
    go_wp2_with fail
    go_ret
    exact ⟨_, rfl, HR.out⟩
  · have hX : (bst t).size = n := by rw [bst_size, hn]
    have d0 : ((n : Int) == 1) = false := beq_eq_false_iff_ne.2 (by omega)
    have d1 : ¬ (n : Int) = 1 := by omega
    have d2 : (n == 1) = false := beq_eq_false_iff_ne.2 h1
    have BH : Hid _ := B1
    generalize bst (hdr 128 n ++ t) = Z at *
    generalize hdr 128 n ++ t = E at *
    generalize bst (hdr 128 n) = H at *
    generalize bst t = X at *
    clear ht hz hs hn B1
    go_enter Tryd.func15, Tryd.ntmps15
    go_wp2_with fail
    refine (KH.out _).mono (fun e w2 he => ?_)
    obtain ⟨rfl, b2⟩ := he
    obtain ⟨k, W, hcv, h2, h3⟩ := KC.out w2
    have HR : Hid (Sl E (.slice (some ⟨w2.heap.size, 0, none⟩) E.length k) W ∧ Below w.heap.size w W) := ⟨h2, (BH.out.trans (b2.mono BH.out.size)).trans (h3.mono (Nat.le_trans BH.out.size b2.size))⟩
    generalize E.length = L at *
    have q3 := HC.out w2
    clear h2 h3 b2 KC KH BH HC
    go_wp2_with fail
    go_ret
    exact ⟨_, rfl, HR.out⟩
theorem take_encs (ks : List It) (k : Nat) (h : k < ks.length) : encs (ks.take k) ++ enc (ks.getD k It.no) = encs (ks.take (k + 1)) := by
  induction ks generalizing k with
  | nil => exact absurd h (by simp)
  | cons x r ih =>
    cases k with
    | zero => simp [encs]
    | succ k =>
      have := ih k (by simpa using h)
      rw [List.take_succ_cons, List.take_succ_cons, List.getD_cons_succ]
      unfold encs
      rw [List.append_assoc, this]
theorem encs_take (ks : List It) (k : Nat) : (encs (ks.take k)).length ≤ (encs ks).length := by
  induction ks generalizing k with
  | nil => simp
  | cons x r ih =>
    cases k with
    | zero => simp [encs]
    | succ k =>
      rw [List.take_succ_cons]
      unfold encs
      rw [List.length_append, List.length_append]
      have := ih k
      omega
set_option maxHeartbeats 1000000 in
set_option maxRecDepth 100000 in
theorem pencode_list (S : Nat → Prop) (ks : List It) (vs : List V3) (a1 a2 : Option Addr) (n1 c1 c2 n N : Nat) (T : ByteArray) (w : World) (hn : Hid (n = vs.length)) (hl : Hid (vs.length = ks.length)) (hk : Hid (Kx S vs (.slice a2 n c2) w)) (hi : Hid (∀ j, j < ks.length → Iv S w (ks.getD j It.no) (vs.getD j n3)))
    (hT : Hid (∀ W : World, Below w.heap.size w W → (convert 22 9 (.slice a1 n1 c1)).run Tryd.prog W = .ok (.string T) W))
    (IH : Hid (∀ j, j < ks.length → ∀ (v : V3) (w : World), Iv S w (ks.getD j It.no) v → Calls Tryd.prog 15 #[v3 v] w fun e w' => ∃ v, e = .returned v ∧ Sl (enc (ks.getD j It.no)) v w' ∧ Below w.heap.size w w')) (hN : Hid (N = (encs ks).length)) (hz : Hid (N ≤ 4194304)) :
    Calls Tryd.prog 15 #[.agg #[.bool true, .slice a1 n1 c1, .slice a2 n c2]] w fun e w' => ∃ v, e = .returned v ∧ Sl (hdr 192 N ++ encs ks) v w' ∧ Below w.heap.size w w' := by
  have B0 : Below w.heap.size w (w.alloc (.cells #[.bool true, .slice a1 n1 c1, .slice a2 n c2] 44)) := (Below.refl _ _).alloc (Nat.le_refl _) _
  have hT0 := hT.out _ B0
  go_enter Tryd.func15, Tryd.ntmps15
  go_wp2_with fail
  clear hT hT0
  have hA := heap_alloc_new w (.cells #[.bool true, .slice a1 n1 c1, .slice a2 n c2] 44)
  have ht : (w.alloc (.cells #[.bool true, .slice a1 n1 c1, .slice a2 n c2] 44)).cell? ⟨w.heap.size, 0, none⟩ = some (.bool true) := by simp only [World.cell?, hA]; rfl
  have hs : w.heap.size < (w.alloc (.cells #[.bool true, .slice a1 n1 c1, .slice a2 n c2] 44)).heap.size := by simp
  clear hA
  generalize w.alloc (.cells #[.bool true, .slice a1 n1 c1, .slice a2 n c2] 44) = W0 at *
  obtain ⟨g, eg⟩ : ∃ g, g = w.heap.size := ⟨_, rfl⟩
  have EG : Hid (g = w.heap.size) := eg
  rw [← eg] at B0 ht hs ⊢
  clear eg
  go_loopw [3, 14] (fun s i wr => ∃ k : Nat, k ≤ n ∧ s = .string (bst (encs (ks.take k))) ∧ i = .int .i64 (k : Int) ∧ Below W0.heap.size W0 wr) (fun _ i _ => ((n : Int) - intOf i).toNat)
  case atStart => exact ⟨0, Nat.zero_le _, rfl, rfl, Below.refl _ _⟩
  case round =>
    obtain ⟨k, hkn, rfl, rfl, hB⟩ := hrel
    by_cases hlt : k < n
    · have d0 : decide ((k : Int) < (n : Int)) = true := decide_eq_true (by omega)
      have d1 : (0 : Int) ≤ (k : Int) := by omega
      have d2 : (k : Int) < (n : Int) := by omega
      have hks : k < ks.length := by have := hn.out; have := hl.out; omega
      obtain ⟨ao, cap, e2, -, hq⟩ := hk.out
      obtain ⟨gk, off, rfl, -, hgk, hcell⟩ := hq (by have := hn.out; omega)
      injection e2 with e2 e2' e2''
      subst e2
      clear e2' e2''
      obtain ⟨x0, x1, x2⟩ := hcell k (by have := hn.out; omega)
      have iv := hi.out k hks
      obtain ⟨l, b1, m1, q1, b2, m2, q2, ev⟩ := Iv_form iv
      rw [ev] at x0 x1 x2 iv
      have HC : Hid (∀ W : World, (Op.stringOp .add (bst (encs (ks.take k))) (bst (enc (ks.getD k It.no)))).run Tryd.prog W = .ok (.string (bst (encs (ks.take (k + 1))))) W) := fun W => by
        have h1 := encs_take ks k
        have h2 := encs_one ks k hks
        have h3 := hz.out
        have h4 := hN.out
        rw [cat_bst _ _ (by omega) (by omega), take_encs ks k hks]
      have KB : Hid (∀ w : World, Iv S w (ks.getD k It.no) (.bool l, .slice b1 m1 q1, .slice b2 m2 q2) → Calls Tryd.prog 15 #[.agg #[.bool l, .slice b1 m1 q1, .slice b2 m2 q2]] w fun e w' => ∃ v, e = .returned v ∧ Sl (enc (ks.getD k It.no)) v w' ∧ Below w.heap.size w w') := IH.out k hks (.bool l, .slice b1 m1 q1, .slice b2 m2 q2)
      have BW : Below w.heap.size w wr := (EG.out ▸ B0).trans (hB.mono (by have := EG.out; omega))
      have y0 := (BW.cell (p := ⟨gk, off + 3 * k, none⟩) hgk).trans x0
      have y1 := (BW.cell (p := ⟨gk, off + 3 * k + 1, none⟩) hgk).trans x1
      have y2 := (BW.cell (p := ⟨gk, off + 3 * k + 2, none⟩) hgk).trans x2
      have hgk2 : gk < wr.heap.size := Nat.lt_of_lt_of_le hgk BW.size
      rw [Nat.mul_comm 3 k] at y0 y1 y2
      have IW : Hid (Iv S (wr.alloc (.cells #[.bool l, .slice b1 m1 q1, .slice b2 m2 q2] 44)) (ks.getD k It.no) (.bool l, .slice b1 m1 q1, .slice b2 m2 q2)) := Iv_below (Iv_gb (r := none) iv (gb_below BW) (fun _ _ => nofun)) ((Below.refl _ _).alloc (Nat.le_refl _) _)
      have B2 : Hid (Below W0.heap.size W0 (wr.alloc (.cells #[.bool l, .slice b1 m1 q1, .slice b2 m2 q2] 44))) := hB.alloc hB.size _
      have e5 : Hid (wrap64 ((k : Int) + 1) = ((k + 1 : Nat) : Int)) := by
        have := hz.out
        have := hN.out
        have := encs_many ks
        have := hn.out
        have := hl.out
        show _ = _; unfold wrap64; omega
      obtain ⟨Y, hY⟩ : ∃ Y, Y = bst (encs (ks.take (k + 1))) := ⟨_, rfl⟩
      have HY : Hid (Y = bst (encs (ks.take (k + 1)))) := hY
      rw [← hY] at HC
      generalize bst (encs (ks.take k)) = X at *
      clear hq hcell x0 x1 x2 ev hks iv BW hY
      go_wp2_with fail
      refine (KB.out _ IW.out).mono (fun e w5 he => ?_)
      obtain ⟨v, rfl, hs5, b5⟩ := he
      have B5 : Hid (Below W0.heap.size W0 w5) := B2.out.trans (b5.mono B2.out.size)
      have q5 := Sl_bst hs5
      have q6 := HC.out w5
      obtain ⟨a5, n5, rfl, -, -⟩ := hs5
      generalize bst (enc (ks.getD k It.no)) = E5 at *
      generalize (enc (ks.getD k It.no)).length = n6 at *
      clear KB IW B2 y0 y1 y2 b5 HC
      go_wp2_with fail
      rw [e5.out]
      exact ⟨⟨k + 1, hlt, by rw [HY.out], rfl, B5.out⟩, msr_up k n hlt⟩
    · have d0 : decide ((k : Int) < (n : Int)) = false := decide_eq_false (by omega)
      have ek : ks.take k = ks := List.take_of_length_le (by have := hn.out; have := hl.out; omega)
      rw [ek]
      have ht2 : wr.cell? ⟨g, 0, none⟩ = some (.bool true) := (hB.cell (p := ⟨g, 0, none⟩) hs).trans ht
      have hgw : g < wr.heap.size := Nat.lt_of_lt_of_le hs hB.size
      have BF : Hid (Below w.heap.size w wr) := (EG.out ▸ B0).trans (hB.mono (by have := EG.out; omega))
      have hX : (bst (encs ks)).size = N := by rw [bst_size, hN.out]
      have KH : Hid (∀ W : World, Calls Tryd.prog 30 #[.int .i64 (N : Int), .bool true] W fun e w' => e = .returned (.string (bst (hdr 192 N))) ∧ Below W.heap.size W w') := fun W => phead_any true N W hz.out
      have KC : Hid (∀ W : World, ∃ c W', (convert 9 22 (.string (bst (hdr 192 N ++ encs ks)))).run Tryd.prog W = .ok (.slice (some ⟨W.heap.size, 0, none⟩) (hdr 192 N ++ encs ks).length c) W' ∧ Sl (hdr 192 N ++ encs ks) (.slice (some ⟨W.heap.size, 0, none⟩) (hdr 192 N ++ encs ks).length c) W' ∧ Below W.heap.size W W') := fun W => str_sl _ W
      have HC : Hid (∀ W : World, (Op.stringOp .add (bst (hdr 192 N)) (bst (encs ks))).run Tryd.prog W = .ok (.string (bst (hdr 192 N ++ encs ks))) W) := fun W => cat_bst _ _ (by have := hdr_9 192 N (by have := hz.out; omega); omega) (by have := hz.out; have := hN.out; omega) W
      generalize bst (hdr 192 N ++ encs ks) = Z at *
      obtain ⟨E, hE⟩ : ∃ E, E = hdr 192 N ++ encs ks := ⟨_, rfl⟩
      have HE : Hid (E = hdr 192 N ++ encs ks) := hE
      rw [← hE] at KC
      clear hE
      generalize bst (encs ks) = X at *
      generalize bst (hdr 192 N) = H at *
      clear ek
      go_wp2_with fail
      refine (KH.out _).mono (fun e w2 he => ?_)
      obtain ⟨rfl, b2⟩ := he
      obtain ⟨k2, W, hcv, h2, h3⟩ := KC.out w2
      have HR : Hid (Sl (hdr 192 N ++ encs ks) (.slice (some ⟨w2.heap.size, 0, none⟩) E.length k2) W ∧ Below w.heap.size w W) := ⟨HE.out ▸ h2, (BF.out.trans (b2.mono BF.out.size)).trans (h3.mono (Nat.le_trans BF.out.size b2.size))⟩
      clear HE
      generalize E.length = L at *
      have q3 := HC.out w2
      clear h2 h3 b2 KC KH HC
      go_wp2_with fail
      go_ret
      exact ⟨_, rfl, HR.out⟩
theorem enc_text (t : List UInt8) (ks : List It) (h : ¬ ∃ c : UInt8, t = [c] ∧ c.toNat < 128) : enc (.mk false t ks) = hdr 128 t.length ++ t := by
  unfold enc
  rw [if_neg]
  intro h2
  apply h
  match t, h2 with
  | [c], h2 => exact ⟨c, rfl, by have : Sp.bz [c] 0 = (c.toNat : Int) := rfl; have := h2.2; omega⟩
  | [], h2 => simp at h2
  | _ :: _ :: _, h2 => simp at h2
theorem pencode_any {t : It} (hb : Wf t) : (enc t).length ≤ 1048576 → ∀ (S : Nat → Prop) (v : V3) (w : World), Iv S w t v → Calls Tryd.prog 15 #[v3 v] w fun e w' => ∃ v, e = .returned v ∧ Sl (enc t) v w' ∧ Below w.heap.size w w' := by
  induction hb with
  | mk l t ks _ ih =>
    intro hz S v w h
    cases h with
    | mk _ _ _ tv kv vs ht hl hk hi =>
      have h7 := Ty_sl ht
      obtain ⟨a1, c1, rfl, -, -⟩ := ht
      have hk2 := hk
      obtain ⟨a2, c2, rfl, -, -⟩ := hk
      cases l with
      | false =>
        have hlen := enc_text_len t ks
        by_cases h1 : ∃ c : UInt8, t = [c] ∧ c.toNat < 128
        · obtain ⟨c, rfl, hc⟩ := h1
          rw [enc_one c ks hc]
          exact pencode_one c a1 a2 _ c1 c2 w hc h7
        · rw [enc_text t ks h1]
          exact pencode_head t t.length a1 a2 _ c1 c2 w rfl (by omega) h7 (fun e => by
            obtain ⟨c, rfl⟩ := List.length_eq_one_iff.1 e
            refine ⟨c, rfl, ?_⟩
            rcases Nat.lt_or_ge c.toNat 128 with h | h
            · exact absurd ⟨c, rfl, h⟩ h1
            · exact h)
      | true =>
        have h1 : (encs ks).length ≤ (enc (.mk true t ks)).length := by
          unfold enc
          rw [List.length_append]; omega
        have e : enc (.mk true t ks) = hdr 192 (encs ks).length ++ encs ks := by unfold enc; rfl
        rw [e]
        exact pencode_list S ks vs a1 a2 _ c1 c2 vs.length (encs ks).length (bst t) w rfl hl hk2 hi (fun W hW => Sl_bst (Sl_below h7 hW)) (fun j hj v w h => ih j hj (by have := encs_one ks j hj; omega) S v w h) rfl (by show _ ≤ _; omega)
end Pk
end Go.Proofs.YtefgamhnikeekaaDoor
namespace Go.Proofs.YtefgamhnikeekaaDoor
namespace Rs
open Nb Sp Pk Go.RowKit
theorem pt1 : Hid (∀ (a : Option Addr) (m c : Nat) (wx : World), Calls Tryd.prog 27 #[.slice a m c] wx fun e w' => e = .returned (.agg #[.bool false, .slice a m c, .slice none 0 0]) ∧ Below wx.heap.size wx w') := fun a m c wx => ptext_any a m c wx
theorem pl1 : Hid (∀ (a : Option Addr) (m c : Nat) (wx : World), Calls Tryd.prog 29 #[.slice a m c] wx fun e w' => e = .returned (.agg #[.bool true, .slice none 0 0, .slice a m c]) ∧ Below wx.heap.size wx w') := fun a m c wx => plist_sl a m c wx
theorem shapeitem_any (s : Shp) (x : V4) (w : World) (h : Sh s x w) (hp : s.2.1.length ≤ 4194300) :
    Calls Tryd.prog 14 #[v4 x] w fun e w' => ∃ v, e = .returned (.tuple #[v3 v, .bool (isS s)]) ∧ (isS s = true → Iv (fun _ => True) w' (itS s) v) ∧ Below w.heap.size w w' ∧ Fm v := by
  obtain ⟨a1, c1, a2, c2, a3, c3, rfl⟩ := Sh_form h
  obtain ⟨kk, p, v, ks⟩ := s
  dsimp only at hp
  have vw : Hid (∀ W, Below w.heap.size w W → Vw p a1 W) := fun W hb => by
    obtain ⟨ao, cap, e, _, hv⟩ := (Sh_below h hb).2.1
    injection e with e1 _ _
    rwa [← e1] at hv
  have hc1 : p.length ≤ c1 := by
    obtain ⟨ao, cap, e, hc, _⟩ := h.2.1
    injection e with _ _ e3
    rw [e3]; exact hc
  have KN : ∀ leaf, Hid (∀ wx : World, Below w.heap.size w wx → Calls Tryd.prog 28 #[.slice a1 p.length c1, .bool leaf] wx fun e w' => ∃ v z, e = .returned (.tuple #[v, .int .i64 z]) ∧ Sl (jl (tg p leaf)) v w' ∧ Below wx.heap.size wx w') := fun leaf wx hb =>
    (ntag_sl p leaf a1 c1 wx (by show _ ≤ _; omega) hc1 (vw.out wx hb)).mono fun e w' he => by
      obtain ⟨v, h1, h2, h3⟩ := he
      exact ⟨v, _, h1, h2, h3⟩
  have hz : Hid (p.length ≤ 4194300) := hp
  have hu : Hid (∀ W, Below w.heap.size w W → Sl v (.slice a2 v.length c2) W) := fun W hb => (Sh_below h hb).2.2.1
  by_cases k0 : kk = 0
  · subst k0
    have e1 : isS (0, p, v, ks) = true := rfl
    rw [e1]
    exact si_none a1 a2 a3 _ c1 _ c2 _ c3 p w rfl hz vw (fun wx => pt1.out _ _ _ wx)
  by_cases k1 : kk = 1
  · subst k1
    have e0 : isS (1, p, v, ks) = (pb p && (decide (0 < v.length) && decide (v.length ≤ 1024))) := rfl
    cases hB : pb p with
    | false =>
      rw [show isS (1, p, v, ks) = false by rw [e0, hB]; rfl]
      exact (si_leaf_b a1 a2 a3 _ c1 _ c2 _ c3 p w rfl hz vw hB).mono fun e w' he => by obtain ⟨v, h1, _, h2⟩ := he; exact ⟨v, h1, nofun, h2⟩
    | true =>
      by_cases h0 : v.length = 0
      · rw [show isS (1, p, v, ks) = false by rw [e0, h0]; simp]
        exact (si_leaf_0 a1 a2 a3 _ c1 _ c2 _ c3 p w rfl hz vw hB h0).mono fun e w' he => by obtain ⟨v, h1, _, h2⟩ := he; exact ⟨v, h1, nofun, h2⟩
      · by_cases hm : v.length ≤ 1024
        · have hv0 : 0 < v.length := by omega
          rw [show isS (1, p, v, ks) = true by rw [e0, hB]; simp [hv0, hm]]
          exact si_leaf a1 a2 a3 _ c1 _ c2 _ c3 p w rfl hz vw (jl (tg p true)) hB pt1 pl1 (KN true) v hu hv0 hm
        · rw [show isS (1, p, v, ks) = false by rw [e0]; simp [hm]]
          exact (si_leaf_m a1 a2 a3 _ c1 _ c2 _ c3 p w rfl hz vw hB (by show 1024 < v.length; omega)).mono fun e w' he => by obtain ⟨v, h1, _, h2⟩ := he; exact ⟨v, h1, nofun, h2⟩
  by_cases k2 : kk = 2
  · subst k2
    have e0 : isS (2, p, v, ks) = (decide (0 < p.length) && (pb p && (decide (ks.length = 1) && decide ((ks.getD 0 []).length = 32)))) := rfl
    cases hB : pb p with
    | false =>
      rw [show isS (2, p, v, ks) = false by rw [e0, hB]; simp]
      exact (si_road_b a1 a2 a3 _ c1 _ c2 _ c3 p w rfl hz vw hB).mono fun e w' he => by obtain ⟨v, h1, _, h2⟩ := he; exact ⟨v, h1, nofun, h2⟩
    | true =>
      by_cases hn : p.length = 0
      · rw [show isS (2, p, v, ks) = false by rw [e0, hn]; simp]
        exact (si_road_0 a1 a2 a3 _ c1 _ c2 _ c3 p w rfl hz vw hB hn).mono fun e w' he => by obtain ⟨v, h1, _, h2⟩ := he; exact ⟨v, h1, nofun, h2⟩
      · have hn0 : 0 < p.length := by omega
        by_cases h3 : ks.length = 1
        · obtain ⟨ao, cap, e2, hL⟩ := h.2.2.2
          dsimp only at e2 hL
          obtain ⟨g, off, rfl, hg, hc⟩ := hL (by omega)
          obtain ⟨vi, q1, q2⟩ := hc 0 (by omega)
          obtain ⟨ai, ci, rfl⟩ := Sl_fm q2
          injection e2 with e3 _ _
          by_cases hm : (ks.getD 0 []).length = 32
          · rw [show isS (2, p, v, ks) = true by rw [e0, hB, decide_eq_true hn0, decide_eq_true h3, decide_eq_true hm]; rfl]
            rw [hm] at q1 q2
            exact si_road a1 a2 a3 _ c1 _ c2 _ c3 p w rfl hz vw (jl (tg p false)) hB pt1 pl1 (KN false) (ks.getD 0 []) g off ci ai e3 ⟨hg, q1⟩ (fun W hb => Sl_below q2 hb) hn0 h3
          · rw [show isS (2, p, v, ks) = false by rw [e0, decide_eq_false hm]; simp]
            exact (si_road_s a1 a2 a3 _ c1 _ c2 _ c3 p w rfl hz vw hB hn0 h3 _ hm (fun W hb => ⟨g, off, ai, ci, e3, (hb.cell (p := ⟨g, off, none⟩) hg).trans q1⟩)).mono fun e w' he => by obtain ⟨v, h1, _, h2⟩ := he; exact ⟨v, h1, nofun, h2⟩
        · rw [show isS (2, p, v, ks) = false by rw [e0]; simp [h3]]
          exact (si_road_k a1 a2 a3 _ c1 _ c2 _ c3 p w rfl hz vw hB hn0 h3).mono fun e w' he => by obtain ⟨v, h1, _, h2⟩ := he; exact ⟨v, h1, nofun, h2⟩
  by_cases k3 : kk = 3
  · subst k3
    have e0 : isS (3, p, v, ks) = (decide (ks.length = 16) && (decide (v.length ≤ 1024) && (ks.all sm && decide (2 ≤ np (ks ++ [v]))))) := rfl
    by_cases h3 : ks.length = 16
    · by_cases hm : v.length ≤ 1024
      · rw [show isS (3, p, v, ks) = (ks.all sm && decide (2 ≤ np (ks ++ [v]))) by rw [e0]; simp [h3, hm]]
        obtain ⟨hs, hh, hvl⟩ := ls_heads h.2.2.2
        exact si_fork a1 a2 a3 _ c1 _ c2 _ c3 p w rfl hz vw pt1 pl1 ks v hs hh hvl h.2.2.1 h3 hm
      · rw [show isS (3, p, v, ks) = false by rw [e0]; simp [hm]]
        exact (si_fork_v a1 a2 a3 _ c1 _ c2 _ c3 p w rfl hz vw h3 (by show 1024 < v.length; omega)).mono fun e w' he => by obtain ⟨v, h1, _, h2⟩ := he; exact ⟨v, h1, nofun, h2⟩
    · rw [show isS (3, p, v, ks) = false by rw [e0]; simp [h3]]
      exact (si_fork_k a1 a2 a3 _ c1 _ c2 _ c3 p w rfl hz vw h3).mono fun e w' he => by obtain ⟨v, h1, _, h2⟩ := he; exact ⟨v, h1, nofun, h2⟩
  · have e : isS (kk, p, v, ks) = false := by unfold isS; simp [k0, k1, k2, k3]
    rw [e]
    exact (si_other a1 a2 a3 _ c1 _ c2 _ c3 p w rfl hz vw kk k0 k1 k2 k3).mono fun e w' he => by obtain ⟨v, h1, _, h2⟩ := he; exact ⟨v, h1, nofun, h2⟩
theorem enc_t9 (t : List UInt8) (ks : List It) (h : t.length < 18446744073709551616) : (enc (.mk false t ks)).length ≤ t.length + 9 := by
  unfold enc
  split
  · omega
  · rw [List.length_append]
    have := hdr_9 128 t.length h
    omega
theorem encs_texts : ∀ l : List (List UInt8), (∀ t ∈ l, t.length ≤ 1024) → (encs (l.map fun b => .mk false b [])).length ≤ 1033 * l.length
  | [], _ => by simp [encs]
  | t :: r, h => by
    have h1 := enc_t9 t [] (by have := h t (List.mem_cons_self ..); omega)
    have h2 := encs_texts r (fun u hu => h u (List.mem_cons_of_mem _ hu))
    have h3 := h t (List.mem_cons_self ..)
    rw [List.map_cons, encs, List.length_append, List.length_cons]
    omega
theorem jn_ln : ∀ p : List UInt8, (jn p).length ≤ p.length / 2
  | [] => by simp [jn]
  | [_] => by simp [jn]
  | x :: y :: r => by
    have := jn_ln r
    rw [jn, List.length_cons]
    simp only [List.length_cons]
    omega
theorem jl_ln (p : List UInt8) : (jl p).length ≤ p.length / 2 := by
  unfold jl
  split
  · exact jn_ln p
  · simp
theorem enc_two (a b : List UInt8) (ha : a.length ≤ 600000) (hb : b.length ≤ 1024) : (enc (.mk true [] [.mk false a [], .mk false b []])).length ≤ 1048576 := by
  have h1 := enc_t9 a [] (by omega)
  have h2 := enc_t9 b [] (by omega)
  have e : encs [.mk false a [], .mk false b []] = enc (.mk false a []) ++ (enc (.mk false b []) ++ []) := by simp [encs]
  unfold enc
  rw [e, List.length_append]
  have h3 : (enc (.mk false a []) ++ (enc (.mk false b []) ++ [])).length ≤ 700000 := by simp only [List.length_append, List.length_nil]; omega
  have := hdr_9 192 (enc (.mk false a []) ++ (enc (.mk false b []) ++ [])).length (by omega)
  omega
theorem encS_len (s : Shp) (h : isS s = true) (hp : s.2.1.length ≤ 1048576) : (enc (itS s)).length ≤ 1048576 := by
  obtain ⟨kk, p, v, ks⟩ := s
  dsimp only at hp
  have ht : ∀ leaf, (jl (tg p leaf)).length ≤ 600000 := fun leaf => by
    have h1 := jl_ln (tg p leaf)
    have h2 := tg_len p leaf
    omega
  unfold itS
  dsimp only
  by_cases k1 : kk = 1
  · subst k1
    rw [if_pos rfl]
    have e0 : isS (1, p, v, ks) = (pb p && (decide (0 < v.length) && decide (v.length ≤ 1024))) := rfl
    rw [e0] at h
    simp only [Bool.and_eq_true, decide_eq_true_iff] at h
    exact enc_two _ _ (ht true) h.2.2
  rw [if_neg k1]
  by_cases k2 : kk = 2
  · subst k2
    rw [if_pos rfl]
    have e0 : isS (2, p, v, ks) = (decide (0 < p.length) && (pb p && (decide (ks.length = 1) && decide ((ks.getD 0 []).length = 32)))) := rfl
    rw [e0] at h
    simp only [Bool.and_eq_true, decide_eq_true_iff] at h
    exact enc_two _ _ (ht false) (by omega)
  rw [if_neg k2]
  by_cases k3 : kk = 3
  · subst k3
    rw [if_pos rfl]
    have e0 : isS (3, p, v, ks) = (decide (ks.length = 16) && (decide (v.length ≤ 1024) && (ks.all sm && decide (2 ≤ np (ks ++ [v]))))) := rfl
    rw [e0] at h
    simp only [Bool.and_eq_true, decide_eq_true_iff, List.all_eq_true] at h
    have h1 := encs_texts (ks ++ [v]) (fun t ht => by
      rcases List.mem_append.1 ht with ht | ht
      · have := h.2.2.1 t ht
        unfold sm at this
        simp at this
        rcases this with this | this
        · rw [this]; simp
        · omega
      · rw [List.mem_singleton.1 ht]; exact h.2.1)
    rw [List.length_append, h.1, List.length_singleton] at h1
    unfold enc
    rw [List.length_append]
    have := hdr_9 192 (encs ((ks ++ [v]).map fun b => .mk false b [])).length (by omega)
    omega
  · rw [if_neg k3]
    have := enc_t9 [] [] (by simp)
    simp at this
    omega
end Rs
end Go.Proofs.YtefgamhnikeekaaDoor
namespace Go.Proofs.YtefgamhnikeekaaDoor
namespace Rs
open Nb Sp Pk Go.RowKit
def hc (s : Shp) : List UInt8 := if isS s then enc (itS s) else []
def he (s : Shp) : Int := if isS s then 0 else 1
end Rs
end Go.Proofs.YtefgamhnikeekaaDoor
namespace Go.Proofs.YtefgamhnikeekaaDoor
namespace Nb
open Go.RowKit
end Nb
end Go.Proofs.YtefgamhnikeekaaDoor
namespace Go.Proofs.YtefgamhnikeekaaDoor
namespace Nb
open Go.RowKit
end Nb
end Go.Proofs.YtefgamhnikeekaaDoor
namespace Go.Proofs.YtefgamhnikeekaaDoor
namespace Pk
open Go.RowKit
end Pk
end Go.Proofs.YtefgamhnikeekaaDoor
namespace Go.Proofs.YtefgamhnikeekaaDoor
namespace Rs
open Nb Sp Pk Go.RowKit
abbrev zS : Shp := (0, [], [], [])
end Rs
end Go.Proofs.YtefgamhnikeekaaDoor
namespace Go.Proofs.YtefgamhnikeekaaDoor
namespace Tr
open Nb
abbrev By := List UInt8
abbrev Rt := List (By × By)
inductive Nd where
  | mk (kind : Int) (path value : By) (kids : List Nd)
def Nd.no : Nd := .mk 0 [] [] []
def Nd.kind : Nd → Int
  | .mk k _ _ _ => k
mutual
def gt : Nd → By → By
  | .mk k p v ks, q =>
    if k = 1 then (if q = p then v else [])
    else if k = 2 then (if p.isPrefixOf q then gtk ks 0 (q.drop p.length) else [])
    else if k = 3 then (if q = [] then v else gtk ks (q.headD 0).toNat q.tail)
    else []
def gtk : List Nd → Nat → By → By
  | [], _, _ => []
  | t :: _, 0, q => gt t q
  | _ :: r, i + 1, q => gtk r i q
end
mutual
def bn : Nd → Nd
  | .mk k p v ks => if k = 1 then .mk 1 p v [] else if k = 2 then .mk 2 p [] (bns ks) else if k = 3 then .mk 3 [] v (bns ks) else .mk k [] [] []
def bns : List Nd → List Nd
  | [] => []
  | t :: r => bn t :: bns r
end
theorem gt_no (q : By) : gt Nd.no q = [] := by
  unfold Nd.no gt
  simp
theorem gtk_getD : ∀ (ks : List Nd) (i : Nat) (q : By), gtk ks i q = gt (ks.getD i Nd.no) q
  | [], i, q => by
    unfold gtk
    rw [List.getD_eq_getElem?_getD, List.getElem?_nil, Option.getD_none, gt_no]
  | t :: r, 0, q => by unfold gtk; rw [List.getD_cons_zero]
  | t :: r, i + 1, q => by
    unfold gtk
    rw [List.getD_cons_succ, gtk_getD r i q]
theorem bns_len : ∀ ks : List Nd, (bns ks).length = ks.length
  | [] => rfl
  | t :: r => by unfold bns; rw [List.length_cons, List.length_cons, bns_len r]
theorem bn_no : bn Nd.no = Nd.no := by unfold Nd.no bn; simp
theorem bns_getD : ∀ (ks : List Nd) (j : Nat), (bns ks).getD j Nd.no = bn (ks.getD j Nd.no)
  | [], j => by unfold bns; simp [bn_no]
  | t :: r, 0 => by unfold bns; simp
  | t :: r, j + 1 => by unfold bns; simpa using bns_getD r j
theorem bns_ext (xs cs : List Nd) (hl : xs.length = cs.length) (h : ∀ j, j < xs.length → bn (xs.getD j Nd.no) = bn (cs.getD j Nd.no)) : bns xs = bns cs := by
  induction xs generalizing cs with
  | nil =>
    cases cs with
    | nil => rfl
    | cons c r => simp at hl
  | cons a xs ih =>
    cases cs with
    | nil => simp at hl
    | cons c cs =>
      unfold bns
      have h0 := h 0 (by simp)
      rw [List.getD_cons_zero, List.getD_cons_zero] at h0
      rw [h0, ih cs (by simpa using hl) (fun j hj => by simpa using h (j + 1) (by simpa using hj))]
def Two (v : By) (ks : List Nd) : Prop := (v ≠ [] ∧ ∃ j, j < 16 ∧ (ks.getD j Nd.no).kind ≠ 0) ∨ ∃ i j, i < j ∧ j < 16 ∧ (ks.getD i Nd.no).kind ≠ 0 ∧ (ks.getD j Nd.no).kind ≠ 0
inductive Rs : Nd → Prop where
  | none (p v : By) (ks : List Nd) : Rs (.mk 0 p v ks)
  | leaf (p v : By) (ks : List Nd) (hp : Pt p) (hv : v ≠ []) : Rs (.mk 1 p v ks)
  | road (p v : By) (t : Nd) (hp : Pt p) (h0 : p ≠ []) (hk : t.kind = 3) (h : Rs t) : Rs (.mk 2 p v [t])
  | fork (p v : By) (ks : List Nd) (hl : ks.length = 16) (h : ∀ j, j < 16 → Rs (ks.getD j Nd.no)) (h2 : Two v ks) : Rs (.mk 3 p v ks)
theorem gt_leaf (p v : By) (ks : List Nd) (q : By) : gt (.mk 1 p v ks) q = if q = p then v else [] := by
  unfold gt; simp
theorem gt_road (p v : By) (t : Nd) (q : By) : gt (.mk 2 p v [t]) q = if p.isPrefixOf q then gt t (q.drop p.length) else [] := by
  rw [gt, if_neg (by decide), if_pos rfl, gtk]
theorem gt_road_at (p v : By) (t : Nd) (q : By) : gt (.mk 2 p v [t]) (p ++ q) = gt t q := by
  rw [gt_road, if_pos (by simp), List.drop_left]
theorem gt_road_off (p v : By) (t : Nd) (q : By) (h : gt (.mk 2 p v [t]) q ≠ []) : ∃ r, q = p ++ r ∧ gt t r ≠ [] := by
  rw [gt_road] at h
  split at h
  · rename_i hp
    obtain ⟨r, rfl⟩ := List.isPrefixOf_iff_prefix.1 hp
    rw [List.drop_left] at h
    exact ⟨r, rfl, h⟩
  · exact absurd rfl h
theorem gt_fork_nil (p v : By) (ks : List Nd) : gt (.mk 3 p v ks) [] = v := by unfold gt; simp
theorem gt_fork_cons (p v : By) (ks : List Nd) (c : UInt8) (q : By) : gt (.mk 3 p v ks) (c :: q) = gt (ks.getD c.toNat Nd.no) q := by
  rw [gt, if_neg (by decide), if_neg (by decide), if_pos rfl, if_neg (by simp), gtk_getD]
  rfl
theorem gt_zero (k : Int) (p v : By) (ks : List Nd) (q : By) (h1 : k ≠ 1) (h2 : k ≠ 2) (h3 : k ≠ 3) : gt (.mk k p v ks) q = [] := by
  unfold gt
  rw [if_neg h1, if_neg h2, if_neg h3]
theorem u8_toNat (i : Nat) (h : i < 16) : (UInt8.ofNat i).toNat = i := of_lt i (by omega)
theorem some_val {t : Nd} (h : Rs t) : t.kind ≠ 0 → ∃ q, gt t q ≠ [] := by
  induction h with
  | none p v ks => intro h; exact absurd rfl h
  | leaf p v ks hp hv => intro _; exact ⟨p, by rw [gt_leaf, if_pos rfl]; exact hv⟩
  | road p v t hp h0 hk h ih =>
    intro _
    obtain ⟨q, hq⟩ := ih (by rw [hk]; decide)
    exact ⟨p ++ q, by rw [gt_road_at]; exact hq⟩
  | fork p v ks hl h h2 ih =>
    intro _
    rcases h2 with ⟨hv, _⟩ | ⟨i, j, hij, hj, hi, _⟩
    · exact ⟨[], by rw [gt_fork_nil]; exact hv⟩
    · obtain ⟨q, hq⟩ := ih i (by omega) hi
      exact ⟨UInt8.ofNat i :: q, by rw [gt_fork_cons, u8_toNat i (by omega)]; exact hq⟩
theorem fork_two {t : Nd} (h : Rs t) (hk : t.kind = 3) : ∃ q r, gt t q ≠ [] ∧ gt t r ≠ [] ∧ cmn q r = 0 ∧ q ≠ r := by
  cases h with
  | none p v ks => exact absurd hk (by show ¬ (0 : Int) = 3; decide)
  | leaf p v ks hp hv => exact absurd hk (by show ¬ (1 : Int) = 3; decide)
  | road p v t hp h0 hk2 h => exact absurd hk (by show ¬ (2 : Int) = 3; decide)
  | fork p v ks hl h h2 =>
    rcases h2 with ⟨hv, j, hj, hkj⟩ | ⟨i, j, hij, hj, hki, hkj⟩
    · obtain ⟨q, hq⟩ := some_val (h j hj) hkj
      exact ⟨[], UInt8.ofNat j :: q, by rw [gt_fork_nil]; exact hv, by rw [gt_fork_cons, u8_toNat j hj]; exact hq, rfl, by simp⟩
    · obtain ⟨q, hq⟩ := some_val (h i (by omega)) hki
      obtain ⟨r, hr⟩ := some_val (h j hj) hkj
      have hne : UInt8.ofNat i ≠ UInt8.ofNat j := fun e => by
        have := congrArg UInt8.toNat e
        rw [u8_toNat i (by omega), u8_toNat j hj] at this
        omega
      refine ⟨UInt8.ofNat i :: q, UInt8.ofNat j :: r, by rw [gt_fork_cons, u8_toNat i (by omega)]; exact hq, by rw [gt_fork_cons, u8_toNat j hj]; exact hr, ?_, ?_⟩
      · simp only [cmn, if_neg hne]
      · intro e
        injection e with e _
        exact hne e
theorem cmn_app (p q r : By) : cmn (p ++ q) (p ++ r) = p.length + cmn q r := by
  induction p with
  | nil => simp
  | cons c p ih => simp only [List.cons_append, cmn, if_true, ih, List.length_cons]; omega
theorem cmn_pre {p q r : By} (hq : p <+: q) (hr : p <+: r) : p.length ≤ cmn q r := by
  obtain ⟨x, rfl⟩ := hq
  obtain ⟨y, rfl⟩ := hr
  rw [cmn_app]; omega
theorem pre_len {p q x : By} (hp : p <+: x) (hq : q <+: x) (h : p.length = q.length) : p = q := by
  obtain ⟨a, rfl⟩ := hp
  exact (List.prefix_of_prefix_length_le ⟨a, rfl⟩ hq (by omega)).eq_of_length h
theorem uniq {a : Nd} (ha : Rs a) : ∀ b : Nd, Rs b → (∀ q, gt a q = gt b q) → bn a = bn b := by
  induction ha with
  | none p v ks =>
    intro b hb h
    by_cases hk : b.kind = 0
    · obtain ⟨k, p2, v2, ks2⟩ := b
      have hk : k = 0 := hk
      subst hk
      unfold bn; simp
    · obtain ⟨q, hq⟩ := some_val hb hk
      rw [← h q, gt_zero 0 p v ks q (by decide) (by decide) (by decide)] at hq
      exact absurd rfl hq
  | leaf p v ks hp hv =>
    intro b hb h
    have one : ∀ q, gt b q ≠ [] → q = p := fun q hq => by
      rw [← h q, gt_leaf] at hq
      split at hq
      · assumption
      · exact absurd rfl hq
    cases hb with
    | none p2 v2 ks2 =>
      have := h p
      rw [gt_leaf, if_pos rfl, gt_zero 0 p2 v2 ks2 p (by decide) (by decide) (by decide)] at this
      exact absurd this hv
    | leaf p2 v2 ks2 hp2 hv2 =>
      have e : p2 = p := one p2 (by rw [gt_leaf, if_pos rfl]; exact hv2)
      subst e
      have e2 := h p2
      rw [gt_leaf, gt_leaf, if_pos rfl, if_pos rfl] at e2
      subst e2
      unfold bn; simp
    | road p2 v2 t hp2 h0 hk ht =>
      obtain ⟨q, r, hq, hr, _, hne⟩ := fork_two ht hk
      have e1 := one (p2 ++ q) (by rw [gt_road_at]; exact hq)
      have e2 := one (p2 ++ r) (by rw [gt_road_at]; exact hr)
      exact absurd (List.append_cancel_left (e1.trans e2.symm)) hne
    | fork p2 v2 ks2 hl hks h2 =>
      obtain ⟨q, r, hq, hr, _, hne⟩ := fork_two (.fork p2 v2 ks2 hl hks h2) rfl
      exact absurd ((one q hq).trans (one r hr).symm) hne
  | road p v t hp h0 hk ht ih =>
    intro b hb h
    obtain ⟨q, r, hq, hr, hc, hne⟩ := fork_two ht hk
    have hq' : gt b (p ++ q) ≠ [] := by rw [← h, gt_road_at]; exact hq
    have hr' : gt b (p ++ r) ≠ [] := by rw [← h, gt_road_at]; exact hr
    have all : ∀ x, gt b x ≠ [] → p <+: x := fun x hx => by
      rw [← h x] at hx
      obtain ⟨y, rfl, _⟩ := gt_road_off p v t x hx
      exact ⟨y, rfl⟩
    cases hb with
    | none p2 v2 ks2 => rw [gt_zero 0 p2 v2 ks2 _ (by decide) (by decide) (by decide)] at hq'; exact absurd rfl hq'
    | leaf p2 v2 ks2 hp2 hv2 =>
      rw [gt_leaf] at hq' hr'
      split at hq'
      · split at hr'
        · rename_i e1 e2
          exact absurd (List.append_cancel_left (e1.trans e2.symm)) hne
        · exact absurd rfl hr'
      · exact absurd rfl hq'
    | road p2 v2 t2 hp2 h02 hk2 ht2 =>
      obtain ⟨q2, r2, hq2, hr2, hc2, hne2⟩ := fork_two ht2 hk2
      have l1 : p2.length ≤ p.length := by
        obtain ⟨x, ex, _⟩ := gt_road_off p2 v2 t2 _ hq'
        obtain ⟨y, ey, _⟩ := gt_road_off p2 v2 t2 _ hr'
        have := cmn_pre (p := p2) ⟨x, ex.symm⟩ ⟨y, ey.symm⟩
        rw [cmn_app, hc] at this
        omega
      have l2 : p.length ≤ p2.length := by
        have := cmn_pre (all (p2 ++ q2) (by rw [gt_road_at]; exact hq2)) (all (p2 ++ r2) (by rw [gt_road_at]; exact hr2))
        rw [cmn_app, hc2] at this
        omega
      have e : p = p2 := pre_len (all (p2 ++ q2) (by rw [gt_road_at]; exact hq2)) ⟨q2, rfl⟩ (by omega)
      subst e
      have k := ih t2 ht2 (fun x => by have := h (p ++ x); rwa [gt_road_at, gt_road_at] at this)
      unfold bn
      simp [bns, k]
    | fork p2 v2 ks2 hl hks h2 =>
      obtain ⟨q2, r2, hq2, hr2, hc2, hne2⟩ := fork_two (.fork p2 v2 ks2 hl hks h2) rfl
      have := cmn_pre (all q2 hq2) (all r2 hr2)
      rw [hc2] at this
      exact absurd (List.length_eq_zero_iff.1 (by omega)) h0
  | fork p v ks hl hks h2 ih =>
    intro b hb h
    obtain ⟨q, r, hq, hr, hc, hne⟩ := fork_two (.fork p v ks hl hks h2) rfl
    have hq' : gt b q ≠ [] := by rw [← h]; exact hq
    have hr' : gt b r ≠ [] := by rw [← h]; exact hr
    cases hb with
    | none p2 v2 ks2 => rw [gt_zero 0 p2 v2 ks2 _ (by decide) (by decide) (by decide)] at hq'; exact absurd rfl hq'
    | leaf p2 v2 ks2 hp2 hv2 =>
      rw [gt_leaf] at hq' hr'
      split at hq'
      · split at hr'
        · rename_i e1 e2
          exact absurd (e1.trans e2.symm) hne
        · exact absurd rfl hr'
      · exact absurd rfl hq'
    | road p2 v2 t2 hp2 h02 hk2 ht2 =>
      obtain ⟨x, ex, _⟩ := gt_road_off p2 v2 t2 _ hq'
      obtain ⟨y, ey, _⟩ := gt_road_off p2 v2 t2 _ hr'
      have := cmn_pre (p := p2) ⟨x, ex.symm⟩ ⟨y, ey.symm⟩
      rw [hc] at this
      exact absurd (List.length_eq_zero_iff.1 (by omega)) h02
    | fork p2 v2 ks2 hl2 hks2 h22 =>
      have ev : v = v2 := by have := h []; rwa [gt_fork_nil, gt_fork_nil] at this
      have ek : bns ks = bns ks2 := bns_ext ks ks2 (by omega) (fun j hj => ih j (by omega) _ (hks2 j (by omega)) (fun x => by
        have := h (UInt8.ofNat j :: x)
        rwa [gt_fork_cons, gt_fork_cons, u8_toNat j (by omega)] at this))
      unfold bn
      simp [ev, ek]
end Tr
end Go.Proofs.YtefgamhnikeekaaDoor
namespace Go.Proofs.YtefgamhnikeekaaDoor
namespace Tr
open Nb
def less (a b : By) : Prop := Op.bytesLess a b = true
theorem less_nil (a : By) : ¬ less a [] := by
  unfold less
  cases a <;> simp [Op.bytesLess]
theorem nil_less (c : UInt8) (r : By) : less [] (c :: r) := rfl
theorem less_cons (x y : UInt8) (a b : By) : less (x :: a) (y :: b) ↔ x < y ∨ (x = y ∧ less a b) := by
  unfold less
  simp [Op.bytesLess]
theorem less_irrefl : ∀ a : By, ¬ less a a
  | [], h => less_nil [] h
  | x :: a, h => by
    rcases (less_cons x x a a).1 h with h | ⟨_, h⟩
    · exact absurd (UInt8.lt_iff_toNat_lt.1 h) (Nat.lt_irrefl _)
    · exact less_irrefl a h
theorem less_app (p a b : By) : less (p ++ a) (p ++ b) ↔ less a b := by
  induction p with
  | nil => exact Iff.rfl
  | cons c p ih =>
    rw [List.cons_append, List.cons_append, less_cons, ih]
    constructor
    · rintro (h | ⟨_, h⟩)
      · exact absurd (UInt8.lt_iff_toNat_lt.1 h) (Nat.lt_irrefl _)
      · exact h
    · exact fun h => .inr ⟨rfl, h⟩
def leq (a b : By) : Prop := a = b ∨ less a b
theorem leq_cons {x y : UInt8} {a b : By} (h : leq (x :: a) (y :: b)) : x.toNat ≤ y.toNat ∧ (x = y → leq a b) := by
  rcases h with h | h
  · injection h with h1 h2
    exact ⟨by rw [h1]; exact Nat.le_refl _, fun _ => .inl h2⟩
  · rcases (less_cons x y a b).1 h with h | ⟨h1, h⟩
    · have := UInt8.lt_iff_toNat_lt.1 h
      exact ⟨by omega, fun e => by rw [e] at this; omega⟩
    · exact ⟨by rw [h1]; exact Nat.le_refl _, fun _ => .inr h⟩
theorem cmn_mid : ∀ a b c : By, leq a b → leq b c → a.take (cmn a c) <+: b
  | [], b, _, _, _ => by simp
  | x :: a, b, [], _, _ => by simp [cmn]
  | x :: a, [], y :: c, h, _ => by
    rcases h with h | h
    · cases h
    · exact absurd h (less_nil _)
  | x :: a, z :: b, y :: c, h1, h2 => by
    simp only [cmn]
    split
    · rename_i e
      subst e
      have k1 := leq_cons h1
      have k2 := leq_cons h2
      have e : x = z := UInt8.toNat_inj.1 (by omega)
      subst e
      rw [List.take_succ_cons]
      exact (List.cons_prefix_cons).2 ⟨rfl, cmn_mid a b c (k1.2 rfl) (k2.2 rfl)⟩
    · simp
def Srt (l : Rt) : Prop := l.Pairwise fun a b => less a.1 b.1
def Pts (l : Rt) : Prop := ∀ r ∈ l, Pt r.1
def VO (l : Rt) : Prop := ∀ r ∈ l, r.2 ≠ []
def pre (p : By) (l : Rt) : Rt := l.map fun r => (p ++ r.1, r.2)
def cut (c : Nat) (l : Rt) : Rt := l.map fun r => (r.1.drop c, r.2)
def prt (i : Nat) (l : Rt) : Rt := l.filter fun r => (r.1.headD 0).toNat == i
def lk : Rt → By → By
  | [], _ => []
  | (p, v) :: r, q => if q = p then v else lk r q
theorem lk_out : ∀ (l : Rt) (q : By), (∀ r ∈ l, r.1 ≠ q) → lk l q = []
  | [], _, _ => rfl
  | (p, v) :: r, q, h => by
    rw [lk, if_neg (fun e => h (p, v) (List.mem_cons_self ..) e.symm)]
    exact lk_out r q (fun x hx => h x (List.mem_cons_of_mem _ hx))
theorem lk_mem : ∀ (l : Rt) (r : By × By), Srt l → r ∈ l → lk l r.1 = r.2
  | (p, v) :: l, r, hs, hr => by
    have hs' : (∀ x ∈ l, less p x.1) ∧ Srt l := List.pairwise_cons.1 hs
    rcases List.mem_cons.1 hr with rfl | hr
    · rw [lk, if_pos rfl]
    · rw [lk, if_neg (fun e => less_irrefl p (by have := hs'.1 r hr; rwa [e] at this))]
      exact lk_mem l r hs'.2 hr
theorem lk_in {l : Rt} {q : By} (h : lk l q ≠ []) : ∃ r ∈ l, r.1 = q := by
  apply Classical.byContradiction
  intro hn
  exact h (lk_out l q (fun r hr e => hn ⟨r, hr, e⟩))
theorem lk_pre (p : By) : ∀ (l : Rt) (q : By), lk (pre p l) (p ++ q) = lk l q
  | [], _ => rfl
  | (a, v) :: l, q => by
    show lk ((p ++ a, v) :: pre p l) (p ++ q) = lk ((a, v) :: l) q
    rw [lk, lk, lk_pre p l q]
    by_cases e : q = a
    · rw [if_pos e, if_pos (by rw [e])]
    · rw [if_neg e, if_neg (fun h => e (List.append_cancel_left h))]
theorem pre_mem {p : By} {l : Rt} {r : By × By} (h : r ∈ pre p l) : ∃ s ∈ l, r = (p ++ s.1, s.2) := by
  obtain ⟨s, hs, e⟩ := List.mem_map.1 h
  exact ⟨s, hs, e.symm⟩
theorem lk_pre_off (p : By) (l : Rt) (q : By) (h : ¬ p <+: q) : lk (pre p l) q = [] := lk_out _ _ (fun r hr e => by
  obtain ⟨s, _, rfl⟩ := pre_mem hr
  exact h ⟨s.1, e⟩)
theorem srt_pre (p : By) (l : Rt) : Srt (pre p l) ↔ Srt l := by
  unfold Srt pre
  rw [List.pairwise_map]
  simp only [less_app]
theorem pre_cut {p : By} {l : Rt} (h : ∀ r ∈ l, p <+: r.1) : pre p (cut p.length l) = l := by
  unfold pre cut
  rw [List.map_map]
  conv => rhs; rw [← List.map_id l]
  apply List.map_congr_left
  intro r hr
  obtain ⟨x, hx⟩ := h r hr
  show (p ++ r.1.drop p.length, r.2) = r
  rw [← hx, List.drop_left, hx]
theorem pts_of_pre {p : By} {l : Rt} (h : Pts (pre p l)) : Pts l := fun r hr c hc => h (p ++ r.1, r.2) (List.mem_map.2 ⟨r, hr, rfl⟩) c (List.mem_append_right _ hc)
theorem vo_of_pre {p : By} {l : Rt} (h : VO (pre p l)) : VO l := fun r hr => h (p ++ r.1, r.2) (List.mem_map.2 ⟨r, hr, rfl⟩)
theorem srt_head {a : By × By} {l : Rt} (h : Srt (a :: l)) : ∀ r ∈ a :: l, leq a.1 r.1 := fun r hr => by
  rcases List.mem_cons.1 hr with rfl | hr
  · exact .inl rfl
  · exact .inr ((List.pairwise_cons.1 h).1 r hr)
theorem srt_last : ∀ {l : Rt} (_ : Srt l) (hn : l ≠ []), ∀ r ∈ l, leq r.1 (l.getLast hn).1
  | [a], _, _, r, hr => by
    rcases List.mem_cons.1 hr with rfl | hr
    · exact .inl rfl
    · cases hr
  | a :: b :: l, h, _, r, hr => by
    have h2 := List.pairwise_cons.1 h
    have e : (a :: b :: l).getLast (by simp) = (b :: l).getLast (by simp) := List.getLast_cons (by simp)
    rw [e]
    rcases List.mem_cons.1 hr with rfl | hr
    · exact .inr (h2.1 _ (List.getLast_mem _))
    · exact srt_last (l := b :: l) h2.2 (by simp) r hr
def grow : Nat → Rt → Nd
  | 0, _ => Nd.no
  | _ + 1, [] => Nd.no
  | _ + 1, [a] => .mk 1 a.1 a.2 []
  | n + 1, a :: b :: l =>
    if 0 < cmn a.1 ((b :: l).getLast (by simp)).1 then .mk 2 (a.1.take (cmn a.1 ((b :: l).getLast (by simp)).1)) [] [grow n (cut (cmn a.1 ((b :: l).getLast (by simp)).1) (a :: b :: l))]
    else .mk 3 [] (if a.1 = [] then a.2 else []) ((List.range 16).map fun i => grow n (cut 1 (prt i (if a.1 = [] then b :: l else a :: b :: l))))
theorem lk_prt (c : UInt8) (r : By) : ∀ M : Rt, (∀ x ∈ M, x.1 ≠ []) → lk (cut 1 (prt c.toNat M)) r = lk M (c :: r)
  | [], _ => rfl
  | (p, v) :: M, h => by
    have ih := lk_prt c r M (fun x hx => h x (List.mem_cons_of_mem _ hx))
    cases p with
    | nil => exact absurd rfl (h ([], v) (List.mem_cons_self ..))
    | cons y p =>
      by_cases e : y = c
      · subst e
        have : prt y.toNat ((y :: p, v) :: M) = (y :: p, v) :: prt y.toNat M := by unfold prt; rw [List.filter_cons_of_pos (by simp)]
        rw [this]
        show lk ((p, v) :: cut 1 (prt y.toNat M)) r = _
        rw [lk, lk, ih]
        by_cases e2 : r = p
        · rw [if_pos e2, if_pos (by rw [e2])]
        · rw [if_neg e2, if_neg (fun h => e2 (by injection h))]
      · have : prt c.toNat ((y :: p, v) :: M) = prt c.toNat M := by
          unfold prt
          rw [List.filter_cons_of_neg]
          simp only [List.headD_cons, beq_iff_eq]
          exact fun h => e (UInt8.toNat_inj.1 h)
        rw [this, ih, lk, if_neg (fun h => e (by injection h with h _; exact h.symm))]
theorem prt_mem {i : Nat} {M : Rt} {r : By × By} (hM : ∀ x ∈ M, x.1 ≠ []) (h : r ∈ prt i M) : r ∈ M ∧ ∃ q, r.1 = UInt8.ofNat i :: q := by
  obtain ⟨h1, h2⟩ := List.mem_filter.1 h
  refine ⟨h1, ?_⟩
  cases hr : r.1 with
  | nil => exact absurd hr (hM r h1)
  | cons c q =>
    rw [hr] at h2
    have h3 : c.toNat = i := by simpa using h2
    refine ⟨q, ?_⟩
    subst h3
    rw [UInt8.ofNat_toNat]
theorem getD_range {α : Type} (f : Nat → α) (n j : Nat) (d : α) (h : j < n) : ((List.range n).map f).getD j d = f j := by
  rw [List.getD_eq_getElem?_getD, List.getElem?_map, List.getElem?_range h]
  rfl
theorem getD_range_out {α : Type} (f : Nat → α) (n j : Nat) (d : α) (h : n ≤ j) : ((List.range n).map f).getD j d = d := by
  rw [List.getD_eq_getElem?_getD, List.getElem?_eq_none (by simpa using h)]
  rfl
theorem grow_kind : ∀ (n : Nat) (l : Rt), 0 < n → l ≠ [] → (grow n l).kind ≠ 0
  | n + 1, [a], _, _ => by show (1 : Int) ≠ 0; decide
  | n + 1, a :: b :: l, _, _ => by
    unfold grow
    split
    · show (2 : Int) ≠ 0; decide
    · show (3 : Int) ≠ 0; decide
theorem grow_fork (n : Nat) (a b : By × By) (l : Rt) (h : cmn a.1 ((b :: l).getLast (by simp)).1 = 0) : (grow (n + 1) (a :: b :: l)).kind = 3 := by
  unfold grow
  rw [if_neg (by omega)]
  rfl
theorem cut_len (c : Nat) (l : Rt) : (cut c l).length = l.length := by simp [cut]
theorem grow_spec : ∀ (n : Nat) (l : Rt), (∀ r ∈ l, r.1.length < n) → Srt l → Pts l → VO l → Rs (grow n l) ∧ ∀ q, gt (grow n l) q = lk l q
  | 0, [], _, _, _, _ => ⟨.none _ _ _, fun q => by rw [grow, gt_no]; rfl⟩
  | 0, a :: l, h, _, _, _ => absurd (h a (List.mem_cons_self ..)) (by omega)
  | n + 1, [], _, _, _, _ => ⟨.none _ _ _, fun q => by rw [grow, gt_no]; rfl⟩
  | n + 1, [a], _, _, hp, hv => ⟨.leaf _ _ _ (hp a (List.mem_cons_self ..)) (hv a (List.mem_cons_self ..)), fun q => by rw [grow, gt_leaf]; rfl⟩
  | n + 1, a :: b :: l, hn, hs, hp, hv => by
    obtain ⟨z, hz⟩ : ∃ z, z = (b :: l).getLast (by simp) := ⟨_, rfl⟩
    have hzl : (a :: b :: l).getLast (by simp) = z := by rw [hz]; exact List.getLast_cons (by simp)
    have hzm : z ∈ b :: l := hz ▸ List.getLast_mem _
    have hlo := srt_head hs
    have hhi : ∀ r ∈ a :: b :: l, leq r.1 z.1 := fun r hr => by have := srt_last hs (by simp) r hr; rwa [hzl] at this
    have haz : less a.1 z.1 := (List.pairwise_cons.1 hs).1 z hzm
    have hall : ∀ r ∈ a :: b :: l, a.1.take (cmn a.1 z.1) <+: r.1 := fun r hr => cmn_mid a.1 r.1 z.1 (hlo r hr) (hhi r hr)
    have tl : (a.1.take (cmn a.1 z.1)).length = cmn a.1 z.1 := by rw [List.length_take]; have := cmn_le a.1 z.1; omega
    unfold grow
    rw [← hz]
    split
    · rename_i hc
      obtain ⟨P, hP⟩ : ∃ P, P = a.1.take (cmn a.1 z.1) := ⟨_, rfl⟩
      rw [← hP] at hall tl ⊢
      rw [← tl]
      have epc := pre_cut hall
      have hs' : Srt (cut P.length (a :: b :: l)) := (srt_pre P _).1 (by rw [epc]; exact hs)
      have hp' : Pts (cut P.length (a :: b :: l)) := pts_of_pre (p := P) (by rw [epc]; exact hp)
      have hv' : VO (cut P.length (a :: b :: l)) := vo_of_pre (p := P) (by rw [epc]; exact hv)
      have hP0 : 0 < P.length := by omega
      have hlen : P.length ≤ a.1.length := by rw [tl]; exact cmn_le _ _
      have hn1 : 0 < n := by have := hn a (List.mem_cons_self ..); omega
      have hn' : ∀ r ∈ cut P.length (a :: b :: l), r.1.length < n := fun r hr => by
        obtain ⟨s, hs, rfl⟩ := List.mem_map.1 hr
        have := hn s hs
        show (s.1.drop P.length).length < n
        rw [List.length_drop]; omega
      obtain ⟨k1, k2⟩ := grow_spec n (cut P.length (a :: b :: l)) hn' hs' hp' hv'
      have hk : (grow n (cut P.length (a :: b :: l))).kind = 3 := by
        obtain ⟨m, rfl⟩ : ∃ m, n = m + 1 := ⟨n - 1, by omega⟩
        refine grow_fork m (a.1.drop P.length, a.2) (b.1.drop P.length, b.2) (cut P.length l) ?_
        have e1 : ((b.1.drop P.length, b.2) :: cut P.length l).getLast (by simp) = (z.1.drop P.length, z.2) := by
          rw [hz]
          exact (List.getLast_map (f := fun r : By × By => (r.1.drop P.length, r.2)) (l := b :: l) (by simp))
        rw [e1]
        obtain ⟨x, hx⟩ := hall a (List.mem_cons_self ..)
        obtain ⟨y, hy⟩ := hall z (List.mem_cons_of_mem _ hzm)
        show cmn (a.1.drop P.length) (z.1.drop P.length) = 0
        have e2 : cmn a.1 z.1 = P.length := tl.symm
        rw [← hx, ← hy, cmn_app] at e2
        rw [← hx, ← hy, List.drop_left, List.drop_left]
        omega
      refine ⟨.road P [] _ (fun c hc => ?_) (fun e => by rw [e] at hP0; simp at hP0) hk k1, fun q => ?_⟩
      · rw [hP] at hc
        exact hp a (List.mem_cons_self ..) c (List.mem_of_mem_take hc)
      · rw [gt_road]
        split
        · rename_i hpq
          obtain ⟨x, rfl⟩ := List.isPrefixOf_iff_prefix.1 hpq
          rw [List.drop_left, k2, ← lk_pre P, epc]
        · rename_i hpq
          rw [← epc, lk_pre_off P _ q (fun h => hpq (List.isPrefixOf_iff_prefix.2 h))]
    · rename_i hc
      have hc : cmn a.1 z.1 = 0 := by omega
      obtain ⟨M, hM⟩ : ∃ M, M = if a.1 = [] then b :: l else a :: b :: l := ⟨_, rfl⟩
      rw [← hM]
      have hsub : ∀ r ∈ M, r ∈ a :: b :: l := fun r hr => by
        rw [hM] at hr
        split at hr
        · exact List.mem_cons_of_mem _ hr
        · exact hr
      have hMs : Srt M := by
        rw [hM]
        split
        · exact (List.pairwise_cons.1 hs).2
        · exact hs
      have hMn : ∀ r ∈ M, r.1 ≠ [] := fun r hr e => by
        rw [hM] at hr
        split at hr
        · have := (List.pairwise_cons.1 hs).1 r hr
          rw [e] at this
          exact less_nil _ this
        · rename_i ha
          rcases hlo r hr with h | h
          · exact ha (h.trans e)
          · rw [e] at h; exact less_nil _ h
      have hzM : z ∈ M := by
        rw [hM]
        split
        · exact hzm
        · exact List.mem_cons_of_mem _ hzm
      have sub : ∀ i, i < 16 → Rs (grow n (cut 1 (prt i M))) ∧ ∀ q, gt (grow n (cut 1 (prt i M))) q = lk (cut 1 (prt i M)) q := fun i hi => by
        have hpr : ∀ r ∈ prt i M, [UInt8.ofNat i] <+: r.1 := fun r hr => by
          obtain ⟨_, q, e⟩ := prt_mem hMn hr
          exact ⟨q, by rw [e]; rfl⟩
        have epc : pre [UInt8.ofNat i] (cut 1 (prt i M)) = prt i M := pre_cut (p := [UInt8.ofNat i]) hpr
        have hmm : ∀ r ∈ prt i M, r ∈ a :: b :: l := fun r hr => hsub r (prt_mem hMn hr).1
        exact grow_spec n _ (fun r hr => by
          obtain ⟨s, hs, rfl⟩ := List.mem_map.1 hr
          have := hn s (hmm s hs)
          obtain ⟨_, q, e⟩ := prt_mem hMn hs
          show (s.1.drop 1).length < n
          rw [List.length_drop]
          rw [e, List.length_cons] at this ⊢
          omega)
          ((srt_pre [UInt8.ofNat i] _).1 (by rw [epc]; exact hMs.filter _)) (pts_of_pre (p := [UInt8.ofNat i]) (by rw [epc]; exact fun r hr => hp r (hmm r hr))) (vo_of_pre (p := [UInt8.ofNat i]) (by rw [epc]; exact fun r hr => hv r (hmm r hr)))
      have live : ∀ (c : UInt8) (q : By) (v : By), (c :: q, v) ∈ M → c.toNat < 16 ∧ (grow n (cut 1 (prt c.toNat M))).kind ≠ 0 := fun c q v hm => by
        refine ⟨hp _ (hsub _ hm) c (List.mem_cons_self ..), grow_kind n _ ?_ (fun e => ?_)⟩
        · have := hn _ (hsub _ hm)
          simp only [List.length_cons] at this
          omega
        · have h1 : (c :: q, v) ∈ prt c.toNat M := List.mem_filter.2 ⟨hm, by simp⟩
          have h2 : (cut 1 (prt c.toNat M)).length = 0 := by rw [e]; rfl
          rw [cut_len, List.length_eq_zero_iff] at h2
          rw [h2] at h1
          cases h1
      refine ⟨.fork _ _ _ (by simp) (fun j hj => ?_) ?_, fun q => ?_⟩
      · rw [getD_range _ _ _ _ hj]
        exact (sub j hj).1
      · obtain ⟨zp, zv⟩ := z
        cases hzp : zp with
        | nil => subst hzp; exact absurd rfl (hMn _ hzM)
        | cons y q =>
          subst hzp
          have lz := live y q zv hzM
          by_cases ha : a.1 = []
          · refine .inl ⟨by rw [if_pos ha]; exact hv a (List.mem_cons_self ..), y.toNat, lz.1, ?_⟩
            rw [getD_range _ _ _ _ lz.1]
            exact lz.2
          · obtain ⟨ap, av⟩ := a
            cases hap : ap with
            | nil => exact absurd hap ha
            | cons x p =>
              subst hap
              have la := live x p av (by rw [hM, if_neg ha]; exact List.mem_cons_self ..)
              have hxy : x.toNat < y.toNat := by
                rcases (less_cons x y p q).1 haz with h | ⟨h, _⟩
                · exact UInt8.lt_iff_toNat_lt.1 h
                · subst h
                  simp [cmn] at hc
              refine .inr ⟨x.toNat, y.toNat, hxy, lz.1, ?_, ?_⟩
              · rw [getD_range _ _ _ _ la.1]; exact la.2
              · rw [getD_range _ _ _ _ lz.1]; exact lz.2
      · cases q with
        | nil =>
          rw [gt_fork_nil]
          by_cases ha : a.1 = []
          · rw [if_pos ha]
            have := lk_mem (a :: b :: l) a hs (List.mem_cons_self ..)
            rw [ha] at this
            exact this.symm
          · rw [if_neg ha]
            refine (lk_out _ _ (fun r hr e => ?_)).symm
            exact hMn r (by rw [hM, if_neg ha]; exact hr) e
        | cons c r =>
          rw [gt_fork_cons]
          have eM : lk M (c :: r) = lk (a :: b :: l) (c :: r) := by
            rw [hM]
            split
            · rename_i ha
              obtain ⟨ap, av⟩ := a
              have ha : ap = [] := ha
              subst ha
              show lk (b :: l) (c :: r) = if c :: r = [] then av else lk (b :: l) (c :: r)
              rw [if_neg (by simp)]
            · rfl
          rcases Nat.lt_or_ge c.toNat 16 with h | h
          · rw [getD_range _ _ _ _ h, (sub c.toNat h).2, lk_prt c r M hMn, eM]
          · rw [getD_range_out _ _ _ _ h, gt_no]
            refine (lk_out _ _ (fun x hx e => ?_)).symm
            have := hp x hx c (by rw [e]; exact List.mem_cons_self ..)
            omega
end Tr
end Go.Proofs.YtefgamhnikeekaaDoor
namespace Go.Proofs.YtefgamhnikeekaaDoor
namespace Tr
open Nb
def ptb (p : By) : Bool := p.all fun c => decide (c.toNat < 16)
theorem ptb_iff (p : By) : ptb p = true ↔ Pt p := by
  unfold ptb Pt
  rw [List.all_eq_true]
  simp only [decide_eq_true_eq]
mutual
def rt : Nd → Option Rt
  | .mk k p v ks =>
    if (k = 1 ∨ k = 2) ∧ ptb p = false then none
    else if k = 0 then some []
    else if k = 1 then some [(p, v)]
    else if k = 2 ∧ ks.length = 1 then (rt0 ks).map (pre p)
    else if k = 3 ∧ ks.length = 16 then (rtk 0 ks).map fun l => (if v = [] then [] else [([], v)]) ++ l
    else none
def rt0 : List Nd → Option Rt
  | [] => none
  | t :: _ => rt t
def rtk : Nat → List Nd → Option Rt
  | _, [] => some []
  | i, t :: r => match rt t, rtk (i + 1) r with
    | some a, some b => some (pre [UInt8.ofNat i] a ++ b)
    | _, _ => none
end
inductive Wf : Nd → Prop where
  | mk (k : Int) (p v : By) (ks : List Nd) (h : ∀ j, j < ks.length → Wf (ks.getD j Nd.no)) : Wf (.mk k p v ks)
mutual
theorem wf_any : ∀ t : Nd, Wf t
  | .mk k p v ks => .mk k p v ks (wf_all ks)
theorem wf_all : ∀ (ks : List Nd) (j : Nat), j < ks.length → Wf (ks.getD j Nd.no)
  | [], j, h => absurd h (by simp)
  | k :: _, 0, _ => wf_any k
  | _ :: r, j + 1, h => wf_all r j (by simpa using h)
end
def Sp (l : Rt) (t : Nd) : Prop := Srt l ∧ Pts l ∧ ∀ q, lk l q = gt t q
theorem pts_pre {p : By} {l : Rt} (hp : Pt p) (h : Pts l) : Pts (pre p l) := fun r hr c hc => by
  obtain ⟨s, hs, rfl⟩ := pre_mem hr
  rcases List.mem_append.1 hc with h1 | h1
  · exact hp c h1
  · exact h s hs c h1
theorem lk_app_out : ∀ (a b : Rt) (q : By), (∀ r ∈ a, r.1 ≠ q) → lk (a ++ b) q = lk b q
  | [], _, _, _ => rfl
  | (p, v) :: a, b, q, h => by
    show (if q = p then v else lk (a ++ b) q) = _
    rw [if_neg (fun e => h (p, v) (List.mem_cons_self ..) e.symm)]
    exact lk_app_out a b q (fun r hr => h r (List.mem_cons_of_mem _ hr))
theorem lk_app_in : ∀ (a b : Rt) (q : By), (∀ r ∈ b, r.1 ≠ q) → lk (a ++ b) q = lk a q
  | [], b, q, h => lk_out b q h
  | (p, v) :: a, b, q, h => by
    show (if q = p then v else lk (a ++ b) q) = (if q = p then v else lk a q)
    rw [lk_app_in a b q h]
theorem rtk_spec : ∀ (ks : List Nd) (i : Nat) (l : Rt), i + ks.length ≤ 16 → (∀ j, j < ks.length → ∀ m, rt (ks.getD j Nd.no) = some m → Sp m (ks.getD j Nd.no)) → rtk i ks = some l →
    Srt l ∧ Pts l ∧ (∀ r ∈ l, ∃ j q, i ≤ j ∧ j < i + ks.length ∧ r.1 = UInt8.ofNat j :: q) ∧ ∀ (j : Nat) (q : By), i ≤ j → j < i + ks.length → lk l (UInt8.ofNat j :: q) = gt (ks.getD (j - i) Nd.no) q
  | [], i, l, _, _, h => by
    unfold rtk at h
    cases h
    exact ⟨List.Pairwise.nil, (fun r hr => by cases hr), (fun r hr => by cases hr), fun j q h1 h2 => by rw [List.length_nil] at h2; omega⟩
  | t :: r, i, l, hi, hk, h => by
    unfold rtk at h
    cases ha : rt t with
    | none => rw [ha] at h; cases h
    | some a =>
      cases hb : rtk (i + 1) r with
      | none => rw [ha, hb] at h; cases h
      | some b =>
        rw [ha, hb] at h
        cases h
        simp only [List.length_cons] at hi
        obtain ⟨a1, a2, a3⟩ := hk 0 (by simp) a ha
        rw [List.getD_cons_zero] at a3
        obtain ⟨b1, b2, b3, b4⟩ := rtk_spec r (i + 1) b (by omega) (fun j hj m hm => by
          have := hk (j + 1) (by simpa using hj) m
          rw [List.getD_cons_succ] at this
          exact this hm) hb
        have hib : ∀ x ∈ b, ∃ j q, i < j ∧ j < 16 ∧ x.1 = UInt8.ofNat j :: q := fun x hx => by
          obtain ⟨j, q, h1, h2, h3⟩ := b3 x hx
          exact ⟨j, q, by omega, by omega, h3⟩
        refine ⟨?_, ?_, ?_, ?_⟩
        · refine List.pairwise_append.2 ⟨(srt_pre _ _).2 a1, b1, fun x hx y hy => ?_⟩
          obtain ⟨s, _, rfl⟩ := pre_mem hx
          obtain ⟨j, q, h1, h2, h3⟩ := hib y hy
          rw [h3]
          refine (less_cons _ _ _ _).2 (.inl (UInt8.lt_iff_toNat_lt.2 ?_))
          rw [u8_toNat i (by omega), u8_toNat j h2]
          exact h1
        · intro x hx
          rcases List.mem_append.1 hx with h | h
          · exact pts_pre (fun c hc => by
              rcases List.mem_cons.1 hc with rfl | hc
              · rw [u8_toNat i (by omega)]; omega
              · cases hc) a2 x h
          · exact b2 x h
        · intro x hx
          rcases List.mem_append.1 hx with h | h
          · obtain ⟨s, _, rfl⟩ := pre_mem h
            exact ⟨i, s.1, Nat.le_refl _, by simp only [List.length_cons]; omega, rfl⟩
          · obtain ⟨j, q, h1, h2, h3⟩ := b3 x h
            exact ⟨j, q, by omega, by simp only [List.length_cons]; omega, h3⟩
        · intro j q h1 h2
          simp only [List.length_cons] at h2
          rcases Nat.lt_or_ge i j with hij | hij
          · rw [lk_app_out _ _ _ (fun x hx e => by
              obtain ⟨s, _, rfl⟩ := pre_mem hx
              injection e with e _
              have := congrArg UInt8.toNat e
              rw [u8_toNat i (by omega), u8_toNat j (by omega)] at this
              omega), b4 j q (by omega) (by omega)]
            obtain ⟨d, rfl⟩ : ∃ d, j = i + 1 + d := ⟨j - i - 1, by omega⟩
            rw [show i + 1 + d - (i + 1) = d by omega, show i + 1 + d - i = d + 1 by omega, List.getD_cons_succ]
          · have e : j = i := by omega
            subst e
            rw [lk_app_in _ _ _ (fun x hx e => by
              obtain ⟨k, q2, h1, h2, h3⟩ := hib x hx
              rw [h3] at e
              injection e with e _
              have := congrArg UInt8.toNat e
              rw [u8_toNat j (by omega), u8_toNat k h2] at this
              omega)]
            rw [Nat.sub_self, List.getD_cons_zero, ← a3 q]
            exact lk_pre [UInt8.ofNat j] a q
theorem rt_wf {t : Nd} (h : Wf t) : ∀ l, rt t = some l → Sp l t := by
  induction h with
  | mk k p v ks _ ih =>
    intro l h
    unfold rt at h
    split at h
    · cases h
    rename_i hp
    split at h
    · rename_i h0
      subst h0
      cases h
      exact ⟨List.Pairwise.nil, fun r hr => (by cases hr), fun q => (gt_zero 0 p v ks q (by decide) (by decide) (by decide)).symm⟩
    split at h
    · rename_i h1
      subst h1
      cases h
      have hpt : Pt p := (ptb_iff p).1 (by cases hb : ptb p with | true => rfl | false => exact absurd ⟨.inl rfl, hb⟩ hp)
      refine ⟨List.pairwise_singleton _ _, fun r hr => ?_, fun q => ?_⟩
      · rcases List.mem_cons.1 hr with rfl | hr
        · exact hpt
        · cases hr
      · rw [gt_leaf]; rfl
    split at h
    · rename_i h2
      obtain ⟨rfl, hl⟩ := h2
      obtain ⟨t, rfl⟩ := List.length_eq_one_iff.1 hl
      have hpt : Pt p := (ptb_iff p).1 (by cases hb : ptb p with | true => rfl | false => exact absurd ⟨.inr rfl, hb⟩ hp)
      rw [rt0] at h
      cases ha : rt t with
      | none => rw [ha] at h; cases h
      | some a =>
        rw [ha] at h
        cases h
        obtain ⟨a1, a2, a3⟩ := ih 0 (by simp) a ha
        rw [List.getD_cons_zero] at a3
        refine ⟨(srt_pre p a).2 a1, pts_pre hpt a2, fun q => ?_⟩
        rw [gt_road]
        split
        · rename_i hpq
          obtain ⟨x, rfl⟩ := List.isPrefixOf_iff_prefix.1 hpq
          rw [List.drop_left, lk_pre, a3]
        · rename_i hpq
          exact lk_pre_off p a q (fun h => hpq (List.isPrefixOf_iff_prefix.2 h))
    split at h
    · rename_i h3
      obtain ⟨rfl, hl⟩ := h3
      cases ha : rtk 0 ks with
      | none => rw [ha] at h; cases h
      | some a =>
        rw [ha] at h
        cases h
        obtain ⟨a1, a2, a3, a4⟩ := rtk_spec ks 0 a (by omega) ih ha
        have hne : ∀ r ∈ a, r.1 ≠ [] := fun r hr e => by
          obtain ⟨j, q, _, _, h3⟩ := a3 r hr
          rw [h3] at e; cases e
        have hcons : ∀ (c : UInt8) (q : By), lk a (c :: q) = gt (ks.getD c.toNat Nd.no) q := fun c q => by
          rcases Nat.lt_or_ge c.toNat 16 with hc | hc
          · have := a4 c.toNat q (by omega) (by omega)
            rw [UInt8.ofNat_toNat] at this
            simpa using this
          · rw [List.getD_eq_getElem?_getD, List.getElem?_eq_none (by omega), Option.getD_none, gt_no]
            exact lk_out _ _ (fun r hr e => by have := a2 r hr c (by rw [e]; exact List.mem_cons_self ..); omega)
        by_cases hv : v = []
        · rw [if_pos hv]
          refine ⟨a1, a2, fun q => ?_⟩
          cases q with
          | nil => rw [gt_fork_nil, hv]; exact lk_out _ _ hne
          | cons c q => rw [gt_fork_cons]; exact hcons c q
        · rw [if_neg hv]
          refine ⟨List.pairwise_cons.2 ⟨fun r hr => ?_, a1⟩, fun r hr => ?_, fun q => ?_⟩
          · show less [] r.1
            obtain ⟨j, q, _, _, h3⟩ := a3 r hr
            rw [h3]; exact nil_less _ _
          · rcases List.mem_cons.1 hr with rfl | hr
            · exact pt_nil
            · exact a2 r hr
          · show (if q = [] then v else lk a q) = _
            cases q with
            | nil => rw [gt_fork_nil, if_pos rfl]
            | cons c q => rw [gt_fork_cons, if_neg (by simp)]; exact hcons c q
    · cases h
theorem rt_spec {t : Nd} {l : Rt} (h : rt t = some l) : Sp l t := rt_wf (wf_any t) l h
theorem rtk_some : ∀ (ks : List Nd) (i : Nat), (∀ j, j < ks.length → ∃ m, rt (ks.getD j Nd.no) = some m ∧ VO m) → ∃ l, rtk i ks = some l ∧ VO l
  | [], _, _ => ⟨[], by unfold rtk; rfl, fun r hr => by cases hr⟩
  | t :: r, i, h => by
    obtain ⟨a, ha, va⟩ := h 0 (by simp)
    rw [List.getD_cons_zero] at ha
    obtain ⟨b, hb, vb⟩ := rtk_some r (i + 1) (fun j hj => by
      have := h (j + 1) (by simpa using hj)
      rwa [List.getD_cons_succ] at this)
    refine ⟨pre [UInt8.ofNat i] a ++ b, by unfold rtk; rw [ha, hb], fun x hx => ?_⟩
    rcases List.mem_append.1 hx with hx | hx
    · obtain ⟨s, hs, rfl⟩ := pre_mem hx
      exact va s hs
    · exact vb x hx
theorem rt_some {t : Nd} (h : Rs t) : ∃ l, rt t = some l ∧ VO l := by
  induction h with
  | none p v ks => exact ⟨[], by unfold rt; simp, fun r hr => by cases hr⟩
  | leaf p v ks hp hv =>
    refine ⟨[(p, v)], ?_, fun r hr => ?_⟩
    · unfold rt
      rw [if_neg (fun h => by rw [(ptb_iff p).2 hp] at h; cases h.2)]
      simp
    · rcases List.mem_cons.1 hr with rfl | hr
      · exact hv
      · cases hr
  | road p v t hp h0 hk h ih =>
    obtain ⟨l, hl, hv⟩ := ih
    refine ⟨pre p l, ?_, fun r hr => ?_⟩
    · unfold rt
      rw [if_neg (fun h => by rw [(ptb_iff p).2 hp] at h; cases h.2), if_neg (by decide), if_neg (by decide), if_pos ⟨rfl, rfl⟩, rt0, hl]
      rfl
    · obtain ⟨s, hs, rfl⟩ := pre_mem hr
      exact hv s hs
  | fork p v ks hl h h2 ih =>
    obtain ⟨l, h1, hv⟩ := rtk_some ks 0 (fun j hj => ih j (by omega))
    refine ⟨(if v = [] then [] else [([], v)]) ++ l, ?_, fun r hr => ?_⟩
    · unfold rt
      rw [if_neg (fun h => by rcases h.1 with h | h <;> exact absurd h (by decide)), if_neg (by decide), if_neg (by decide), if_neg (fun h => absurd h.1 (by decide)), if_pos ⟨rfl, hl⟩, h1]
      rfl
    · rcases List.mem_append.1 hr with hr | hr
      · split at hr
        · cases hr
        · rename_i hne
          rcases List.mem_cons.1 hr with rfl | hr
          · exact hne
          · cases hr
      · exact hv r hr
theorem bn_kind : ∀ t : Nd, (bn t).kind = t.kind
  | .mk k p v ks => by
    unfold bn
    split
    · rename_i h; rw [h]; rfl
    split
    · rename_i h; rw [h]; rfl
    split
    · rename_i h; rw [h]; rfl
    · rfl
theorem rs_bn {b : Nd} (hb : Rs b) : ∀ a : Nd, bn a = bn b → Rs a := by
  induction hb with
  | none p v ks =>
    intro a h
    have hk : a.kind = 0 := by rw [← bn_kind a, h, bn_kind]; rfl
    obtain ⟨k, p2, v2, ks2⟩ := a
    have hk : k = 0 := hk
    subst hk
    exact .none _ _ _
  | leaf p v ks hp hv =>
    intro a h
    have hk : a.kind = 1 := by rw [← bn_kind a, h, bn_kind]; rfl
    obtain ⟨k, p2, v2, ks2⟩ := a
    have hk : k = 1 := hk
    subst hk
    unfold bn at h
    simp at h
    exact .leaf _ _ _ (h.1 ▸ hp) (h.2 ▸ hv)
  | road p v t hp h0 hk h ih =>
    intro a ha
    have hka : a.kind = 2 := by rw [← bn_kind a, ha, bn_kind]; rfl
    obtain ⟨k, p2, v2, ks2⟩ := a
    have hka : k = 2 := hka
    subst hka
    unfold bn at ha
    simp [bns] at ha
    obtain ⟨rfl, ha⟩ := ha
    match ks2, ha with
    | [], ha => unfold bns at ha; cases ha
    | [t2], ha =>
      simp [bns] at ha
      exact .road _ _ t2 hp h0 (by rw [← bn_kind t2, ha, bn_kind]; exact hk) (ih t2 ha)
    | _ :: _ :: _, ha => simp [bns] at ha
  | fork p v ks hl h h2 ih =>
    intro a ha
    have hka : a.kind = 3 := by rw [← bn_kind a, ha, bn_kind]; rfl
    obtain ⟨k, p2, v2, ks2⟩ := a
    have hka : k = 3 := hka
    subst hka
    unfold bn at ha
    simp at ha
    obtain ⟨rfl, ha⟩ := ha
    have hl2 : ks2.length = 16 := by rw [← bns_len, ha, bns_len, hl]
    have hj : ∀ j, bn (ks2.getD j Nd.no) = bn (ks.getD j Nd.no) := fun j => by rw [← bns_getD, ha, bns_getD]
    have hkj : ∀ j, (ks2.getD j Nd.no).kind = (ks.getD j Nd.no).kind := fun j => by rw [← bn_kind, hj, bn_kind]
    refine .fork _ _ _ hl2 (fun j hj2 => ih j hj2 _ (hj j)) ?_
    rcases h2 with ⟨hv, j, h3, h4⟩ | ⟨i, j, h3, h4, h5, h6⟩
    · exact .inl ⟨hv, j, h3, by rw [hkj]; exact h4⟩
    · exact .inr ⟨i, j, h3, h4, by rw [hkj]; exact h5, by rw [hkj]; exact h6⟩
def Okr (q v : By) : Prop := q.length % 2 = 0 ∧ q.length ≤ 64 ∧ v ≠ [] ∧ v.length ≤ 1024
def Right (t : Nd) : Prop := Rs t ∧ ∀ q, gt t q ≠ [] → Okr q (gt t q)
theorem right_iff (t : Nd) : Right t ↔ ∃ l, rt t = some l ∧ (∀ r ∈ l, Okr r.1 r.2) ∧ bn t = bn (grow 65 l) := by
  constructor
  · rintro ⟨hs, ho⟩
    obtain ⟨l, hl, hv⟩ := rt_some hs
    obtain ⟨h1, h2, h3⟩ := rt_spec hl
    have hok : ∀ r ∈ l, Okr r.1 r.2 := fun r hr => by
      have e : gt t r.1 = r.2 := by rw [← h3, lk_mem l r h1 hr]
      have := ho r.1 (by rw [e]; exact hv r hr)
      rwa [e] at this
    obtain ⟨g1, g2⟩ := grow_spec 65 l (fun r hr => by have := (hok r hr).2.1; omega) h1 h2 hv
    exact ⟨l, hl, hok, uniq hs _ g1 (fun q => by rw [g2, h3])⟩
  · rintro ⟨l, hl, hok, hb⟩
    obtain ⟨h1, h2, h3⟩ := rt_spec hl
    obtain ⟨g1, g2⟩ := grow_spec 65 l (fun r hr => by have := (hok r hr).2.1; omega) h1 h2 (fun r hr => (hok r hr).2.2.1)
    refine ⟨rs_bn g1 t hb, fun q hq => ?_⟩
    rw [← h3] at hq ⊢
    obtain ⟨r, hr, rfl⟩ := lk_in hq
    rw [lk_mem l r h1 hr]
    exact hok r hr
end Tr
end Go.Proofs.YtefgamhnikeekaaDoor
namespace Go.Proofs.YtefgamhnikeekaaDoor
namespace Rt
open Nb Tr
abbrev Nd := Tr.Nd
def sml (c : By) : By := (List.range 32).map fun i => UInt8.ofNat (Sp.sumf c i).toNat
theorem sml_len (c : By) : (sml c).length = 32 := by simp [sml]
mutual
def cd : Nd → By
  | .mk k p v ks => Rs.hc (if k = 1 then (1, p, v, []) else if k = 2 ∨ k = 3 then (k, p, v, sms ks) else Rs.zS)
def sms : List Nd → List By
  | [] => []
  | t :: r => (if t.kind = 0 then [] else sml (cd t)) :: sms r
end
mutual
def cds : Nd → List By
  | .mk k p v ks => cd (.mk k p v ks) :: (if k = 2 ∨ k = 3 then cdk ks else [])
def cdk : List Nd → List By
  | [] => []
  | t :: r => (if t.kind = 0 then [] else cds t) ++ cdk r
end
def shN : Nd → Rs.Shp
  | .mk k p v ks => if k = 1 then (1, p, v, []) else if k = 2 ∨ k = 3 then (k, p, v, sms ks) else Rs.zS
theorem cd_eq (t : Nd) : cd t = Rs.hc (shN t) := by
  obtain ⟨k, p, v, ks⟩ := t
  rw [cd, shN]
theorem sms_len : ∀ ks : List Nd, (sms ks).length = ks.length
  | [] => by simp [sms]
  | t :: r => by rw [sms, List.length_cons, List.length_cons, sms_len r]
theorem sms_getD : ∀ (ks : List Nd) (j : Nat), j < ks.length → (sms ks).getD j [] = if (ks.getD j Nd.no).kind = 0 then [] else sml (cd (ks.getD j Nd.no))
  | [], j, h => absurd h (by simp)
  | t :: r, 0, _ => by rw [sms]; rfl
  | t :: r, j + 1, h => by
    rw [sms]
    have := sms_getD r j (by simpa using h)
    simpa using this
theorem sms_snoc (ks : List Nd) (k : Nat) (h : k < ks.length) : sms (ks.take (k + 1)) = sms (ks.take k) ++ [if (ks.getD k Nd.no).kind = 0 then [] else sml (cd (ks.getD k Nd.no))] := by
  induction ks generalizing k with
  | nil => simp at h
  | cons t r ih =>
    cases k with
    | zero => simp [sms]
    | succ k =>
      rw [List.take_succ_cons, sms, ih k (by simpa using h), List.take_succ_cons, sms]
      simp
theorem cdk_snoc (ks : List Nd) (k : Nat) (h : k < ks.length) : cdk (ks.take (k + 1)) = cdk (ks.take k) ++ (if (ks.getD k Nd.no).kind = 0 then [] else cds (ks.getD k Nd.no)) := by
  induction ks generalizing k with
  | nil => simp at h
  | cons t r ih =>
    cases k with
    | zero => simp [cdk]
    | succ k =>
      rw [List.take_succ_cons, cdk, ih k (by simpa using h), List.take_succ_cons, cdk]
      simp
def Hr (t : Nd) : Prop := Tr.Rs t ∧ ∀ q, (gt t q).length ≤ 1024
theorem hr_kid {p v : By} {ks : List Nd} (h : Hr (.mk 3 p v ks)) (j : Nat) (hj : j < 16) : Hr (ks.getD j Nd.no) := by
  cases h.1 with
  | fork _ _ _ hl hk _ =>
    refine ⟨hk j hj, fun q => ?_⟩
    have := h.2 (UInt8.ofNat j :: q)
    rw [gt, if_neg (by decide), if_neg (by decide), if_pos rfl, if_neg (by simp)] at this
    rw [gtk_getD] at this
    have e : ((UInt8.ofNat j :: q).headD 0).toNat = j := by
      show (UInt8.ofNat j).toNat = j
      rw [UInt8.toNat_ofNat']
      omega
    rw [e] at this
    exact this
theorem hr_road {p v : By} {t : Nd} (h : Hr (.mk 2 p v [t])) : Hr t := by
  cases h.1 with
  | road _ _ _ _ _ _ ht =>
    refine ⟨ht, fun q => ?_⟩
    have := h.2 (p ++ q)
    rw [gt_road, if_pos (by simp)] at this
    simpa using this
theorem np_two (l : List (List UInt8)) (i j : Nat) (hij : i < j) (hj : j < l.length) (h1 : 0 < (l.getD i []).length) (h2 : 0 < (l.getD j []).length) : 2 ≤ Rs.np l := by
  unfold Rs.np
  rw [← List.take_append_drop j l, List.countP_append]
  have a1 : 0 < (l.take j).countP fun x => decide (0 < x.length) := by
    rw [List.countP_pos_iff]
    refine ⟨l.getD i [], ?_, decide_eq_true h1⟩
    rw [List.getD_eq_getElem?_getD, List.getElem?_eq_getElem (by omega)]
    exact List.mem_take_iff_getElem.2 ⟨i, by omega, rfl⟩
  have a2 : 0 < (l.drop j).countP fun x => decide (0 < x.length) := by
    rw [List.countP_pos_iff]
    refine ⟨l.getD j [], ?_, decide_eq_true h2⟩
    rw [List.getD_eq_getElem?_getD, List.getElem?_eq_getElem hj]
    rw [List.drop_eq_getElem_cons hj]
    exact List.mem_cons_self ..
  omega
theorem hr_shape {t : Nd} (h : Hr t) : Rs.isS (shN t) = true := by
  obtain ⟨hs, hv⟩ := h
  cases hs with
  | none p v ks => rfl
  | leaf p v ks hp h0 =>
    have h1 := hv p
    rw [gt_leaf, if_pos rfl] at h1
    show (pb p && (decide (0 < v.length) && decide (v.length ≤ 1024))) = true
    have h2 : 0 < v.length := List.length_pos_iff.2 h0
    rw [(pb_iff p).2 hp, decide_eq_true h1, decide_eq_true h2]
    rfl
  | road p v t hp h0 hk ht =>
    have e : shN (.mk 2 p v [t]) = (2, p, v, [sml (cd t)]) := by
      rw [shN, if_neg (by decide), if_pos (.inl rfl), sms, sms, if_neg (by rw [hk]; decide)]
    rw [e]
    show (decide (0 < p.length) && (pb p && (decide (([sml (cd t)] : List By).length = 1) && decide ((([sml (cd t)] : List By).getD 0 []).length = 32)))) = true
    have h2 : 0 < p.length := List.length_pos_iff.2 h0
    have h3 : (([sml (cd t)] : List By).getD 0 []).length = 32 := sml_len _
    rw [(pb_iff p).2 hp, decide_eq_true h2, decide_eq_true h3]
    rfl
  | fork p v ks hl hk h2 =>
    have e : shN (.mk 3 p v ks) = (3, p, v, sms ks) := by rw [shN, if_neg (by decide), if_pos (.inr rfl)]
    rw [e]
    show (decide ((sms ks).length = 16) && (decide (v.length ≤ 1024) && ((sms ks).all Rs.sm && decide (2 ≤ Rs.np (sms ks ++ [v]))))) = true
    have h1 := hv []
    rw [gt, if_neg (by decide), if_neg (by decide), if_pos rfl, if_pos rfl] at h1
    have ha : (sms ks).all Rs.sm = true := by
      rw [List.all_eq_true]
      intro x hx
      obtain ⟨j, hj, rfl⟩ := List.getElem_of_mem hx
      have := sms_getD ks j (by rw [sms_len] at hj; exact hj)
      rw [List.getD_eq_getElem?_getD, List.getElem?_eq_getElem hj] at this
      have e : (sms ks)[j] = if (ks.getD j Nd.no).kind = 0 then [] else sml (cd (ks.getD j Nd.no)) := this
      rw [e]
      split
      · rfl
      · unfold Rs.sm; rw [sml_len]; rfl
    have hlen : (sms ks ++ [v]).length = 17 := by rw [List.length_append, sms_len, hl]; rfl
    have gk : ∀ j, j < 16 → (ks.getD j Nd.no).kind ≠ 0 → 0 < ((sms ks ++ [v]).getD j []).length := fun j hj hne => by
      have : (sms ks ++ [v]).getD j [] = (sms ks).getD j [] := by
        rw [List.getD_eq_getElem?_getD, List.getElem?_append_left (by rw [sms_len]; omega), ← List.getD_eq_getElem?_getD]
      rw [this, sms_getD ks j (by omega), if_neg hne, sml_len]
      decide
    have hn : 2 ≤ Rs.np (sms ks ++ [v]) := by
      rcases h2 with ⟨h0, j, hj, hne⟩ | ⟨i, j, hij, hj, hi, hne⟩
      · refine np_two _ j 16 hj (by omega) (gk j hj hne) ?_
        have : (sms ks ++ [v]).getD 16 [] = v := by
          rw [List.getD_eq_getElem?_getD, List.getElem?_append_right (by rw [sms_len]; omega), sms_len, hl]
          rfl
        rw [this]
        exact List.length_pos_iff.2 h0
      · exact np_two _ i j hij (by omega) (gk i (by omega) hi) (gk j hj hne)
    rw [ha, decide_eq_true (by rw [sms_len]; exact hl), decide_eq_true h1, decide_eq_true hn]
    rfl
end Rt
end Go.Proofs.YtefgamhnikeekaaDoor
namespace Go.Proofs.YtefgamhnikeekaaDoor
namespace Pk
open Go.RowKit
def Nw (B : Nat) (v : Value) : Prop := ∀ a, v.ownBlock = some a → B ≤ a
theorem nw_at {B g o n c : Nat} (h : B ≤ g) : Nw B (.slice (some ⟨g, o, none⟩) n c) := fun a ha => by
  have : g = a := by simpa [Value.ownBlock] using ha
  omega
theorem nw_ty {B : Nat} {b : List UInt8} {v : Value} {w : World} (h : Sl b v w) (hn : Nw B v) : Ty (B ≤ ·) b v w := by
  obtain ⟨ao, cap, h1, h2, h3⟩ := h
  refine ⟨ao, cap, h1, h2, fun h0 => ?_⟩
  obtain ⟨g, off, e, hlt, hc⟩ := h3 h0
  exact ⟨g, off, e, hn g (by rw [h1, e]; rfl), hlt, hc⟩
set_option maxHeartbeats 1000000 in
set_option maxRecDepth 100000 in
theorem pencode2_one (c : UInt8) (a1 a2 : Option Addr) (n2 c1 c2 : Nat) (w : World) (hc : c.toNat < 128) (hs : Sl [c] (.slice a1 1 c1) w) :
    Calls Tryd.prog 15 #[.agg #[.bool false, .slice a1 1 c1, .slice a2 n2 c2]] w fun e w' => ∃ v, e = .returned v ∧ Sl [c] v w' ∧ Below w.heap.size w w' ∧ Nw w.heap.size v := by
  have B1 : Below w.heap.size w (w.alloc (.cells #[.bool false, .slice a1 1 c1, .slice a2 n2 c2] 44)) := (Below.refl _ _).alloc (Nat.le_refl _) _
  have q1 : (convert 22 9 (.slice a1 1 c1)).run Tryd.prog (w.alloc (.cells #[.bool false, .slice a1 1 c1, .slice a2 n2 c2] 44)) = .ok (.string ⟨#[c]⟩) (w.alloc (.cells #[.bool false, .slice a1 1 c1, .slice a2 n2 c2] 44)) := Sl_conv (Sl_below hs B1)
  obtain ⟨k, W, hcv', h2, h3⟩ := str_sl [c] (w.alloc (.cells #[.bool false, .slice a1 1 c1, .slice a2 n2 c2] 44))
  have hcv : (convert 9 22 (.string ⟨#[c]⟩)).run Tryd.prog (w.alloc (.cells #[.bool false, .slice a1 1 c1, .slice a2 n2 c2] 44)) = .ok (.slice (some ⟨(w.alloc (.cells #[.bool false, .slice a1 1 c1, .slice a2 n2 c2] 44)).heap.size, 0, none⟩) 1 k) W := hcv'
  have hsz : (w.alloc (.cells #[.bool false, .slice a1 1 c1, .slice a2 n2 c2] 44)).heap.size = w.heap.size + 1 := by simp
  rw [hsz] at h2
  have HR : Hid (∃ v, Ending.returned (.slice (some ⟨w.heap.size + 1, 0, none⟩) 1 k) = .returned v ∧ Sl [c] v W ∧ Below w.heap.size w W ∧ Nw w.heap.size v) := ⟨_, rfl, h2, B1.trans (h3.mono B1.size), nw_at (by omega)⟩
  have hx : ((⟨#[c]⟩ : ByteArray)[0]'Nat.zero_lt_one).toNat = c.toNat := rfl
  have d0 : decide ((c.toNat : Int) < 128) = true := decide_eq_true (by omega)
  have d1 : (c.toNat : Int) < 128 := by omega
  clear hcv' h2 h3 B1 hs hc hsz
  go_enter Tryd.func15, Tryd.ntmps15
  go_wp2_with fail
  go_ret
  exact HR.out
set_option maxHeartbeats 1000000 in
set_option maxRecDepth 100000 in
theorem pencode2_head (t : List UInt8) (n : Nat) (a1 a2 : Option Addr) (n2 c1 c2 : Nat) (w : World) (hn : n = t.length) (hz : n ≤ 4194304) (hs : Sl t (.slice a1 n c1) w) (ht : n = 1 → ∃ c : UInt8, t = [c] ∧ 128 ≤ c.toNat) :
    Calls Tryd.prog 15 #[.agg #[.bool false, .slice a1 n c1, .slice a2 n2 c2]] w fun e w' => ∃ v, e = .returned v ∧ Sl (hdr 128 n ++ t) v w' ∧ Below w.heap.size w w' ∧ Nw w.heap.size v := by
  have B1 : Below w.heap.size w (w.alloc (.cells #[.bool false, .slice a1 n c1, .slice a2 n2 c2] 44)) := (Below.refl _ _).alloc (Nat.le_refl _) _
  have q1 := Sl_bst (Sl_below hs B1)
  have hN := heap_alloc_new w (.cells #[.bool false, .slice a1 n c1, .slice a2 n2 c2] 44)
  have KH : Hid (∀ W : World, Calls Tryd.prog 30 #[.int .i64 (n : Int), .bool false] W fun e w' => e = .returned (.string (bst (hdr 128 n))) ∧ Below W.heap.size W w') := fun W => phead_any false n W hz
  have KC : Hid (∀ W : World, ∃ c W', (convert 9 22 (.string (bst (hdr 128 n ++ t)))).run Tryd.prog W = .ok (.slice (some ⟨W.heap.size, 0, none⟩) (hdr 128 n ++ t).length c) W' ∧ Sl (hdr 128 n ++ t) (.slice (some ⟨W.heap.size, 0, none⟩) (hdr 128 n ++ t).length c) W' ∧ Below W.heap.size W W') := fun W => str_sl _ W
  have HC : Hid (∀ W : World, (Op.stringOp .add (bst (hdr 128 n)) (bst t)).run Tryd.prog W = .ok (.string (bst (hdr 128 n ++ t))) W) := fun W => cat_bst _ _ (by have := hdr_9 128 n (by omega); omega) (by omega) W
  by_cases h1 : n = 1
  · obtain ⟨c, rfl, hc⟩ := ht h1
    subst h1
    have d0 : decide ((c.toNat : Int) < 128) = false := decide_eq_false (by omega)
    have d1 : ¬ (c.toNat : Int) < 128 := by omega
    have e1 : bst [c] = ⟨#[c]⟩ := rfl
    rw [e1] at q1 HC
    have BH : Hid _ := B1
    generalize bst (hdr 128 1 ++ [c]) = Z at *
    generalize hdr 128 1 ++ [c] = E at *
    generalize bst (hdr 128 1) = H at *
    clear e1 ht hz hs hn B1 hc
    go_enter Tryd.func15, Tryd.ntmps15
    go_wp2_with fail
    refine (KH.out _).mono (fun e w2 he => ?_)
    obtain ⟨rfl, b2⟩ := he
    obtain ⟨k, W, hcv, h2, h3⟩ := KC.out w2
    have HR : Hid (Sl E (.slice (some ⟨w2.heap.size, 0, none⟩) E.length k) W ∧ Below w.heap.size w W ∧ Nw w.heap.size (.slice (some ⟨w2.heap.size, 0, none⟩) E.length k)) := ⟨h2, (BH.out.trans (b2.mono BH.out.size)).trans (h3.mono (Nat.le_trans BH.out.size b2.size)), nw_at (Nat.le_trans BH.out.size b2.size)⟩
    generalize E.length = L at *
    have q3 := HC.out w2
    clear h2 h3 b2 KC KH BH HC
    go_wp2_with fail
    go_ret
    exact ⟨_, rfl, HR.out⟩
  · have hX : (bst t).size = n := by rw [bst_size, hn]
    have d0 : ((n : Int) == 1) = false := beq_eq_false_iff_ne.2 (by omega)
    have d1 : ¬ (n : Int) = 1 := by omega
    have d2 : (n == 1) = false := beq_eq_false_iff_ne.2 h1
    have BH : Hid _ := B1
    generalize bst (hdr 128 n ++ t) = Z at *
    generalize hdr 128 n ++ t = E at *
    generalize bst (hdr 128 n) = H at *
    generalize bst t = X at *
    clear ht hz hs hn B1
    go_enter Tryd.func15, Tryd.ntmps15
    go_wp2_with fail
    refine (KH.out _).mono (fun e w2 he => ?_)
    obtain ⟨rfl, b2⟩ := he
    obtain ⟨k, W, hcv, h2, h3⟩ := KC.out w2
    have HR : Hid (Sl E (.slice (some ⟨w2.heap.size, 0, none⟩) E.length k) W ∧ Below w.heap.size w W ∧ Nw w.heap.size (.slice (some ⟨w2.heap.size, 0, none⟩) E.length k)) := ⟨h2, (BH.out.trans (b2.mono BH.out.size)).trans (h3.mono (Nat.le_trans BH.out.size b2.size)), nw_at (Nat.le_trans BH.out.size b2.size)⟩
    generalize E.length = L at *
    have q3 := HC.out w2
    clear h2 h3 b2 KC KH BH HC
    go_wp2_with fail
    go_ret
    exact ⟨_, rfl, HR.out⟩
set_option maxHeartbeats 1000000 in
set_option maxRecDepth 100000 in
theorem pencode2_list (S : Nat → Prop) (ks : List It) (vs : List V3) (a1 a2 : Option Addr) (n1 c1 c2 n N : Nat) (T : ByteArray) (w : World) (hn : Hid (n = vs.length)) (hl : Hid (vs.length = ks.length)) (hk : Hid (Kx S vs (.slice a2 n c2) w)) (hi : Hid (∀ j, j < ks.length → Iv S w (ks.getD j It.no) (vs.getD j n3)))
    (hT : Hid (∀ W : World, Below w.heap.size w W → (convert 22 9 (.slice a1 n1 c1)).run Tryd.prog W = .ok (.string T) W))
    (IH : Hid (∀ j, j < ks.length → ∀ (v : V3) (w : World), Iv S w (ks.getD j It.no) v → Calls Tryd.prog 15 #[v3 v] w fun e w' => ∃ v, e = .returned v ∧ Sl (enc (ks.getD j It.no)) v w' ∧ Below w.heap.size w w')) (hN : Hid (N = (encs ks).length)) (hz : Hid (N ≤ 4194304)) :
    Calls Tryd.prog 15 #[.agg #[.bool true, .slice a1 n1 c1, .slice a2 n c2]] w fun e w' => ∃ v, e = .returned v ∧ Sl (hdr 192 N ++ encs ks) v w' ∧ Below w.heap.size w w' ∧ Nw w.heap.size v := by
  have B0 : Below w.heap.size w (w.alloc (.cells #[.bool true, .slice a1 n1 c1, .slice a2 n c2] 44)) := (Below.refl _ _).alloc (Nat.le_refl _) _
  have hT0 := hT.out _ B0
  go_enter Tryd.func15, Tryd.ntmps15
  go_wp2_with fail
  clear hT hT0
  have hA := heap_alloc_new w (.cells #[.bool true, .slice a1 n1 c1, .slice a2 n c2] 44)
  have ht : (w.alloc (.cells #[.bool true, .slice a1 n1 c1, .slice a2 n c2] 44)).cell? ⟨w.heap.size, 0, none⟩ = some (.bool true) := by simp only [World.cell?, hA]; rfl
  have hs : w.heap.size < (w.alloc (.cells #[.bool true, .slice a1 n1 c1, .slice a2 n c2] 44)).heap.size := by simp
  clear hA
  generalize w.alloc (.cells #[.bool true, .slice a1 n1 c1, .slice a2 n c2] 44) = W0 at *
  obtain ⟨g, eg⟩ : ∃ g, g = w.heap.size := ⟨_, rfl⟩
  have EG : Hid (g = w.heap.size) := eg
  rw [← eg] at B0 ht hs ⊢
  clear eg
  go_loopw [3, 14] (fun s i wr => ∃ k : Nat, k ≤ n ∧ s = .string (bst (encs (ks.take k))) ∧ i = .int .i64 (k : Int) ∧ Below W0.heap.size W0 wr) (fun _ i _ => ((n : Int) - intOf i).toNat)
  case atStart => exact ⟨0, Nat.zero_le _, rfl, rfl, Below.refl _ _⟩
  case round =>
    obtain ⟨k, hkn, rfl, rfl, hB⟩ := hrel
    by_cases hlt : k < n
    · have d0 : decide ((k : Int) < (n : Int)) = true := decide_eq_true (by omega)
      have d1 : (0 : Int) ≤ (k : Int) := by omega
      have d2 : (k : Int) < (n : Int) := by omega
      have hks : k < ks.length := by have := hn.out; have := hl.out; omega
      obtain ⟨ao, cap, e2, -, hq⟩ := hk.out
      obtain ⟨gk, off, rfl, -, hgk, hcell⟩ := hq (by have := hn.out; omega)
      injection e2 with e2 e2' e2''
      subst e2
      clear e2' e2''
      obtain ⟨x0, x1, x2⟩ := hcell k (by have := hn.out; omega)
      have iv := hi.out k hks
      obtain ⟨l, b1, m1, q1, b2, m2, q2, ev⟩ := Iv_form iv
      rw [ev] at x0 x1 x2 iv
      have HC : Hid (∀ W : World, (Op.stringOp .add (bst (encs (ks.take k))) (bst (enc (ks.getD k It.no)))).run Tryd.prog W = .ok (.string (bst (encs (ks.take (k + 1))))) W) := fun W => by
        have h1 := encs_take ks k
        have h2 := encs_one ks k hks
        have h3 := hz.out
        have h4 := hN.out
        rw [cat_bst _ _ (by omega) (by omega), take_encs ks k hks]
      have KB : Hid (∀ w : World, Iv S w (ks.getD k It.no) (.bool l, .slice b1 m1 q1, .slice b2 m2 q2) → Calls Tryd.prog 15 #[.agg #[.bool l, .slice b1 m1 q1, .slice b2 m2 q2]] w fun e w' => ∃ v, e = .returned v ∧ Sl (enc (ks.getD k It.no)) v w' ∧ Below w.heap.size w w') := IH.out k hks (.bool l, .slice b1 m1 q1, .slice b2 m2 q2)
      have BW : Below w.heap.size w wr := (EG.out ▸ B0).trans (hB.mono (by have := EG.out; omega))
      have y0 := (BW.cell (p := ⟨gk, off + 3 * k, none⟩) hgk).trans x0
      have y1 := (BW.cell (p := ⟨gk, off + 3 * k + 1, none⟩) hgk).trans x1
      have y2 := (BW.cell (p := ⟨gk, off + 3 * k + 2, none⟩) hgk).trans x2
      have hgk2 : gk < wr.heap.size := Nat.lt_of_lt_of_le hgk BW.size
      rw [Nat.mul_comm 3 k] at y0 y1 y2
      have IW : Hid (Iv S (wr.alloc (.cells #[.bool l, .slice b1 m1 q1, .slice b2 m2 q2] 44)) (ks.getD k It.no) (.bool l, .slice b1 m1 q1, .slice b2 m2 q2)) := Iv_below (Iv_gb (r := none) iv (gb_below BW) (fun _ _ => nofun)) ((Below.refl _ _).alloc (Nat.le_refl _) _)
      have B2 : Hid (Below W0.heap.size W0 (wr.alloc (.cells #[.bool l, .slice b1 m1 q1, .slice b2 m2 q2] 44))) := hB.alloc hB.size _
      have e5 : Hid (wrap64 ((k : Int) + 1) = ((k + 1 : Nat) : Int)) := by
        have := hz.out
        have := hN.out
        have := encs_many ks
        have := hn.out
        have := hl.out
        show _ = _; unfold wrap64; omega
      obtain ⟨Y, hY⟩ : ∃ Y, Y = bst (encs (ks.take (k + 1))) := ⟨_, rfl⟩
      have HY : Hid (Y = bst (encs (ks.take (k + 1)))) := hY
      rw [← hY] at HC
      generalize bst (encs (ks.take k)) = X at *
      clear hq hcell x0 x1 x2 ev hks iv BW hY
      go_wp2_with fail
      refine (KB.out _ IW.out).mono (fun e w5 he => ?_)
      obtain ⟨v, rfl, hs5, b5⟩ := he
      have B5 : Hid (Below W0.heap.size W0 w5) := B2.out.trans (b5.mono B2.out.size)
      have q5 := Sl_bst hs5
      have q6 := HC.out w5
      obtain ⟨a5, n5, rfl, -, -⟩ := hs5
      generalize bst (enc (ks.getD k It.no)) = E5 at *
      generalize (enc (ks.getD k It.no)).length = n6 at *
      clear KB IW B2 y0 y1 y2 b5 HC
      go_wp2_with fail
      rw [e5.out]
      exact ⟨⟨k + 1, hlt, by rw [HY.out], rfl, B5.out⟩, msr_up k n hlt⟩
    · have d0 : decide ((k : Int) < (n : Int)) = false := decide_eq_false (by omega)
      have ek : ks.take k = ks := List.take_of_length_le (by have := hn.out; have := hl.out; omega)
      rw [ek]
      have ht2 : wr.cell? ⟨g, 0, none⟩ = some (.bool true) := (hB.cell (p := ⟨g, 0, none⟩) hs).trans ht
      have hgw : g < wr.heap.size := Nat.lt_of_lt_of_le hs hB.size
      have BF : Hid (Below w.heap.size w wr) := (EG.out ▸ B0).trans (hB.mono (by have := EG.out; omega))
      have hX : (bst (encs ks)).size = N := by rw [bst_size, hN.out]
      have KH : Hid (∀ W : World, Calls Tryd.prog 30 #[.int .i64 (N : Int), .bool true] W fun e w' => e = .returned (.string (bst (hdr 192 N))) ∧ Below W.heap.size W w') := fun W => phead_any true N W hz.out
      have KC : Hid (∀ W : World, ∃ c W', (convert 9 22 (.string (bst (hdr 192 N ++ encs ks)))).run Tryd.prog W = .ok (.slice (some ⟨W.heap.size, 0, none⟩) (hdr 192 N ++ encs ks).length c) W' ∧ Sl (hdr 192 N ++ encs ks) (.slice (some ⟨W.heap.size, 0, none⟩) (hdr 192 N ++ encs ks).length c) W' ∧ Below W.heap.size W W') := fun W => str_sl _ W
      have HC : Hid (∀ W : World, (Op.stringOp .add (bst (hdr 192 N)) (bst (encs ks))).run Tryd.prog W = .ok (.string (bst (hdr 192 N ++ encs ks))) W) := fun W => cat_bst _ _ (by have := hdr_9 192 N (by have := hz.out; omega); omega) (by have := hz.out; have := hN.out; omega) W
      generalize bst (hdr 192 N ++ encs ks) = Z at *
      obtain ⟨E, hE⟩ : ∃ E, E = hdr 192 N ++ encs ks := ⟨_, rfl⟩
      have HE : Hid (E = hdr 192 N ++ encs ks) := hE
      rw [← hE] at KC
      clear hE
      generalize bst (encs ks) = X at *
      generalize bst (hdr 192 N) = H at *
      clear ek
      go_wp2_with fail
      refine (KH.out _).mono (fun e w2 he => ?_)
      obtain ⟨rfl, b2⟩ := he
      obtain ⟨k2, W, hcv, h2, h3⟩ := KC.out w2
      have HR : Hid (Sl (hdr 192 N ++ encs ks) (.slice (some ⟨w2.heap.size, 0, none⟩) E.length k2) W ∧ Below w.heap.size w W ∧ Nw w.heap.size (.slice (some ⟨w2.heap.size, 0, none⟩) E.length k2)) := ⟨HE.out ▸ h2, (BF.out.trans (b2.mono BF.out.size)).trans (h3.mono (Nat.le_trans BF.out.size b2.size)), nw_at (Nat.le_trans BF.out.size b2.size)⟩
      clear HE
      generalize E.length = L at *
      have q3 := HC.out w2
      clear h2 h3 b2 KC KH HC
      go_wp2_with fail
      go_ret
      exact ⟨_, rfl, HR.out⟩
theorem pencode2_any (t : It) (hz : (enc t).length ≤ 1048576) (S : Nat → Prop) (v : V3) (w : World) (h : Iv S w t v) : Calls Tryd.prog 15 #[v3 v] w fun e w' => ∃ v, e = .returned v ∧ Sl (enc t) v w' ∧ Below w.heap.size w w' ∧ Nw w.heap.size v := by
  cases h with
  | mk l t ks tv kv vs ht hl hk hi =>
    have h7 := Ty_sl ht
    obtain ⟨a1, c1, rfl, -, -⟩ := ht
    have hk2 := hk
    obtain ⟨a2, c2, rfl, -, -⟩ := hk
    cases l with
    | false =>
      have hlen := enc_text_len t ks
      by_cases h1 : ∃ c : UInt8, t = [c] ∧ c.toNat < 128
      · obtain ⟨c, rfl, hc⟩ := h1
        rw [enc_one c ks hc]
        exact pencode2_one c a1 a2 _ c1 c2 w hc h7
      · rw [enc_text t ks h1]
        exact pencode2_head t t.length a1 a2 _ c1 c2 w rfl (by omega) h7 (fun e => by
          obtain ⟨c, rfl⟩ := List.length_eq_one_iff.1 e
          refine ⟨c, rfl, ?_⟩
          rcases Nat.lt_or_ge c.toNat 128 with h | h
          · exact absurd ⟨c, rfl, h⟩ h1
          · exact h)
    | true =>
      have h1 : (encs ks).length ≤ (enc (.mk true t ks)).length := by
        unfold enc
        rw [List.length_append]; omega
      have e : enc (.mk true t ks) = hdr 192 (encs ks).length ++ encs ks := by unfold enc; rfl
      rw [e]
      exact pencode2_list S ks vs a1 a2 _ c1 c2 vs.length (encs ks).length (bst t) w rfl hl hk2 hi (fun W hW => Sl_bst (Sl_below h7 hW)) (fun j hj v w h => pencode_any (wf_any _) (by have := encs_one ks j hj; omega) S v w h) rfl (by show _ ≤ _; omega)
end Pk
end Go.Proofs.YtefgamhnikeekaaDoor
