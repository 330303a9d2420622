/- pack's writer: lay. -/
import Derived.Test.YtcgimjlmihaegaaDoorPackE
import Derived.Test.YtcgimjlmihaegaaDoorPackC
import Derived.Test.YtcgimjlmihaegaaDoorPackB
import Derived.Lib.ConvBytes
import Derived.Laws.Concat
import Derived.Shelf.SlGeneric
import Derived.Ground.SlgnProg
import Derived.Shelf.SlicesE.Reverse
import Derived.Test.YtcgimjlmihaegaaDoorProg
import Derived.Lib.OwnBridge
import Derived.Test.YtcgimjlmihaegaaDoorPackD
import Derived.Test.YtcgimjlmihaegaaDoorCards
import Derived.Test.YtcgimjlmihaegaaDoorTie
import Derived.WalkKit
import Derived.ProofKit
import Derived.OpenShut
import Derived.JoinedCond
import Derived.ChangeMaps5
import Derived.Deep.DeepHandedRow
import Derived.Lib.LaidTab
import Derived.Test.YtcgimjlmihaegaaDoorPackA
import Derived.ShutString
import Derived.ChangeOld
import Derived.Lib.SmallJoins
import Derived.SizedLaws
namespace Go.Proofs.YtcgimjlmihaegaaDoor
namespace Pk
open Go.RowKit Go.Shelf
attribute [local go_sem] Oper.semAt_some
set_option maxRecDepth 100000 in
set_option maxHeartbeats 4000000 in
theorem lay_any (g : Nat) (bs zs : List UInt8) (v : Value) (ao : Option Addr) (cap b : Nat) (w : World) (hw : Wt g bs v w) (hz : zs.length ≤ 1048576) (hlen : bs.length + zs.length ≤ 4398046511103) (vw : Sp.Vw zs ao w) (hb : 0 < zs.length → ∃ off, ao = some ⟨b, off, none⟩) (hbw : b < w.heap.size) (hbg : b ≠ g) (hbv : some b ≠ v.ownBlock) :
    Calls Tryd.prog 68 #[.pointer (some ⟨g, 0, none⟩), .slice ao zs.length cap] w fun e w' => e = .returned (.tuple #[]) ∧ ∃ v', Wt g (bs ++ zs.reverse) v' w' ∧ Fw g v v' w w' := by
  refine (callsIn_wide (n := 5)).1 ?_
  refine callsIn_of_wp_marks Tryd.func68 rfl trivial ?_ rfl
  simp only [Tryd.ntmps68, List.size_toArray, List.length_cons, List.length_nil, Nat.reduceAdd, Nat.reduceSub, Array.replicate_succ, Array.replicate_zero, List.push_toArray, List.append_toArray, List.nil_append, List.cons_append]
  gi_wp2_with (refine ⟨trivial, ?_⟩; gi_at_call 76; refine (bwd_in _ _ trivial rfl _ _ _ _).mono ?_; rintro e w' ⟨rfl, rfl⟩)
  have b1 : Below w.heap.size w (w.alloc (.cells #[.pointer (some ⟨g, 0, none⟩)] 110)) := (Below.refl _ _).alloc (Nat.le_refl _) _
  have b2 : Below w.heap.size w ((w.alloc (.cells #[.pointer (some ⟨g, 0, none⟩)] 110)).alloc (.cells #[.slice ao zs.length cap] 22)) := b1.alloc b1.size _
  have k1 : ((w.alloc (.cells #[.pointer (some ⟨g, 0, none⟩)] 110)).alloc (.cells #[.slice ao zs.length cap] 22)).cell? ⟨w.heap.size, 0, none⟩ = some (.pointer (some ⟨g, 0, none⟩)) := by simp [go_sem]
  have k2 : ((w.alloc (.cells #[.pointer (some ⟨g, 0, none⟩)] 110)).alloc (.cells #[.slice ao zs.length cap] 22)).cell? ⟨w.heap.size + 1, 0, none⟩ = some (.slice ao zs.length cap) := by simp [go_sem]
  have k3 : ((w.alloc (.cells #[.pointer (some ⟨g, 0, none⟩)] 110)).alloc (.cells #[.slice ao zs.length cap] 22)).heap.size = w.heap.size + 2 := by simp
  generalize (w.alloc (.cells #[.pointer (some ⟨g, 0, none⟩)] 110)).alloc (.cells #[.slice ao zs.length cap] 22) = W0 at *
  have g0 : Wt g bs v W0 := ⟨Nat.lt_of_lt_of_le hw.hi b2.size, (b2.frozen (p := ⟨g, 0, none⟩) hw.hi).trans hw.f, (b2.cell (p := ⟨g, 0, none⟩) hw.hi).trans hw.c, ownb hw.o b2⟩
  have L0 : Lw w g v w.heap.size (bs ++ ([] : List (Int × UInt8)).map (·.2)) W0 := by
    rw [List.map_nil, List.append_nil]
    exact ⟨v, g0, k1, by omega, ⟨b2.os, b2.tape, b2.output, b2.size, fun j hj _ _ => b2.block j hj, .inl rfl⟩, fun k hk => .inl (hw.o.lt k hk).2⟩
  refine wpIn_rangeFunc_ownF (F := Fence.wide) rfl (by decide) (gf := 79) (lb := #[.pointer (some ⟨w.heap.size + 1, 0, none⟩)]) rfl trivial (enters_of Tryd.func79 (by kernel_rfl) rfl)
    (bwd_stops Fence.wide 4 trivial rfl (by decide) (w.heap.size + 1) b cap ao zs (by omega) W0 (by omega) k2 (Sp.Vw_below vw b2) hb) Kp2_t ?hKb (Below.refl _ _) (fun _ => rfl)
    (fun pre W => Lw w g v w.heap.size (bs ++ pre.map (·.2)) W) (fun _ _ _ => False) (Lw_own w g v w.heap.size W0.heap.size (by omega) _) (fun _ _ _ _ _ h _ _ => h) L0
    (fun x => { tmps := #[.pointer (some ⟨g, 0, none⟩), .slice ao zs.length cap, .pointer (some ⟨w.heap.size, 0, none⟩), undef, undef, .int .u8 (x.2.toNat : Int), .slice ao zs.length cap, .func (.func 79) #[] #[.pointer (some ⟨w.heap.size + 1, 0, none⟩)], .int .i64 x.1, .int .u8 (x.2.toNat : Int), undef, undef, undef, undef, undef, undef, undef, undef, undef, undef], defers := [] }) ?assign ?body ?done ?stop
  case hKb =>
    intro W l o o' hl _ _ _ i
    have e1 : (W.putObj l o').heap[w.heap.size + 1]? = W.heap[w.heap.size + 1]? := World.putObj_heap_other (fun e => by omega)
    have e2 : (W.putObj l o').heap[b]? = W.heap[b]? := World.putObj_heap_other (fun e => by omega)
    exact ⟨World.cell?_of_block (a := ⟨w.heap.size + 1, i, none⟩) e1, World.cell?_of_block (a := ⟨b, i, none⟩) e2⟩
  case assign =>
    intro l x W K hK
    gi_wp2
    exact hK
  case body =>
    rintro l pre x W hI hN
    obtain ⟨v1, hw1, hc1, hh1, hf1, hx1⟩ := hI
    obtain ⟨a1, n1, p1, rfl⟩ : ∃ a1 n1 p1, v1 = .slice a1 n1 p1 := by
      rcases hw1.o.2 with ⟨h3, _⟩ | ⟨g3, cap3, cur, h3, _⟩
      · exact ⟨_, _, _, h3⟩
      · exact ⟨_, _, _, h3⟩
    obtain ⟨G, pq, WC, hap, own2, hgr, hG⟩ := app_one (w := W.drew) x.2 hw1.o.drew (by have := hw1.hi; show g + 1 ≤ W.heap.size; omega) (by rw [List.length_append, List.length_map]; omega)
    obtain ⟨kB, kC, mB, mC, fC, kO, kP, hL⟩ := Lw_step (w := w) (b := b) (v := v) x.2 hw1 hc1 hh1 hw.hi hbw hbg hbv hf1 hx1 own2 hgr hG
    have kA : W.drew.cell? ⟨w.heap.size, 0, none⟩ = some (.pointer (some ⟨g, 0, none⟩)) := hc1
    have mA : W.drew.cell? ⟨g, 0, none⟩ = some (.slice a1 n1 p1) := hw1.c
    have HL : Lw w g v w.heap.size (bs ++ (pre ++ [x]).map (·.2)) (WC.setCell ⟨g, 0, none⟩ (.slice (some ⟨G, 0, none⟩) ((bs ++ pre.map (·.2)).length + 1) pq)) := by
      rw [List.map_append, ← List.append_assoc]
      exact hL
    clear hL own2 hgr hG hf1 hx1
    obtain ⟨nn, hnn⟩ : ∃ nn, nn = (bs ++ pre.map (·.2)).length + 1 := ⟨_, rfl⟩
    rw [← hnn] at hap kO kP HL
    obtain ⟨WD, hWD⟩ : ∃ WD, WD = WC.setCell ⟨g, 0, none⟩ (.slice (some ⟨G, 0, none⟩) nn pq) := ⟨_, rfl⟩
    rw [← hWD] at kO kP HL
    obtain ⟨cz, hcz⟩ : ∃ cz : Int, cz = (x.2.toNat : Int) := ⟨_, rfl⟩
    rw [← hcz] at hap kB mB ⊢
    obtain ⟨WA, hWA⟩ : ∃ WA, WA = W.drew := ⟨_, rfl⟩
    obtain ⟨GB, hGB⟩ : ∃ GB, GB = WA.heap.size := ⟨_, rfl⟩
    rw [← hWA] at hap kB mB kA mA
    rw [← hGB] at hap
    obtain ⟨WB, hWB⟩ : ∃ WB, WB = WA.alloc (.cells #[.int .u8 cz] 5) := ⟨_, rfl⟩
    rw [← hWB] at hap kB mB
    have HWA : Hid (WA = W.drew) := hWA
    have HGB : Hid (GB = WA.heap.size) := hGB
    have HWB : Hid (WB = WA.alloc (.cells #[.int .u8 cz] 5)) := hWB
    have HWD : Hid (WD = WC.setCell ⟨g, 0, none⟩ (.slice (some ⟨G, 0, none⟩) nn pq)) := hWD
    clear hcz hnn hWA hGB hWB hWD
    refine wpIn_block ?_
    refine RI.wpIn_region_inv (LB w.heap.size g GB cz a1 (some ⟨G, 0, none⟩) n1 p1 nn pq (.pointer (some ⟨g, 0, none⟩)) (.slice ao zs.length cap) undef undef (.slice ao zs.length cap) (.func (.func 79) #[] #[.pointer (some ⟨w.heap.size + 1, 0, none⟩)]) (.int .i64 x.1) (.int .u8 cz) WA WB WC WD) (by kernel_rfl) (by kernel_rfl) ?_ ?_ ?_
    · exact ⟨undef, undef, undef, undef, undef, undef, undef, undef, undef, undef, rfl, .inl ⟨HWA.out.symm, rfl, rfl, rfl⟩, nofun, nofun, nofun, nofun, nofun, nofun, nofun, nofun, nofun, nofun⟩
    · intro d x wx i hI hi hm
      obtain ⟨u10, u11, u12, u13, u14, u15, u16, u17, u18, u19, rfl, hw, p0, p1, p2, p3, p4, p5, p6, p7, p8, p9⟩ := hI
      have hi' : i = 0 ∨ i = 1 ∨ i = 2 ∨ i = 3 ∨ i = 4 ∨ i = 5 ∨ i = 6 ∨ i = 7 ∨ i = 8 ∨ i = 9 ∨ i = 10 := by simp at hi; omega
      clear hi
      rcases hi' with rfl | rfl | rfl | rfl | rfl | rfl | rfl | rfl | rfl | rfl | rfl
      · have hi0 := hm.1
        have hr := WS_rd hw hi0 (by decide) kA kB kC
        clear hm
        refine RI.wpOpIn_plain rfl rfl (RI.wpIn_round nofun ?_)
        go_simp
        exact ⟨_, u11, u12, u13, u14, u15, u16, u17, u18, u19, rfl, WS_keep 0 (by decide) (by decide) (by decide) hw, fun _ => rfl, RI.keep (by decide) p1, RI.keep (by decide) p2, RI.keep (by decide) p3, RI.keep (by decide) p4, RI.keep (by decide) p5, RI.keep (by decide) p6, RI.keep (by decide) p7, RI.keep (by decide) p8, RI.keep (by decide) p9⟩
      · have hi0 := hm.1
        have hr := WS_rd hw hi0 (by decide) kA kB kC
        clear hm
        refine RI.wpOpIn_plain rfl rfl (RI.wpIn_round nofun ?_)
        go_simp
        exact ⟨u10, _, u12, u13, u14, u15, u16, u17, u18, u19, rfl, WS_keep 1 (by decide) (by decide) (by decide) hw, RI.keep (by decide) p0, fun _ => rfl, RI.keep (by decide) p2, RI.keep (by decide) p3, RI.keep (by decide) p4, RI.keep (by decide) p5, RI.keep (by decide) p6, RI.keep (by decide) p7, RI.keep (by decide) p8, RI.keep (by decide) p9⟩
      · have hd := hm.2 _ rfl
        simp [Region.binds] at hd
        have hi0 := hm.1
        obtain rfl := p1 (by simp [hd])
        clear hm
        refine RI.wpOpIn_plain rfl rfl (RI.wpIn_round nofun ?_)
        go_simp
        exact ⟨u10, _, _, u13, u14, u15, u16, u17, u18, u19, rfl, WS_keep 2 (by decide) (by decide) (by decide) hw, RI.keep (by decide) p0, RI.keep (by decide) p1, fun _ => rfl, RI.keep (by decide) p3, RI.keep (by decide) p4, RI.keep (by decide) p5, RI.keep (by decide) p6, RI.keep (by decide) p7, RI.keep (by decide) p8, RI.keep (by decide) p9⟩
      · have hd := hm.2 _ rfl
        simp [Region.binds] at hd
        have hi0 := hm.1
        obtain rfl := p2 (by simp [hd])
        clear hm
        refine RI.wpOpIn_plain rfl rfl (RI.wpIn_round nofun ?_)
        go_simp
        exact ⟨u10, u11, _, _, u14, u15, u16, u17, u18, u19, rfl, WS_keep 3 (by decide) (by decide) (by decide) hw, RI.keep (by decide) p0, RI.keep (by decide) p1, RI.keep (by decide) p2, fun _ => rfl, RI.keep (by decide) p4, RI.keep (by decide) p5, RI.keep (by decide) p6, RI.keep (by decide) p7, RI.keep (by decide) p8, RI.keep (by decide) p9⟩
      · have hd := hm.2 _ rfl
        simp [Region.binds] at hd
        have hi0 := hm.1
        obtain rfl := p3 (by simp [hd])
        have hr := WS_rd hw hi0 (by decide) mA mB mC
        clear hm
        refine RI.wpOpIn_plain rfl rfl (RI.wpIn_round nofun ?_)
        go_simp
        exact ⟨u10, u11, u12, _, _, u15, u16, u17, u18, u19, rfl, WS_keep 4 (by decide) (by decide) (by decide) hw, RI.keep (by decide) p0, RI.keep (by decide) p1, RI.keep (by decide) p2, RI.keep (by decide) p3, fun _ => rfl, RI.keep (by decide) p5, RI.keep (by decide) p6, RI.keep (by decide) p7, RI.keep (by decide) p8, RI.keep (by decide) p9⟩
      · have hi0 := hm.1
        clear hm
        refine RI.wpOpIn_plain rfl rfl (RI.wpIn_round nofun ?_)
        go_simp
        exact ⟨u10, u11, u12, u13, u14, _, u16, u17, u18, u19, rfl, WS_keep 5 (by decide) (by decide) (by decide) hw, RI.keep (by decide) p0, RI.keep (by decide) p1, RI.keep (by decide) p2, RI.keep (by decide) p3, RI.keep (by decide) p4, fun _ => rfl, RI.keep (by decide) p6, RI.keep (by decide) p7, RI.keep (by decide) p8, RI.keep (by decide) p9⟩
      · have hd := hm.2 _ rfl
        simp [Region.binds] at hd
        have hi0 := hm.1
        obtain ⟨ew, h7, h10⟩ := WS_A hw hi0
        subst ew
        obtain rfl := p5 (by simp [hd])
        clear hm
        refine RI.wpOpIn_plain rfl rfl (RI.wpIn_round nofun ?_)
        go_simp
        rw [← HGB.out, ← HWB.out]
        exact ⟨u10, u11, u12, u13, u14, _, _, u17, u18, u19, rfl, (.inr (.inl ⟨rfl, RI.don_same _ _, by rw [RI.don_other _ _ _ (by decide)]; exact h7, by rw [RI.don_other _ _ _ (by decide)]; exact h10⟩)), RI.keep (by decide) p0, RI.keep (by decide) p1, RI.keep (by decide) p2, RI.keep (by decide) p3, RI.keep (by decide) p4, RI.keep (by decide) p5, fun _ => rfl, RI.keep (by decide) p7, RI.keep (by decide) p8, RI.keep (by decide) p9⟩
      · have hd := hm.2 _ rfl
        simp [Region.binds] at hd
        have hi0 := hm.1
        obtain ⟨ew, h10⟩ := WS_B hw hi0 (by simp [hd])
        subst ew
        obtain rfl := p4 (by simp [hd])
        obtain rfl := p6 (by simp [hd])
        clear hm
        refine RI.wpOpIn_plain rfl rfl (RI.wpIn_round nofun ?_)
        refine upw_app rfl rfl rfl hap ?_
        exact ⟨u10, u11, u12, u13, _, u15, _, _, u18, u19, rfl, (.inr (.inr (.inl ⟨rfl, by rw [RI.don_other _ _ _ (by decide)]; simp [hd], RI.don_same _ _, by rw [RI.don_other _ _ _ (by decide)]; exact h10⟩))), RI.keep (by decide) p0, RI.keep (by decide) p1, RI.keep (by decide) p2, RI.keep (by decide) p3, RI.keep (by decide) p4, RI.keep (by decide) p5, RI.keep (by decide) p6, fun _ => rfl, RI.keep (by decide) p8, RI.keep (by decide) p9⟩
      · have hd := hm.2 _ rfl
        simp [Region.binds] at hd
        have hi0 := hm.1
        obtain rfl := p0 (by simp [hd])
        obtain rfl := p1 (by simp [hd])
        obtain rfl := p2 (by simp [hd])
        obtain rfl := p3 (by simp [hd])
        obtain rfl := p4 (by simp [hd])
        obtain rfl := p5 (by simp [hd])
        obtain rfl := p6 (by simp [hd])
        obtain rfl := p7 (by simp [hd])
        clear hm
        refine RI.wpOpIn_plain rfl rfl (RI.wpIn_round nofun ?_)
        go_simp
        exact ⟨_, _, _, _, _, _, _, _, _, u19, rfl, WS_keep 8 (by decide) (by decide) (by decide) hw, RI.keep (by decide) p0, RI.keep (by decide) p1, RI.keep (by decide) p2, RI.keep (by decide) p3, RI.keep (by decide) p4, RI.keep (by decide) p5, RI.keep (by decide) p6, RI.keep (by decide) p7, fun _ => rfl, RI.keep (by decide) p9⟩
      · have hd := hm.2 _ rfl
        simp [Region.binds] at hd
        have hi0 := hm.1
        obtain rfl := p0 (by simp [hd])
        obtain rfl := p1 (by simp [hd])
        obtain rfl := p2 (by simp [hd])
        obtain rfl := p3 (by simp [hd])
        obtain rfl := p4 (by simp [hd])
        obtain rfl := p5 (by simp [hd])
        obtain rfl := p6 (by simp [hd])
        obtain rfl := p7 (by simp [hd])
        obtain rfl := p8 (by simp [hd])
        clear hm
        refine RI.wpOpIn_plain rfl rfl (RI.wpIn_round nofun ?_)
        go_simp
        exact ⟨_, _, _, _, _, _, _, _, _, _, rfl, WS_keep 9 (by decide) (by decide) (by decide) hw, RI.keep (by decide) p0, RI.keep (by decide) p1, RI.keep (by decide) p2, RI.keep (by decide) p3, RI.keep (by decide) p4, RI.keep (by decide) p5, RI.keep (by decide) p6, RI.keep (by decide) p7, RI.keep (by decide) p8, fun _ => rfl⟩
      · have hd := hm.2 _ rfl
        simp [Region.binds] at hd
        have hi0 := hm.1
        obtain ew := WS_C hw hi0 (by simp [hd])
        subst ew
        obtain rfl := p0 (by simp [hd])
        obtain rfl := p1 (by simp [hd])
        obtain rfl := p2 (by simp [hd])
        obtain rfl := p3 (by simp [hd])
        obtain rfl := p4 (by simp [hd])
        obtain rfl := p5 (by simp [hd])
        obtain rfl := p6 (by simp [hd])
        obtain rfl := p7 (by simp [hd])
        obtain rfl := p9 (by simp [hd])
        clear hm
        refine RI.wpOpIn_plain rfl rfl (RI.wpIn_round nofun ?_)
        go_simp
        rw [← HWD.out]
        exact ⟨_, _, _, _, _, _, _, _, u18, _, rfl, (.inr (.inr (.inr ⟨rfl, RI.don_same _ _, fun j hj => by
          rw [RI.don_other _ _ _ (by omega)]
          have : j = 0 ∨ j = 1 ∨ j = 2 ∨ j = 3 ∨ j = 4 ∨ j = 5 ∨ j = 6 ∨ j = 7 := by omega
          rcases this with rfl | rfl | rfl | rfl | rfl | rfl | rfl | rfl <;> simp [hd]⟩))), RI.keep (by decide) p0, RI.keep (by decide) p1, RI.keep (by decide) p2, RI.keep (by decide) p3, RI.keep (by decide) p4, RI.keep (by decide) p5, RI.keep (by decide) p6, RI.keep (by decide) p7, RI.keep (by decide) p8, RI.keep (by decide) p9⟩
    · intro d x wx hI hd
      obtain ⟨u10, u11, u12, u13, u14, u15, u16, u17, u18, u19, rfl, hw, p0, p1, p2, p3, p4, p5, p6, p7, p8, p9⟩ := hI
      obtain rfl := WS_D hw (hd 10 (by decide))
      exact ⟨kO, kP, HL⟩
  case done =>
    rintro D ys W hD hS hI hK
    have hI2 := (Lw_own w g v w.heap.size W0.heap.size (by omega) (fun pre : List (Int × UInt8) => bs ++ pre.map (·.2))).putObj (.deferred none) hI hD hK rfl
    rw [hS] at hI2
    obtain ⟨v', hw', _, _, hf', _⟩ := hI2
    gi_wp2
    refine ⟨by simp, .inl ⟨_, _, rfl, run_takeDeferred hK, ?_⟩⟩
    exact ⟨_, results_none rfl _ _ _, rfl, v', hw', hf'⟩
  case stop =>
    rintro D c pre W _ _ h _
    exact h.elim
end Pk
end Go.Proofs.YtcgimjlmihaegaaDoor
/- The one form of an item, as a list of bytes; it is read as it was written. -/
namespace Go.Proofs.YtcgimjlmihaegaaDoor
namespace Pk
open Go.RowKit
/-- A head. -/
def hdr (mark n : Nat) : List UInt8 := if n < 48 then [UInt8.ofNat (mark + n)] else UInt8.ofNat (mark + 47 + (nu n).length) :: nu n
mutual
/-- The form of an item. -/
def enc : It → List UInt8
  | .mk false t _ => if t.length = 1 ∧ Sp.bz t 0 < 128 then t else hdr 128 t.length ++ t
  | .mk true _ ks => hdr 192 (encs ks).length ++ encs ks
/-- The forms of items, one behind the other. -/
def encs : List It → List UInt8
  | [] => []
  | k :: r => enc k ++ encs r
end
mutual
/-- What means something of an item. -/
def bar : It → It
  | .mk false t _ => .mk false t []
  | .mk true _ ks => .mk true [] (bars ks)
def bars : List It → List It
  | [] => []
  | k :: r => bar k :: bars r
end
theorem nu_8 (n : Nat) (h : n < 18446744073709551616) : (nu n).length ≤ 8 := by
  rcases Nat.lt_or_ge 8 (nu n).length with h1 | h1
  · exfalso
    have k := cb_low (nu n) (nu_cb n) (by omega)
    have hv : vb 0 (nu n) = n := nu_vb n (Nat.lt_trans h (by decide))
    rw [hv] at k
    have k2 : 256 ^ 8 ≤ 256 ^ ((nu n).length - 1) := Nat.pow_le_pow_right (by decide) (by omega)
    have k3 : (256 : Nat) ^ 8 = 18446744073709551616 := by decide
    omega
  · exact h1
theorem nu_pos (n : Nat) (h0 : 0 < n) (h : n < 18446744073709551616) : 0 < (nu n).length := by
  rcases Nat.eq_zero_or_pos (nu n).length with h1 | h1
  · exfalso
    have e : nu n = [] := List.length_eq_zero_iff.1 h1
    have hv : vb 0 (nu n) = n := nu_vb n (Nat.lt_trans h (by decide))
    rw [e] at hv
    have : vb 0 [] = 0 := rfl
    omega
  · exact h1
theorem u8_of (n : Nat) (h : n < 256) : (UInt8.ofNat n).toNat = n := by rw [UInt8.toNat_ofNat']; omega
/-- A size is read behind its head's first byte as it was written. -/
theorem rsz_hdr (n : Nat) (r : List UInt8) (h : n < 18446744073709551616) (hr : n ≤ r.length) : ∃ s k, s < 64 ∧ (∀ mark, mark + 64 ≤ 256 → hdr mark n ++ r = UInt8.ofNat (mark + s) :: ((hdr mark n).drop 1 ++ r) ∧ rsz s ((hdr mark n).drop 1 ++ r) = some (n, k) ∧ ((hdr mark n).drop 1 ++ r).drop k = r) := by
  by_cases h48 : n < 48
  · refine ⟨n, 0, by omega, fun mark _ => ?_⟩
    have e : hdr mark n = [UInt8.ofNat (mark + n)] := by unfold hdr; rw [if_pos h48]
    rw [e]
    refine ⟨rfl, ?_, rfl⟩
    unfold rsz
    rw [if_pos h48]
  · have l8 := nu_8 n h
    have l0 := nu_pos n (by omega) h
    have hv : vb 0 (nu n) = n := nu_vb n (Nat.lt_trans h (by decide))
    refine ⟨47 + (nu n).length, (nu n).length, by omega, fun mark _ => ?_⟩
    have e : hdr mark n = UInt8.ofNat (mark + 47 + (nu n).length) :: nu n := by unfold hdr; rw [if_neg h48]
    rw [e]
    refine ⟨by rw [Nat.add_assoc]; rfl, ?_, ?_⟩
    · have e1 : 47 + (nu n).length - 47 = (nu n).length := by omega
      simp only [List.drop_succ_cons, List.drop_zero]
      unfold rsz
      rw [if_neg (by omega), e1, if_neg (by rw [List.length_append]; omega), List.take_left, if_neg (nu_cb n), hv, if_neg h48, List.drop_left, if_neg (by omega)]
    · simp only [List.drop_succ_cons, List.drop_zero]
      rw [List.drop_left]
theorem ritem_text (t r : List UInt8) (ks : List It) (h : t.length < 18446744073709551616) : ritem (enc (.mk false t ks) ++ r) = some (.mk false t [], r) := by
  unfold enc
  by_cases h1 : t.length = 1 ∧ Sp.bz t 0 < 128
  · rw [if_pos h1]
    match t, h1 with
    | [c], h1 =>
      have hc : c.toNat < 128 := by have := h1.2; simp [Sp.bz] at this; omega
      unfold ritem rit
      simp only [List.cons_append, List.nil_append]
      rw [if_pos hc]
  · rw [if_neg h1, List.append_assoc]
    obtain ⟨s, k, hs, H⟩ := rsz_hdr t.length (t ++ r) h (by rw [List.length_append]; omega)
    obtain ⟨e1, e2, e3⟩ := H 128 (by decide)
    rw [e1]
    have hu : (UInt8.ofNat (128 + s)).toNat = 128 + s := u8_of _ (by omega)
    unfold ritem rit
    dsimp only
    rw [hu, if_neg (by omega), if_pos (by omega), show 128 + s - 128 = s by omega]
    unfold rtx
    rw [e2]
    dsimp only
    rw [e3, if_neg (by rw [List.length_append]; omega)]
    rw [if_neg (fun h2 => h1 ⟨h2.1, by
      have hz : Sp.bz (t ++ r) 0 = Sp.bz t 0 := by
        simp only [Sp.bz, List.getD_eq_getElem?_getD]
        rw [List.getElem?_append_left (by omega)]
      rw [← hz]; exact h2.2⟩)]
    simp
theorem ritem_lists (ks : List It) (a r : List UInt8) (h : (encs ks).length < 18446744073709551616) (hk : rkids (encs ks) = some (bars ks)) : ritem (enc (.mk true a ks) ++ r) = some (.mk true [] (bars ks), r) := by
  unfold enc
  rw [List.append_assoc]
  obtain ⟨s, k, hs, H⟩ := rsz_hdr (encs ks).length (encs ks ++ r) h (by rw [List.length_append]; omega)
  obtain ⟨e1, e2, e3⟩ := H 192 (by decide)
  rw [e1]
  have hu : (UInt8.ofNat (192 + s)).toNat = 192 + s := u8_of _ (by omega)
  unfold ritem rit
  dsimp only
  rw [hu, if_neg (by omega), if_neg (by omega), show 192 + s - 192 = s by omega, e2]
  dsimp only
  rw [e3, if_neg (by rw [List.length_append]; omega), List.take_left, List.drop_left, hk]
  rfl
theorem enc_pos (t : It) : 0 < (enc t).length := by
  cases t with
  | mk l t ks =>
    have hh : ∀ m n, 0 < (hdr m n).length := fun m n => by unfold hdr; split <;> simp
    cases l
    · unfold enc
      split
      · rename_i h; omega
      · rw [List.length_append]; have := hh 128 t.length; omega
    · unfold enc
      rw [List.length_append]
      have := hh 192 (encs ks).length
      omega
mutual
theorem ritem_enc : ∀ (t : It) (r : List UInt8), (enc t).length < 18446744073709551616 → ritem (enc t ++ r) = some (bar t, r)
  | .mk false t ks, r, h => by
    have hl : t.length < 18446744073709551616 := by
      unfold enc at h
      split at h
      · exact h
      · rw [List.length_append] at h; omega
    rw [ritem_text t r ks hl]
    rfl
  | .mk true a ks, r, h => by
    have hl : (encs ks).length < 18446744073709551616 := by
      unfold enc at h
      rw [List.length_append] at h; omega
    rw [ritem_lists ks a r hl (rkids_encs ks hl)]
    rfl
theorem rkids_encs : ∀ ks : List It, (encs ks).length < 18446744073709551616 → rkids (encs ks) = some (bars ks)
  | [], _ => rkids_nil
  | k :: ks, h => by
    unfold encs at h ⊢
    rw [List.length_append] at h
    have h0 := enc_pos k
    rw [rkids_some (by rw [List.length_append]; omega) (ritem_enc k (encs ks) (by omega)), rkids_encs ks (by omega)]
    rfl
end
end Pk
end Go.Proofs.YtcgimjlmihaegaaDoor
/- pack's writer: head. -/
namespace Go.Proofs.YtcgimjlmihaegaaDoor
namespace Pk
open Go.RowKit Go.Shelf
theorem wt_form {g : Nat} {bs : List UInt8} {v : Value} {w : World} (h : Wt g bs v w) : ∃ a n c, v = .slice a n c := by
  rcases h.o.2 with ⟨h3, _⟩ | ⟨g3, cap3, cur, h3, _⟩
  · exact ⟨_, _, _, h3⟩
  · exact ⟨_, _, _, h3⟩
/-- One byte more. -/
theorem Wt_step {W WC : World} {g G pq n1 p1 : Nat} {a1 : Option Addr} {bs : List UInt8} (c : UInt8) (hw1 : Wt g bs (.slice a1 n1 p1) W)
    (own2 : WC.ownsRow (g + 1) 5 1 (.slice (some ⟨G, 0, none⟩) (bs.length + 1) pq) (bs ++ [c]).length (bcs (bs ++ [c]))) (hgr : (W.alloc (.cells #[.int .u8 (c.toNat : Int)] 5)).grownBy WC (Value.slice a1 n1 p1).ownBlock) (hG : (Value.slice a1 n1 p1).ownBlock = some G ∨ (W.alloc (.cells #[.int .u8 (c.toNat : Int)] 5)).heap.size ≤ G) :
    (W.alloc (.cells #[.int .u8 (c.toNat : Int)] 5)).cell? ⟨g, 0, none⟩ = some (.slice a1 n1 p1) ∧ WC.cell? ⟨g, 0, none⟩ = some (.slice a1 n1 p1) ∧ WC.frozen? ⟨g, 0, none⟩ = false ∧
    Wt g (bs ++ [c]) (.slice (some ⟨G, 0, none⟩) (bs.length + 1) pq) (WC.setCell ⟨g, 0, none⟩ (.slice (some ⟨G, 0, none⟩) (bs.length + 1) pq)) ∧ Fw g (.slice a1 n1 p1) (.slice (some ⟨G, 0, none⟩) (bs.length + 1) pq) W (WC.setCell ⟨g, 0, none⟩ (.slice (some ⟨G, 0, none⟩) (bs.length + 1) pq)) := by
  have hlo := hw1.o.lt
  have bB : Below W.heap.size W (W.alloc (.cells #[.int .u8 (c.toNat : Int)] 5)) := (Below.refl _ _).alloc (Nat.le_refl _) _
  have hsB := bB.size
  generalize W.alloc (.cells #[.int .u8 (c.toNat : Int)] 5) = WB at *
  have gs := gb_set WC g 0 (.slice (some ⟨G, 0, none⟩) (bs.length + 1) pq)
  have hgi := hw1.hi
  have ng : some g ≠ (Value.slice a1 n1 p1).ownBlock := fun e => by have := (hlo g e.symm).1; omega
  have cBg : WB.cell? ⟨g, 0, none⟩ = some (.slice a1 n1 p1) := (bB.cell (p := ⟨g, 0, none⟩) hgi).trans hw1.c
  have cCg : WC.cell? ⟨g, 0, none⟩ = some (.slice a1 n1 p1) := (World.cell?_of_block (a := ⟨g, 0, none⟩) (hgr.block g (by omega) ng)).trans cBg
  have fCg : WC.frozen? ⟨g, 0, none⟩ = false := (World.frozen?_of_block (a := ⟨g, 0, none⟩) (hgr.block g (by omega) ng)).trans ((bB.frozen (p := ⟨g, 0, none⟩) hgi).trans hw1.f)
  have hGg : G ≠ g := by
    rcases hG with h | h
    · have := (hlo G h).1; omega
    · omega
  have szD : (WC.setCell ⟨g, 0, none⟩ (.slice (some ⟨G, 0, none⟩) (bs.length + 1) pq)).heap.size = WC.heap.size := by simp [World.setCell]
  have hsC := hgr.size
  refine ⟨cBg, cCg, fCg, ⟨by rw [szD]; omega, by rw [World.frozen?_setCell]; exact fCg, World.cell?_setCell_same WC ⟨g, 0, none⟩ _ cCg, own2.kept gs (.inr (fun e => by
    have e2 : (some G : Option Nat) = some g := e
    injection e2 with e2
    exact hGg e2))⟩, ⟨gs.os.trans (hgr.os.trans bB.os), gs.tape.trans (hgr.tape.trans bB.tape), gs.output.trans (hgr.output.trans bB.output), by rw [szD]; omega, fun j hj h1 h2 => (gs.block j (by omega) (fun e => h1 (by injection e))).trans ((hgr.block j (by omega) h2).trans (bB.block j hj)), ?_⟩⟩
  rcases hG with h | h
  · exact .inl h.symm
  · right
    intro k hk
    have e2 : (some G : Option Nat) = some k := hk
    injection e2 with e2
    omega
set_option maxHeartbeats 1000000 in
set_option maxRecDepth 100000 in
theorem head_short (g mark n : Nat) (bs : List UInt8) (v : Value) (w : World) (hw : Wt g bs v w) (hn : n < 48) (hm : mark + 48 ≤ 256) (hl : bs.length + 1 ≤ 4398046511103) :
    Calls Tryd.prog 61 #[.pointer (some ⟨g, 0, none⟩), .int .u8 (mark : Int), .int .i64 (n : Int)] w fun e w' => e = .returned (.tuple #[]) ∧ ∃ v', Wt g (bs ++ [UInt8.ofNat (mark + n)]) v' w' ∧ Fw g v v' w w' := by
  obtain ⟨a1, n1, p1, rfl⟩ := wt_form hw
  have hu : (UInt8.ofNat (mark + n)).toNat = mark + n := u8_of _ (by omega)
  obtain ⟨G, pq, WC, hap, own2, hgr, hG⟩ := app_one (w := w) (UInt8.ofNat (mark + n)) hw.o (by have := hw.hi; omega) (by omega)
  obtain ⟨mB, mC, fC, HW, HF⟩ := Wt_step _ hw own2 hgr hG
  have mA := hw.c
  have ec : ((UInt8.ofNat (mark + n)).toNat : Int) = (mark : Int) + (n : Int) := by rw [hu]; omega
  rw [ec] at hap mB
  have d0 : decide ((n : Int) < 48) = true := decide_eq_true (by omega)
  have e1 : IntKind.u8.wrap (n : Int) = (n : Int) := by rw [IntKind.wrap_u8]; omega
  have e2 : IntKind.u8.wrap ((mark : Int) + (n : Int)) = (mark : Int) + (n : Int) := by rw [IntKind.wrap_u8]; omega
  have HR : Hid (∃ v', Wt g (bs ++ [UInt8.ofNat (mark + n)]) v' (WC.setCell ⟨g, 0, none⟩ (.slice (some ⟨G, 0, none⟩) (bs.length + 1) pq)) ∧ Fw g (.slice a1 n1 p1) v' w (WC.setCell ⟨g, 0, none⟩ (.slice (some ⟨G, 0, none⟩) (bs.length + 1) pq))) := ⟨_, HW, HF⟩
  clear HW HF own2 hgr hG hu ec hw hn hm hl
  generalize bs.length + 1 = m2 at *
  go_enter Tryd.func61, Tryd.ntmps61
  go_wp2_with (at_builtin; refine wpList_apw rfl rfl rfl rfl hap ?_)
  exact bodyPost_ret (results_none rfl _ _ _) rfl ⟨rfl, HR.out⟩
end Pk
end Go.Proofs.YtcgimjlmihaegaaDoor
/- pack.Num: where its bytes lie. -/
namespace Go.Proofs.YtcgimjlmihaegaaDoor
namespace Pk
open Go.RowKit
set_option maxHeartbeats 400000 in
set_option maxRecDepth 100000 in
theorem trimb_at (l : List UInt8) (g off cap : Nat) (hcap : l.length ≤ cap) (hc63 : (cap : Int) ≤ 9223372036854775807) (w : World) (hg : g < w.heap.size) (hc : ∀ j, j < l.length → w.cell? ⟨g, off + j, none⟩ = some (.int .u8 (Sp.bz l j))) :
    Calls Tryd.prog 80 #[.slice (some ⟨g, off, none⟩) l.length cap, .int .u8 0] w fun e w' => ∃ v, e = .returned v ∧ Ty (· = g) (nz l) v w ∧ w' = w := by
  go_enter Tryd.func80, Tryd.ntmps80
  go_wp2_with fail
  have HG : Hid (g < w.heap.size) := hg
  go_loopw [0] (fun s wr => ∃ (l' : List UInt8) (ao : Option Addr) (o c : Nat), s = .slice ao l'.length c ∧ Hid (nz l' = nz l) ∧ l'.length ≤ c ∧ (c : Int) ≤ 9223372036854775807 ∧ (0 < l'.length → ao = some ⟨g, o, none⟩) ∧ Hid (∀ j, j < l'.length → w.cell? ⟨g, o + j, none⟩ = some (.int .u8 (Sp.bz l' j))) ∧ w = wr) (fun s _ => slen s)
  case atStart => exact ⟨l, _, off, cap, rfl, rfl, hcap, hc63, fun _ => rfl, hc, rfl⟩
  case round =>
    clear hc hcap hc63 hg
    obtain ⟨l', ao, o, c, rfl, ht, hlc, hc63, hao, hc, rfl⟩ := hrel
    cases l' with
    | nil =>
      simp only [List.length_nil]
      clear hao hc
      go_wp2
      go_ret
      exact ⟨_, rfl, by rw [← ht.out]; exact Ty_nil _ _, rfl⟩
    | cons x r =>
      obtain rfl := hao (by rw [List.length_cons]; omega)
      have c0 := hc.out 0 (by rw [List.length_cons]; omega)
      rw [Nat.add_zero, bz_head] at c0
      rw [List.length_cons] at hlc
      have hn : (x :: r).length = r.length + 1 := List.length_cons ..
      have HT0 : Hid (nz (x :: r) = nz l) := ht
      have HC0 : Hid (∀ j, j < (x :: r).length → w.cell? ⟨g, o + j, none⟩ = some (.int .u8 (Sp.bz (x :: r) j))) := hc
      have HC : Hid (∀ j, j < r.length → w.cell? ⟨g, o + 1 + j, none⟩ = some (.int .u8 (Sp.bz r j))) := fun j hj => by
        have := hc.out (j + 1) (by rw [List.length_cons]; omega)
        rw [bz_cons] at this
        rw [← this]
        congr 2
        omega
      have HV : Hid (Ty (· = g) (x :: r) (.slice (some ⟨g, o, none⟩) (x :: r).length c) w) := ⟨_, c, rfl, by rw [hn]; exact hlc, fun _ => ⟨g, o, rfl, rfl, HG.out, hc.out⟩⟩
      clear ht hc hao
      generalize (x :: r).length = n at *
      have n0 : (0 : Int) < (n : Int) := by omega
      have n1 : (1 : Int) ≤ (n : Int) := by omega
      have n2 : (1 : Int) ≤ (c : Int) := by omega
      have n3 : (n : Int) ≤ (c : Int) := by omega
      have n4 : decide ((0 : Int) < (n : Int)) = true := decide_eq_true n0
      have ne : Hid (n - 1 = r.length) := by show _ = _; omega
      have HN : Hid (n = r.length + 1) := hn
      clear hn
      by_cases hx : x = 0
      · subst hx
        have c1 : w.cell? ⟨g, o, none⟩ = some (.int .u8 0) := c0
        have HT : Hid (nz r = nz l) := by rw [← HT0.out]; rfl
        clear c0 HT0 HC0 HV
        by_cases hc1 : c = 1
        · subst hc1
          have hn1 : n = 1 := by have := HN.out; omega
          have hr : r = [] := List.length_eq_zero_iff.1 (by have := HN.out; omega)
          subst hr
          clear hlc n0 n1 n2 n3 n4 ne HN hc63
          subst hn1
          go_wp2_with fail
          go_roundw
          case rel => exact ⟨[], _, o, 0, rfl, HT, Nat.le_refl _, by decide, fun h => absurd h (by decide), fun j hj => absurd hj (by simp), trivial⟩
          case measure => exact Nat.zero_lt_one
        · have n5 : (1 : Int) < (c : Int) := by omega
          go_wp2_with fail
          go_roundw
          case rel => exact ⟨r, _, o + 1, c - 1, by rw [← ne.out], HT, by omega, by omega, fun _ => rfl, HC, trivial⟩
          case measure => simp only [slen]; omega
      · have hx2 : ¬ ((x.toNat : Int) = 0) := fun h => hx (UInt8.toNat_inj.1 (show x.toNat = (0 : UInt8).toNat by have : ((0 : UInt8).toNat) = 0 := rfl; omega))
        have hx3 : ((x.toNat : Int) == 0) = false := beq_false_of_ne hx2
        have hx4 : decide ((x.toNat : Int) = 0) = false := decide_eq_false hx2
        have n6 : ((n : Int) == 0) = false := beq_false_of_ne (by omega)
        have n7 : decide ((n : Int) = 0) = false := decide_eq_false (by omega)
        have hz : nz (x :: r) = x :: r := by rw [nz, if_neg hx]
        have HZ : Hid (nz l = x :: r) := HT0.out.symm.trans hz
        clear HC HC0 HT0 hx2 hz HN ne
        go_wp2
        go_ret
        exact ⟨_, rfl, by rw [HZ.out]; exact HV.out, rfl⟩
set_option maxHeartbeats 400000 in
set_option maxRecDepth 100000 in
theorem trim_at (l : List UInt8) (g off cap : Nat) (h0 : 0 < l.length) (hcap : l.length ≤ cap) (hc63 : (cap : Int) ≤ 9223372036854775807) (w : World) (hg : g < w.heap.size) (hc : ∀ j, j < l.length → w.cell? ⟨g, off + j, none⟩ = some (.int .u8 (Sp.bz l j))) :
    Calls Tryd.prog 78 #[.slice (some ⟨g, off, none⟩) l.length cap, .string ⟨#[0]⟩] w fun e w' => ∃ v, e = .returned v ∧ Ty (· = g) (nz l) v w ∧ w' = w := by
  have K : Hid (Calls Tryd.prog 80 #[.slice (some ⟨g, off, none⟩) l.length cap, .int .u8 0] w fun e w' => ∃ v, e = .returned v ∧ Ty (· = g) (nz l) v w ∧ w' = w) := trimb_at l g off cap hcap hc63 w hg hc
  have n6 : ((l.length : Int) == 0) = false := beq_false_of_ne (by omega)
  have n7 : decide ((l.length : Int) = 0) = false := decide_eq_false (by omega)
  have e0 : (({ data := #[0] } : ByteArray)[0]).toNat = 0 := rfl
  clear hc hg hcap hc63
  generalize nz l = Z at *
  generalize l.length = n at *
  go_enter Tryd.func78, Tryd.ntmps78
  go_wp2_with fail
  refine K.out.mono (fun e w2 he => ?_)
  obtain ⟨v, rfl, hs, rfl⟩ := he
  have HS : Hid (Ty (· = g) Z v w2) := hs
  clear hs K n6 n7 h0
  go_wp2
  go_ret
  exact ⟨_, rfl, HS.out, rfl⟩
set_option maxHeartbeats 400000 in
set_option maxRecDepth 100000 in
theorem num_new (a : Nat) (w : World) :
    Calls Tryd.prog 70 #[Wd a] w fun e w' => ∃ v, e = .returned v ∧ Ty (w.heap.size ≤ ·) (nu a) v w' ∧ Below w.heap.size w w' := by
  have KT : Hid (∀ (g : Nat) (W3 : World), g < W3.heap.size → Sp.CK .u8 g 32 (bt a) W3 → Calls Tryd.prog 78 #[.slice (some ⟨g, 0, none⟩) 32 32, .string ⟨#[0]⟩] W3 fun e w' => ∃ v, e = .returned v ∧ Ty (· = g) (nu a) v W3 ∧ w' = W3) := fun g W3 Z0 C0 => by
    have k := trim_at (wb a) g 0 32 (by rw [wb_len]; decide) (by rw [wb_len]; decide) (by decide) W3 Z0 (fun j hj => by
      rw [wb_len] at hj
      rw [Nat.zero_add, wb_bz a j hj]
      exact C0 j hj)
    rw [wb_len] at k
    exact k
  generalize nu a = N at *
  conv => arg 3; unfold Wd
  go_enter Tryd.func70, Tryd.ntmps70
  go_wp2_with fail
  have b0 : Below w.heap.size w (w.alloc (.cells #[.int .u64 (dg a 0), .int .u64 (dg a 1), .int .u64 (dg a 2), .int .u64 (dg a 3)] 92)) := (Below.refl _ _).alloc (Nat.le_refl _) _
  generalize w.alloc (.cells #[.int .u64 (dg a 0), .int .u64 (dg a 1), .int .u64 (dg a 2), .int .u64 (dg a 3)] 92) = W0 at b0 ⊢
  refine (bytes_any a W0).mono ?_
  rintro e w1 ⟨rfl, hb1⟩
  have b1 : Below w.heap.size w w1 := b0.trans (hb1.mono b0.size)
  clear b0 hb1
  dsimp only
  go_step
  go_step
  go_step
  go_step
  have q2 := Sp.Vb_zero32 w.heap.size w1 36 b1.size
  have b2 : Below w.heap.size w (w1.alloc (.cells #[.int .u8 0, .int .u8 0, .int .u8 0, .int .u8 0, .int .u8 0, .int .u8 0, .int .u8 0, .int .u8 0, .int .u8 0, .int .u8 0, .int .u8 0, .int .u8 0, .int .u8 0, .int .u8 0, .int .u8 0, .int .u8 0, .int .u8 0, .int .u8 0, .int .u8 0, .int .u8 0, .int .u8 0, .int .u8 0, .int .u8 0, .int .u8 0, .int .u8 0, .int .u8 0, .int .u8 0, .int .u8 0, .int .u8 0, .int .u8 0, .int .u8 0, .int .u8 0] 36)) := b1.alloc b1.size _
  generalize w1.alloc (.cells #[.int .u8 0, .int .u8 0, .int .u8 0, .int .u8 0, .int .u8 0, .int .u8 0, .int .u8 0, .int .u8 0, .int .u8 0, .int .u8 0, .int .u8 0, .int .u8 0, .int .u8 0, .int .u8 0, .int .u8 0, .int .u8 0, .int .u8 0, .int .u8 0, .int .u8 0, .int .u8 0, .int .u8 0, .int .u8 0, .int .u8 0, .int .u8 0, .int .u8 0, .int .u8 0, .int .u8 0, .int .u8 0, .int .u8 0, .int .u8 0, .int .u8 0, .int .u8 0] 36) = W2 at q2 b2 ⊢
  have hg9 : w.heap.size ≤ w1.heap.size := b1.size
  clear b1
  generalize w1.heap.size = g9 at q2 hg9 ⊢
  have t1 : W2.there g9 0 (Sp.h32 (bt a)).toArray.size := Sp.there32a q2.c q2.f
  have C0 : Sp.CK .u8 g9 32 (bt a) (W2.setCells g9 0 (Sp.h32 (bt a)).toArray.toList) := Sp.CK_set32 q2.c q2.f
  have B0 : Below w.heap.size w (W2.setCells g9 0 (Sp.h32 (bt a)).toArray.toList) := Sp.Bel_sets hg9 _ _ _ b2
  have Z0 : g9 < (W2.setCells g9 0 (Sp.h32 (bt a)).toArray.toList).heap.size := by rw [Sp.size_setCells]; exact q2.hi
  refine wpList_store_mid rfl 36 (.tmp 3) (.tmp 5) rfl g9 0 (Sp.h32 (bt a)).toArray rfl rfl t1 Sp.info32a (all_oneCell_toArray (Sp.h32_one (bt a))) ?_
  refine wpList_nil ?_
  clear q2 b2 t1
  generalize W2.setCells g9 0 (Sp.h32 (bt a)).toArray.toList = W3 at C0 B0 Z0 ⊢
  have KW : Hid (Calls Tryd.prog 78 #[.slice (some ⟨g9, 0, none⟩) 32 32, .string ⟨#[0]⟩] W3 fun e w' => ∃ v, e = .returned v ∧ Ty (· = g9) N v W3 ∧ w' = W3) := KT.out g9 W3 Z0 C0
  clear C0 Z0 KT
  generalize Sp.h32 (bt a) = hh at *
  go_wp2_with fail
  refine KW.out.mono (fun e w4 he => ?_)
  obtain ⟨v, rfl, hs, rfl⟩ := he
  have HS : Hid (Ty (w.heap.size ≤ ·) N v w4) := Ty_mono hs (fun k hk _ => by omega)
  have HB : Hid (Below w.heap.size w w4) := B0
  clear hs B0 KW
  go_wp2
  go_ret
  exact ⟨_, rfl, HS.out, HB.out⟩
end Pk
end Go.Proofs.YtcgimjlmihaegaaDoor
/- pack's writer: head, long; head at every size. -/
namespace Go.Proofs.YtcgimjlmihaegaaDoor
namespace Pk
open Go.RowKit Go.Shelf
theorem Wt_below {g : Nat} {bs : List UInt8} {v : Value} {w w' : World} (h : Wt g bs v w) (b : Below w.heap.size w w') : Wt g bs v w' :=
  ⟨Nat.lt_of_lt_of_le h.hi b.size, (b.frozen (p := ⟨g, 0, none⟩) h.hi).trans h.f, (b.cell (p := ⟨g, 0, none⟩) h.hi).trans h.c, ownb h.o b⟩
theorem Fw_below {g : Nat} {v : Value} {w w' : World} (b : Below w.heap.size w w') : Fw g v v w w' := ⟨b.os, b.tape, b.output, b.size, fun j hj _ _ => b.block j hj, .inl rfl⟩
set_option maxHeartbeats 2000000 in
set_option maxRecDepth 100000 in
theorem head_long (g mark n : Nat) (bs : List UInt8) (v : Value) (w : World) (hw : Wt g bs v w) (hn : 48 ≤ n) (hn2 : n ≤ 4194304) (hm : mark + 64 ≤ 256) (hl : bs.length + 16 ≤ 4398046511103) :
    Calls Tryd.prog 61 #[.pointer (some ⟨g, 0, none⟩), .int .u8 (mark : Int), .int .i64 (n : Int)] w fun e w' => e = .returned (.tuple #[]) ∧ ∃ v', Wt g (bs ++ (nu n).reverse ++ [UInt8.ofNat (mark + 47 + (nu n).length)]) v' w' ∧ Fw g v v' w w' := by
  have l8 := nu_8 n (by omega)
  have l0 := nu_pos n (by omega) (by omega)
  have KI : Hid (∀ wx : World, Calls Tryd.prog 71 #[.int .u64 (n : Int)] wx fun e w' => e = .returned (Wd n) ∧ Below wx.heap.size wx w') := fun wx => (int_any n (by omega) wx).mono fun e w' he => by
    first | exact he | exact ⟨he.1, by rw [he.2]; exact Below.refl _ _⟩
  have KN : Hid (∀ wx : World, Calls Tryd.prog 70 #[Wd n] wx fun e w' => ∃ v, e = .returned v ∧ Ty (wx.heap.size ≤ ·) (nu n) v w' ∧ Below wx.heap.size wx w') := num_new n
  have KL : Hid (∀ (ao : Option Addr) (cap b : Nat) (wx : World), Below w.heap.size w wx → Sp.Vw (nu n) ao wx → (∃ off, ao = some ⟨b, off, none⟩) → w.heap.size ≤ b → b < wx.heap.size → Calls Tryd.prog 68 #[.pointer (some ⟨g, 0, none⟩), .slice ao (nu n).length cap] wx fun e w' => e = .returned (.tuple #[]) ∧ ∃ v', Wt g (bs ++ (nu n).reverse) v' w' ∧ Fw g v v' w w') := fun ao cap b wx hb vw ho h1 h2 =>
    (lay_any g bs (nu n) v ao cap b wx (Wt_below hw hb) (by omega) (by omega) vw (fun _ => ho) h2 (by have := hw.hi; omega) (fun e => by have := (hw.o.lt b e.symm).2; omega)).mono fun e w' he => by
      obtain ⟨h3, v', h4, h5⟩ := he
      exact ⟨h3, v', h4, Fw_trans (Fw_below hb) h5⟩
  have HS : Hid (∀ (v1 : Value) (W : World), Wt g (bs ++ (nu n).reverse) v1 W → Fw g v v1 w W → ∃ a1 n1 p1 G m2 pq WC, v1 = .slice a1 n1 p1 ∧ W.cell? ⟨g, 0, none⟩ = some (.slice a1 n1 p1) ∧ (Builtin.append_ #[22, 22] 22 #[.slice a1 n1 p1, .slice (some ⟨W.heap.size, 0, none⟩) 1 1]).run Tryd.prog (W.alloc (.cells #[.int .u8 ((mark + 47 + (nu n).length : Nat) : Int)] 5)) = .ok (.slice (some ⟨G, 0, none⟩) m2 pq) WC ∧ (W.alloc (.cells #[.int .u8 ((mark + 47 + (nu n).length : Nat) : Int)] 5)).cell? ⟨g, 0, none⟩ = some (.slice a1 n1 p1) ∧ WC.cell? ⟨g, 0, none⟩ = some (.slice a1 n1 p1) ∧ WC.frozen? ⟨g, 0, none⟩ = false ∧ ∃ v', Wt g (bs ++ (nu n).reverse ++ [UInt8.ofNat (mark + 47 + (nu n).length)]) v' (WC.setCell ⟨g, 0, none⟩ (.slice (some ⟨G, 0, none⟩) m2 pq)) ∧ Fw g v v' w (WC.setCell ⟨g, 0, none⟩ (.slice (some ⟨G, 0, none⟩) m2 pq))) := fun v1 W h1 h2 => by
    obtain ⟨a1, n1, p1, rfl⟩ := wt_form h1
    have hu : (UInt8.ofNat (mark + 47 + (nu n).length)).toNat = mark + 47 + (nu n).length := u8_of _ (by omega)
    obtain ⟨G, pq, WC, hap, own2, hgr, hG⟩ := app_one (w := W) (UInt8.ofNat (mark + 47 + (nu n).length)) h1.o (by have := h1.hi; omega) (by rw [List.length_append, List.length_reverse]; omega)
    obtain ⟨mB, mC, fC, HW, HF⟩ := Wt_step _ h1 own2 hgr hG
    rw [hu] at hap mB
    exact ⟨a1, n1, p1, G, _, pq, WC, rfl, h1.c, hap, mB, mC, fC, _, HW, Fw_trans h2 HF⟩
  have d0 : decide ((n : Int) < 48) = false := decide_eq_false (by omega)
  have e1 : IntKind.u64.wrap (n : Int) = (n : Int) := by rw [IntKind.wrap_u64]; omega
  obtain ⟨L, hL⟩ : ∃ L, L = (nu n).length := ⟨_, rfl⟩
  have e2 : IntKind.u8.wrap ((mark : Int) + 48) = (mark : Int) + 48 := by rw [IntKind.wrap_u8]; omega
  have e3 : Hid (wrap64 ((L : Int) - 1) = (L : Int) - 1) := by show _ = _; unfold wrap64; omega
  have e4 : IntKind.u8.wrap ((L : Int) - 1) = (L : Int) - 1 := by rw [IntKind.wrap_u8]; omega
  have e5 : IntKind.u8.wrap ((mark : Int) + 48 + ((L : Int) - 1)) = ((mark + 47 + L : Nat) : Int) := by rw [IntKind.wrap_u8]; omega
  have HN : Hid (0 < (nu n).length) := l0
  rw [← hL] at KL HS ⊢
  have HLN : Hid (L = (nu n).length) := hL
  clear hw hn hn2 hm hl l8 l0 hL
  go_enter Tryd.func61, Tryd.ntmps61
  go_wp2_with fail
  refine (KI.out _).mono (fun e w1 he => ?_)
  obtain ⟨rfl, b1⟩ := he
  go_wp2_with fail
  refine (KN.out _).mono (fun e w2 he => ?_)
  obtain ⟨vs, rfl, ⟨ao, cap, rfl, hcap, hty⟩, b2'⟩ := he
  have b2 := b1.trans (b2'.mono b1.size)
  obtain ⟨b, off, rfl, hb1, hb2, hcs⟩ := hty HN.out
  have VW : Hid (Sp.Vw (nu n) (some ⟨b, off, none⟩) w2) := fun _ => ⟨b, off, rfl, hb2, hcs⟩
  have hbl : w.heap.size ≤ b := Nat.le_trans b1.size hb1
  rw [← HLN.out]
  clear KI KN hcap hty b2' hb1 hcs
  go_wp2_with fail
  refine (KL.out (some ⟨b, off, none⟩) cap b _ b2 VW.out ⟨off, rfl⟩ hbl hb2).mono (fun e w3 he => ?_)
  obtain ⟨rfl, v1, hw3, hf3⟩ := he
  obtain ⟨a1, n1, p1, G, m2, pq, WC, rfl, mA, hap, mB, mC, fC, HR⟩ := HS.out v1 w3 hw3 hf3
  have HR : Hid (∃ v', Wt g (bs ++ (nu n).reverse ++ [UInt8.ofNat (mark + 47 + L)]) v' (WC.setCell ⟨g, 0, none⟩ (.slice (some ⟨G, 0, none⟩) m2 pq)) ∧ Fw g v v' w (WC.setCell ⟨g, 0, none⟩ (.slice (some ⟨G, 0, none⟩) m2 pq))) := HR
  clear KL HS hw3 hf3 VW hbl hb2 b1 b2
  have e3 := e3.out
  go_wp2_with (at_builtin; refine wpList_apw rfl rfl rfl rfl hap ?_)
  go_end0
  exact ⟨rfl, HR.out⟩
/-- A head, laid ahead of what is there. -/
theorem head_any (g mark n : Nat) (bs : List UInt8) (v : Value) (w : World) (hw : Wt g bs v w) (hn2 : n ≤ 4194304) (hm : mark + 64 ≤ 256) (hl : bs.length + 16 ≤ 4398046511103) :
    Calls Tryd.prog 61 #[.pointer (some ⟨g, 0, none⟩), .int .u8 (mark : Int), .int .i64 (n : Int)] w fun e w' => e = .returned (.tuple #[]) ∧ ∃ v', Wt g (bs ++ (hdr mark n).reverse) v' w' ∧ Fw g v v' w w' := by
  by_cases h : n < 48
  · have e : (hdr mark n).reverse = [UInt8.ofNat (mark + n)] := by unfold hdr; rw [if_pos h]; rfl
    rw [e]
    exact head_short g mark n bs v w hw h (by omega) (by omega)
  · have e : (hdr mark n).reverse = (nu n).reverse ++ [UInt8.ofNat (mark + 47 + (nu n).length)] := by unfold hdr; rw [if_neg h, List.reverse_cons]
    rw [e, ← List.append_assoc]
    exact head_long g mark n bs v w hw (by omega) hn2 hm hl
end Pk
end Go.Proofs.YtcgimjlmihaegaaDoor
/- pack's writer: text. -/
namespace Go.Proofs.YtcgimjlmihaegaaDoor
namespace Pk
open Go.RowKit Go.Shelf
set_option maxHeartbeats 2000000 in
set_option maxRecDepth 100000 in
theorem text_w (g : Nat) (bs t : List UInt8) (ks : List It) (v : Value) (ao : Option Addr) (cap b : Nat) (w : World) (hw : Wt g bs v w) (hz : t.length ≤ 1048576) (hlen : bs.length + t.length + 16 ≤ 4398046511103) (vw : Sp.Vw t ao w) (hb : 0 < t.length → ∃ off, ao = some ⟨b, off, none⟩) (hbw : b < w.heap.size) (hbg : b ≠ g) (hbv : some b ≠ v.ownBlock) :
    Calls Tryd.prog 59 #[.pointer (some ⟨g, 0, none⟩), .slice ao t.length cap] w fun e w' => e = .returned (.tuple #[]) ∧ ∃ v', Wt g (bs ++ (enc (.mk false t ks)).reverse) v' w' ∧ Fw g v v' w w' := by
  have KL : Hid (Calls Tryd.prog 68 #[.pointer (some ⟨g, 0, none⟩), .slice ao t.length cap] w fun e w' => e = .returned (.tuple #[]) ∧ ∃ v', Wt g (bs ++ t.reverse) v' w' ∧ Fw g v v' w w') := lay_any g bs t v ao cap b w hw hz (by omega) vw hb hbw hbg hbv
  have KH : Hid (∀ (v1 : Value) (W : World), Wt g (bs ++ t.reverse) v1 W → Fw g v v1 w W → Calls Tryd.prog 61 #[.pointer (some ⟨g, 0, none⟩), .int .u8 128, .int .i64 (t.length : Int)] W fun e w' => e = .returned (.tuple #[]) ∧ ∃ v', Wt g (bs ++ t.reverse ++ (hdr 128 t.length).reverse) v' w' ∧ Fw g v v' w w') := fun v1 W h1 h2 =>
    (head_any g 128 t.length (bs ++ t.reverse) v1 W h1 (by omega) (by decide) (by rw [List.length_append, List.length_reverse]; omega)).mono fun e w' he => by
      obtain ⟨h3, v', h4, h5⟩ := he
      exact ⟨h3, v', h4, Fw_trans h2 h5⟩
  by_cases h1 : t.length = 1
  · obtain ⟨off, rfl⟩ := hb (by omega)
    obtain ⟨g', off', e1, hg', hc⟩ := vw (by omega)
    injection e1 with e1
    injection e1 with e2 e3 _
    subst e2 e3
    have c0 : w.cell? ⟨b, off, none⟩ = some (.int .u8 (Sp.bz t 0)) := hc 0 (by omega)
    have HB : Hid (∀ (v1 : Value) (W : World), Fw g v v1 w W → W.cell? ⟨b, off, none⟩ = some (.int .u8 (Sp.bz t 0))) := fun v1 W hf => (World.cell?_of_block (a := ⟨b, off, none⟩) (hf.block b hbw hbg hbv)).trans c0
    have d0 : ((t.length : Int) != 1) = false := by rw [h1]; rfl
    have l0 : (0 : Int) < (t.length : Int) := by omega
    by_cases h2 : Sp.bz t 0 < 128
    · have e : enc (.mk false t ks) = t := by unfold enc; rw [if_pos ⟨h1, h2⟩]
      rw [e]
      have d1 : decide ((128 : Int) ≤ Sp.bz t 0) = false := decide_eq_false (by omega)
      clear hw hz hlen vw hb hbw hbg hbv hc c0 h1 h2 e KH hg'
      generalize Sp.bz t 0 = X at *
      generalize t.length = n at *
      go_enter Tryd.func59, Tryd.ntmps59
      go_wp2_with fail
      refine KL.out.mono (fun e w1 he => ?_)
      obtain ⟨rfl, v1, h3, h4⟩ := he
      have cx := HB.out v1 w1 h4
      have HR : Hid (∃ v', Wt g (bs ++ t.reverse) v' w1 ∧ Fw g v v' w w1) := ⟨v1, h3, h4⟩
      clear h3 h4 HB KL
      go_wp2_with fail
      go_end0
      exact ⟨rfl, HR.out⟩
    · have e : (enc (.mk false t ks)).reverse = t.reverse ++ (hdr 128 t.length).reverse := by unfold enc; rw [if_neg (fun h => h2 h.2), List.reverse_append]
      rw [e, ← List.append_assoc]
      have d1 : decide ((128 : Int) ≤ Sp.bz t 0) = true := decide_eq_true (by omega)
      clear hw hz hlen vw hb hbw hbg hbv hc c0 h1 h2 e hg'
      generalize Sp.bz t 0 = X at *
      generalize bs ++ t.reverse ++ (hdr 128 t.length).reverse = Z at *
      generalize t.length = n at *
      go_enter Tryd.func59, Tryd.ntmps59
      go_wp2_with fail
      refine KL.out.mono (fun e w1 he => ?_)
      obtain ⟨rfl, v1, h3, h4⟩ := he
      have cx := HB.out v1 w1 h4
      have KK : Hid _ := KH.out v1 w1 h3 h4
      clear h3 h4 HB KL KH
      go_wp2_with fail
      refine Calls.mono KK.out (fun e w2 he => ?_)
      obtain ⟨rfl, hr⟩ := he
      have HR : Hid _ := hr
      clear hr
      go_wp2_with fail
      go_end0
      exact ⟨rfl, HR.out⟩
  · have e : (enc (.mk false t ks)).reverse = t.reverse ++ (hdr 128 t.length).reverse := by unfold enc; rw [if_neg (fun h => h1 h.1), List.reverse_append]
    rw [e, ← List.append_assoc]
    have d0 : ((t.length : Int) != 1) = true := bne_iff_ne.2 (by omega)
    clear hw hz hlen vw hb hbw hbg hbv h1 e
    generalize bs ++ t.reverse ++ (hdr 128 t.length).reverse = Z at *
    generalize t.length = n at *
    go_enter Tryd.func59, Tryd.ntmps59
    go_wp2_with fail
    refine KL.out.mono (fun e w1 he => ?_)
    obtain ⟨rfl, v1, h3, h4⟩ := he
    have KK : Hid _ := KH.out v1 w1 h3 h4
    clear h3 h4 KL KH
    go_wp2_with fail
    refine Calls.mono KK.out (fun e w2 he => ?_)
    obtain ⟨rfl, hr⟩ := he
    have HR : Hid _ := hr
    clear hr
    go_wp2_with fail
    go_end0
    exact ⟨rfl, HR.out⟩
end Pk
end Go.Proofs.YtcgimjlmihaegaaDoor
/- slices.Backward of items. -/
namespace Go.Proofs.YtcgimjlmihaegaaDoor
namespace Pk
open Go.RowKit Go.Shelf
attribute [local go_sem] Oper.semAt_some
/-- Places from the last one on. -/
def dn (n : Nat) (k : Nat) : Nat := n - 1 - k
theorem upto_dn (n : Nat) : upto (dn n) n = (List.range n).reverse := by
  apply List.ext_getElem
  · simp [upto]
  · intro i h1 h2
    simp [upto, dn]
/-- An item's three values. -/
def Fm (v : V3) : Prop := ∃ l b1 m1 q1 b2 m2 q2, v = (.bool l, .slice b1 m1 q1, .slice b2 m2 q2)
set_option maxRecDepth 100000 in
set_option maxHeartbeats 2000000 in
theorem bwi1_in (F : Fence) (n : Nat) (hf : F.fn 69) (hro : F.round = none) (hn : 1 ≤ n) (l Bs b off cap : Nat) (vs : List V3) (hreach : vs.length ≤ 4194304) (hfm : ∀ j, j < vs.length → Fm (vs.getD j n3)) (J Jx : List (Fin vs.length) → World → Prop)
    (hY : ∀ pre (x : Fin vs.length) W, J pre W → pre.length < vs.length → YieldAt F (n - 1) Tryd.prog l #[.int .i64 (x.1 : Int), v3 (vs.getD x.1 n3)] W fun e W' =>
      (e = .returned (.bool true) ∧ J (pre ++ [x]) W' ∧ Kp2 Bs b W W') ∨ (e = .returned (.bool false) ∧ Jx (pre ++ [x]) W'))
    (W : World) (hBs : W.cell? ⟨Bs, 0, none⟩ = some (.slice (some ⟨b, off, none⟩) vs.length cap))
    (hc : ∀ j, j < vs.length → W.cell? ⟨b, off + 3 * j, none⟩ = some (vs.getD j n3).1 ∧ W.cell? ⟨b, off + 3 * j + 1, none⟩ = some (vs.getD j n3).2.1 ∧ W.cell? ⟨b, off + 3 * j + 2, none⟩ = some (vs.getD j n3).2.2) (h0 : J [] W) :
    CallsIn F n Tryd.prog 69 #[.func (.yield l) #[] #[], .pointer (some ⟨Bs, 0, none⟩)] W fun e W' => (∃ v, e = .returned v) ∧
      ((∃ ys : List (Fin vs.length), ys.map (·.1) = upto (dn vs.length) vs.length ∧ J ys W') ∨ (∃ pre, Jx pre W')) := by
  refine callsIn_of_wp Tryd.func69 rfl hf ?_ hro
  simp only [Tryd.ntmps69, List.size_toArray, List.length_cons, List.length_nil, Nat.reduceAdd, Nat.reduceSub, Array.replicate_succ, Array.replicate_zero, List.push_toArray, List.append_toArray, List.nil_append, List.cons_append]
  have hw0 := (bwd_wrap vs.length hreach).out
  gi_wp2
  clear hw0
  gi_loopw [3] (fun i wr => ∃ k : Nat, k ≤ vs.length ∧ i = .int .i64 ((vs.length - k : Nat) - 1 : Int) ∧ (∃ pre : List (Fin vs.length), pre.map (·.1) = upto (dn vs.length) k ∧ J pre wr) ∧ Kp2 Bs b W wr)
    (fun i _ => (intOf i + 1).toNat)
  case atStart => exact ⟨0, Nat.zero_le _, by simp, ⟨[], rfl, h0⟩, fun o => ⟨rfl, rfl⟩⟩
  case round =>
    obtain ⟨k, hk, rfl, ⟨pre, hpre, hJs⟩, hkp⟩ := hrel
    have hBs' : wr.cell? ⟨Bs, 0, none⟩ = some (.slice (some ⟨b, off, none⟩) vs.length cap) := (hkp 0).1.trans hBs
    by_cases hlt : k < vs.length
    · obtain ⟨j, hj⟩ : ∃ j, vs.length - k = j + 1 := ⟨vs.length - k - 1, by omega⟩
      have ei : (((vs.length - k : Nat) : Int) - 1) = (j : Int) := by omega
      have HJ : Hid (vs.length - k = j + 1) := hj
      have hjn : j < vs.length := by omega
      have hjl : (j : Int) < (vs.length : Int) := by omega
      have hj0 : (0 : Int) ≤ (j : Int) := by omega
      have hjd : decide ((0 : Int) ≤ (j : Int)) = true := decide_eq_true hj0
      have hpl : pre.length = k := by rw [← List.length_map (f := (·.1)), hpre, upto_length]
      have HB : Hid ((pre ++ [(⟨j, hjn⟩ : Fin vs.length)]).map (·.1) = upto (dn vs.length) (k + 1)) := by
        show _ = _
        rw [List.map_append, hpre, upto_succ]
        congr 1
        show [j] = [dn vs.length k]
        unfold dn
        congr 1
        omega
      have Y := hY _ (⟨j, hjn⟩ : Fin vs.length) wr hJs (by omega)
      obtain ⟨c0, c1, c2⟩ := hc j hjn
      obtain ⟨lb, b1, m1, q1, b2, m2, q2, ev⟩ := hfm j hjn
      have x0 := ((hkp (off + 3 * j)).2.trans c0)
      have x1 := ((hkp (off + 3 * j + 1)).2.trans c1)
      have x2 := ((hkp (off + 3 * j + 2)).2.trans c2)
      dsimp only at Y
      rw [ev] at x0 x1 x2 Y
      rw [Nat.mul_comm 3 j] at x0 x1 x2
      obtain ⟨fn, tmps, assign, body, hy, hR⟩ := Y
      dsimp only [v3] at hy
      have hw := (bwd_wrap j (by omega)).out
      rw [ei]
      have HPL : Hid (pre.length = k) := hpl
      clear hj ei hpre hpl c0 c1 c2 ev
      gi_wp2
      refine hR.mono ?_
      rintro e W3 (⟨rfl, hJ3, hk3⟩ | ⟨rfl, hJx3⟩)
      · gi_wp2
        go_roundw
        case rel => exact ⟨k + 1, hlt, by have := HJ.out; first | rfl | (congr 1; omega) | (rw [hw]; congr 1; omega), ⟨_, HB.out, hJ3⟩, Kp2_t hkp hk3⟩
        case measure => simp [intOf] <;> omega
      · gi_wp2
        refine bodyPost_ret (results_none rfl _ _ _) rfl ?_
        exact ⟨⟨_, rfl⟩, .inr ⟨_, hJx3⟩⟩
    · obtain rfl : k = vs.length := by omega
      have ei : (((vs.length - vs.length : Nat) : Int) - 1) = -1 := by omega
      rw [ei]
      gi_wp2
      go_end0
      exact ⟨⟨_, rfl⟩, .inl ⟨_, hpre, hJs⟩⟩
set_option maxRecDepth 100000 in
set_option maxHeartbeats 1000000 in
theorem bwi1_nil_in (F : Fence) (n : Nat) (hf : F.fn 69) (hro : F.round = none) (l Bs : Nat) (a : Option Addr) (cap : Nat) {α : Type} (J : List α → World → Prop) (W : World) (hBs : W.cell? ⟨Bs, 0, none⟩ = some (.slice a 0 cap)) (h0 : J [] W) :
    CallsIn F n Tryd.prog 69 #[.func (.yield l) #[] #[], .pointer (some ⟨Bs, 0, none⟩)] W fun e W' => (∃ v, e = .returned v) ∧ J [] W' := by
  refine callsIn_of_wp Tryd.func69 rfl hf ?_ hro
  simp only [Tryd.ntmps69, List.size_toArray, List.length_cons, List.length_nil, Nat.reduceAdd, Nat.reduceSub, Array.replicate_succ, Array.replicate_zero, List.push_toArray, List.append_toArray, List.nil_append, List.cons_append]
  gi_wp2
  gi_loopw [3] (fun i wr => i = .int .i64 (-1) ∧ J [] wr) (fun _ _ => 0)
  case atStart => exact ⟨rfl, h0⟩
  case round =>
    obtain ⟨rfl, hJs⟩ := hrel
    gi_wp2
    go_end0
    exact ⟨⟨_, rfl⟩, hJs⟩
set_option maxHeartbeats 1000000 in
theorem bwi_in (F : Fence) (n : Nat) (hf : F.fn 60) (hro : F.round = none) (a : Option Addr) (len cap : Nat) (w : World) :
    CallsIn F n Tryd.prog 60 #[.slice a len cap] w fun e w' => e = .returned (.func (.func 69) #[] #[.pointer (some ⟨w.heap.size, 0, none⟩)]) ∧ w' = w.alloc (.cells #[.slice a len cap] 42) := by
  refine callsIn_of_wp Tryd.func60 rfl hf ?_ hro
  simp only [Tryd.ntmps60, List.size_toArray, List.length_cons, List.length_nil, Nat.reduceAdd, Nat.reduceSub, Array.replicate_succ, Array.replicate_zero, List.push_toArray, List.append_toArray, List.nil_append, List.cons_append]
  gi_wp2
  go_ret
  exact ⟨rfl, rfl⟩
/-- The items come from the last one on; two blocks are kept between rounds. -/
theorem bwi_stops (F : Fence) (n : Nat) (hf : F.fn 69) (hro : F.round = none) (hn : 1 ≤ n) (Bs b cap : Nat) (ao : Option Addr) (vs : List V3) (hreach : vs.length ≤ 4194304) (hfm : ∀ j, j < vs.length → Fm (vs.getD j n3)) (w : World) (hBs : Bs < w.heap.size)
    (hc : w.cell? ⟨Bs, 0, none⟩ = some (.slice ao vs.length cap)) (hb : 0 < vs.length → ∃ off, ao = some ⟨b, off, none⟩ ∧ b < w.heap.size ∧ ∀ j, j < vs.length → w.cell? ⟨b, off + 3 * j, none⟩ = some (vs.getD j n3).1 ∧ w.cell? ⟨b, off + 3 * j + 1, none⟩ = some (vs.getD j n3).2.1 ∧ w.cell? ⟨b, off + 3 * j + 2, none⟩ = some (vs.getD j n3).2.2) :
    SeqStopsK F n Tryd.prog 69 #[.pointer (some ⟨Bs, 0, none⟩)] (fun x : Fin vs.length => #[Value.int .i64 (x.1 : Int), v3 (vs.getD x.1 n3)]) (Kp2 Bs b) (fun ys => ys.map (·.1) = (List.range vs.length).reverse) (fun _ => True) vs.length w := fun l J Jx W hW _ _ hY h0 => by
  have hc' := (hW.cell (p := ⟨Bs, 0, none⟩) hBs).trans hc
  by_cases h1 : 0 < vs.length
  · obtain ⟨off, rfl, hg, hcs⟩ := hb h1
    refine (bwi1_in F n hf hro hn l Bs b off cap vs hreach hfm J Jx hY W hc' (fun j hj => ⟨(hW.cell (p := ⟨b, off + 3 * j, none⟩) hg).trans (hcs j hj).1, (hW.cell (p := ⟨b, off + 3 * j + 1, none⟩) hg).trans (hcs j hj).2.1, (hW.cell (p := ⟨b, off + 3 * j + 2, none⟩) hg).trans (hcs j hj).2.2⟩) h0).mono ?_
    rintro e W' ⟨he, ⟨ys, hy, hj⟩ | ⟨pre, hj⟩⟩
    · exact ⟨he, .inl ⟨_, hy.trans (upto_dn _), hj⟩⟩
    · exact ⟨he, .inr ⟨_, trivial, hj⟩⟩
  · have e : vs = [] := List.length_eq_zero_iff.1 (by omega)
    subst e
    exact (bwi1_nil_in F n hf hro l Bs ao cap J W hc' h0).mono fun e W' ⟨he, hj⟩ => ⟨he, .inl ⟨[], rfl, hj⟩⟩
end Pk
end Go.Proofs.YtcgimjlmihaegaaDoor
/- pack's writer: what an item takes; item, of a text. -/
namespace Go.Proofs.YtcgimjlmihaegaaDoor
namespace Pk
open Go.RowKit Go.Shelf
/-- A block that lies there, and is neither the writer's nor its row's. -/
def So (w : World) (g : Nat) (v : Value) (k : Nat) : Prop := k < w.heap.size ∧ k ≠ g ∧ some k ≠ v.ownBlock
theorem So_fw {w W : World} {g k : Nat} {v v' : Value} (h : So w g v k) (hf : Fw g v v' w W) : So W g v' k ∧ W.heap[k]? = w.heap[k]? := by
  refine ⟨⟨Nat.lt_of_lt_of_le h.1 hf.size, h.2.1, fun e => ?_⟩, hf.block k h.1 h.2.1 h.2.2⟩
  rcases hf.own with h1 | h1
  · exact h.2.2 (e.trans h1)
  · have := h1 k e.symm
    have := h.1
    omega
theorem Ty_fw {w W : World} {g : Nat} {v v' u : Value} {b : List UInt8} (h : Ty (So w g v) b u w) (hf : Fw g v v' w W) : Ty (So W g v') b u W := by
  obtain ⟨ao, cap, h1, h2, h4⟩ := h
  refine ⟨ao, cap, h1, h2, fun h0 => ?_⟩
  obtain ⟨k, off, e, hne, hlt, hc⟩ := h4 h0
  have hs := So_fw hne hf
  exact ⟨k, off, e, hs.1, hs.1.1, fun j hj => (World.cell?_of_block (a := ⟨k, off + j, none⟩) hs.2).trans (hc j hj)⟩
theorem Kx_fw {w W : World} {g : Nat} {v v' u : Value} {vs : List V3} (h : Kx (So w g v) vs u w) (hf : Fw g v v' w W) : Kx (So W g v') vs u W := by
  obtain ⟨ao, cap, h1, h2, h4⟩ := h
  refine ⟨ao, cap, h1, h2, fun h0 => ?_⟩
  obtain ⟨k, off, e, hne, hlt, hc⟩ := h4 h0
  have hs := So_fw hne hf
  exact ⟨k, off, e, hs.1, hs.1.1, fun j hj => ⟨(World.cell?_of_block (a := ⟨k, off + 3 * j, none⟩) hs.2).trans (hc j hj).1, (World.cell?_of_block (a := ⟨k, off + 3 * j + 1, none⟩) hs.2).trans (hc j hj).2.1, (World.cell?_of_block (a := ⟨k, off + 3 * j + 2, none⟩) hs.2).trans (hc j hj).2.2⟩⟩
theorem Iv_fw {w W : World} {g : Nat} {v v' : Value} {t : It} {u : V3} (h : Iv (So w g v) w t u) (hf : Fw g v v' w W) : Iv (So W g v') W t u := by
  induction h with
  | mk l t ks tv kv vs ht hl hk hi ih => exact .mk l t ks tv kv vs (Ty_fw ht hf) hl (Kx_fw hk hf) ih
/-- Items are well founded. -/
inductive Wf : It → Prop where
  | mk (l : Bool) (t : List UInt8) (ks : List It) (h : ∀ j, j < ks.length → Wf (ks.getD j It.no)) : Wf (.mk l t ks)
mutual
theorem wf_any : ∀ t : It, Wf t
  | .mk l t ks => .mk l t ks (wf_all ks)
theorem wf_all : ∀ (ks : List It) (j : Nat), j < ks.length → Wf (ks.getD j It.no)
  | [], j, h => absurd h (by simp)
  | k :: _, 0, _ => wf_any k
  | _ :: r, j + 1, h => wf_all r j (by simpa using h)
end
theorem hdr_pos (m n : Nat) : 0 < (hdr m n).length := by
  unfold hdr
  split <;> simp
theorem enc_text_len (t : List UInt8) (ks : List It) : t.length ≤ (enc (.mk false t ks)).length := by
  unfold enc
  split
  · omega
  · rw [List.length_append]; omega
theorem encs_many : ∀ ks : List It, ks.length ≤ (encs ks).length
  | [] => Nat.zero_le _
  | k :: r => by
    have := encs_many r
    have := enc_pos k
    unfold encs
    rw [List.length_append, List.length_cons]; omega
theorem encs_one : ∀ (ks : List It) (j : Nat), j < ks.length → (enc (ks.getD j It.no)).length + (ks.length - 1) ≤ (encs ks).length
  | [], j, h => absurd h (by simp)
  | k :: r, 0, _ => by
    have := encs_many r
    unfold encs
    rw [List.length_append, List.length_cons, List.getD_cons_zero]; omega
  | k :: r, j + 1, h => by
    have := encs_one r j (by simpa using h)
    have := enc_pos k
    have h2 : j < r.length := by simpa using h
    unfold encs
    rw [List.length_append, List.length_cons, List.getD_cons_succ]; omega
/-- What has been laid when these kids have come. -/
def flN (ks : List It) (ns : List Nat) : List UInt8 := (ns.map fun j => (enc (ks.getD j It.no)).reverse).flatten
theorem flN_app (ks : List It) (x : List Nat) (j : Nat) : flN ks (x ++ [j]) = flN ks x ++ (enc (ks.getD j It.no)).reverse := by simp [flN]
theorem flN_all : ∀ ks : List It, flN ks (List.range ks.length).reverse = (encs ks).reverse
  | [] => rfl
  | k :: r => by
    have ih := flN_all r
    have e : ∀ l : List Nat, flN (k :: r) (l.map Nat.succ) = flN r l := fun l => by
      unfold flN
      rw [List.map_map]
      rfl
    rw [List.length_cons, List.range_succ_eq_map, List.reverse_cons, ← List.map_reverse, flN_app, e, ih, List.getD_cons_zero]
    show _ = (enc k ++ encs r).reverse
    rw [List.reverse_append]
theorem flN_len (ks : List It) (M : Nat) (hM : ∀ j, j < ks.length → (enc (ks.getD j It.no)).length ≤ M) : ∀ ns : List Nat, (∀ j, j ∈ ns → j < ks.length) → (flN ks ns).length ≤ ns.length * M
  | [], _ => Nat.zero_le _
  | j :: r, h => by
    have ih := flN_len ks M hM r (fun i hi => h i (List.mem_cons_of_mem _ hi))
    have h1 := hM j (h j (List.mem_cons_self ..))
    have e : flN ks (j :: r) = (enc (ks.getD j It.no)).reverse ++ flN ks r := rfl
    rw [e, List.length_append, List.length_reverse, List.length_cons, Nat.add_mul, Nat.one_mul]
    omega
/-- There is room for a kid, whichever have come. -/
theorem kid_room (ks : List It) (B : Nat) (h : B + (encs ks).length * (encs ks).length + 32 ≤ 4398046511103) (ns : List Nat) (hns : ∀ j, j ∈ ns → j < ks.length) (x : Nat) (hx : x < ks.length) (hp : ns.length < ks.length) :
    B + (flN ks ns).length + (enc (ks.getD x It.no)).length * (enc (ks.getD x It.no)).length + 32 ≤ 4398046511103 := by
  obtain ⟨E, hE⟩ : ∃ E, E = (encs ks).length := ⟨_, rfl⟩
  obtain ⟨N, hN⟩ : ∃ N, ks.length = N + 1 := ⟨ks.length - 1, by omega⟩
  have hM : ∀ j, j < ks.length → (enc (ks.getD j It.no)).length ≤ E - N := fun j hj => by have := encs_one ks j hj; omega
  have h1 := flN_len ks (E - N) hM ns hns
  have h2 : ns.length * (E - N) ≤ N * (E - N) := Nat.mul_le_mul_right _ (by omega)
  have hx := hM x hx
  have h3 := Nat.mul_le_mul hx hx
  have h4 : N ≤ E := by have := encs_many ks; omega
  have h5 : N * (E - N) + (E - N) * (E - N) = E * (E - N) := by rw [← Nat.add_mul]; congr 1; omega
  have h6 : E * (E - N) ≤ E * E := Nat.mul_le_mul_left _ (by omega)
  rw [← hE] at h
  omega
set_option maxHeartbeats 2000000 in
set_option maxRecDepth 100000 in
theorem itemw_text (g : Nat) (bs t : List UInt8) (ks : List It) (v tv : Value) (a2 : Option Addr) (n2 c2 : Nat) (w : World) (hw : Wt g bs v w) (ht : Ty (So w g v) t tv w) (hz : t.length ≤ 1048576) (hlen : bs.length + t.length + 16 ≤ 4398046511103) :
    Calls Tryd.prog 42 #[.pointer (some ⟨g, 0, none⟩), .agg #[.bool false, tv, .slice a2 n2 c2]] w fun e w' => e = .returned (.tuple #[]) ∧ ∃ v', Wt g (bs ++ (enc (.mk false t ks)).reverse) v' w' ∧ Fw g v v' w w' := by
  obtain ⟨ao, cap, rfl, hcap, hty⟩ := ht
  have KT : Hid (∀ wx : World, Below w.heap.size w wx → w.heap.size < wx.heap.size → Calls Tryd.prog 59 #[.pointer (some ⟨g, 0, none⟩), .slice ao t.length cap] wx fun e w' => e = .returned (.tuple #[]) ∧ ∃ v', Wt g (bs ++ (enc (.mk false t ks)).reverse) v' w' ∧ Fw g v v' w w') := fun wx b hs => by
    have hn : ∀ k, v.ownBlock = some k → k < w.heap.size := fun k e => (hw.o.lt k e).2
    by_cases h0 : 0 < t.length
    · obtain ⟨k, off, rfl, hne, hlt, hc⟩ := hty h0
      refine (text_w g bs t ks v _ cap k wx (Wt_below hw b) hz hlen (fun _ => ⟨k, off, rfl, Nat.lt_of_lt_of_le hlt b.size, fun j hj => (b.cell (p := ⟨k, off + j, none⟩) hlt).trans (hc j hj)⟩) (fun _ => ⟨off, rfl⟩) (Nat.lt_of_lt_of_le hlt b.size) hne.2.1 hne.2.2).mono fun e w' he => ?_
      obtain ⟨h3, v', h4, h5⟩ := he
      exact ⟨h3, v', h4, Fw_trans (Fw_below b) h5⟩
    · refine (text_w g bs t ks v _ cap w.heap.size wx (Wt_below hw b) hz hlen (fun h => absurd h h0) (fun h => absurd h h0) hs (by have := hw.hi; omega) (fun e => by have := hn _ e.symm; omega)).mono fun e w' he => ?_
      obtain ⟨h3, v', h4, h5⟩ := he
      exact ⟨h3, v', h4, Fw_trans (Fw_below b) h5⟩
  have B1 : Hid (Below w.heap.size w ((w.alloc (.cells #[.pointer (some ⟨g, 0, none⟩)] 110)).alloc (.cells #[.bool false, .slice ao t.length cap, .slice a2 n2 c2] 44))) := ((Below.refl _ _).alloc (Nat.le_refl _) _).alloc (by simp) _
  generalize bs ++ (enc (.mk false t ks)).reverse = Z at *
  generalize t.length = n at *
  clear hw hz hlen hcap hty
  go_enter Tryd.func42, Tryd.ntmps42
  go_wp2_with fail
  refine (KT.out _ B1.out (by simp; omega)).mono (fun e w2 he => ?_)
  obtain ⟨rfl, hr⟩ := he
  have HR : Hid _ := hr
  clear hr
  go_wp2_with fail
  exact bodyPost_ret (results_none rfl _ _ _) rfl ⟨rfl, HR.out⟩
end Pk
end Go.Proofs.YtcgimjlmihaegaaDoor
/- lampbearerref.phead, PEncode. -/
namespace Go.Proofs.YtcgimjlmihaegaaDoor
namespace Pk
open Go.RowKit
theorem lit_own2 (l : List UInt8) (w : World) (B : Nat) (h : B ≤ w.heap.size) (hl : l.length ≤ 64) : (w.alloc (.cells (bcs l).toArray 5)).ownsRow B 5 1 (.slice (some ⟨w.heap.size, 0, none⟩) l.length l.length) l.length (bcs l) := by
  have k := World.ownsRow_lit (size := 1) (e := 5) w (bcs l).toArray l.length h (by unfold maxLen; omega) (by simp [bcs_len])
  simpa using k
/-- Bytes as a string. -/
def bst (l : List UInt8) : ByteArray := ⟨l.toArray⟩
theorem bst_cat (l m : List UInt8) : bst l ++ bst m = bst (l ++ m) := by
  unfold bst
  apply ByteArray.ext
  simp
theorem bst_size (l : List UInt8) : (bst l).size = l.length := by simp [bst, ByteArray.size]
theorem Sl_bst {b : List UInt8} {v : Value} {w : World} (h : Sl b v w) : (convert 22 9 v).run Tryd.prog w = .ok (.string (bst b)) w := Sl_conv h
theorem str_sl (l : List UInt8) (w : World) : ∃ c W, (convert 9 22 (.string (bst l))).run Tryd.prog w = .ok (.slice (some ⟨w.heap.size, 0, none⟩) l.length c) W ∧ Sl l (.slice (some ⟨w.heap.size, 0, none⟩) l.length c) W ∧ Below w.heap.size w W := by
  have h := Lib.run_convert_string_bytes w 9 22 5 (bst l) Tryd.underlying9 Tryd.underlying22 Tryd.underlying5
  rw [bst_size] at h
  refine ⟨_, _, h, ⟨_, _, rfl, grownCap_ge _ _ _ _, fun h0 => ⟨_, _, rfl, ?_, fun j hj => ?_⟩⟩, ⟨?_, ?_, ?_, ?_, fun k hk => Lib.bytesWorld_at_old w _ _ k hk⟩⟩
  · rw [Lib.bytesWorld_size]; omega
  · rw [Nat.zero_add, Lib.bytesWorld_cell w _ _ j (by rw [bst_size]; exact hj)]
    rfl
  · rfl
  · rfl
  · rfl
  · rw [Lib.bytesWorld_size]; omega
theorem cat_bst (l m : List UInt8) (hl : l.length ≤ 8388608) (hm : m.length ≤ 8388608) (w : World) : (Op.stringOp .add (bst l) (bst m)).run Tryd.prog w = .ok (.string (bst (l ++ m))) w := run_string_add_lists w l m (by omega) (by omega)
def mkh (l : Bool) : Nat := if l then 192 else 128
theorem lit_sl1 (c : UInt8) (w : World) : Sl [c] (.slice (some ⟨w.heap.size, 0, none⟩) 1 1) (w.alloc (.cells #[.int .u8 (c.toNat : Int)] 5)) := own_sl (lit_own2 [c] w w.heap.size (Nat.le_refl _) (by simp))
set_option maxHeartbeats 1000000 in
set_option maxRecDepth 100000 in
theorem phead_short (l : Bool) (n : Nat) (w : World) (hn : n < 48) :
    Calls Tryd.prog 30 #[.int .i64 (n : Int), .bool l] w fun e w' => e = .returned (.string (bst (hdr (mkh l) n))) ∧ Below w.heap.size w w' := by
  have d0 : decide ((n : Int) < 48) = true := decide_eq_true (by omega)
  have eh : hdr (mkh l) n = [UInt8.ofNat (mkh l + n)] := by unfold hdr; rw [if_pos hn]
  have hm : mkh l ≤ 192 := by unfold mkh; split <;> omega
  have hu : (UInt8.ofNat (mkh l + n)).toNat = mkh l + n := u8_of _ (by omega)
  have hs := lit_sl1 (UInt8.ofNat (mkh l + n)) w
  rw [hu] at hs
  have hcv := Sl_bst hs
  have B : Hid (Below w.heap.size w (w.alloc (.cells #[.int .u8 ((mkh l + n : Nat) : Int)] 5))) := (Below.refl _ _).alloc (Nat.le_refl _) _
  rw [eh]
  generalize bst [UInt8.ofNat (mkh l + n)] = X at *
  clear eh hu hs hm
  cases l with
  | false =>
    have ec : ((mkh false + n : Nat) : Int) = 128 + (n : Int) := by show ((128 + n : Nat) : Int) = _; omega
    rw [ec] at hcv B
    have e1 : wrap64 (128 + (n : Int)) = 128 + (n : Int) := by unfold wrap64; omega
    have e2 : IntKind.u8.wrap (128 + (n : Int)) = 128 + (n : Int) := by rw [IntKind.wrap_u8]; omega
    clear ec hn
    go_enter Tryd.func30, Tryd.ntmps30
    go_wp2_with fail
    go_ret
    exact ⟨rfl, B.out⟩
  | true =>
    have ec : ((mkh true + n : Nat) : Int) = 192 + (n : Int) := by show ((192 + n : Nat) : Int) = _; omega
    rw [ec] at hcv B
    have e1 : wrap64 (192 + (n : Int)) = 192 + (n : Int) := by unfold wrap64; omega
    have e2 : IntKind.u8.wrap (192 + (n : Int)) = 192 + (n : Int) := by rw [IntKind.wrap_u8]; omega
    clear ec hn
    go_enter Tryd.func30, Tryd.ntmps30
    go_wp2_with fail
    go_ret
    exact ⟨rfl, B.out⟩
set_option maxHeartbeats 1000000 in
set_option maxRecDepth 100000 in
theorem phead_long (l : Bool) (n : Nat) (w : World) (hn : 48 ≤ n) (hz : n ≤ 4194304) :
    Calls Tryd.prog 30 #[.int .i64 (n : Int), .bool l] w fun e w' => e = .returned (.string (bst (hdr (mkh l) n))) ∧ Below w.heap.size w w' := by
  have d0 : decide ((n : Int) < 48) = false := decide_eq_false (by omega)
  have hk := nu_8 n (by omega)
  have hm : mkh l ≤ 192 := by unfold mkh; split <;> omega
  have hu : (UInt8.ofNat (mkh l + 47 + (nu n).length)).toNat = mkh l + 47 + (nu n).length := u8_of _ (by omega)
  have eh : hdr (mkh l) n = [UInt8.ofNat (mkh l + 47 + (nu n).length)] ++ nu n := by
    unfold hdr
    rw [if_neg (by omega)]
    rfl
  have HC : Hid (∀ W : World, (Op.stringOp .add (bst [UInt8.ofNat (mkh l + 47 + (nu n).length)]) (bst (nu n))).run Tryd.prog W = .ok (.string (bst ([UInt8.ofNat (mkh l + 47 + (nu n).length)] ++ nu n))) W) := fun W => cat_bst _ _ (by simp) (by omega) W
  have e0 : IntKind.u64.wrap (n : Int) = (n : Int) := by rw [IntKind.wrap_u64]; omega
  have KI : Hid (∀ w : World, Calls Tryd.prog 48 #[.int .u64 (n : Int)] w fun e w' => e = .returned (Wd n) ∧ Below w.heap.size w w') := fun w => wint_any n (by omega) w
  have KP : Hid (∀ w : World, Calls Tryd.prog 47 #[Wd n] w fun e w' => ∃ a c, e = .returned (.slice a (nu n).length c) ∧ Sl (nu n) (.slice a (nu n).length c) w' ∧ Below w.heap.size w w') := fun w => (pnum_any n w).mono fun e w' he => by
    obtain ⟨v, h1, h2, h3⟩ := he
    obtain ⟨a, c, rfl, h4, h5⟩ := h2
    exact ⟨a, c, h1, ⟨a, c, rfl, h4, h5⟩, h3⟩
  have HL : Hid (∀ W : World, Sl [UInt8.ofNat (mkh l + 47 + (nu n).length)] (.slice (some ⟨W.heap.size, 0, none⟩) 1 1) (W.alloc (.cells #[.int .u8 ((mkh l + 47 + (nu n).length : Nat) : Int)] 5))) := fun W => by
    have := lit_sl1 (UInt8.ofNat (mkh l + 47 + (nu n).length)) W
    rw [hu] at this
    exact this
  rw [eh]
  generalize hm' : (nu n).length = m at *
  generalize [UInt8.ofNat (mkh l + 47 + m)] = L at *
  generalize nu n = M at *
  clear eh hu hm hm' hn
  cases l with
  | false =>
    have ec : ((mkh false + 47 + m : Nat) : Int) = 175 + (m : Int) := by show ((128 + 47 + m : Nat) : Int) = _; omega
    rw [ec] at HL
    have e1 : wrap64 (175 + (m : Int)) = 175 + (m : Int) := by unfold wrap64; omega
    have e2 : IntKind.u8.wrap (175 + (m : Int)) = 175 + (m : Int) := by rw [IntKind.wrap_u8]; omega
    clear ec hz hk
    go_enter Tryd.func30, Tryd.ntmps30
    go_wp2_with fail
    refine (KI.out _).mono (fun e w1 he => ?_)
    obtain ⟨rfl, b1⟩ := he
    go_wp2_with fail
    refine (KP.out _).mono (fun e w2 he => ?_)
    obtain ⟨a, c, rfl, hs, b2⟩ := he
    have bA : Below w2.heap.size w2 (w2.alloc (.cells #[.int .u8 (175 + (m : Int))] 5)) := (Below.refl _ _).alloc (Nat.le_refl _) _
    have q1 := Sl_bst (HL.out w2)
    have q2 := Sl_bst (Sl_below hs bA)
    have B : Hid (Below w.heap.size w (w2.alloc (.cells #[.int .u8 (175 + (m : Int))] 5))) := (b1.trans (b2.mono b1.size)).trans (bA.mono (Nat.le_trans b1.size b2.size))
    have q3 := HC.out (w2.alloc (.cells #[.int .u8 (175 + (m : Int))] 5))
    clear b1 b2 bA hs KI KP HL HC
    go_wp2_with fail
    go_ret
    exact ⟨rfl, B.out⟩
  | true =>
    have ec : ((mkh true + 47 + m : Nat) : Int) = 239 + (m : Int) := by show ((192 + 47 + m : Nat) : Int) = _; omega
    rw [ec] at HL
    have e1 : wrap64 (239 + (m : Int)) = 239 + (m : Int) := by unfold wrap64; omega
    have e2 : IntKind.u8.wrap (239 + (m : Int)) = 239 + (m : Int) := by rw [IntKind.wrap_u8]; omega
    clear ec hz hk
    go_enter Tryd.func30, Tryd.ntmps30
    go_wp2_with fail
    refine (KI.out _).mono (fun e w1 he => ?_)
    obtain ⟨rfl, b1⟩ := he
    go_wp2_with fail
    refine (KP.out _).mono (fun e w2 he => ?_)
    obtain ⟨a, c, rfl, hs, b2⟩ := he
    have bA : Below w2.heap.size w2 (w2.alloc (.cells #[.int .u8 (239 + (m : Int))] 5)) := (Below.refl _ _).alloc (Nat.le_refl _) _
    have q1 := Sl_bst (HL.out w2)
    have q2 := Sl_bst (Sl_below hs bA)
    have B : Hid (Below w.heap.size w (w2.alloc (.cells #[.int .u8 (239 + (m : Int))] 5))) := (b1.trans (b2.mono b1.size)).trans (bA.mono (Nat.le_trans b1.size b2.size))
    have q3 := HC.out (w2.alloc (.cells #[.int .u8 (239 + (m : Int))] 5))
    clear b1 b2 bA hs KI KP HL HC
    go_wp2_with fail
    go_ret
    exact ⟨rfl, B.out⟩
theorem phead_any (l : Bool) (n : Nat) (w : World) (hz : n ≤ 4194304) :
    Calls Tryd.prog 30 #[.int .i64 (n : Int), .bool l] w fun e w' => e = .returned (.string (bst (hdr (mkh l) n))) ∧ Below w.heap.size w w' := by
  rcases Nat.lt_or_ge n 48 with h | h
  · exact phead_short l n w h
  · exact phead_long l n w h hz
end Pk
end Go.Proofs.YtcgimjlmihaegaaDoor
/- lampbearerref.PEncode. -/
namespace Go.Proofs.YtcgimjlmihaegaaDoor
namespace Pk
open Go.RowKit
theorem hdr_9 (m n : Nat) (h : n < 18446744073709551616) : (hdr m n).length ≤ 9 := by
  unfold hdr
  split
  · simp
  · have := nu_8 n h
    rw [List.length_cons]; omega
theorem enc_one (c : UInt8) (ks : List It) (h : c.toNat < 128) : enc (.mk false [c] ks) = [c] := by
  unfold enc
  rw [if_pos]
  exact ⟨rfl, by have : Sp.bz [c] 0 = (c.toNat : Int) := rfl; omega⟩
set_option maxHeartbeats 1000000 in
set_option maxRecDepth 100000 in
theorem pencode_one (c : UInt8) (a1 a2 : Option Addr) (n2 c1 c2 : Nat) (w : World) (hc : c.toNat < 128) (hs : Sl [c] (.slice a1 1 c1) w) :
    Calls Tryd.prog 15 #[.agg #[.bool false, .slice a1 1 c1, .slice a2 n2 c2]] w fun e w' => ∃ v, e = .returned v ∧ Sl [c] v w' ∧ Below w.heap.size w w' := by
  have B1 : Below w.heap.size w (w.alloc (.cells #[.bool false, .slice a1 1 c1, .slice a2 n2 c2] 44)) := (Below.refl _ _).alloc (Nat.le_refl _) _
  have q1 : (convert 22 9 (.slice a1 1 c1)).run Tryd.prog (w.alloc (.cells #[.bool false, .slice a1 1 c1, .slice a2 n2 c2] 44)) = .ok (.string ⟨#[c]⟩) (w.alloc (.cells #[.bool false, .slice a1 1 c1, .slice a2 n2 c2] 44)) := Sl_conv (Sl_below hs B1)
  obtain ⟨k, W, hcv', h2, h3⟩ := str_sl [c] (w.alloc (.cells #[.bool false, .slice a1 1 c1, .slice a2 n2 c2] 44))
  have hcv : (convert 9 22 (.string ⟨#[c]⟩)).run Tryd.prog (w.alloc (.cells #[.bool false, .slice a1 1 c1, .slice a2 n2 c2] 44)) = .ok (.slice (some ⟨(w.alloc (.cells #[.bool false, .slice a1 1 c1, .slice a2 n2 c2] 44)).heap.size, 0, none⟩) 1 k) W := hcv'
  have hsz : (w.alloc (.cells #[.bool false, .slice a1 1 c1, .slice a2 n2 c2] 44)).heap.size = w.heap.size + 1 := by simp
  rw [hsz] at h2
  have HR : Hid (∃ v, Ending.returned (.slice (some ⟨w.heap.size + 1, 0, none⟩) 1 k) = .returned v ∧ Sl [c] v W ∧ Below w.heap.size w W) := ⟨_, rfl, h2, B1.trans (h3.mono B1.size)⟩
  have hx : ((⟨#[c]⟩ : ByteArray)[0]'Nat.zero_lt_one).toNat = c.toNat := rfl
  have d0 : decide ((c.toNat : Int) < 128) = true := decide_eq_true (by omega)
  have d1 : (c.toNat : Int) < 128 := by omega
  clear hcv' h2 h3 B1 hs hc hsz
  go_enter Tryd.func15, Tryd.ntmps15
  go_wp2_with fail
  go_ret
  exact HR.out
set_option maxHeartbeats 1000000 in
set_option maxRecDepth 100000 in
/-- A text that stands behind its head. -/
theorem pencode_head (t : List UInt8) (n : Nat) (a1 a2 : Option Addr) (n2 c1 c2 : Nat) (w : World) (hn : n = t.length) (hz : n ≤ 4194304) (hs : Sl t (.slice a1 n c1) w) (ht : n = 1 → ∃ c : UInt8, t = [c] ∧ 128 ≤ c.toNat) :
    Calls Tryd.prog 15 #[.agg #[.bool false, .slice a1 n c1, .slice a2 n2 c2]] w fun e w' => ∃ v, e = .returned v ∧ Sl (hdr 128 n ++ t) v w' ∧ Below w.heap.size w w' := by
  have B1 : Below w.heap.size w (w.alloc (.cells #[.bool false, .slice a1 n c1, .slice a2 n2 c2] 44)) := (Below.refl _ _).alloc (Nat.le_refl _) _
  have q1 := Sl_bst (Sl_below hs B1)
  have hN := heap_alloc_new w (.cells #[.bool false, .slice a1 n c1, .slice a2 n2 c2] 44)
  have KH : Hid (∀ W : World, Calls Tryd.prog 30 #[.int .i64 (n : Int), .bool false] W fun e w' => e = .returned (.string (bst (hdr 128 n))) ∧ Below W.heap.size W w') := fun W => phead_any false n W hz
  have KC : Hid (∀ W : World, ∃ c W', (convert 9 22 (.string (bst (hdr 128 n ++ t)))).run Tryd.prog W = .ok (.slice (some ⟨W.heap.size, 0, none⟩) (hdr 128 n ++ t).length c) W' ∧ Sl (hdr 128 n ++ t) (.slice (some ⟨W.heap.size, 0, none⟩) (hdr 128 n ++ t).length c) W' ∧ Below W.heap.size W W') := fun W => str_sl _ W
  have HC : Hid (∀ W : World, (Op.stringOp .add (bst (hdr 128 n)) (bst t)).run Tryd.prog W = .ok (.string (bst (hdr 128 n ++ t))) W) := fun W => cat_bst _ _ (by have := hdr_9 128 n (by omega); omega) (by omega) W
  by_cases h1 : n = 1
  · obtain ⟨c, rfl, hc⟩ := ht h1
    subst h1
    have d0 : decide ((c.toNat : Int) < 128) = false := decide_eq_false (by omega)
    have d1 : ¬ (c.toNat : Int) < 128 := by omega
    have e1 : bst [c] = ⟨#[c]⟩ := rfl
    rw [e1] at q1 HC
    have BH : Hid _ := B1
    generalize bst (hdr 128 1 ++ [c]) = Z at *
    generalize hdr 128 1 ++ [c] = E at *
    generalize bst (hdr 128 1) = H at *
    clear e1 ht hz hs hn B1 hc
    go_enter Tryd.func15, Tryd.ntmps15
    go_wp2_with fail
    refine (KH.out _).mono (fun e w2 he => ?_)
    obtain ⟨rfl, b2⟩ := he
    obtain ⟨k, W, hcv, h2, h3⟩ := KC.out w2
    have HR : Hid (Sl E (.slice (some ⟨w2.heap.size, 0, none⟩) E.length k) W ∧ Below w.heap.size w W) := ⟨h2, (BH.out.trans (b2.mono BH.out.size)).trans (h3.mono (Nat.le_trans BH.out.size b2.size))⟩
    generalize E.length = L at *
    have q3 := HC.out w2
    clear h2 h3 b2 KC KH BH HC
    go_wp2_with fail
    go_ret
    exact ⟨_, rfl, HR.out⟩
  · have hX : (bst t).size = n := by rw [bst_size, hn]
    have d0 : ((n : Int) == 1) = false := beq_eq_false_iff_ne.2 (by omega)
    have d1 : ¬ (n : Int) = 1 := by omega
    have d2 : (n == 1) = false := beq_eq_false_iff_ne.2 h1
    have BH : Hid _ := B1
    generalize bst (hdr 128 n ++ t) = Z at *
    generalize hdr 128 n ++ t = E at *
    generalize bst (hdr 128 n) = H at *
    generalize bst t = X at *
    clear ht hz hs hn B1
    go_enter Tryd.func15, Tryd.ntmps15
    go_wp2_with fail
    refine (KH.out _).mono (fun e w2 he => ?_)
    obtain ⟨rfl, b2⟩ := he
    obtain ⟨k, W, hcv, h2, h3⟩ := KC.out w2
    have HR : Hid (Sl E (.slice (some ⟨w2.heap.size, 0, none⟩) E.length k) W ∧ Below w.heap.size w W) := ⟨h2, (BH.out.trans (b2.mono BH.out.size)).trans (h3.mono (Nat.le_trans BH.out.size b2.size))⟩
    generalize E.length = L at *
    have q3 := HC.out w2
    clear h2 h3 b2 KC KH BH HC
    go_wp2_with fail
    go_ret
    exact ⟨_, rfl, HR.out⟩
/-- A list, once its kids are known. -/
theorem take_encs (ks : List It) (k : Nat) (h : k < ks.length) : encs (ks.take k) ++ enc (ks.getD k It.no) = encs (ks.take (k + 1)) := by
  induction ks generalizing k with
  | nil => exact absurd h (by simp)
  | cons x r ih =>
    cases k with
    | zero => simp [encs]
    | succ k =>
      have := ih k (by simpa using h)
      rw [List.take_succ_cons, List.take_succ_cons, List.getD_cons_succ]
      unfold encs
      rw [List.append_assoc, this]
theorem encs_take (ks : List It) (k : Nat) : (encs (ks.take k)).length ≤ (encs ks).length := by
  induction ks generalizing k with
  | nil => simp
  | cons x r ih =>
    cases k with
    | zero => simp [encs]
    | succ k =>
      rw [List.take_succ_cons]
      unfold encs
      rw [List.length_append, List.length_append]
      have := ih k
      omega
set_option maxHeartbeats 1000000 in
set_option maxRecDepth 100000 in
theorem pencode_list (S : Nat → Prop) (ks : List It) (vs : List V3) (a1 a2 : Option Addr) (n1 c1 c2 n N : Nat) (T : ByteArray) (w : World) (hn : Hid (n = vs.length)) (hl : Hid (vs.length = ks.length)) (hk : Hid (Kx S vs (.slice a2 n c2) w)) (hi : Hid (∀ j, j < ks.length → Iv S w (ks.getD j It.no) (vs.getD j n3)))
    (hT : Hid (∀ W : World, Below w.heap.size w W → (convert 22 9 (.slice a1 n1 c1)).run Tryd.prog W = .ok (.string T) W))
    (IH : Hid (∀ j, j < ks.length → ∀ (v : V3) (w : World), Iv S w (ks.getD j It.no) v → Calls Tryd.prog 15 #[v3 v] w fun e w' => ∃ v, e = .returned v ∧ Sl (enc (ks.getD j It.no)) v w' ∧ Below w.heap.size w w')) (hN : Hid (N = (encs ks).length)) (hz : Hid (N ≤ 4194304)) :
    Calls Tryd.prog 15 #[.agg #[.bool true, .slice a1 n1 c1, .slice a2 n c2]] w fun e w' => ∃ v, e = .returned v ∧ Sl (hdr 192 N ++ encs ks) v w' ∧ Below w.heap.size w w' := by
  have B0 : Below w.heap.size w (w.alloc (.cells #[.bool true, .slice a1 n1 c1, .slice a2 n c2] 44)) := (Below.refl _ _).alloc (Nat.le_refl _) _
  have hT0 := hT.out _ B0
  go_enter Tryd.func15, Tryd.ntmps15
  go_wp2_with fail
  clear hT hT0
  have hA := heap_alloc_new w (.cells #[.bool true, .slice a1 n1 c1, .slice a2 n c2] 44)
  have ht : (w.alloc (.cells #[.bool true, .slice a1 n1 c1, .slice a2 n c2] 44)).cell? ⟨w.heap.size, 0, none⟩ = some (.bool true) := by simp only [World.cell?, hA]; rfl
  have hs : w.heap.size < (w.alloc (.cells #[.bool true, .slice a1 n1 c1, .slice a2 n c2] 44)).heap.size := by simp
  clear hA
  generalize w.alloc (.cells #[.bool true, .slice a1 n1 c1, .slice a2 n c2] 44) = W0 at *
  obtain ⟨g, eg⟩ : ∃ g, g = w.heap.size := ⟨_, rfl⟩
  have EG : Hid (g = w.heap.size) := eg
  rw [← eg] at B0 ht hs ⊢
  clear eg
  go_loopw [3, 14] (fun s i wr => ∃ k : Nat, k ≤ n ∧ s = .string (bst (encs (ks.take k))) ∧ i = .int .i64 (k : Int) ∧ Below W0.heap.size W0 wr) (fun _ i _ => ((n : Int) - intOf i).toNat)
  case atStart => exact ⟨0, Nat.zero_le _, rfl, rfl, Below.refl _ _⟩
  case round =>
    obtain ⟨k, hkn, rfl, rfl, hB⟩ := hrel
    by_cases hlt : k < n
    · have d0 : decide ((k : Int) < (n : Int)) = true := decide_eq_true (by omega)
      have d1 : (0 : Int) ≤ (k : Int) := by omega
      have d2 : (k : Int) < (n : Int) := by omega
      have hks : k < ks.length := by have := hn.out; have := hl.out; omega
      obtain ⟨ao, cap, e2, -, hq⟩ := hk.out
      obtain ⟨gk, off, rfl, -, hgk, hcell⟩ := hq (by have := hn.out; omega)
      injection e2 with e2 e2' e2''
      subst e2
      clear e2' e2''
      obtain ⟨x0, x1, x2⟩ := hcell k (by have := hn.out; omega)
      have iv := hi.out k hks
      obtain ⟨l, b1, m1, q1, b2, m2, q2, ev⟩ := Iv_form iv
      rw [ev] at x0 x1 x2 iv
      have HC : Hid (∀ W : World, (Op.stringOp .add (bst (encs (ks.take k))) (bst (enc (ks.getD k It.no)))).run Tryd.prog W = .ok (.string (bst (encs (ks.take (k + 1))))) W) := fun W => by
        have h1 := encs_take ks k
        have h2 := encs_one ks k hks
        have h3 := hz.out
        have h4 := hN.out
        rw [cat_bst _ _ (by omega) (by omega), take_encs ks k hks]
      have KB : Hid (∀ w : World, Iv S w (ks.getD k It.no) (.bool l, .slice b1 m1 q1, .slice b2 m2 q2) → Calls Tryd.prog 15 #[.agg #[.bool l, .slice b1 m1 q1, .slice b2 m2 q2]] w fun e w' => ∃ v, e = .returned v ∧ Sl (enc (ks.getD k It.no)) v w' ∧ Below w.heap.size w w') := IH.out k hks (.bool l, .slice b1 m1 q1, .slice b2 m2 q2)
      have BW : Below w.heap.size w wr := (EG.out ▸ B0).trans (hB.mono (by have := EG.out; omega))
      have y0 := (BW.cell (p := ⟨gk, off + 3 * k, none⟩) hgk).trans x0
      have y1 := (BW.cell (p := ⟨gk, off + 3 * k + 1, none⟩) hgk).trans x1
      have y2 := (BW.cell (p := ⟨gk, off + 3 * k + 2, none⟩) hgk).trans x2
      have hgk2 : gk < wr.heap.size := Nat.lt_of_lt_of_le hgk BW.size
      rw [Nat.mul_comm 3 k] at y0 y1 y2
      have IW : Hid (Iv S (wr.alloc (.cells #[.bool l, .slice b1 m1 q1, .slice b2 m2 q2] 44)) (ks.getD k It.no) (.bool l, .slice b1 m1 q1, .slice b2 m2 q2)) := Iv_below (Iv_gb (r := none) iv (gb_below BW) (fun _ _ => nofun)) ((Below.refl _ _).alloc (Nat.le_refl _) _)
      have B2 : Hid (Below W0.heap.size W0 (wr.alloc (.cells #[.bool l, .slice b1 m1 q1, .slice b2 m2 q2] 44))) := hB.alloc hB.size _
      have e5 : Hid (wrap64 ((k : Int) + 1) = ((k + 1 : Nat) : Int)) := by
        have := hz.out
        have := hN.out
        have := encs_many ks
        have := hn.out
        have := hl.out
        show _ = _; unfold wrap64; omega
      obtain ⟨Y, hY⟩ : ∃ Y, Y = bst (encs (ks.take (k + 1))) := ⟨_, rfl⟩
      have HY : Hid (Y = bst (encs (ks.take (k + 1)))) := hY
      rw [← hY] at HC
      generalize bst (encs (ks.take k)) = X at *
      clear hq hcell x0 x1 x2 ev hks iv BW hY
      go_wp2_with fail
      refine (KB.out _ IW.out).mono (fun e w5 he => ?_)
      obtain ⟨v, rfl, hs5, b5⟩ := he
      have B5 : Hid (Below W0.heap.size W0 w5) := B2.out.trans (b5.mono B2.out.size)
      have q5 := Sl_bst hs5
      have q6 := HC.out w5
      obtain ⟨a5, n5, rfl, -, -⟩ := hs5
      generalize bst (enc (ks.getD k It.no)) = E5 at *
      generalize (enc (ks.getD k It.no)).length = n6 at *
      clear KB IW B2 y0 y1 y2 b5 HC
      go_wp2_with fail
      rw [e5.out]
      exact ⟨⟨k + 1, hlt, by rw [HY.out], rfl, B5.out⟩, msr_up k n hlt⟩
    · have d0 : decide ((k : Int) < (n : Int)) = false := decide_eq_false (by omega)
      have ek : ks.take k = ks := List.take_of_length_le (by have := hn.out; have := hl.out; omega)
      rw [ek]
      have ht2 : wr.cell? ⟨g, 0, none⟩ = some (.bool true) := (hB.cell (p := ⟨g, 0, none⟩) hs).trans ht
      have hgw : g < wr.heap.size := Nat.lt_of_lt_of_le hs hB.size
      have BF : Hid (Below w.heap.size w wr) := (EG.out ▸ B0).trans (hB.mono (by have := EG.out; omega))
      have hX : (bst (encs ks)).size = N := by rw [bst_size, hN.out]
      have KH : Hid (∀ W : World, Calls Tryd.prog 30 #[.int .i64 (N : Int), .bool true] W fun e w' => e = .returned (.string (bst (hdr 192 N))) ∧ Below W.heap.size W w') := fun W => phead_any true N W hz.out
      have KC : Hid (∀ W : World, ∃ c W', (convert 9 22 (.string (bst (hdr 192 N ++ encs ks)))).run Tryd.prog W = .ok (.slice (some ⟨W.heap.size, 0, none⟩) (hdr 192 N ++ encs ks).length c) W' ∧ Sl (hdr 192 N ++ encs ks) (.slice (some ⟨W.heap.size, 0, none⟩) (hdr 192 N ++ encs ks).length c) W' ∧ Below W.heap.size W W') := fun W => str_sl _ W
      have HC : Hid (∀ W : World, (Op.stringOp .add (bst (hdr 192 N)) (bst (encs ks))).run Tryd.prog W = .ok (.string (bst (hdr 192 N ++ encs ks))) W) := fun W => cat_bst _ _ (by have := hdr_9 192 N (by have := hz.out; omega); omega) (by have := hz.out; have := hN.out; omega) W
      generalize bst (hdr 192 N ++ encs ks) = Z at *
      obtain ⟨E, hE⟩ : ∃ E, E = hdr 192 N ++ encs ks := ⟨_, rfl⟩
      have HE : Hid (E = hdr 192 N ++ encs ks) := hE
      rw [← hE] at KC
      clear hE
      generalize bst (encs ks) = X at *
      generalize bst (hdr 192 N) = H at *
      clear ek
      go_wp2_with fail
      refine (KH.out _).mono (fun e w2 he => ?_)
      obtain ⟨rfl, b2⟩ := he
      obtain ⟨k2, W, hcv, h2, h3⟩ := KC.out w2
      have HR : Hid (Sl (hdr 192 N ++ encs ks) (.slice (some ⟨w2.heap.size, 0, none⟩) E.length k2) W ∧ Below w.heap.size w W) := ⟨HE.out ▸ h2, (BF.out.trans (b2.mono BF.out.size)).trans (h3.mono (Nat.le_trans BF.out.size b2.size))⟩
      clear HE
      generalize E.length = L at *
      have q3 := HC.out w2
      clear h2 h3 b2 KC KH HC
      go_wp2_with fail
      go_ret
      exact ⟨_, rfl, HR.out⟩
theorem enc_text (t : List UInt8) (ks : List It) (h : ¬ ∃ c : UInt8, t = [c] ∧ c.toNat < 128) : enc (.mk false t ks) = hdr 128 t.length ++ t := by
  unfold enc
  rw [if_neg]
  intro h2
  apply h
  match t, h2 with
  | [c], h2 => exact ⟨c, rfl, by have : Sp.bz [c] 0 = (c.toNat : Int) := rfl; have := h2.2; omega⟩
  | [], h2 => simp at h2
  | _ :: _ :: _, h2 => simp at h2
theorem pencode_any {t : It} (hb : Wf t) : (enc t).length ≤ 1048576 → ∀ (S : Nat → Prop) (v : V3) (w : World), Iv S w t v → Calls Tryd.prog 15 #[v3 v] w fun e w' => ∃ v, e = .returned v ∧ Sl (enc t) v w' ∧ Below w.heap.size w w' := by
  induction hb with
  | mk l t ks _ ih =>
    intro hz S v w h
    cases h with
    | mk _ _ _ tv kv vs ht hl hk hi =>
      have h7 := Ty_sl ht
      obtain ⟨a1, c1, rfl, -, -⟩ := ht
      have hk2 := hk
      obtain ⟨a2, c2, rfl, -, -⟩ := hk
      cases l with
      | false =>
        have hlen := enc_text_len t ks
        by_cases h1 : ∃ c : UInt8, t = [c] ∧ c.toNat < 128
        · obtain ⟨c, rfl, hc⟩ := h1
          rw [enc_one c ks hc]
          exact pencode_one c a1 a2 _ c1 c2 w hc h7
        · rw [enc_text t ks h1]
          exact pencode_head t t.length a1 a2 _ c1 c2 w rfl (by omega) h7 (fun e => by
            obtain ⟨c, rfl⟩ := List.length_eq_one_iff.1 e
            refine ⟨c, rfl, ?_⟩
            rcases Nat.lt_or_ge c.toNat 128 with h | h
            · exact absurd ⟨c, rfl, h⟩ h1
            · exact h)
      | true =>
        have h1 : (encs ks).length ≤ (enc (.mk true t ks)).length := by
          unfold enc
          rw [List.length_append]; omega
        have e : enc (.mk true t ks) = hdr 192 (encs ks).length ++ encs ks := by unfold enc; rfl
        rw [e]
        exact pencode_list S ks vs a1 a2 _ c1 c2 vs.length (encs ks).length (bst t) w rfl hl hk2 hi (fun W hW => Sl_bst (Sl_below h7 hW)) (fun j hj v w h => ih j hj (by have := encs_one ks j hj; omega) S v w h) rfl (by show _ ≤ _; omega)
end Pk
end Go.Proofs.YtcgimjlmihaegaaDoor
/- lampbearerref.shapeItem at every shape; how long a shape's form is. -/
namespace Go.Proofs.YtcgimjlmihaegaaDoor
namespace Rs
open Nb Sp Pk Go.RowKit
theorem pt1 : Hid (∀ (a : Option Addr) (m c : Nat) (wx : World), Calls Tryd.prog 27 #[.slice a m c] wx fun e w' => e = .returned (.agg #[.bool false, .slice a m c, .slice none 0 0]) ∧ Below wx.heap.size wx w') := fun a m c wx => ptext_any a m c wx
theorem pl1 : Hid (∀ (a : Option Addr) (m c : Nat) (wx : World), Calls Tryd.prog 29 #[.slice a m c] wx fun e w' => e = .returned (.agg #[.bool true, .slice none 0 0, .slice a m c]) ∧ Below wx.heap.size wx w') := fun a m c wx => plist_sl a m c wx
theorem shapeitem_any (s : Shp) (x : V4) (w : World) (h : Sh s x w) (hp : s.2.1.length ≤ 1048576) :
    Calls Tryd.prog 14 #[v4 x] w fun e w' => ∃ v, e = .returned (.tuple #[v3 v, .bool (isS s)]) ∧ (isS s = true → Iv (fun _ => True) w' (itS s) v) ∧ Below w.heap.size w w' ∧ Fm v := by
  obtain ⟨a1, c1, a2, c2, a3, c3, rfl⟩ := Sh_form h
  obtain ⟨kk, p, v, ks⟩ := s
  dsimp only at hp
  have vw : Hid (∀ W, Below w.heap.size w W → Vw p a1 W) := fun W hb => by
    obtain ⟨ao, cap, e, _, hv⟩ := (Sh_below h hb).2.1
    injection e with e1 _ _
    rwa [← e1] at hv
  have hc1 : p.length ≤ c1 := by
    obtain ⟨ao, cap, e, hc, _⟩ := h.2.1
    injection e with _ _ e3
    rw [e3]; exact hc
  have KN : ∀ leaf, Hid (∀ wx : World, Below w.heap.size w wx → Calls Tryd.prog 28 #[.slice a1 p.length c1, .bool leaf] wx fun e w' => ∃ v z, e = .returned (.tuple #[v, .int .i64 z]) ∧ Sl (jl (tg p leaf)) v w' ∧ Below wx.heap.size wx w') := fun leaf wx hb =>
    (ntag_sl p leaf a1 c1 wx (by show _ ≤ _; omega) hc1 (vw.out wx hb)).mono fun e w' he => by
      obtain ⟨v, h1, h2, h3⟩ := he
      exact ⟨v, _, h1, h2, h3⟩
  have hz : Hid (p.length ≤ 1048576) := hp
  have hu : Hid (∀ W, Below w.heap.size w W → Sl v (.slice a2 v.length c2) W) := fun W hb => (Sh_below h hb).2.2.1
  by_cases k0 : kk = 0
  · subst k0
    have e1 : isS (0, p, v, ks) = true := rfl
    rw [e1]
    exact si_none a1 a2 a3 _ c1 _ c2 _ c3 p w rfl hz vw (fun wx => pt1.out _ _ _ wx)
  by_cases k1 : kk = 1
  · subst k1
    have e0 : isS (1, p, v, ks) = (pb p && (decide (0 < v.length) && decide (v.length ≤ 1024))) := rfl
    cases hB : pb p with
    | false =>
      rw [show isS (1, p, v, ks) = false by rw [e0, hB]; rfl]
      exact (si_leaf_b a1 a2 a3 _ c1 _ c2 _ c3 p w rfl hz vw hB).mono fun e w' he => by obtain ⟨v, h1, _, h2⟩ := he; exact ⟨v, h1, nofun, h2⟩
    | true =>
      by_cases h0 : v.length = 0
      · rw [show isS (1, p, v, ks) = false by rw [e0, h0]; simp]
        exact (si_leaf_0 a1 a2 a3 _ c1 _ c2 _ c3 p w rfl hz vw hB h0).mono fun e w' he => by obtain ⟨v, h1, _, h2⟩ := he; exact ⟨v, h1, nofun, h2⟩
      · by_cases hm : v.length ≤ 1024
        · have hv0 : 0 < v.length := by omega
          rw [show isS (1, p, v, ks) = true by rw [e0, hB]; simp [hv0, hm]]
          exact si_leaf a1 a2 a3 _ c1 _ c2 _ c3 p w rfl hz vw (jl (tg p true)) hB pt1 pl1 (KN true) v hu hv0 hm
        · rw [show isS (1, p, v, ks) = false by rw [e0]; simp [hm]]
          exact (si_leaf_m a1 a2 a3 _ c1 _ c2 _ c3 p w rfl hz vw hB (by show 1024 < v.length; omega)).mono fun e w' he => by obtain ⟨v, h1, _, h2⟩ := he; exact ⟨v, h1, nofun, h2⟩
  by_cases k2 : kk = 2
  · subst k2
    have e0 : isS (2, p, v, ks) = (decide (0 < p.length) && (pb p && (decide (ks.length = 1) && decide ((ks.getD 0 []).length = 32)))) := rfl
    cases hB : pb p with
    | false =>
      rw [show isS (2, p, v, ks) = false by rw [e0, hB]; simp]
      exact (si_road_b a1 a2 a3 _ c1 _ c2 _ c3 p w rfl hz vw hB).mono fun e w' he => by obtain ⟨v, h1, _, h2⟩ := he; exact ⟨v, h1, nofun, h2⟩
    | true =>
      by_cases hn : p.length = 0
      · rw [show isS (2, p, v, ks) = false by rw [e0, hn]; simp]
        exact (si_road_0 a1 a2 a3 _ c1 _ c2 _ c3 p w rfl hz vw hB hn).mono fun e w' he => by obtain ⟨v, h1, _, h2⟩ := he; exact ⟨v, h1, nofun, h2⟩
      · have hn0 : 0 < p.length := by omega
        by_cases h3 : ks.length = 1
        · obtain ⟨ao, cap, e2, hL⟩ := h.2.2.2
          dsimp only at e2 hL
          obtain ⟨g, off, rfl, hg, hc⟩ := hL (by omega)
          obtain ⟨vi, q1, q2⟩ := hc 0 (by omega)
          obtain ⟨ai, ci, rfl⟩ := Sl_fm q2
          injection e2 with e3 _ _
          by_cases hm : (ks.getD 0 []).length = 32
          · rw [show isS (2, p, v, ks) = true by rw [e0, hB, decide_eq_true hn0, decide_eq_true h3, decide_eq_true hm]; rfl]
            rw [hm] at q1 q2
            exact si_road a1 a2 a3 _ c1 _ c2 _ c3 p w rfl hz vw (jl (tg p false)) hB pt1 pl1 (KN false) (ks.getD 0 []) g off ci ai e3 ⟨hg, q1⟩ (fun W hb => Sl_below q2 hb) hn0 h3
          · rw [show isS (2, p, v, ks) = false by rw [e0, decide_eq_false hm]; simp]
            exact (si_road_s a1 a2 a3 _ c1 _ c2 _ c3 p w rfl hz vw hB hn0 h3 _ hm (fun W hb => ⟨g, off, ai, ci, e3, (hb.cell (p := ⟨g, off, none⟩) hg).trans q1⟩)).mono fun e w' he => by obtain ⟨v, h1, _, h2⟩ := he; exact ⟨v, h1, nofun, h2⟩
        · rw [show isS (2, p, v, ks) = false by rw [e0]; simp [h3]]
          exact (si_road_k a1 a2 a3 _ c1 _ c2 _ c3 p w rfl hz vw hB hn0 h3).mono fun e w' he => by obtain ⟨v, h1, _, h2⟩ := he; exact ⟨v, h1, nofun, h2⟩
  by_cases k3 : kk = 3
  · subst k3
    have e0 : isS (3, p, v, ks) = (decide (ks.length = 16) && (decide (v.length ≤ 1024) && (ks.all sm && decide (2 ≤ np (ks ++ [v]))))) := rfl
    by_cases h3 : ks.length = 16
    · by_cases hm : v.length ≤ 1024
      · rw [show isS (3, p, v, ks) = (ks.all sm && decide (2 ≤ np (ks ++ [v]))) by rw [e0]; simp [h3, hm]]
        obtain ⟨hs, hh, hvl⟩ := ls_heads h.2.2.2
        exact si_fork a1 a2 a3 _ c1 _ c2 _ c3 p w rfl hz vw pt1 pl1 ks v hs hh hvl h.2.2.1 h3 hm
      · rw [show isS (3, p, v, ks) = false by rw [e0]; simp [hm]]
        exact (si_fork_v a1 a2 a3 _ c1 _ c2 _ c3 p w rfl hz vw h3 (by show 1024 < v.length; omega)).mono fun e w' he => by obtain ⟨v, h1, _, h2⟩ := he; exact ⟨v, h1, nofun, h2⟩
    · rw [show isS (3, p, v, ks) = false by rw [e0]; simp [h3]]
      exact (si_fork_k a1 a2 a3 _ c1 _ c2 _ c3 p w rfl hz vw h3).mono fun e w' he => by obtain ⟨v, h1, _, h2⟩ := he; exact ⟨v, h1, nofun, h2⟩
  · have e : isS (kk, p, v, ks) = false := by unfold isS; simp [k0, k1, k2, k3]
    rw [e]
    exact (si_other a1 a2 a3 _ c1 _ c2 _ c3 p w rfl hz vw kk k0 k1 k2 k3).mono fun e w' he => by obtain ⟨v, h1, _, h2⟩ := he; exact ⟨v, h1, nofun, h2⟩
theorem enc_t9 (t : List UInt8) (ks : List It) (h : t.length < 18446744073709551616) : (enc (.mk false t ks)).length ≤ t.length + 9 := by
  unfold enc
  split
  · omega
  · rw [List.length_append]
    have := hdr_9 128 t.length h
    omega
theorem encs_texts : ∀ l : List (List UInt8), (∀ t ∈ l, t.length ≤ 1024) → (encs (l.map fun b => .mk false b [])).length ≤ 1033 * l.length
  | [], _ => by simp [encs]
  | t :: r, h => by
    have h1 := enc_t9 t [] (by have := h t (List.mem_cons_self ..); omega)
    have h2 := encs_texts r (fun u hu => h u (List.mem_cons_of_mem _ hu))
    have h3 := h t (List.mem_cons_self ..)
    rw [List.map_cons, encs, List.length_append, List.length_cons]
    omega
theorem jn_ln : ∀ p : List UInt8, (jn p).length ≤ p.length / 2
  | [] => by simp [jn]
  | [_] => by simp [jn]
  | x :: y :: r => by
    have := jn_ln r
    rw [jn, List.length_cons]
    simp only [List.length_cons]
    omega
theorem jl_ln (p : List UInt8) : (jl p).length ≤ p.length / 2 := by
  unfold jl
  split
  · exact jn_ln p
  · simp
theorem enc_two (a b : List UInt8) (ha : a.length ≤ 600000) (hb : b.length ≤ 1024) : (enc (.mk true [] [.mk false a [], .mk false b []])).length ≤ 1048576 := by
  have h1 := enc_t9 a [] (by omega)
  have h2 := enc_t9 b [] (by omega)
  have e : encs [.mk false a [], .mk false b []] = enc (.mk false a []) ++ (enc (.mk false b []) ++ []) := by simp [encs]
  unfold enc
  rw [e, List.length_append]
  have h3 : (enc (.mk false a []) ++ (enc (.mk false b []) ++ [])).length ≤ 700000 := by simp only [List.length_append, List.length_nil]; omega
  have := hdr_9 192 (enc (.mk false a []) ++ (enc (.mk false b []) ++ [])).length (by omega)
  omega
/-- The form of a shape is no longer than this. -/
theorem encS_len (s : Shp) (h : isS s = true) (hp : s.2.1.length ≤ 1048576) : (enc (itS s)).length ≤ 1048576 := by
  obtain ⟨kk, p, v, ks⟩ := s
  dsimp only at hp
  have ht : ∀ leaf, (jl (tg p leaf)).length ≤ 600000 := fun leaf => by
    have h1 := jl_ln (tg p leaf)
    have h2 := tg_len p leaf
    omega
  unfold itS
  dsimp only
  by_cases k1 : kk = 1
  · subst k1
    rw [if_pos rfl]
    have e0 : isS (1, p, v, ks) = (pb p && (decide (0 < v.length) && decide (v.length ≤ 1024))) := rfl
    rw [e0] at h
    simp only [Bool.and_eq_true, decide_eq_true_iff] at h
    exact enc_two _ _ (ht true) h.2.2
  rw [if_neg k1]
  by_cases k2 : kk = 2
  · subst k2
    rw [if_pos rfl]
    have e0 : isS (2, p, v, ks) = (decide (0 < p.length) && (pb p && (decide (ks.length = 1) && decide ((ks.getD 0 []).length = 32)))) := rfl
    rw [e0] at h
    simp only [Bool.and_eq_true, decide_eq_true_iff] at h
    exact enc_two _ _ (ht false) (by omega)
  rw [if_neg k2]
  by_cases k3 : kk = 3
  · subst k3
    rw [if_pos rfl]
    have e0 : isS (3, p, v, ks) = (decide (ks.length = 16) && (decide (v.length ≤ 1024) && (ks.all sm && decide (2 ≤ np (ks ++ [v]))))) := rfl
    rw [e0] at h
    simp only [Bool.and_eq_true, decide_eq_true_iff, List.all_eq_true] at h
    have h1 := encs_texts (ks ++ [v]) (fun t ht => by
      rcases List.mem_append.1 ht with ht | ht
      · have := h.2.2.1 t ht
        unfold sm at this
        simp at this
        rcases this with this | this
        · rw [this]; simp
        · omega
      · rw [List.mem_singleton.1 ht]; exact h.2.1)
    rw [List.length_append, h.1, List.length_singleton] at h1
    unfold enc
    rw [List.length_append]
    have := hdr_9 192 (encs ((ks ++ [v]).map fun b => .mk false b [])).length (by omega)
    omega
  · rw [if_neg k3]
    have := enc_t9 [] [] (by simp)
    simp at this
    omega
end Rs
end Go.Proofs.YtcgimjlmihaegaaDoor
/- lampbearerref.HCode. -/
namespace Go.Proofs.YtcgimjlmihaegaaDoor
namespace Rs
open Nb Sp Pk Go.RowKit
/-- The form of a shape; no bytes, if there is none. -/
def hc (s : Shp) : List UInt8 := if isS s then enc (itS s) else []
def he (s : Shp) : Int := if isS s then 0 else 1
set_option maxHeartbeats 2000000 in
set_option maxRecDepth 100000 in
theorem hcode_walk (kk : Int) (a1 a2 a3 : Option Addr) (n1 c1 n2 c2 n3 c3 : Nat) (w : World) (R : Bool) (t : It) (ht : Hid (R = true → (enc t).length ≤ 1048576))
    (KS : Hid (∀ wx : World, Below w.heap.size w wx → Calls Tryd.prog 14 #[.agg #[.int .i64 kk, .slice a1 n1 c1, .slice a2 n2 c2, .slice a3 n3 c3]] wx fun e w' => ∃ v, e = .returned (.tuple #[v3 v, .bool R]) ∧ (R = true → Iv (fun _ => True) w' t v) ∧ Below wx.heap.size wx w' ∧ Fm v)) :
    Calls Tryd.prog 6 #[.agg #[.int .i64 kk, .slice a1 n1 c1, .slice a2 n2 c2, .slice a3 n3 c3]] w fun e w' => ∃ v, e = .returned (.tuple #[v, .int .i64 (if R then 0 else 1)]) ∧ Sl (if R then enc t else []) v w' ∧ Below w.heap.size w w' := by
  have HB : Hid (Below w.heap.size w (w.alloc (.cells #[.int .i64 kk, .slice a1 n1 c1, .slice a2 n2 c2, .slice a3 n3 c3] 25))) := (Below.refl _ _).alloc (Nat.le_refl _) _
  go_enter Tryd.func6, Tryd.ntmps6
  go_wp2_with fail
  refine (KS.out _ HB.out).mono ?_
  rintro e w1 ⟨v, rfl, hiv, hb, l, b1, m1, d1, b2, m2, d2, rfl⟩
  have HL1 : Hid (Below w.heap.size w w1) := HB.out.trans (hb.mono HB.out.size)
  cases R with
  | false =>
    have HL2 : Hid (Below w.heap.size w (w1.alloc (.cells #[.bool l, .slice b1 m1 d1, .slice b2 m2 d2] 44))) := HL1.out.alloc HL1.out.size _
    clear hiv hb KS HB HL1 ht
    dsimp only [v3]
    go_wp2_with fail
    go_ret2
    exact ⟨_, rfl, Sl_nil _, HL2.out⟩
  | true =>
    have bA : Below w1.heap.size w1 (w1.alloc (.cells #[.bool l, .slice b1 m1 d1, .slice b2 m2 d2] 44)) := (Below.refl _ _).alloc (Nat.le_refl _) _
    have HL2 : Hid (Below w.heap.size w (w1.alloc (.cells #[.bool l, .slice b1 m1 d1, .slice b2 m2 d2] 44))) := HL1.out.alloc HL1.out.size _
    have KE : Hid (Calls Tryd.prog 15 #[.agg #[.bool l, .slice b1 m1 d1, .slice b2 m2 d2]] (w1.alloc (.cells #[.bool l, .slice b1 m1 d1, .slice b2 m2 d2] 44)) fun e w' => ∃ v, e = .returned v ∧ Sl (enc t) v w' ∧ Below w.heap.size w w') :=
      (pencode_any (wf_any t) (ht.out rfl) (fun _ => True) (.bool l, .slice b1 m1 d1, .slice b2 m2 d2) _ (Iv_below (hiv rfl) bA)).mono fun e w' he => by
        obtain ⟨v, h1, h2, h3⟩ := he
        exact ⟨v, h1, h2, HL2.out.trans (h3.mono HL2.out.size)⟩
    clear hiv hb KS HB HL1 ht bA HL2
    dsimp only [v3]
    go_wp2_with fail
    refine KE.out.mono ?_
    rintro e w3 ⟨v, rfl, h2, h3⟩
    have HZ : Hid (Sl (enc t) v w3 ∧ Below w.heap.size w w3) := ⟨h2, h3⟩
    clear h2 h3 KE
    go_wp2_with fail
    go_ret2
    exact ⟨_, rfl, HZ.out.1, HZ.out.2⟩
theorem hcode_any (s : Shp) (x : V4) (w : World) (h : Sh s x w) (hp : s.2.1.length ≤ 1048576) :
    Calls Tryd.prog 6 #[v4 x] w fun e w' => ∃ v, e = .returned (.tuple #[v, .int .i64 (he s)]) ∧ Sl (hc s) v w' ∧ Below w.heap.size w w' := by
  obtain ⟨a1, c1, a2, c2, a3, c3, e⟩ := Sh_form h
  have KS := fun (wx : World) (hb : Below w.heap.size w wx) => shapeitem_any s x wx (Sh_below h hb) hp
  subst e
  exact hcode_walk s.1 a1 a2 a3 _ c1 _ c2 _ c3 w (isS s) (itS s) (fun hs => encS_len s hs hp) (fun wx hb => (KS wx hb).mono fun e w' hh => by
    obtain ⟨v, h1, h2, h3⟩ := hh
    exact ⟨v, h1, h2, h3⟩)
end Rs
end Go.Proofs.YtcgimjlmihaegaaDoor
/- pack's writer: item, of a list. -/
namespace Go.Proofs.YtcgimjlmihaegaaDoor
namespace Pk
open Go.RowKit Go.Shelf
attribute [local go_sem] Oper.semAt_some
/-- While kids are laid. -/
def Li (w : World) (g : Nat) (v : Value) (bs : List UInt8) (W : World) : Prop :=
  ∃ v', Wt g bs v' W ∧ W.cell? ⟨w.heap.size, 0, none⟩ = some (.pointer (some ⟨g, 0, none⟩)) ∧ w.heap.size + 3 ≤ W.heap.size ∧ Fw g v v' w W ∧ (∀ k, v'.ownBlock = some k → k < w.heap.size ∨ w.heap.size + 3 ≤ k)
theorem Li_own (w : World) (g : Nat) (v : Value) (B : Nat) (hB : w.heap.size ≤ B) {β : Type} (f : β → List UInt8) : OwnFrom B (fun s W => Li w g v (f s) W) := by
  rintro s W W' row ⟨v', hw, hc, hh, hf, hx⟩ hg hr
  have hr' : ∀ r, row = some r → ∃ o : Obj, W.heap[r]? = some o ∧ o.isCells = false := fun r e => (hr r e).2
  refine ⟨v', ⟨Nat.lt_of_lt_of_le hw.hi hg.size, (frozen_kept hw.c hg hr').trans hw.f, cell_kept hw.c hg hr', hw.o.kept hg ?_⟩, cell_kept hc hg hr', Nat.le_trans hh hg.size, ⟨hg.os.trans hf.os, hg.tape.trans hf.tape, hg.output.trans hf.output, Nat.le_trans hf.size hg.size, fun j hj h1 h3 => (hg.block j (Nat.lt_of_lt_of_le hj hf.size) (fun e => ?_)).trans (hf.block j hj h1 h3), hf.own⟩, hx⟩
  · cases hv : v'.ownBlock with
    | none => exact .inl rfl
    | some k =>
      right
      intro e
      obtain ⟨o, h4, h5⟩ := row_cells hw.o hv
      obtain ⟨o', h6, h7⟩ := hr' k e.symm
      rw [h4] at h6
      injection h6 with h6
      subst h6
      rw [h5] at h7; cases h7
  · have := (hr j e.symm).1
    omega
/-- What an item's form asks of what is there. -/
abbrev Enc1 (t : It) : Prop := ∀ (g : Nat) (bs : List UInt8) (v : Value) (u : V3) (w : World), Wt g bs v w → Iv (So w g v) w t u → (enc t).length ≤ 1048576 → bs.length + (enc t).length * (enc t).length + 32 ≤ 4398046511103 →
  Calls Tryd.prog 42 #[.pointer (some ⟨g, 0, none⟩), v3 u] w fun e w' => e = .returned (.tuple #[]) ∧ ∃ v', Wt g (bs ++ (enc t).reverse) v' w' ∧ Fw g v v' w w'
theorem wt_slice {g : Nat} {bs : List UInt8} {v : Value} {w : World} (h : Wt g bs v w) : ∃ a c, v = .slice a bs.length c := by
  rcases h.o.2 with ⟨h3, h4⟩ | ⟨g3, cap3, cur, h3, _⟩
  · exact ⟨none, 0, by rw [h3, h4]⟩
  · exact ⟨_, _, h3⟩
/-- One kid more. -/
theorem Li_step {w W W' : World} {g Bs b : Nat} {v v1 v2 : Value} {cs : List UInt8} (hgw : g < w.heap.size) (hc1 : W.cell? ⟨w.heap.size, 0, none⟩ = some (.pointer (some ⟨g, 0, none⟩))) (hsz : w.heap.size + 3 ≤ W.heap.size) (hf1 : Fw g v v1 w W) (hx1 : ∀ k, v1.ownBlock = some k → k < w.heap.size ∨ w.heap.size + 3 ≤ k)
    (hcells : ∀ k o, v1.ownBlock = some k → W.heap[k]? = some o → o.isCells = true) (hgc : ∀ o, W.heap[g]? = some o → o.isCells = true)
    (hBs : Bs = w.heap.size + 2) (hb : b = w.heap.size ∨ So w g v b) (h2 : Wt g cs v2 W') (hf2 : Fw g v1 v2 W W') : KeepsOthers W W' ∧ Kp2 Bs b W W' ∧ Li w g v cs W' := by
  have kp : ∀ j, j < W.heap.size → j ≠ g → some j ≠ v1.ownBlock → ∀ o, W'.cell? ⟨j, o, none⟩ = W.cell? ⟨j, o, none⟩ := fun j hj h1 h3 o => World.cell?_of_block (a := ⟨j, o, none⟩) (hf2.block j hj h1 h3)
  have nh : ∀ j, j < 3 → some (w.heap.size + j) ≠ v1.ownBlock := fun j hj e => by have := hx1 _ e.symm; omega
  have hbb : b < W.heap.size ∧ b ≠ g ∧ some b ≠ v1.ownBlock := by
    rcases hb with rfl | hb
    · exact ⟨by omega, by omega, nh 0 (by omega)⟩
    · exact (So_fw hb hf1).1
  refine ⟨?_, fun o => ⟨?_, kp b hbb.1 hbb.2.1 hbb.2.2 o⟩, v2, h2, (kp _ (by omega) (by omega) (nh 0 (by omega)) 0).trans hc1, Nat.le_trans hsz hf2.size, Fw_trans hf1 hf2, fun k hk => ?_⟩
  · exact ⟨hf2.size, fun j o hj ho => by
      have hlt : j < W.heap.size := (Array.getElem?_eq_some_iff.1 hj).1
      refine (hf2.block j hlt (fun e => ?_) (fun e => ?_)).trans hj
      · subst e; rw [hgc o hj] at ho; cases ho
      · rw [hcells j o e.symm hj] at ho; cases ho⟩
  · subst hBs; exact kp _ (by omega) (by omega) (nh 2 (by omega)) o
  · rcases hf2.own with h | h
    · exact hx1 k (by rw [← h]; exact hk)
    · have := h k hk; omega
theorem Li_below {w W W' : World} {g : Nat} {v : Value} {bs : List UInt8} (h : Li w g v bs W) (hgw : w.heap.size < W.heap.size) (b : Below W.heap.size W W') : Li w g v bs W' := by
  obtain ⟨v1, h1, h2, h3, h4, h5⟩ := h
  exact ⟨v1, Wt_below h1 b, (b.cell (p := ⟨w.heap.size, 0, none⟩) hgw).trans h2, Nat.le_trans h3 b.size, Fw_trans h4 (Fw_below b), h5⟩
theorem wt_cells {g : Nat} {bs : List UInt8} {v : Value} {w : World} (h : Wt g bs v w) : (∀ k o, v.ownBlock = some k → w.heap[k]? = some o → o.isCells = true) ∧ (∀ o, w.heap[g]? = some o → o.isCells = true) := by
  refine ⟨fun k o hk ho => ?_, fun o ho => ?_⟩
  · obtain ⟨o', h4, h5⟩ := row_cells h.o hk
    rw [h4] at ho
    injection ho with ho
    subst ho
    exact h5
  · have hc := h.c
    simp only [World.cell?, ho] at hc
    cases o <;> first | rfl | cases hc
set_option maxRecDepth 100000 in
set_option maxHeartbeats 4000000 in
theorem itemw_list (g : Nat) (bs t : List UInt8) (ks : List It) (vs : List V3) (v : Value) (a1 a2 : Option Addr) (n1 c1 c2 : Nat) (w : World) (hw : Wt g bs v w) (hl : Hid (vs.length = ks.length)) (hk : Kx (So w g v) vs (.slice a2 vs.length c2) w) (hi : ∀ j, j < ks.length → Iv (So w g v) w (ks.getD j It.no) (vs.getD j n3)) (IH : ∀ j, j < ks.length → Enc1 (ks.getD j It.no)) (hz : (encs ks).length ≤ 1048576) (hlen : bs.length + (encs ks).length * (encs ks).length + 32 ≤ 4398046511103) :
    Calls Tryd.prog 42 #[.pointer (some ⟨g, 0, none⟩), .agg #[.bool true, .slice a1 n1 c1, .slice a2 vs.length c2]] w fun e w' => e = .returned (.tuple #[]) ∧ ∃ v', Wt g (bs ++ (enc (.mk true t ks)).reverse) v' w' ∧ Fw g v v' w w' := by
  obtain ⟨av, cv, rfl⟩ := wt_slice hw
  have hwc := hw.c
  have hgi := hw.hi
  have hvn : vs.length ≤ 4194304 := by have := encs_many ks; have := hl.out; omega
  have hfm : ∀ j, j < vs.length → Fm (vs.getD j n3) := fun j hj => by
    obtain ⟨l, b1, m1, q1, b2, m2, q2, ev⟩ := Iv_form (hi j (by have := hl.out; omega))
    exact ⟨l, b1, m1, q1, b2, m2, q2, ev⟩
  obtain ⟨b, hbo, hbk⟩ : ∃ b, (b = w.heap.size ∨ So w g (.slice av bs.length cv) b) ∧ (0 < vs.length → ∃ off, a2 = some ⟨b, off, none⟩ ∧ b < w.heap.size ∧ ∀ j, j < vs.length → w.cell? ⟨b, off + 3 * j, none⟩ = some (vs.getD j n3).1 ∧ w.cell? ⟨b, off + 3 * j + 1, none⟩ = some (vs.getD j n3).2.1 ∧ w.cell? ⟨b, off + 3 * j + 2, none⟩ = some (vs.getD j n3).2.2) := by
    by_cases h0 : 0 < vs.length
    · obtain ⟨ao, cap, e, _, h4⟩ := hk
      obtain ⟨k, off, e2, hne, hlt, hc⟩ := h4 h0
      injection e with e3 _ _
      exact ⟨k, .inr hne, fun _ => ⟨off, e3.trans e2, hlt, hc⟩⟩
    · exact ⟨w.heap.size, .inl rfl, fun h => absurd h h0⟩
  have HVN : Hid (vs.length ≤ 4194304) := hvn
  have HLEN : Hid (bs.length + (encs ks).length * (encs ks).length + 32 ≤ 4398046511103) := hlen
  have HZ : Hid ((encs ks).length ≤ 1048576) := hz
  clear hvn hlen hz hk
  refine (callsIn_wide (n := 5)).1 ?_
  refine callsIn_of_wp_marks Tryd.func42 rfl trivial ?_ rfl
  simp only [Tryd.ntmps42, List.size_toArray, List.length_cons, List.length_nil, Nat.reduceAdd, Nat.reduceSub, Array.replicate_succ, Array.replicate_zero, List.push_toArray, List.append_toArray, List.nil_append, List.cons_append]
  gi_wp2_with (refine ⟨trivial, ?_⟩; gi_at_call 60; refine (bwi_in _ _ trivial rfl _ _ _ _).mono ?_; rintro e w' ⟨rfl, rfl⟩)
  rename_i Q' KQ hKQ
  have b2 : Below w.heap.size w (((w.alloc (.cells #[.pointer (some ⟨g, 0, none⟩)] 110)).alloc (.cells #[.bool true, .slice a1 n1 c1, .slice a2 vs.length c2] 44)).alloc (.cells #[.slice a2 vs.length c2] 42)) := (((Below.refl _ _).alloc (Nat.le_refl _) _).alloc (by simp) _).alloc (by simp; omega) _
  have k1 : (((w.alloc (.cells #[.pointer (some ⟨g, 0, none⟩)] 110)).alloc (.cells #[.bool true, .slice a1 n1 c1, .slice a2 vs.length c2] 44)).alloc (.cells #[.slice a2 vs.length c2] 42)).cell? ⟨w.heap.size, 0, none⟩ = some (.pointer (some ⟨g, 0, none⟩)) := by simp [go_sem]
  have k2 : (((w.alloc (.cells #[.pointer (some ⟨g, 0, none⟩)] 110)).alloc (.cells #[.bool true, .slice a1 n1 c1, .slice a2 vs.length c2] 44)).alloc (.cells #[.slice a2 vs.length c2] 42)).cell? ⟨w.heap.size + 1 + 1, 0, none⟩ = some (.slice a2 vs.length c2) := by simp [go_sem]
  have k3 : (((w.alloc (.cells #[.pointer (some ⟨g, 0, none⟩)] 110)).alloc (.cells #[.bool true, .slice a1 n1 c1, .slice a2 vs.length c2] 44)).alloc (.cells #[.slice a2 vs.length c2] 42)).heap.size = w.heap.size + 3 := by simp
  generalize ((w.alloc (.cells #[.pointer (some ⟨g, 0, none⟩)] 110)).alloc (.cells #[.bool true, .slice a1 n1 c1, .slice a2 vs.length c2] 44)).alloc (.cells #[.slice a2 vs.length c2] 42) = W0 at *
  have L0 : Li w g (.slice av bs.length cv) (bs ++ flN ks (([] : List (Fin vs.length)).map (·.1))) W0 := by
    have e : bs ++ flN ks (([] : List (Fin vs.length)).map (·.1)) = bs := List.append_nil bs
    rw [e]
    exact ⟨_, Wt_below hw b2, k1, by omega, Fw_below b2, fun k hk => .inl (hw.o.lt k hk).2⟩
  refine wpIn_rangeFunc_ownH (F := Fence.wide) rfl (by decide) (gf := 69) (lb := #[.pointer (some ⟨w.heap.size + 1 + 1, 0, none⟩)]) rfl trivial (enters_of Tryd.func69 (by kernel_rfl) rfl)
    (bwi_stops Fence.wide 4 trivial rfl (by decide) (w.heap.size + 1 + 1) b c2 a2 vs HVN.out hfm W0 (by omega) k2 (fun h0 => by
      obtain ⟨off, e, hlt, hc⟩ := hbk h0
      exact ⟨off, e, Nat.lt_of_lt_of_le hlt b2.size, fun j hj => ⟨(b2.cell (p := ⟨b, off + 3 * j, none⟩) hlt).trans (hc j hj).1, (b2.cell (p := ⟨b, off + 3 * j + 1, none⟩) hlt).trans (hc j hj).2.1, (b2.cell (p := ⟨b, off + 3 * j + 2, none⟩) hlt).trans (hc j hj).2.2⟩⟩)) Kp2_t ?hKb (Below.refl _ _) (fun _ => rfl)
    (fun pre W => Li w g (.slice av bs.length cv) (bs ++ flN ks (pre.map (·.1))) W) (fun _ _ _ => False) (Li_own w g _ W0.heap.size (by omega) _) (fun _ _ _ _ _ h _ _ => h) L0
    (fun x a' W => ∃ Bx, w.heap.size + 3 ≤ Bx ∧ W.cell? ⟨Bx, 0, none⟩ = some (vs.getD x.1 n3).1 ∧ W.cell? ⟨Bx, 1, none⟩ = some (vs.getD x.1 n3).2.1 ∧ W.cell? ⟨Bx, 2, none⟩ = some (vs.getD x.1 n3).2.2 ∧ a' = { tmps := #[.pointer (some ⟨g, 0, none⟩), .agg #[.bool true, .slice a1 n1 c1, .slice a2 vs.length c2], .pointer (some ⟨w.heap.size, 0, none⟩), .pointer (some ⟨w.heap.size + 1, 0, none⟩), .int .i64 (bs.length : Int), undef, .pointer (some ⟨Bx, 0, none⟩), .pointer (some ⟨w.heap.size + 1, 0, none⟩), .bool true, .bool false, undef, undef, undef, undef, .pointer (some ⟨g, 0, none⟩), .pointer (some ⟨g, 0, none⟩), .pointer (some ⟨g, 0, none⟩), .slice av bs.length cv, .int .i64 (bs.length : Int), .pointer (some ⟨w.heap.size + 1, 2, none⟩), .slice a2 vs.length c2, .func (.func 69) #[] #[.pointer (some ⟨w.heap.size + 1 + 1, 0, none⟩)], .int .i64 (x.1 : Int), v3 (vs.getD x.1 n3), undef, undef, undef, undef, undef, undef, undef, undef, undef, undef, undef, undef], defers := [] })
    (fun x a' _ A B row hs hg hr => by
      obtain ⟨Bx, h1, h2, h3, h4, h5⟩ := hs
      have hr' : ∀ r, row = some r → ∃ o : Obj, A.heap[r]? = some o ∧ o.isCells = false := fun r e => (hr r e).2
      exact ⟨Bx, h1, cell_kept h2 hg hr', cell_kept h3 hg hr', cell_kept h4 hg hr', h5⟩) ?assign ?body ?done ?stop
  case hKb =>
    intro W l o o' hl _ _ _ i
    have hb3 : b < W0.heap.size := by
      rcases hbo with rfl | hbo
      · omega
      · have := hbo.1; omega
    have e1 : (W.putObj l o').heap[w.heap.size + 1 + 1]? = W.heap[w.heap.size + 1 + 1]? := World.putObj_heap_other (fun e => by omega)
    have e2 : (W.putObj l o').heap[b]? = W.heap[b]? := World.putObj_heap_other (fun e => by omega)
    exact ⟨World.cell?_of_block (a := ⟨w.heap.size + 1 + 1, i, none⟩) e1, World.cell?_of_block (a := ⟨b, i, none⟩) e2⟩
  case assign =>
    intro l pre x W K hI hK
    obtain ⟨lb, b1, m1, q1, b3, m2, q2, ev⟩ := hfm x.1 x.2
    have hsz : w.heap.size + 3 ≤ W.heap.size := by obtain ⟨_, _, _, h, _⟩ := hI; exact h
    have HK : Hid _ := hK
    rw [ev]
    dsimp only [v3]
    clear hK
    gi_wp2
    have HA := heap_alloc_new W (.cells #[.bool lb, .slice b1 m1 q1, .slice b3 m2 q2] 44)
    refine HK.out _ _ ((KeepsOthers.alloc _ _).from _) (fun o => ⟨World.cell?_of_block (a := ⟨w.heap.size + 1 + 1, o, none⟩) (Below.heap_alloc W _ _ (by show w.heap.size + 1 + 1 < _; omega)), World.cell?_of_block (a := ⟨b, o, none⟩) (Below.heap_alloc W _ _ (by
      show b < _
      rcases hbo with rfl | hbo
      · omega
      · have := hbo.1; omega))⟩) ((Li_own w g _ W0.heap.size (by omega) (fun pre : List (Fin vs.length) => bs ++ flN ks (pre.map (·.1)))).alloc _ hI) ⟨W.heap.size, hsz, ?_, ?_, ?_, ?_⟩
    · simp only [World.cell?, HA]; rw [ev]; rfl
    · simp only [World.cell?, HA]; rw [ev]; rfl
    · simp only [World.cell?, HA]; rw [ev]; rfl
    · rw [ev]; rfl
  case body =>
    rintro l pre x a' W hl' - hI ⟨Bx, hBx, x0, x1, x2, rfl⟩ hN
    obtain ⟨v1, hw1, hc1, hh1, hf1, hx1⟩ := hI
    have hxk : x.1 < ks.length := by have := hl.out; have := x.2; omega
    obtain ⟨lb, b1, m1, q1, b3, m2, q2, ev⟩ := hfm x.1 x.2
    have hroom := kid_room ks bs.length HLEN.out (pre.map (·.1)) (fun j hj => by
      obtain ⟨y, _, rfl⟩ := List.mem_map.1 hj
      have := y.2; have := hl.out; omega) x.1 hxk (by rw [List.length_map]; have := hl.out; omega)
    have hone := encs_one ks x.1 hxk
    have K : Hid (Calls Tryd.prog 42 #[.pointer (some ⟨g, 0, none⟩), v3 (vs.getD x.1 n3)] W fun e w' => e = .returned (.tuple #[]) ∧ KeepsOthers W w' ∧ Kp2 (w.heap.size + 1 + 1) b W w' ∧ Li w g (.slice av bs.length cv) (bs ++ flN ks ((pre ++ [x]).map (·.1))) w') :=
      (IH x.1 hxk g _ v1 (vs.getD x.1 n3) W hw1 (Iv_fw (hi x.1 hxk) hf1) (by have := HZ.out; omega) (by rw [List.length_append]; exact hroom)).mono fun e w' he => by
        obtain ⟨h3, v', h4, h5⟩ := he
        refine ⟨h3, ?_⟩
        rw [List.map_append, List.map_cons, List.map_nil, flN_app, ← List.append_assoc]
        exact Li_step hgi hc1 hh1 hf1 hx1 (wt_cells hw1).1 (wt_cells hw1).2 rfl hbo h4 h5
    rw [ev] at x0 x1 x2 K
    rw [ev]
    clear hroom hone hw1 hf1 hx1 ev
    dsimp only [v3] at K ⊢
    gi_wp2_with (refine ⟨trivial, ?_⟩; gi_at_call 42; refine (CallsIn.inRound l (callsIn_wide.2 K.out)).mono ?_; rintro e w' ⟨rfl, h1, h2, h3⟩)
    exact ⟨h1.from _, h2, h3⟩
  case stop =>
    rintro D c pre W _ _ h _
    exact h.elim
  case done =>
    rintro D ys W hD hS hI hK
    have hD' : w.heap.size + 3 ≤ D := by omega
    rw [hS, hl.out, flN_all] at hI
    have hI2 := Li_below hI (by obtain ⟨_, _, _, h, _⟩ := hI; omega) ((Below.refl W.heap.size W).drew)
    have hK2 : W.drew.heap[D]? = some (.deferred (some [])) := hK
    show KQ _ _
    refine hKQ _ _ ?_
    refine wpIn_wide.2 ?_
    obtain ⟨W2, hW2⟩ : ∃ W2, W2 = W.drew := ⟨_, rfl⟩
    have HW2 : Hid (W2 = W.drew) := hW2
    rw [← hW2] at hI2 hK2
    obtain ⟨v1, hw1, hc1, hh1, hf1, hx1⟩ := hI2
    obtain ⟨d1, d2, rfl⟩ := wt_slice hw1
    have cg := hw1.c
    have el : (bs ++ (encs ks).reverse).length = bs.length + (encs ks).length := by rw [List.length_append, List.length_reverse]
    have HX : Hid (IntKind.i64.wrap ((bs.length : Int) + ((encs ks).length : Int) - (bs.length : Int)) = ((encs ks).length : Int)) := by
      show _ = _
      have := HZ.out
      rw [IntKind.wrap_i64]; omega
    have HX2 : Hid (wrap64 ((bs.length : Int) + ((encs ks).length : Int) - (bs.length : Int)) = ((encs ks).length : Int)) := by
      show _ = _
      have := HZ.out
      unfold wrap64; omega
    have KH : Hid (Calls Tryd.prog 61 #[.pointer (some ⟨g, 0, none⟩), .int .u8 192, .int .i64 ((encs ks).length : Int)] W2 fun e w' => e = .returned (.tuple #[]) ∧ Li w g (.slice av bs.length cv) (bs ++ (enc (.mk true t ks)).reverse) w' ∧ w'.heap[D]? = some (.deferred (some []))) :=
      (head_any g 192 (encs ks).length _ _ W2 hw1 (by have := HZ.out; omega) (by decide) (by rw [el]; have := HLEN.out; have := Nat.le_mul_self (encs ks).length; omega)).mono fun e w' he => by
        obtain ⟨h3, v', h4, h5⟩ := he
        have e2 : bs ++ (enc (.mk true t ks)).reverse = bs ++ (encs ks).reverse ++ (hdr 192 (encs ks).length).reverse := by
          unfold enc
          rw [List.reverse_append, List.append_assoc]
        rw [e2]
        have hs := Li_step hgi hc1 hh1 hf1 hx1 (wt_cells hw1).1 (wt_cells hw1).2 rfl hbo h4 h5
        exact ⟨h3, hs.2.2, hs.1.same D _ hK2 rfl⟩
    clear hw1 hf1 hx1 hI hh1 hfm hbk L0 hW2 IH hi hw
    dsimp only
    refine RH.wp_region_genI (fun _ _ wx => Hid (wx = W2)) [0, 0, 0, 0, 0, 0, 0, 0, 2] (by kernel_rfl) (by kernel_rfl) (show Hid _ from HW2.out.symm) ?_
    dsimp only [List.toList_toArray]
    refine RH.goD (v := ?_) (f' := ?_) rfl ?_ ?_ ?_
    rotate_left 2
    · intro U K d wx hI hmay hK
      obtain rfl := hI.out
      go_simp
      exact hK _ rfl
    · intro U
      simp only [Act.put, List.setIfInBounds_toArray, List.set_cons_succ, List.set_cons_zero]
      rfl
    refine RH.goD (v := ?_) (f' := ?_) rfl ?_ ?_ ?_
    rotate_left 2
    · intro U K d wx hI hmay hK
      obtain rfl := hI.out
      go_simp
      exact hK _ rfl
    · intro U
      simp only [Act.put, List.setIfInBounds_toArray, List.set_cons_succ, List.set_cons_zero]
      rfl
    refine RH.goD (v := ?_) (f' := ?_) rfl ?_ ?_ ?_
    rotate_left 2
    · intro U K d wx hI hmay hK
      go_simp
      exact hK _ (hI)
    · intro U
      simp only [Act.put, List.setIfInBounds_toArray, List.set_cons_succ, List.set_cons_zero]
      rfl
    refine RH.goD (v := ?_) (f' := ?_) rfl ?_ ?_ ?_
    rotate_left 2
    · intro U K d wx hI hmay hK
      go_simp
      exact hK _ (hI)
    · intro U
      simp only [Act.put, List.setIfInBounds_toArray, List.set_cons_succ, List.set_cons_zero]
      rfl
    refine RH.goD (v := ?_) (f' := ?_) rfl ?_ ?_ ?_
    rotate_left 2
    · intro U K d wx hI hmay hK
      obtain rfl := hI.out
      go_simp
      exact hK _ rfl
    · intro U
      simp only [Act.put, List.setIfInBounds_toArray, List.set_cons_succ, List.set_cons_zero]
      rfl
    refine RH.goD (v := ?_) (f' := ?_) rfl ?_ ?_ ?_
    rotate_left 2
    · intro U K d wx hI hmay hK
      go_simp
      exact hK _ (hI)
    · intro U
      simp only [Act.put, List.setIfInBounds_toArray, List.set_cons_succ, List.set_cons_zero]
      rfl
    refine RH.goD (v := ?_) (f' := ?_) rfl ?_ ?_ ?_
    rotate_left 2
    · intro U K d wx hI hmay hK
      go_simp
      exact hK _ (hI)
    · intro U
      simp only [Act.put, List.setIfInBounds_toArray, List.set_cons_succ, List.set_cons_zero]
      rfl
    refine RH.goD (v := ?_) (f' := ?_) rfl ?_ ?_ ?_
    rotate_left 2
    · intro U K d wx hI hmay hK
      go_simp
      exact hK _ (hI)
    · intro U
      simp only [Act.put, List.setIfInBounds_toArray, List.set_cons_succ, List.set_cons_zero]
      rfl
    refine RH.goT ?_
    refine RH.go_end ?_
    intro d U w9 hI hall
    simp +decide only [RH.tl, if_true, if_false]
    obtain rfl := hI.out
    clear hI hall
    go_wp2_with fail
    rw [HX.out, HX2.out]
    refine KH.out.mono (fun e w3 he => ?_)
    obtain ⟨rfl, hI3, hK3⟩ := he
    go_wp2_with fail
    have hI4 := (Li_own w g (.slice av bs.length cv) W0.heap.size (by omega) (fun _ : Unit => bs ++ (enc (.mk true t ks)).reverse)).putObj (s := ()) (.deferred none) hI3 hD hK3 rfl
    obtain ⟨v', hw', _, _, hf', _⟩ := hI4
    refine ⟨by simp, .inl ⟨_, _, rfl, run_takeDeferred hK3, ?_⟩⟩
    exact ⟨_, results_none rfl _ _ _, rfl, v', hw', hf'⟩
end Pk
end Go.Proofs.YtcgimjlmihaegaaDoor
/- The library's contract for slices.Reverse of bytes, laid at this dump by the kit's own tool, in plain words. -/
namespace Go.Proofs
open Go.Shelf
def Tryd.laysRev_ren : Go.Shelf.Ren := ⟨fun | 35 => 43 | n => n, fun | 22 => 22 | 23 => 5 | 3 => 3 | 4 => 4 | 0 => 0 | n => n, fun | n => n⟩
theorem Tryd.laysRev : Go.Proofs.SlLaysE.n35 Tryd.prog Tryd.laysRev_ren := {
  mixed := by kernel_rfl
  f35 := ⟨Tryd.f43.name, by decide, Tryd.func43.trans (congrArg some (by kernel_rfl))⟩
  t0 := Tryd.underlying0
  a0 := Tryd.isAgg0
  z0 := Tryd.sizeOf0
  v0 := Tryd.zeroValue0
  t3 := Tryd.underlying3
  a3 := Tryd.isAgg3
  z3 := Tryd.sizeOf3
  v3 := Tryd.zeroValue3
  t4 := Tryd.underlying4
  a4 := Tryd.isAgg4
  z4 := Tryd.sizeOf4
  v4 := Tryd.zeroValue4
  t22 := Tryd.underlying22
  a22 := Tryd.isAgg22
  z22 := Tryd.sizeOf22
  v22 := Tryd.zeroValue22
  a23 := Tryd.isAgg5
  z23 := Tryd.sizeOf5 }
end Go.Proofs
/- pack.Encode. -/
namespace Go.Proofs.YtcgimjlmihaegaaDoor
namespace Pk
open Go.RowKit Go.Shelf
/-- Whatever the item, its form is laid ahead of what is there. -/
theorem itemw_any {t : It} (h : Wf t) : Enc1 t := by
  induction h with
  | mk l t ks _ ih =>
    intro g bs v u w hw hiv hz hl
    cases hiv with
    | mk _ _ _ tv kv vs ht hn hk hi =>
      cases l with
      | false =>
        have h1 := enc_text_len t ks
        have h2 := Nat.le_mul_self (enc (.mk false t ks)).length
        obtain ⟨a2, c2, rfl, -, -⟩ := hk
        exact itemw_text g bs t ks v tv a2 _ c2 w hw ht (by omega) (by omega)
      | true =>
        have h1 : (encs ks).length ≤ (enc (.mk true t ks)).length := by
          unfold enc
          rw [List.length_append]; omega
        have h2 := Nat.mul_le_mul h1 h1
        obtain ⟨a1, c1, rfl, -, -⟩ := ht
        obtain ⟨a2, c2, rfl, hc, hq⟩ := hk
        exact itemw_list g bs t ks vs v a1 a2 _ c1 c2 w hw hn ⟨a2, c2, rfl, hc, hq⟩ hi ih (by omega) (by omega)
theorem gb_putRow {α : Type} [Inhabited α] {enc : α → Value} (w : World) (g q : Nat) (d : Array α) : w.grownBy (Sort.putRow enc (Sort.ahead w q) g 0 d) (some g) :=
  ⟨rfl, rfl, rfl, by simp [Sort.putRow, Sort.mapBlock, Sort.ahead], fun k hk hne => by
    have : g ≠ k := fun e => hne (by rw [e])
    simp [Sort.putRow, Sort.mapBlock, Sort.ahead, Array.getElem?_modify, this]⟩
theorem reverse_any (bs : List UInt8) (B : Nat) (v : Value) (w : World) (h : w.ownsRow B 5 1 v bs.length (bcs bs)) :
    Calls Tryd.prog 43 #[v] w fun e w' => e = .returned (.tuple #[]) ∧ w'.ownsRow B 5 1 v bs.length (bcs bs.reverse) ∧ w.grownBy w' v.ownBlock := by
  by_cases hv : v = .slice none 0 0
  · subst hv
    have hb : bs = [] := by
      rcases h.2 with ⟨_, h4⟩ | ⟨g, cap, cur, h3, _⟩
      · exact List.length_eq_zero_iff.1 h4
      · cases h3
    subst hb
    refine (AnyE.slices_Reverse_empty Tryd.laysRev none 0 w).mono fun e w' he => ?_
    obtain ⟨h1, rfl⟩ := he
    exact ⟨h1, h, ⟨rfl, rfl, rfl, Nat.le_refl _, fun _ _ _ => rfl⟩⟩
  · obtain ⟨g, cap, rfl, hb1, hb2, hb3, hb4, hb5, hH⟩ := Lib.holds_of_ownsRow (enc := fun x : UInt8 => Value.int .u8 (x.toNat : Int)) (zs := bs) h hv
    refine (AnyE.slices_Reverse Tryd.laysRev (fun x : UInt8 => Value.int .u8 (x.toNat : Int)) (fun _ => rfl) g 0 cap bs w hH (by unfold maxLen at hb4; omega)).mono fun e w' he => ?_
    obtain ⟨h1, n, rfl⟩ := he
    have h2 := Lib.ownsRow_putRow (q := n) (ys := bs.reverse) h (by simp) (Nat.le_refl _)
    rw [List.take_of_length_le (by simp)] at h2
    exact ⟨h1, h2, gb_putRow _ _ _ _⟩
theorem own_ty {lo : Nat} {b : List UInt8} {v : Value} {w : World} (h : w.ownsRow lo 5 1 v b.length (bcs b)) : Ty (lo ≤ ·) b v w := by
  rcases h.2 with ⟨h3, h4⟩ | ⟨g, cap, cur, h3, h5⟩
  · have e : b = [] := List.length_eq_zero_iff.1 h4
    subst e
    subst h3
    exact Ty_nil _ _
  · subst h3
    refine ⟨some ⟨g, 0, none⟩, cap, rfl, h5.2.2.1, fun _ => ⟨g, 0, rfl, h5.1, lt_of_heap h5.2.1, fun j hj => ?_⟩⟩
    rw [Nat.zero_add, h.cellAt _ (by omega)]
    unfold bcs Sp.bz
    rw [List.getElem?_map, List.getElem?_eq_getElem hj, Option.map_some, List.getD_eq_getElem?_getD, List.getElem?_eq_getElem hj]
    rfl
/-- A slice's room is no more than there is. -/
def Cp (v : Value) : Prop := ∀ ao n cap, v = .slice ao n cap → (cap : Int) ≤ 9223372036854775807
theorem own_cp {lo n : Nat} {xs : List Value} {v : Value} {w : World} (h : w.ownsRow lo 5 1 v n xs) : Cp v := by
  rcases h.2 with ⟨h3, h4⟩ | ⟨g, cap, cur, h3, h5⟩
  · subst h3
    intro ao n cap e
    injection e with _ _ e3
    omega
  · subst h3
    intro ao n c e
    injection e with _ _ e3
    have := h5.2.2.2.1
    unfold maxLen at this
    omega
set_option maxHeartbeats 2000000 in
set_option maxRecDepth 100000 in
/-- The form of an item, in a new block. -/
theorem encode_cp (t : It) (S : Nat → Prop) (u : V3) (w : World) (hiv : Iv S w t u) (hz : (enc t).length ≤ 1048576) :
    Calls Tryd.prog 25 #[v3 u] w fun e w' => ∃ v, e = .returned v ∧ Ty (w.heap.size ≤ ·) (enc t) v w' ∧ Cp v ∧ Below w.heap.size w w' := by
  have hq : (enc t).length * (enc t).length ≤ 1048576 * 1048576 := Nat.mul_le_mul hz hz
  obtain ⟨lb, b1, m1, q1, b3, m2, q2, rfl⟩ := Iv_form hiv
  have KI : Hid (∀ W : World, Below w.heap.size w W → W.heap.size = w.heap.size + 2 → W.cell? ⟨w.heap.size + 1, 0, none⟩ = some (.slice none 0 0) → W.frozen? ⟨w.heap.size + 1, 0, none⟩ = false → Calls Tryd.prog 42 #[.pointer (some ⟨w.heap.size + 1, 0, none⟩), .agg #[.bool lb, .slice b1 m1 q1, .slice b3 m2 q2]] W fun e w' => e = .returned (.tuple #[]) ∧ ∃ v', Wt (w.heap.size + 1) (enc t).reverse v' w' ∧ Below w.heap.size w w') := fun W hb hs hc hf => by
    have hw : Wt (w.heap.size + 1) [] (.slice none 0 0) W := ⟨by omega, hf, hc, World.ownsRow_nil _ _ _ _⟩
    have hv : Iv (So W (w.heap.size + 1) (.slice none 0 0)) W t (.bool lb, .slice b1 m1 q1, .slice b3 m2 q2) :=
      Iv_mono (Iv_below (Iv_mono (S' := fun k => k < w.heap.size) hiv (fun k _ h => h)) hb) (fun k h _ => ⟨by omega, by omega, nofun⟩)
    refine (itemw_any (wf_any t) _ [] _ _ W hw hv hz (by simp; omega)).mono fun e w' he => ?_
    obtain ⟨h1, v', h2, h3⟩ := he
    rw [List.nil_append] at h2
    exact ⟨h1, v', h2, ⟨h3.os.trans hb.os, h3.tape.trans hb.tape, h3.output.trans hb.output, Nat.le_trans hb.size h3.size, fun j hj => (h3.block j (by omega) (by omega) nofun).trans (hb.block j hj)⟩⟩
  have KR : Hid (∀ (v : Value) (W : World), Wt (w.heap.size + 1) (enc t).reverse v W → Below w.heap.size w W → Calls Tryd.prog 43 #[v] W fun e w' => e = .returned (.tuple #[]) ∧ w'.cell? ⟨w.heap.size + 1, 0, none⟩ = some v ∧ Ty (w.heap.size ≤ ·) (enc t) v w' ∧ Cp v ∧ Below w.heap.size w w') := fun v W hw hb => by
    refine (reverse_any (enc t).reverse (w.heap.size + 1 + 1) v W hw.o).mono fun e w' he => ?_
    obtain ⟨h1, h2, h3⟩ := he
    rw [List.reverse_reverse, List.length_reverse] at h2
    refine ⟨h1, (World.cell?_of_block (a := ⟨w.heap.size + 1, 0, none⟩) (h3.block (w.heap.size + 1) hw.hi (fun e => by have := (hw.o.lt (w.heap.size + 1) e.symm).1; omega))).trans hw.c, Ty_mono (own_ty h2) (fun k h _ => by omega), own_cp h2, hb.grown h3 hb.size (fun k e => by have := (hw.o.lt k e).1; omega)⟩
  have B1 : Hid (Below w.heap.size w ((w.alloc (.cells #[.bool lb, .slice b1 m1 q1, .slice b3 m2 q2] 44)).alloc (.cells #[.slice none 0 0] 85))) := ((Below.refl _ _).alloc (Nat.le_refl _) _).alloc (by simp) _
  clear hz hq hiv
  dsimp only [v3]
  go_enter Tryd.func25, Tryd.ntmps25
  go_wp2_with fail
  refine (KI.out _ B1.out (by simp) (by simp [go_sem]) (by simp [go_sem])).mono (fun e w2 he => ?_)
  obtain ⟨rfl, v, hw, hb⟩ := he
  obtain ⟨a3, m3, c3, rfl⟩ := wt_form hw
  have KK : Hid _ := KR.out _ w2 hw hb
  have hc := hw.c
  clear hw hb KR KI B1
  go_wp2_with fail
  refine Calls.mono KK.out (fun e w3 he => ?_)
  obtain ⟨rfl, hc3, h4, h5⟩ := he
  have HR : Hid _ := And.intro h4 h5
  clear h4 h5 KK hc
  go_wp2_with fail
  go_ret
  exact ⟨_, rfl, HR.out⟩
theorem encode_any (t : It) (S : Nat → Prop) (u : V3) (w : World) (hiv : Iv S w t u) (hz : (enc t).length ≤ 1048576) :
    Calls Tryd.prog 25 #[v3 u] w fun e w' => ∃ v, e = .returned v ∧ Ty (w.heap.size ≤ ·) (enc t) v w' ∧ Below w.heap.size w w' :=
  (encode_cp t S u w hiv hz).mono fun e w' he => by
    obtain ⟨v, h1, h2, _, h3⟩ := he
    exact ⟨v, h1, h2, h3⟩
end Pk
end Go.Proofs.YtcgimjlmihaegaaDoor
/- root.tagged, root.listOf. -/
namespace Go.Proofs.YtcgimjlmihaegaaDoor
namespace Rs
open Nb Sp Pk Go.RowKit
set_option maxHeartbeats 1000000 in
set_option maxRecDepth 100000 in
theorem tagged_any (p : List UInt8) (leaf : Bool) (ap : Option Addr) (cp : Nat) (w : World) (hn : Hid (p.length ≤ 4194300)) (hcp : p.length ≤ cp) (vp : Sp.Vw p ap w) :
    Calls Tryd.prog 45 #[.slice ap p.length cp, .bool leaf] w fun e w' => ∃ v, e = .returned v ∧ Sl (jl (tg p leaf)) v w' ∧ Below w.heap.size w w' := by
  have K : Hid _ := tag_sl p leaf ap cp w hn hcp vp
  clear vp hcp
  generalize p.length = n at *
  go_enter Tryd.func45, Tryd.ntmps45
  go_wp2_with fail
  refine Calls.mono K.out ?_
  rintro e w1 ⟨v, rfl, h1, h2⟩
  have HZ : Hid (Sl (jl (tg p leaf)) v w1 ∧ Below w.heap.size w w1) := ⟨h1, h2⟩
  clear h1 h2 K
  go_wp2_with fail
  go_ret
  exact ⟨_, rfl, HZ.out⟩
theorem GL_iv2 {G R : Nat} {w wr : World} {gi : Nat} {kv : Value} {ps : List (List UInt8)} {hs : List Value} (H : GL w gi kv (hs.map tv) wr) (h : Hds ps hs w) (hG : NB G w) (hR : NB R w) (hg : NB gi w) : Iv (fun k => k ≠ G ∧ k ≠ R) wr (.mk true [] (ps.map fun b => .mk false b [])) (.bool true, .slice none 0 0, kv) := by
  refine .mk true [] _ (.slice none 0 0) kv (hs.map tv) (Ty_nil _ _) (by rw [List.length_map, List.length_map, h.l]) (Kx_mono (own_kx H.o) (fun k hk _ => by have := hG.1; have := hR.1; have := hk.1; exact ⟨by omega, by omega⟩)) (fun j hj => ?_)
  rw [List.length_map] at hj
  have e1 : (ps.map fun b => It.mk false b []).getD j It.no = .mk false (ps.getD j []) [] := by
    simp [List.getD_eq_getElem?_getD, List.getElem?_map, List.getElem?_eq_getElem hj]
  have e2 : (hs.map tv).getD j n3 = tv (hs.getD j undef) := by
    simp [List.getD_eq_getElem?_getD, List.getElem?_map, List.getElem?_eq_getElem (h.l ▸ hj)]
  rw [e1, e2]
  obtain ⟨ao, cap, h1, h2, h3⟩ := h.s j hj
  refine iv_textS ⟨ao, cap, h1, h2, fun h0 => ?_⟩
  obtain ⟨g, off, e, hlt, hc⟩ := h3 h0
  have n1 : g ≠ G := fun e2 => by subst e2; exact hG.2 _ _ (hc 0 h0)
  have n2 : g ≠ gi := fun e2 => by subst e2; exact hg.2 _ _ (hc 0 h0)
  have n3 : g ≠ R := fun e2 => by subst e2; exact hR.2 _ _ (hc 0 h0)
  exact ⟨g, off, e, ⟨n1, n3⟩, Nat.lt_of_lt_of_le hlt H.b.size, fun i hi => (World.cell?_of_block (a := ⟨g, off + i, none⟩) (H.b.block g hlt (fun e3 => by injection e3 with e3; exact n2 e3))).trans (hc i hi)⟩
set_option maxHeartbeats 2000000 in
set_option maxRecDepth 100000 in
theorem listof_any (l : List (List UInt8)) (a : Option Addr) (n c : Nat) (w : World) (hn : Hid (n = l.length)) (hz : Hid (n ≤ 1048576)) (h : Hid (Ls l (.slice a n c) w)) :
    Calls Tryd.prog 44 #[.slice a n c] w fun e w' => ∃ v, e = .returned (v3 v) ∧ (∀ G, NB G w → Iv (· ≠ G) w' (.mk true [] (l.map fun b => .mk false b [])) v) ∧ Below w.heap.size w w' ∧ Fm v := by
  obtain ⟨hs, hh, hv⟩ := ls_heads h.out
  have HH : Hid (Hds l hs w) := hh
  have HV : Hid (Vl hs (.slice a n c) w) := hv
  have b0 : Below w.heap.size w (w.alloc (.cells #[.bool false, .slice none 0 0, .slice none 0 0] 44)) := (Below.refl _ _).alloc (Nat.le_refl _) _
  have hs1 : (w.alloc (.cells #[.bool false, .slice none 0 0, .slice none 0 0] 44)).heap.size = w.heap.size + 1 := by simp
  have b1 : Below (w.heap.size + 1) (w.alloc (.cells #[.bool false, .slice none 0 0, .slice none 0 0] 44)) ((w.alloc (.cells #[.bool false, .slice none 0 0, .slice none 0 0] 44)).alloc (.cells #[.bool true, .slice none 0 0, .slice none 0 0] 44)) := (Below.refl _ _).alloc (by omega) _
  have l0 : Below w.heap.size w ((w.alloc (.cells #[.bool false, .slice none 0 0, .slice none 0 0] 44)).alloc (.cells #[.bool true, .slice none 0 0, .slice none 0 0] 44)) := b0.trans (b1.mono (by omega))
  have x0 : B3 w.heap.size ((w.alloc (.cells #[.bool false, .slice none 0 0, .slice none 0 0] 44)).alloc (.cells #[.bool true, .slice none 0 0, .slice none 0 0] 44)) := B3_gb (r := none) (B3_new w) (gb_below (by rw [hs1]; exact b1)) nofun
  have r0 : NB w.heap.size ((w.alloc (.cells #[.bool false, .slice none 0 0, .slice none 0 0] 44)).alloc (.cells #[.bool true, .slice none 0 0, .slice none 0 0] 44)) := NB_below (NB_new w) (by rw [hs1]; exact b1)
  have ln := LN_new (w.alloc (.cells #[.bool false, .slice none 0 0, .slice none 0 0] 44))
  have ni := NB_newT (w.alloc (.cells #[.bool false, .slice none 0 0, .slice none 0 0] 44))
  rw [hs1] at ln ni
  clear b0 b1 hs1 hh hv h
  go_enter Tryd.func44, Tryd.ntmps44
  go_wp2_with fail
  generalize (w.alloc (.cells #[.bool false, .slice none 0 0, .slice none 0 0] 44)).alloc (.cells #[.bool true, .slice none 0 0, .slice none 0 0] 44) = W1 at *
  obtain ⟨b, eb⟩ : ∃ b, b = w.heap.size := ⟨_, rfl⟩
  have EB : Hid (b = w.heap.size) := eb
  have L0 : Hid (Below w.heap.size w W1) := l0
  have X0 : Hid (B3 b W1) := eb ▸ x0
  have R0 : Hid (NB b W1) := eb ▸ r0
  have LN0 : Hid (LN (b + 1) W1) := eb ▸ ln
  have NI : Hid (NB (b + 1) W1) := eb ▸ ni
  rw [← eb]
  clear eb l0 x0 r0 ln ni
  have HL : Hid (hs.length = n) := by show _ = _; rw [HH.out.l, hn.out]
  go_loopw [9] (fun s wr => ∃ k : Nat, k ≤ n ∧ s = .int .i64 (k : Int) ∧ IA W1 (b + 1) hs k wr) (fun s _ => ((n : Int) - intOf s).toNat)
  case atStart => exact ⟨0, Nat.zero_le _, rfl, ⟨_, GL_new LN0.out⟩⟩
  case round =>
    obtain ⟨k, hk, rfl, kv, hG⟩ := hrel
    have HG : Hid (GL W1 (b + 1) kv ((hs.take k).map tv) wr) := hG
    obtain ⟨ak, nk, ck, rfl⟩ := own_form hG.o
    clear hG
    by_cases h1 : k < n
    · have d0 : (k : Int) < (n : Int) := by omega
      have d1 : (0 : Int) ≤ (k : Int) := by omega
      have hw := Nb.stp k (by have := hz.out; show _ ≤ _; omega)
      have hkl : k < l.length := by have := hn.out; omega
      have hkh : k < hs.length := by have := HL.out; omega
      obtain ⟨aV, cV, eV, hV⟩ := HV.out
      obtain ⟨gV, oV, eV2, hgV, hcV⟩ := hV (by omega)
      have ea : a = some ⟨gV, oV, none⟩ := by
        injection eV with e1 _ _
        rw [e1, eV2]
      have hsl := HH.out.s k hkl
      have eg : hs.getD k undef = hs[k] := by rw [List.getD_eq_getElem?_getD, List.getElem?_eq_getElem hkh]; rfl
      rw [eg] at hsl
      obtain ⟨ax, cx, ex⟩ := Sl_fm hsl
      have cw := hcV k hkh
      rw [List.getElem?_eq_getElem hkh, ex] at cw
      have hgb := HG.out.b
      have cr : wr.cell? ⟨gV, oV + k, none⟩ = some (.slice ax (l.getD k []).length cx) := (World.cell?_of_block (a := ⟨gV, oV + k, none⟩) (hgb.block gV (Nat.lt_of_lt_of_le hgV L0.out.size) (fun e => by injection e with e; have := EB.out; omega))).trans ((L0.out.cell (p := ⟨gV, oV + k, none⟩) hgV).trans cw)
      have HTK : Hid ((hs.take (k + 1)).map tv = (hs.take k).map tv ++ [(.bool false, .slice ax (l.getD k []).length cx, .slice none 0 0)]) := by
        show _ = _
        rw [List.take_add_one, List.getElem?_eq_getElem hkh, List.map_append, ex]
        rfl
      have HZ : Hid (((hs.take k).map tv).length ≤ 4194304) := by show _ ≤ _; rw [List.length_map, List.length_take]; have := hz.out; omega
      have HK1 : Hid (k < n) := h1
      clear hsl eg ex cw hgb eV hV eV2 hgV hcV hkl hkh
      subst ea
      generalize (l.getD k []).length = mk at *
      have c2r := HG.out.c2
      have bA : Below wr.heap.size wr (wr.alloc (.cells #[.bool false, .slice ax mk cx, .slice none 0 0] 44)) := (Below.refl _ _).alloc (Nat.le_refl _) _
      have hnw := heap_alloc_new wr (.cells #[.bool false, .slice ax mk cx, .slice none 0 0] 44)
      obtain ⟨kv', w7, hap, ⟨ck7, fz7⟩, hI7⟩ := GL_step (g := wr.heap.size) 42 HG.out bA (by simp only [World.cell?, hnw]; rfl) (by simp only [World.cell?, hnw]; rfl) (by simp only [World.cell?, hnw]; rfl) HZ.out
      obtain ⟨ak2, nk2, ck2, rfl⟩ := own_form hI7.o
      have HI7 : Hid (GL W1 (b + 1) (.slice ak2 nk2 ck2) ((hs.take (k + 1)).map tv) (w7.setCell ⟨b + 1, 2, none⟩ (.slice ak2 nk2 ck2))) := by show GL _ _ _ _ _; rw [HTK.out]; exact hI7
      clear hI7 bA hnw HG HTK HZ
      go_upto_region 6 with (at_builtin; refine wpList_apw rfl rfl rfl rfl hap ?_)
      generalize w7.setCell ⟨b + 1, 2, none⟩ (.slice ak2 nk2 ck2) = w8' at *
      go_wp2_with fail
      have hw := hw.out
      go_roundw
      case rel => exact ⟨k + 1, HK1.out, Nb.step_v k _ hw, ⟨_, HI7.out⟩⟩
      case measure => exact Nb.msr k n HK1.out _ hw
    · have hkl : k = n := by omega
      subst hkl
      have ex : Hid (hs.take k = hs) := by show _ = _; rw [← HL.out, List.take_length]
      rw [ex.out] at HG
      clear ex h1 hk
      have g0 := HG.out.c0
      have g1 := HG.out.c1
      have g2 := HG.out.c2
      have hgb := HG.out.b
      have xr : B3 b wr := B3_gb X0.out hgb (fun e => by injection e with e; omega)
      have hgb2 := L0.out
      have LR : Hid (Below w.heap.size w wr) := ⟨hgb.os.trans hgb2.os, hgb.tape.trans hgb2.tape, hgb.output.trans hgb2.output, Nat.le_trans hgb2.size hgb.size, fun j hj => (hgb.block j (Nat.lt_of_lt_of_le hj hgb2.size) (fun e => by injection e with e; have := EB.out; omega)).trans (hgb2.block j hj)⟩
      have IV0 : Hid (∀ G, NB G w → Iv (fun k => k ≠ G ∧ k ≠ b) wr (.mk true [] (l.map fun b => .mk false b [])) (.bool true, .slice none 0 0, .slice ak nk ck)) := fun G hG => GL_iv2 HG.out ⟨HH.out.l, fun i hi => Sl_below (HH.out.s i hi) hgb2⟩ (NB_below hG hgb2) R0.out NI.out
      clear hgb hgb2 HG
      go_upto_region 7 with fail
      go_wp2_with (refine wpList_st3b rfl rfl rfl rfl xr ?_)
      intro w6 g6 b6 z0 z1 z2
      have l6 : Hid (Below w.heap.size w w6) := LR.out.trans ⟨g6.os, g6.tape, g6.output, g6.size, fun j hj => g6.block j (by have := LR.out.size; omega) (fun e => by injection e with e; have := EB.out; omega)⟩
      have IV6 : Hid (∀ G, NB G w → Iv (· ≠ G) w6 (.mk true [] (l.map fun b => .mk false b [])) (.bool true, .slice none 0 0, .slice ak nk ck)) := fun G hG =>
        Iv_mono (Iv_gb (IV0.out G hG) g6 (fun k hk e => by injection e with e; exact hk.2 e)) (fun k hk _ => hk.1)
      clear g6 b6 IV0 g0 g1 g2 xr
      go_wp2_with fail
      exact bodyPost_ret (resI _ _ _ b 2 _ _ _ rfl rfl z0 z1 z2) rfl ⟨(.bool true, .slice none 0 0, .slice ak nk ck), rfl, IV6.out, l6.out, ⟨_, _, _, _, _, _, _, rfl⟩⟩
end Rs
end Go.Proofs.YtcgimjlmihaegaaDoor
/- root.itemOf. -/
namespace Go.Proofs.YtcgimjlmihaegaaDoor
namespace Rs
open Nb Sp Pk Go.RowKit
set_option maxHeartbeats 4000000 in
set_option maxRecDepth 100000 in
theorem io_none (a1 a2 a3 : Option Addr) (n c1 n2 c2 n3 c3 : Nat) (w : World) :
    Calls Tryd.prog 26 #[.agg #[.int .i64 0, .slice a1 n c1, .slice a2 n2 c2, .slice a3 n3 c3]] w fun e w' => ∃ v, e = .returned (v3 v) ∧ Iv (fun _ => True) w' (.mk false [] []) v ∧ Below w.heap.size w w' ∧ Fm v := by
  have l0 : Below w.heap.size w ((w.alloc (.cells #[.int .i64 0, .slice a1 n c1, .slice a2 n2 c2, .slice a3 n3 c3] 25)).alloc (.cells #[.bool false, .slice none 0 0, .slice none 0 0] 44)) := ((Below.refl _ _).alloc (Nat.le_refl _) _).alloc (by simp) _
  have hs1 : (w.alloc (.cells #[.int .i64 0, .slice a1 n c1, .slice a2 n2 c2, .slice a3 n3 c3] 25)).heap.size = w.heap.size + 1 := by simp
  have x0 : B3 (w.heap.size + 1) ((w.alloc (.cells #[.int .i64 0, .slice a1 n c1, .slice a2 n2 c2, .slice a3 n3 c3] 25)).alloc (.cells #[.bool false, .slice none 0 0, .slice none 0 0] 44)) := hs1 ▸ B3_new (w.alloc (.cells #[.int .i64 0, .slice a1 n c1, .slice a2 n2 c2, .slice a3 n3 c3] 25))
  have nb0 : NB (w.heap.size + 1) ((w.alloc (.cells #[.int .i64 0, .slice a1 n c1, .slice a2 n2 c2, .slice a3 n3 c3] 25)).alloc (.cells #[.bool false, .slice none 0 0, .slice none 0 0] 44)) := hs1 ▸ NB_new (w.alloc (.cells #[.int .i64 0, .slice a1 n c1, .slice a2 n2 c2, .slice a3 n3 c3] 25))
  have HA := heap_alloc_new w (.cells #[.int .i64 0, .slice a1 n c1, .slice a2 n2 c2, .slice a3 n3 c3] 25)
  have bB : Below (w.heap.size + 1) (w.alloc (.cells #[.int .i64 0, .slice a1 n c1, .slice a2 n2 c2, .slice a3 n3 c3] 25)) ((w.alloc (.cells #[.int .i64 0, .slice a1 n c1, .slice a2 n2 c2, .slice a3 n3 c3] 25)).alloc (.cells #[.bool false, .slice none 0 0, .slice none 0 0] 44)) := (Below.refl _ _).alloc (by omega) _
  have q0 : ((w.alloc (.cells #[.int .i64 0, .slice a1 n c1, .slice a2 n2 c2, .slice a3 n3 c3] 25)).alloc (.cells #[.bool false, .slice none 0 0, .slice none 0 0] 44)).cell? ⟨w.heap.size, 0, none⟩ = some (.int .i64 0) := (bB.cell (p := ⟨w.heap.size, 0, none⟩) (by show w.heap.size < _; omega)).trans (by simp only [World.cell?, HA]; rfl)
  have q1 : ((w.alloc (.cells #[.int .i64 0, .slice a1 n c1, .slice a2 n2 c2, .slice a3 n3 c3] 25)).alloc (.cells #[.bool false, .slice none 0 0, .slice none 0 0] 44)).cell? ⟨w.heap.size, 1, none⟩ = some (.slice a1 n c1) := (bB.cell (p := ⟨w.heap.size, 1, none⟩) (by show w.heap.size < _; omega)).trans (by simp only [World.cell?, HA]; rfl)
  have q2 : ((w.alloc (.cells #[.int .i64 0, .slice a1 n c1, .slice a2 n2 c2, .slice a3 n3 c3] 25)).alloc (.cells #[.bool false, .slice none 0 0, .slice none 0 0] 44)).cell? ⟨w.heap.size, 2, none⟩ = some (.slice a2 n2 c2) := (bB.cell (p := ⟨w.heap.size, 2, none⟩) (by show w.heap.size < _; omega)).trans (by simp only [World.cell?, HA]; rfl)
  have q3 : ((w.alloc (.cells #[.int .i64 0, .slice a1 n c1, .slice a2 n2 c2, .slice a3 n3 c3] 25)).alloc (.cells #[.bool false, .slice none 0 0, .slice none 0 0] 44)).cell? ⟨w.heap.size, 3, none⟩ = some (.slice a3 n3 c3) := (bB.cell (p := ⟨w.heap.size, 3, none⟩) (by show w.heap.size < _; omega)).trans (by simp only [World.cell?, HA]; rfl)
  have hsz : ((w.alloc (.cells #[.int .i64 0, .slice a1 n c1, .slice a2 n2 c2, .slice a3 n3 c3] 25)).alloc (.cells #[.bool false, .slice none 0 0, .slice none 0 0] 44)).heap.size = w.heap.size + 2 := by simp
  clear HA bB hs1
  go_enter Tryd.func26, Tryd.ntmps26
  go_upto_region 1 with fail
  generalize ((w.alloc (.cells #[.int .i64 0, .slice a1 n c1, .slice a2 n2 c2, .slice a3 n3 c3] 25)).alloc (.cells #[.bool false, .slice none 0 0, .slice none 0 0] 44)) = W0 at *
  obtain ⟨h, eh⟩ : ∃ h, h = w.heap.size := ⟨_, rfl⟩
  have EH : Hid (h = w.heap.size) := eh
  have L0 : Hid (Below w.heap.size w W0) := l0
  have X0 : Hid (B3 (h + 1) W0) := eh ▸ x0
  have NB0 : Hid (NB (h + 1) W0) := eh ▸ nb0
  have HSZ : Hid (W0.heap.size = h + 2) := by show _ = _; rw [eh]; exact hsz
  rw [← eh] at q0 q1 q2 q3 ⊢
  clear eh l0 x0 nb0 hsz
  have x5 := X0.out
  have l5 := L0.out
  go_upto_region 8 with fail
  go_wp2_with (refine wpList_st3b rfl rfl rfl rfl x5 ?_)
  intro w6 g6 b6 z0 z1 z2
  have l6 : Hid (Below w.heap.size w w6) := l5.trans ⟨g6.os, g6.tape, g6.output, g6.size, fun j hj => g6.block j (by have := l5.size; omega) (fun e => by injection e with e; have := EH.out; omega)⟩
  have IV6 : Hid (Iv (fun _ => True) w6 (.mk false [] []) (.bool false, .slice none 0 0, .slice none 0 0)) := .mk _ _ _ _ _ [] (Ty_nil _ _) rfl (Kx_nil _ _) (fun j hj => absurd hj (by simp))
  clear g6 b6 l5 x5
  go_wp2_with fail
  exact bodyPost_ret (resI _ _ _ (h + 1) 2 _ _ _ rfl rfl z0 z1 z2) rfl ⟨(.bool false, .slice none 0 0, .slice none 0 0), rfl, IV6.out, l6.out, ⟨_, _, _, _, _, _, _, rfl⟩⟩
set_option maxHeartbeats 4000000 in
set_option maxRecDepth 100000 in
theorem io_fork (a1 a2 a3 : Option Addr) (n c1 n2 c2 n3 c3 : Nat) (w : World) (KO : Hid (∀ (l : List (List UInt8)) (a : Option Addr) (m c : Nat) (wx : World), m = l.length → m ≤ 1048576 → Ls l (.slice a m c) wx → Calls Tryd.prog 44 #[.slice a m c] wx fun e w' => ∃ v, e = .returned (v3 v) ∧ (∀ G, NB G wx → Iv (· ≠ G) w' (.mk true [] (l.map fun b => .mk false b [])) v) ∧ Below wx.heap.size wx w' ∧ Fm v)) (l : List (List UInt8)) (hz : Hid (l.length ≤ 1048576)) (KF : Hid (∀ wx : World, Below w.heap.size w wx → Calls Tryd.prog 41 #[.agg #[.int .i64 3, .slice a1 n c1, .slice a2 n2 c2, .slice a3 n3 c3]] wx fun e w' => ∃ a m c, e = .returned (.slice a m c) ∧ m = l.length ∧ Ls l (.slice a m c) w' ∧ Below wx.heap.size wx w')) :
    Calls Tryd.prog 26 #[.agg #[.int .i64 3, .slice a1 n c1, .slice a2 n2 c2, .slice a3 n3 c3]] w fun e w' => ∃ v, e = .returned (v3 v) ∧ Iv (fun _ => True) w' (.mk true [] (l.map fun b => .mk false b [])) v ∧ Below w.heap.size w w' ∧ Fm v := by
  have l0 : Below w.heap.size w ((w.alloc (.cells #[.int .i64 3, .slice a1 n c1, .slice a2 n2 c2, .slice a3 n3 c3] 25)).alloc (.cells #[.bool false, .slice none 0 0, .slice none 0 0] 44)) := ((Below.refl _ _).alloc (Nat.le_refl _) _).alloc (by simp) _
  have hs1 : (w.alloc (.cells #[.int .i64 3, .slice a1 n c1, .slice a2 n2 c2, .slice a3 n3 c3] 25)).heap.size = w.heap.size + 1 := by simp
  have x0 : B3 (w.heap.size + 1) ((w.alloc (.cells #[.int .i64 3, .slice a1 n c1, .slice a2 n2 c2, .slice a3 n3 c3] 25)).alloc (.cells #[.bool false, .slice none 0 0, .slice none 0 0] 44)) := hs1 ▸ B3_new (w.alloc (.cells #[.int .i64 3, .slice a1 n c1, .slice a2 n2 c2, .slice a3 n3 c3] 25))
  have nb0 : NB (w.heap.size + 1) ((w.alloc (.cells #[.int .i64 3, .slice a1 n c1, .slice a2 n2 c2, .slice a3 n3 c3] 25)).alloc (.cells #[.bool false, .slice none 0 0, .slice none 0 0] 44)) := hs1 ▸ NB_new (w.alloc (.cells #[.int .i64 3, .slice a1 n c1, .slice a2 n2 c2, .slice a3 n3 c3] 25))
  have HA := heap_alloc_new w (.cells #[.int .i64 3, .slice a1 n c1, .slice a2 n2 c2, .slice a3 n3 c3] 25)
  have bB : Below (w.heap.size + 1) (w.alloc (.cells #[.int .i64 3, .slice a1 n c1, .slice a2 n2 c2, .slice a3 n3 c3] 25)) ((w.alloc (.cells #[.int .i64 3, .slice a1 n c1, .slice a2 n2 c2, .slice a3 n3 c3] 25)).alloc (.cells #[.bool false, .slice none 0 0, .slice none 0 0] 44)) := (Below.refl _ _).alloc (by omega) _
  have q0 : ((w.alloc (.cells #[.int .i64 3, .slice a1 n c1, .slice a2 n2 c2, .slice a3 n3 c3] 25)).alloc (.cells #[.bool false, .slice none 0 0, .slice none 0 0] 44)).cell? ⟨w.heap.size, 0, none⟩ = some (.int .i64 3) := (bB.cell (p := ⟨w.heap.size, 0, none⟩) (by show w.heap.size < _; omega)).trans (by simp only [World.cell?, HA]; rfl)
  have q1 : ((w.alloc (.cells #[.int .i64 3, .slice a1 n c1, .slice a2 n2 c2, .slice a3 n3 c3] 25)).alloc (.cells #[.bool false, .slice none 0 0, .slice none 0 0] 44)).cell? ⟨w.heap.size, 1, none⟩ = some (.slice a1 n c1) := (bB.cell (p := ⟨w.heap.size, 1, none⟩) (by show w.heap.size < _; omega)).trans (by simp only [World.cell?, HA]; rfl)
  have q2 : ((w.alloc (.cells #[.int .i64 3, .slice a1 n c1, .slice a2 n2 c2, .slice a3 n3 c3] 25)).alloc (.cells #[.bool false, .slice none 0 0, .slice none 0 0] 44)).cell? ⟨w.heap.size, 2, none⟩ = some (.slice a2 n2 c2) := (bB.cell (p := ⟨w.heap.size, 2, none⟩) (by show w.heap.size < _; omega)).trans (by simp only [World.cell?, HA]; rfl)
  have q3 : ((w.alloc (.cells #[.int .i64 3, .slice a1 n c1, .slice a2 n2 c2, .slice a3 n3 c3] 25)).alloc (.cells #[.bool false, .slice none 0 0, .slice none 0 0] 44)).cell? ⟨w.heap.size, 3, none⟩ = some (.slice a3 n3 c3) := (bB.cell (p := ⟨w.heap.size, 3, none⟩) (by show w.heap.size < _; omega)).trans (by simp only [World.cell?, HA]; rfl)
  have hsz : ((w.alloc (.cells #[.int .i64 3, .slice a1 n c1, .slice a2 n2 c2, .slice a3 n3 c3] 25)).alloc (.cells #[.bool false, .slice none 0 0, .slice none 0 0] 44)).heap.size = w.heap.size + 2 := by simp
  clear HA bB hs1
  go_enter Tryd.func26, Tryd.ntmps26
  go_upto_region 1 with fail
  generalize ((w.alloc (.cells #[.int .i64 3, .slice a1 n c1, .slice a2 n2 c2, .slice a3 n3 c3] 25)).alloc (.cells #[.bool false, .slice none 0 0, .slice none 0 0] 44)) = W0 at *
  obtain ⟨h, eh⟩ : ∃ h, h = w.heap.size := ⟨_, rfl⟩
  have EH : Hid (h = w.heap.size) := eh
  have L0 : Hid (Below w.heap.size w W0) := l0
  have X0 : Hid (B3 (h + 1) W0) := eh ▸ x0
  have NB0 : Hid (NB (h + 1) W0) := eh ▸ nb0
  have HSZ : Hid (W0.heap.size = h + 2) := by show _ = _; rw [eh]; exact hsz
  rw [← eh] at q0 q1 q2 q3 ⊢
  clear eh l0 x0 nb0 hsz
  have L00 := L0.out
  go_wp2_with fail
  refine (KF.out _ L00).mono (fun e w1 he => ?_)
  obtain ⟨a, m, c, rfl, hm, hl, b1⟩ := he
  have l1 : Below w.heap.size w w1 := L00.trans (b1.mono L00.size)
  have x1 : B3 (h + 1) w1 := B3_gb (r := none) X0.out (gb_below b1) nofun
  have n1 := NB_below NB0.out b1
  have KK : Hid _ := KO.out l a m c w1 hm (by rw [hm]; exact hz.out) hl
  clear b1 KF L00 hl hm q0 q1 q2 q3
  go_wp2_with fail
  refine Calls.mono KK.out (fun e w2 he => ?_)
  obtain ⟨v, rfl, iv, b2, lb, d1, m1, c1, d2, m2, c2, rfl⟩ := he
  have x5 : B3 (h + 1) w2 := B3_gb (r := none) x1 (gb_below b2) nofun
  have l5 : Below w.heap.size w w2 := l1.trans (b2.mono l1.size)
  have IV2 := iv _ n1
  clear iv b2 x1 l1 KK n1
  dsimp only [v3]
  go_wp2_with (refine wpList_st3b rfl rfl rfl rfl x5 ?_)
  intro w6 g6 b6 z0 z1 z2
  have l6 : Hid (Below w.heap.size w w6) := l5.trans ⟨g6.os, g6.tape, g6.output, g6.size, fun j hj => g6.block j (by have := l5.size; omega) (fun e => by injection e with e; have := EH.out; omega)⟩
  have IV6 : Hid (Iv (fun _ => True) w6 (.mk true [] (l.map fun b => .mk false b [])) (.bool lb, .slice d1 m1 c1, .slice d2 m2 c2)) := Iv_mono (Iv_gb IV2 g6 (fun k hk e => by injection e with e; exact hk e)) (fun _ _ _ => trivial)
  clear g6 b6 l5 x5
  go_wp2_with fail
  exact bodyPost_ret (resI _ _ _ (h + 1) 2 _ _ _ rfl rfl z0 z1 z2) rfl ⟨(.bool lb, .slice d1 m1 c1, .slice d2 m2 c2), rfl, IV6.out, l6.out, ⟨_, _, _, _, _, _, _, rfl⟩⟩
theorem ls_two {b c : List UInt8} {u v : Value} {W : World} {T : TypeId} (hb : Sl b u W) (hc : Sl c v W) : Ls [b, c] (.slice (some ⟨W.heap.size, 0, none⟩) 2 2) (W.alloc (.cells #[u, v] T)) := by
  have HA := heap_alloc_new W (.cells #[u, v] T)
  have bA : Below W.heap.size W (W.alloc (.cells #[u, v] T)) := (Below.refl _ _).alloc (Nat.le_refl _) _
  refine ⟨_, 2, rfl, fun _ => ⟨W.heap.size, 0, rfl, by simp, fun i hi => ?_⟩⟩
  have hi2 : i = 0 ∨ i = 1 := by simp at hi; omega
  rcases hi2 with rfl | rfl
  · exact ⟨u, by simp only [World.cell?, HA]; rfl, Sl_below hb bA⟩
  · exact ⟨v, by simp only [World.cell?, HA]; rfl, Sl_below hc bA⟩
set_option maxHeartbeats 4000000 in
set_option maxRecDepth 100000 in
theorem io_leaf (a1 a2 a3 : Option Addr) (n c1 n2 c2 n3 c3 : Nat) (w : World) (KO : Hid (∀ (l : List (List UInt8)) (a : Option Addr) (m c : Nat) (wx : World), m = l.length → m ≤ 1048576 → Ls l (.slice a m c) wx → Calls Tryd.prog 44 #[.slice a m c] wx fun e w' => ∃ v, e = .returned (v3 v) ∧ (∀ G, NB G wx → Iv (· ≠ G) w' (.mk true [] (l.map fun b => .mk false b [])) v) ∧ Below wx.heap.size wx w' ∧ Fm v)) (T u : List UInt8) (KN : Hid (∀ wx : World, Below w.heap.size w wx → Calls Tryd.prog 45 #[.slice a1 n c1, .bool true] wx fun e w' => ∃ v, e = .returned v ∧ Sl T v w' ∧ Below wx.heap.size wx w')) (hu : Hid (∀ W, Below w.heap.size w W → Sl u (.slice a2 n2 c2) W)) :
    Calls Tryd.prog 26 #[.agg #[.int .i64 1, .slice a1 n c1, .slice a2 n2 c2, .slice a3 n3 c3]] w fun e w' => ∃ v, e = .returned (v3 v) ∧ Iv (fun _ => True) w' (.mk true [] [.mk false T [], .mk false u []]) v ∧ Below w.heap.size w w' ∧ Fm v := by
  have l0 : Below w.heap.size w ((w.alloc (.cells #[.int .i64 1, .slice a1 n c1, .slice a2 n2 c2, .slice a3 n3 c3] 25)).alloc (.cells #[.bool false, .slice none 0 0, .slice none 0 0] 44)) := ((Below.refl _ _).alloc (Nat.le_refl _) _).alloc (by simp) _
  have hs1 : (w.alloc (.cells #[.int .i64 1, .slice a1 n c1, .slice a2 n2 c2, .slice a3 n3 c3] 25)).heap.size = w.heap.size + 1 := by simp
  have x0 : B3 (w.heap.size + 1) ((w.alloc (.cells #[.int .i64 1, .slice a1 n c1, .slice a2 n2 c2, .slice a3 n3 c3] 25)).alloc (.cells #[.bool false, .slice none 0 0, .slice none 0 0] 44)) := hs1 ▸ B3_new (w.alloc (.cells #[.int .i64 1, .slice a1 n c1, .slice a2 n2 c2, .slice a3 n3 c3] 25))
  have nb0 : NB (w.heap.size + 1) ((w.alloc (.cells #[.int .i64 1, .slice a1 n c1, .slice a2 n2 c2, .slice a3 n3 c3] 25)).alloc (.cells #[.bool false, .slice none 0 0, .slice none 0 0] 44)) := hs1 ▸ NB_new (w.alloc (.cells #[.int .i64 1, .slice a1 n c1, .slice a2 n2 c2, .slice a3 n3 c3] 25))
  have HA := heap_alloc_new w (.cells #[.int .i64 1, .slice a1 n c1, .slice a2 n2 c2, .slice a3 n3 c3] 25)
  have bB : Below (w.heap.size + 1) (w.alloc (.cells #[.int .i64 1, .slice a1 n c1, .slice a2 n2 c2, .slice a3 n3 c3] 25)) ((w.alloc (.cells #[.int .i64 1, .slice a1 n c1, .slice a2 n2 c2, .slice a3 n3 c3] 25)).alloc (.cells #[.bool false, .slice none 0 0, .slice none 0 0] 44)) := (Below.refl _ _).alloc (by omega) _
  have q0 : ((w.alloc (.cells #[.int .i64 1, .slice a1 n c1, .slice a2 n2 c2, .slice a3 n3 c3] 25)).alloc (.cells #[.bool false, .slice none 0 0, .slice none 0 0] 44)).cell? ⟨w.heap.size, 0, none⟩ = some (.int .i64 1) := (bB.cell (p := ⟨w.heap.size, 0, none⟩) (by show w.heap.size < _; omega)).trans (by simp only [World.cell?, HA]; rfl)
  have q1 : ((w.alloc (.cells #[.int .i64 1, .slice a1 n c1, .slice a2 n2 c2, .slice a3 n3 c3] 25)).alloc (.cells #[.bool false, .slice none 0 0, .slice none 0 0] 44)).cell? ⟨w.heap.size, 1, none⟩ = some (.slice a1 n c1) := (bB.cell (p := ⟨w.heap.size, 1, none⟩) (by show w.heap.size < _; omega)).trans (by simp only [World.cell?, HA]; rfl)
  have q2 : ((w.alloc (.cells #[.int .i64 1, .slice a1 n c1, .slice a2 n2 c2, .slice a3 n3 c3] 25)).alloc (.cells #[.bool false, .slice none 0 0, .slice none 0 0] 44)).cell? ⟨w.heap.size, 2, none⟩ = some (.slice a2 n2 c2) := (bB.cell (p := ⟨w.heap.size, 2, none⟩) (by show w.heap.size < _; omega)).trans (by simp only [World.cell?, HA]; rfl)
  have q3 : ((w.alloc (.cells #[.int .i64 1, .slice a1 n c1, .slice a2 n2 c2, .slice a3 n3 c3] 25)).alloc (.cells #[.bool false, .slice none 0 0, .slice none 0 0] 44)).cell? ⟨w.heap.size, 3, none⟩ = some (.slice a3 n3 c3) := (bB.cell (p := ⟨w.heap.size, 3, none⟩) (by show w.heap.size < _; omega)).trans (by simp only [World.cell?, HA]; rfl)
  have hsz : ((w.alloc (.cells #[.int .i64 1, .slice a1 n c1, .slice a2 n2 c2, .slice a3 n3 c3] 25)).alloc (.cells #[.bool false, .slice none 0 0, .slice none 0 0] 44)).heap.size = w.heap.size + 2 := by simp
  clear HA bB hs1
  go_enter Tryd.func26, Tryd.ntmps26
  go_upto_region 1 with fail
  generalize ((w.alloc (.cells #[.int .i64 1, .slice a1 n c1, .slice a2 n2 c2, .slice a3 n3 c3] 25)).alloc (.cells #[.bool false, .slice none 0 0, .slice none 0 0] 44)) = W0 at *
  obtain ⟨h, eh⟩ : ∃ h, h = w.heap.size := ⟨_, rfl⟩
  have EH : Hid (h = w.heap.size) := eh
  have L0 : Hid (Below w.heap.size w W0) := l0
  have X0 : Hid (B3 (h + 1) W0) := eh ▸ x0
  have NB0 : Hid (NB (h + 1) W0) := eh ▸ nb0
  have HSZ : Hid (W0.heap.size = h + 2) := by show _ = _; rw [eh]; exact hsz
  rw [← eh] at q0 q1 q2 q3 ⊢
  clear eh l0 x0 nb0 hsz
  have hL : RG.Lasts (fun wx => Below W0.heap.size W0 wx) (fun _ v wx => ∃ a m c, v = .slice a m c ∧ Sl T v wx) := ⟨fun _ _ h hb => h.trans (hb.mono h.size), fun _ _ _ _ h hb => by
    obtain ⟨a, m, c, h1, h2⟩ := h
    exact ⟨a, m, c, h1, Sl_below h2 hb⟩⟩
  have Q1 : Hid (W0.cell? ⟨h, 1, none⟩ = some (.slice a1 n c1)) := q1
  have Q2 : Hid (W0.cell? ⟨h, 2, none⟩ = some (.slice a2 n2 c2)) := q2
  have Q3 : Hid (W0.cell? ⟨h, 3, none⟩ = some (.slice a3 n3 c3)) := q3
  go_upto_region 3 with fail
  refine RG.wp_region_gen (fun wx => Below W0.heap.size W0 wx) (fun _ v wx => ∃ a m c, v = .slice a m c ∧ Sl T v wx) (fun _ _ => True) [0, 0, 1, 0, 0, 2, 2, 2] (by kernel_rfl) (by kernel_rfl) ((Below.refl _ _).drew) ?_
  dsimp only [List.toList_toArray]
  refine RG.go1 (v := ?_) (a' := ?_) hL (by decide) rfl ?_ ?_ ?_
  rotate_left 2
  · intro K wx hS hK
    go_simp
    exact hK _ (Below.refl _ _)
  · simp only [Act.put, List.setIfInBounds_toArray, List.set_cons_succ, List.set_cons_zero]
    rfl
  refine RG.go1 (v := ?_) (a' := ?_) hL (by decide) rfl ?_ ?_ ?_
  rotate_left 2
  · intro K wx hS hK
    have z1 := (hS.cell (p := ⟨h, 1, none⟩) (by have := HSZ.out; show h < _; omega)).trans Q1.out
    go_simp
    exact hK _ (Below.refl _ _)
  · simp only [Act.put, List.setIfInBounds_toArray, List.set_cons_succ, List.set_cons_zero]
    rfl
  refine RG.goN hL rfl ?_ ?_
  · intro K wx hS hK
    go_simp
    refine (KN.out _ (L0.out.trans (hS.mono L0.out.size))).mono (fun e w2 he => ?_)
    obtain ⟨v, rfl, h1, h2⟩ := he
    obtain ⟨at1, ct1, rfl⟩ := Sl_fm h1
    refine ⟨_, rfl, ?_⟩
    exact hK _ _ h2 ⟨_, _, _, rfl, h1⟩ (fun _ _ _ => ⟨trivial, trivial⟩)
  refine RG.go1 (v := ?_) (a' := ?_) hL (by decide) rfl ?_ ?_ ?_
  rotate_left 2
  · intro K wx hS hK
    go_simp
    exact hK _ (Below.refl _ _)
  · simp only [Act.put, List.setIfInBounds_toArray, List.set_cons_succ, List.set_cons_zero]
    rfl
  refine RG.go1 (v := ?_) (a' := ?_) hL (by decide) rfl ?_ ?_ ?_
  rotate_left 2
  · intro K wx hS hK
    have z2 := (hS.cell (p := ⟨h, 2, none⟩) (by have := HSZ.out; show h < _; omega)).trans Q2.out
    go_simp
    exact hK _ (Below.refl _ _)
  · simp only [Act.put, List.setIfInBounds_toArray, List.set_cons_succ, List.set_cons_zero]
    rfl
  refine RG.goT ?_
  refine RG.goT ?_
  refine RG.goT ?_
  refine RG.go_end ?_
  intro U w9 m9 y9 x9
  simp +decide (maxSteps := 1000000) only [RG.tl, RG.putN, if_true, if_false, Act.put, List.setIfInBounds_toArray, List.set_cons_succ, List.set_cons_zero, Nat.reduceAdd]
  obtain ⟨at1, tn, ct1, e1, h1⟩ := y9 2 rfl
  rw [e1] at h1 ⊢
  have l9 : Below w.heap.size w w9 := L0.out.trans (m9.mono L0.out.size)
  have x9' : B3 (h + 1) w9 := B3_gb (r := none) X0.out (gb_below m9) nofun
  have n9 := NB_below NB0.out m9
  have s2 : Sl u (.slice a2 n2 c2) w9 := hu.out _ l9
  have bA : Below w9.heap.size w9 (w9.alloc (.cells #[.slice at1 tn ct1, .slice a2 n2 c2] 22)) := (Below.refl _ _).alloc (Nat.le_refl _) _
  have lsA : Ls [T, u] (.slice (some ⟨w9.heap.size, 0, none⟩) 2 2) (w9.alloc (.cells #[.slice at1 tn ct1, .slice a2 n2 c2] 22)) := ls_two h1 s2
  have KK : Hid _ := KO.out [T, u] (some ⟨w9.heap.size, 0, none⟩) 2 2 _ rfl (by decide) lsA
  have nA := NB_below n9 bA
  have xA : B3 (h + 1) (w9.alloc (.cells #[.slice at1 tn ct1, .slice a2 n2 c2] 22)) := B3_gb (r := none) x9' (gb_below bA) nofun
  have lA : Below w.heap.size w (w9.alloc (.cells #[.slice at1 tn ct1, .slice a2 n2 c2] 22)) := l9.trans (bA.mono l9.size)
  clear x9 y9 l9 x9' m9 hL h1 s2 bA lsA n9 e1 Q1 Q2 Q3 KN
  go_wp2_with fail
  refine Calls.mono KK.out (fun e w2 he => ?_)
  obtain ⟨v, rfl, iv, b2, lb, d1, m1, c1, d2, m2, c2, rfl⟩ := he
  have x5 : B3 (h + 1) w2 := B3_gb (r := none) xA (gb_below b2) nofun
  have l5 : Below w.heap.size w w2 := lA.trans (b2.mono lA.size)
  have IV2 := iv _ nA
  clear iv b2 xA lA KK nA
  dsimp only [v3]
  go_wp2_with (refine wpList_st3b rfl rfl rfl rfl x5 ?_)
  intro w6 g6 b6 z0 z1 z2
  have l6 : Hid (Below w.heap.size w w6) := l5.trans ⟨g6.os, g6.tape, g6.output, g6.size, fun j hj => g6.block j (by have := l5.size; omega) (fun e => by injection e with e; have := EH.out; omega)⟩
  have IV6 : Hid (Iv (fun _ => True) w6 (.mk true [] [.mk false T [], .mk false u []]) (.bool lb, .slice d1 m1 c1, .slice d2 m2 c2)) := Iv_mono (Iv_gb IV2 g6 (fun k hk e => by injection e with e; exact hk e)) (fun _ _ _ => trivial)
  clear g6 b6 l5 x5
  go_wp2_with fail
  exact bodyPost_ret (resI _ _ _ (h + 1) 2 _ _ _ rfl rfl z0 z1 z2) rfl ⟨(.bool lb, .slice d1 m1 c1, .slice d2 m2 c2), rfl, IV6.out, l6.out, ⟨_, _, _, _, _, _, _, rfl⟩⟩
set_option maxHeartbeats 4000000 in
set_option maxRecDepth 100000 in
theorem io_road (a1 a2 a3 : Option Addr) (n c1 n2 c2 n3 c3 : Nat) (w : World) (KO : Hid (∀ (l : List (List UInt8)) (a : Option Addr) (m c : Nat) (wx : World), m = l.length → m ≤ 1048576 → Ls l (.slice a m c) wx → Calls Tryd.prog 44 #[.slice a m c] wx fun e w' => ∃ v, e = .returned (v3 v) ∧ (∀ G, NB G wx → Iv (· ≠ G) w' (.mk true [] (l.map fun b => .mk false b [])) v) ∧ Below wx.heap.size wx w' ∧ Fm v)) (T u : List UInt8) (KN : Hid (∀ wx : World, Below w.heap.size w wx → Calls Tryd.prog 45 #[.slice a1 n c1, .bool false] wx fun e w' => ∃ v, e = .returned v ∧ Sl T v w' ∧ Below wx.heap.size wx w')) (g off ci : Nat) (ai : Option Addr) (ha3 : Hid (a3 = some ⟨g, off, none⟩)) (h3 : Hid (n3 = 1)) (hc0 : Hid (g < w.heap.size ∧ w.cell? ⟨g, off, none⟩ = some (.slice ai 32 ci))) (hu : Hid (∀ W, Below w.heap.size w W → Sl u (.slice ai 32 ci) W)) :
    Calls Tryd.prog 26 #[.agg #[.int .i64 2, .slice a1 n c1, .slice a2 n2 c2, .slice a3 n3 c3]] w fun e w' => ∃ v, e = .returned (v3 v) ∧ Iv (fun _ => True) w' (.mk true [] [.mk false T [], .mk false u []]) v ∧ Below w.heap.size w w' ∧ Fm v := by
  have l0 : Below w.heap.size w ((w.alloc (.cells #[.int .i64 2, .slice a1 n c1, .slice a2 n2 c2, .slice a3 n3 c3] 25)).alloc (.cells #[.bool false, .slice none 0 0, .slice none 0 0] 44)) := ((Below.refl _ _).alloc (Nat.le_refl _) _).alloc (by simp) _
  have hs1 : (w.alloc (.cells #[.int .i64 2, .slice a1 n c1, .slice a2 n2 c2, .slice a3 n3 c3] 25)).heap.size = w.heap.size + 1 := by simp
  have x0 : B3 (w.heap.size + 1) ((w.alloc (.cells #[.int .i64 2, .slice a1 n c1, .slice a2 n2 c2, .slice a3 n3 c3] 25)).alloc (.cells #[.bool false, .slice none 0 0, .slice none 0 0] 44)) := hs1 ▸ B3_new (w.alloc (.cells #[.int .i64 2, .slice a1 n c1, .slice a2 n2 c2, .slice a3 n3 c3] 25))
  have nb0 : NB (w.heap.size + 1) ((w.alloc (.cells #[.int .i64 2, .slice a1 n c1, .slice a2 n2 c2, .slice a3 n3 c3] 25)).alloc (.cells #[.bool false, .slice none 0 0, .slice none 0 0] 44)) := hs1 ▸ NB_new (w.alloc (.cells #[.int .i64 2, .slice a1 n c1, .slice a2 n2 c2, .slice a3 n3 c3] 25))
  have HA := heap_alloc_new w (.cells #[.int .i64 2, .slice a1 n c1, .slice a2 n2 c2, .slice a3 n3 c3] 25)
  have bB : Below (w.heap.size + 1) (w.alloc (.cells #[.int .i64 2, .slice a1 n c1, .slice a2 n2 c2, .slice a3 n3 c3] 25)) ((w.alloc (.cells #[.int .i64 2, .slice a1 n c1, .slice a2 n2 c2, .slice a3 n3 c3] 25)).alloc (.cells #[.bool false, .slice none 0 0, .slice none 0 0] 44)) := (Below.refl _ _).alloc (by omega) _
  have q0 : ((w.alloc (.cells #[.int .i64 2, .slice a1 n c1, .slice a2 n2 c2, .slice a3 n3 c3] 25)).alloc (.cells #[.bool false, .slice none 0 0, .slice none 0 0] 44)).cell? ⟨w.heap.size, 0, none⟩ = some (.int .i64 2) := (bB.cell (p := ⟨w.heap.size, 0, none⟩) (by show w.heap.size < _; omega)).trans (by simp only [World.cell?, HA]; rfl)
  have q1 : ((w.alloc (.cells #[.int .i64 2, .slice a1 n c1, .slice a2 n2 c2, .slice a3 n3 c3] 25)).alloc (.cells #[.bool false, .slice none 0 0, .slice none 0 0] 44)).cell? ⟨w.heap.size, 1, none⟩ = some (.slice a1 n c1) := (bB.cell (p := ⟨w.heap.size, 1, none⟩) (by show w.heap.size < _; omega)).trans (by simp only [World.cell?, HA]; rfl)
  have q2 : ((w.alloc (.cells #[.int .i64 2, .slice a1 n c1, .slice a2 n2 c2, .slice a3 n3 c3] 25)).alloc (.cells #[.bool false, .slice none 0 0, .slice none 0 0] 44)).cell? ⟨w.heap.size, 2, none⟩ = some (.slice a2 n2 c2) := (bB.cell (p := ⟨w.heap.size, 2, none⟩) (by show w.heap.size < _; omega)).trans (by simp only [World.cell?, HA]; rfl)
  have q3 : ((w.alloc (.cells #[.int .i64 2, .slice a1 n c1, .slice a2 n2 c2, .slice a3 n3 c3] 25)).alloc (.cells #[.bool false, .slice none 0 0, .slice none 0 0] 44)).cell? ⟨w.heap.size, 3, none⟩ = some (.slice a3 n3 c3) := (bB.cell (p := ⟨w.heap.size, 3, none⟩) (by show w.heap.size < _; omega)).trans (by simp only [World.cell?, HA]; rfl)
  have hsz : ((w.alloc (.cells #[.int .i64 2, .slice a1 n c1, .slice a2 n2 c2, .slice a3 n3 c3] 25)).alloc (.cells #[.bool false, .slice none 0 0, .slice none 0 0] 44)).heap.size = w.heap.size + 2 := by simp
  clear HA bB hs1
  go_enter Tryd.func26, Tryd.ntmps26
  go_upto_region 1 with fail
  generalize ((w.alloc (.cells #[.int .i64 2, .slice a1 n c1, .slice a2 n2 c2, .slice a3 n3 c3] 25)).alloc (.cells #[.bool false, .slice none 0 0, .slice none 0 0] 44)) = W0 at *
  obtain ⟨h, eh⟩ : ∃ h, h = w.heap.size := ⟨_, rfl⟩
  have EH : Hid (h = w.heap.size) := eh
  have L0 : Hid (Below w.heap.size w W0) := l0
  have X0 : Hid (B3 (h + 1) W0) := eh ▸ x0
  have NB0 : Hid (NB (h + 1) W0) := eh ▸ nb0
  have HSZ : Hid (W0.heap.size = h + 2) := by show _ = _; rw [eh]; exact hsz
  rw [← eh] at q0 q1 q2 q3 ⊢
  clear eh l0 x0 nb0 hsz
  obtain rfl := h3.out
  obtain rfl := ha3.out
  have C0 : Hid (g < W0.heap.size ∧ W0.cell? ⟨g, off, none⟩ = some (.slice ai 32 ci)) := ⟨Nat.lt_of_lt_of_le hc0.out.1 L0.out.size, (L0.out.cell (p := ⟨g, off, none⟩) hc0.out.1).trans hc0.out.2⟩
  have hL : RG.Lasts (fun wx => Below W0.heap.size W0 wx) (fun _ v wx => ∃ a m c, v = .slice a m c ∧ Sl T v wx) := ⟨fun _ _ h hb => h.trans (hb.mono h.size), fun _ _ _ _ h hb => by
    obtain ⟨a, m, c, h1, h2⟩ := h
    exact ⟨a, m, c, h1, Sl_below h2 hb⟩⟩
  have Q1 : Hid (W0.cell? ⟨h, 1, none⟩ = some (.slice a1 n c1)) := q1
  have Q2 : Hid (W0.cell? ⟨h, 2, none⟩ = some (.slice a2 n2 c2)) := q2
  have Q3 : Hid (W0.cell? ⟨h, 3, none⟩ = some (.slice (some ⟨g, off, none⟩) 1 c3)) := q3
  go_upto_region 5 with fail
  refine RG.wp_region_gen (fun wx => Below W0.heap.size W0 wx) (fun _ v wx => ∃ a m c, v = .slice a m c ∧ Sl T v wx) (fun _ _ => True) [0, 0, 1, 0, 0, 0, 0, 2, 2, 2] (by kernel_rfl) (by kernel_rfl) ((Below.refl _ _).drew) ?_
  dsimp only [List.toList_toArray]
  refine RG.go1 (v := ?_) (a' := ?_) hL (by decide) rfl ?_ ?_ ?_
  rotate_left 2
  · intro K wx hS hK
    go_simp
    exact hK _ (Below.refl _ _)
  · simp only [Act.put, List.setIfInBounds_toArray, List.set_cons_succ, List.set_cons_zero]
    rfl
  refine RG.go1 (v := ?_) (a' := ?_) hL (by decide) rfl ?_ ?_ ?_
  rotate_left 2
  · intro K wx hS hK
    have z1 := (hS.cell (p := ⟨h, 1, none⟩) (by have := HSZ.out; show h < _; omega)).trans Q1.out
    go_simp
    exact hK _ (Below.refl _ _)
  · simp only [Act.put, List.setIfInBounds_toArray, List.set_cons_succ, List.set_cons_zero]
    rfl
  refine RG.goN hL rfl ?_ ?_
  · intro K wx hS hK
    go_simp
    refine (KN.out _ (L0.out.trans (hS.mono L0.out.size))).mono (fun e w2 he => ?_)
    obtain ⟨v, rfl, h1, h2⟩ := he
    obtain ⟨at1, ct1, rfl⟩ := Sl_fm h1
    refine ⟨_, rfl, ?_⟩
    exact hK _ _ h2 ⟨_, _, _, rfl, h1⟩ (fun _ _ _ => ⟨trivial, trivial⟩)
  refine RG.go1 (v := ?_) (a' := ?_) hL (by decide) rfl ?_ ?_ ?_
  rotate_left 2
  · intro K wx hS hK
    go_simp
    exact hK _ (Below.refl _ _)
  · simp only [Act.put, List.setIfInBounds_toArray, List.set_cons_succ, List.set_cons_zero]
    rfl
  refine RG.go1 (v := ?_) (a' := ?_) hL (by decide) rfl ?_ ?_ ?_
  rotate_left 2
  · intro K wx hS hK
    have z3 := (hS.cell (p := ⟨h, 3, none⟩) (by have := HSZ.out; show h < _; omega)).trans Q3.out
    go_simp
    exact hK _ (Below.refl _ _)
  · simp only [Act.put, List.setIfInBounds_toArray, List.set_cons_succ, List.set_cons_zero]
    rfl
  refine RG.go1 (v := ?_) (a' := ?_) hL (by decide) rfl ?_ ?_ ?_
  rotate_left 2
  · intro K wx hS hK
    go_simp
    exact hK _ (Below.refl _ _)
  · simp only [Act.put, List.setIfInBounds_toArray, List.set_cons_succ, List.set_cons_zero]
    rfl
  refine RG.go1 (v := ?_) (a' := ?_) hL (by decide) rfl ?_ ?_ ?_
  rotate_left 2
  · intro K wx hS hK
    have z6 := (hS.cell (p := ⟨g, off, none⟩) C0.out.1).trans C0.out.2
    go_simp
    exact hK _ (Below.refl _ _)
  · simp only [Act.put, List.setIfInBounds_toArray, List.set_cons_succ, List.set_cons_zero]
    rfl
  refine RG.goT ?_
  refine RG.goT ?_
  refine RG.goT ?_
  refine RG.go_end ?_
  intro U w9 m9 y9 x9
  simp +decide (maxSteps := 1000000) only [RG.tl, RG.putN, if_true, if_false, Act.put, List.setIfInBounds_toArray, List.set_cons_succ, List.set_cons_zero, Nat.reduceAdd]
  obtain ⟨at1, tn, ct1, e1, h1⟩ := y9 2 rfl
  rw [e1] at h1 ⊢
  have l9 : Below w.heap.size w w9 := L0.out.trans (m9.mono L0.out.size)
  have x9' : B3 (h + 1) w9 := B3_gb (r := none) X0.out (gb_below m9) nofun
  have n9 := NB_below NB0.out m9
  have s2 : Sl u (.slice ai 32 ci) w9 := hu.out _ l9
  have bA : Below w9.heap.size w9 (w9.alloc (.cells #[.slice at1 tn ct1, .slice ai 32 ci] 22)) := (Below.refl _ _).alloc (Nat.le_refl _) _
  have lsA : Ls [T, u] (.slice (some ⟨w9.heap.size, 0, none⟩) 2 2) (w9.alloc (.cells #[.slice at1 tn ct1, .slice ai 32 ci] 22)) := ls_two h1 s2
  have KK : Hid _ := KO.out [T, u] (some ⟨w9.heap.size, 0, none⟩) 2 2 _ rfl (by decide) lsA
  have nA := NB_below n9 bA
  have xA : B3 (h + 1) (w9.alloc (.cells #[.slice at1 tn ct1, .slice ai 32 ci] 22)) := B3_gb (r := none) x9' (gb_below bA) nofun
  have lA : Below w.heap.size w (w9.alloc (.cells #[.slice at1 tn ct1, .slice ai 32 ci] 22)) := l9.trans (bA.mono l9.size)
  clear x9 y9 l9 x9' m9 hL h1 s2 bA lsA n9 e1 Q1 Q2 Q3 KN
  go_wp2_with fail
  refine Calls.mono KK.out (fun e w2 he => ?_)
  obtain ⟨v, rfl, iv, b2, lb, d1, m1, c1, d2, m2, c2, rfl⟩ := he
  have x5 : B3 (h + 1) w2 := B3_gb (r := none) xA (gb_below b2) nofun
  have l5 : Below w.heap.size w w2 := lA.trans (b2.mono lA.size)
  have IV2 := iv _ nA
  clear iv b2 xA lA KK nA
  dsimp only [v3]
  go_wp2_with (refine wpList_st3b rfl rfl rfl rfl x5 ?_)
  intro w6 g6 b6 z0 z1 z2
  have l6 : Hid (Below w.heap.size w w6) := l5.trans ⟨g6.os, g6.tape, g6.output, g6.size, fun j hj => g6.block j (by have := l5.size; omega) (fun e => by injection e with e; have := EH.out; omega)⟩
  have IV6 : Hid (Iv (fun _ => True) w6 (.mk true [] [.mk false T [], .mk false u []]) (.bool lb, .slice d1 m1 c1, .slice d2 m2 c2)) := Iv_mono (Iv_gb IV2 g6 (fun k hk e => by injection e with e; exact hk e)) (fun _ _ _ => trivial)
  clear g6 b6 l5 x5
  go_wp2_with fail
  exact bodyPost_ret (resI _ _ _ (h + 1) 2 _ _ _ rfl rfl z0 z1 z2) rfl ⟨(.bool lb, .slice d1 m1 c1, .slice d2 m2 c2), rfl, IV6.out, l6.out, ⟨_, _, _, _, _, _, _, rfl⟩⟩
theorem itemof_any (s : Shp) (x : V4) (w : World) (h : Sh s x w) (hs : isS s = true) (hp : s.2.1.length ≤ 1048576) :
    Calls Tryd.prog 26 #[v4 x] w fun e w' => ∃ v, e = .returned (v3 v) ∧ Iv (fun _ => True) w' (itS s) v ∧ Below w.heap.size w w' ∧ Fm v := by
  obtain ⟨a1, c1, a2, c2, a3, c3, rfl⟩ := Sh_form h
  obtain ⟨kk, p, v, ks⟩ := s
  dsimp only at hp
  have KO : Hid (∀ (l : List (List UInt8)) (a : Option Addr) (m c : Nat) (wx : World), m = l.length → m ≤ 1048576 → Ls l (.slice a m c) wx → Calls Tryd.prog 44 #[.slice a m c] wx fun e w' => ∃ v, e = .returned (v3 v) ∧ (∀ G, NB G wx → Iv (· ≠ G) w' (.mk true [] (l.map fun b => .mk false b [])) v) ∧ Below wx.heap.size wx w' ∧ Fm v) := fun l a m c wx h1 h2 h3 => listof_any l a m c wx h1 h2 h3
  have KN : ∀ leaf, Hid (∀ wx : World, Below w.heap.size w wx → Calls Tryd.prog 45 #[.slice a1 p.length c1, .bool leaf] wx fun e w' => ∃ v, e = .returned v ∧ Sl (jl (tg p leaf)) v w' ∧ Below wx.heap.size wx w') := fun leaf wx hb => by
    obtain ⟨ao, cap, e, hc, hv⟩ := (Sh_below h hb).2.1
    injection e with e1 _ e3
    exact tagged_any p leaf a1 c1 wx (by show _ ≤ _; omega) (by rw [e3]; exact hc) (by rw [e1]; exact hv)
  have hu : Hid (∀ W, Below w.heap.size w W → Sl v (.slice a2 v.length c2) W) := fun W hb => (Sh_below h hb).2.2.1
  by_cases k0 : kk = 0
  · subst k0
    exact io_none a1 a2 a3 _ c1 _ c2 _ c3 w
  by_cases k1 : kk = 1
  · subst k1
    exact io_leaf a1 a2 a3 _ c1 _ c2 _ c3 w KO (jl (tg p true)) v (KN true) hu
  by_cases k2 : kk = 2
  · subst k2
    have e0 : isS (2, p, v, ks) = (decide (0 < p.length) && (pb p && (decide (ks.length = 1) && decide ((ks.getD 0 []).length = 32)))) := rfl
    rw [e0] at hs
    simp only [Bool.and_eq_true, decide_eq_true_iff] at hs
    obtain ⟨_, _, h3, hm⟩ := hs
    obtain ⟨ao, cap, e2, hL⟩ := h.2.2.2
    dsimp only at e2 hL
    obtain ⟨g, off, rfl, hg, hc⟩ := hL (by omega)
    obtain ⟨vi, q1, q2⟩ := hc 0 (by omega)
    obtain ⟨ai, ci, rfl⟩ := Sl_fm q2
    injection e2 with e3 _ _
    rw [hm] at q1 q2
    exact io_road a1 a2 a3 _ c1 _ c2 _ c3 w KO (jl (tg p false)) (ks.getD 0 []) (KN false) g off ci ai e3 h3 ⟨hg, q1⟩ (fun W hb => Sl_below q2 hb)
  by_cases k3 : kk = 3
  · subst k3
    have e0 : isS (3, p, v, ks) = (decide (ks.length = 16) && (decide (v.length ≤ 1024) && (ks.all sm && decide (2 ≤ np (ks ++ [v]))))) := rfl
    rw [e0] at hs
    simp only [Bool.and_eq_true, decide_eq_true_iff] at hs
    exact io_fork a1 a2 a3 _ c1 _ c2 _ c3 w KO (ks ++ [v]) (by show _ ≤ _; rw [List.length_append, hs.1, List.length_singleton]; decide) (fun wx hb => fork_any (3, p, v, ks) (.int .i64 3, .slice a1 p.length c1, .slice a2 v.length c2, .slice a3 ks.length c3) wx (Sh_below h hb) (by show ks.length ≤ _; omega))
  · exfalso
    have e : isS (kk, p, v, ks) = false := by unfold isS; simp [k0, k1, k2, k3]
    rw [e] at hs
    cases hs
set_option maxHeartbeats 1000000 in
set_option maxRecDepth 100000 in
theorem write_walk (kk : Int) (a1 a2 a3 : Option Addr) (n1 c1 n2 c2 n3 c3 : Nat) (w : World) (t : It) (ht : Hid ((enc t).length ≤ 1048576))
    (KI : Hid (∀ wx : World, Below w.heap.size w wx → Calls Tryd.prog 26 #[.agg #[.int .i64 kk, .slice a1 n1 c1, .slice a2 n2 c2, .slice a3 n3 c3]] wx fun e w' => ∃ v, e = .returned (v3 v) ∧ Iv (fun _ => True) w' t v ∧ Below wx.heap.size wx w' ∧ Fm v)) :
    Calls Tryd.prog 13 #[.agg #[.int .i64 kk, .slice a1 n1 c1, .slice a2 n2 c2, .slice a3 n3 c3]] w fun e w' => ∃ v, e = .returned v ∧ Ty (w.heap.size ≤ ·) (enc t) v w' ∧ Cp v ∧ Below w.heap.size w w' := by
  have HB : Hid (Below w.heap.size w (w.alloc (.cells #[.int .i64 kk, .slice a1 n1 c1, .slice a2 n2 c2, .slice a3 n3 c3] 25))) := (Below.refl _ _).alloc (Nat.le_refl _) _
  go_enter Tryd.func13, Tryd.ntmps13
  go_wp2_with fail
  refine (KI.out _ HB.out).mono ?_
  rintro e w1 ⟨v, rfl, hiv, hb, l, b1, m1, d1, b2, m2, d2, rfl⟩
  have HL1 : Below w.heap.size w w1 := HB.out.trans (hb.mono HB.out.size)
  have KE : Hid (Calls Tryd.prog 25 #[.agg #[.bool l, .slice b1 m1 d1, .slice b2 m2 d2]] w1 fun e w' => ∃ v, e = .returned v ∧ Ty (w.heap.size ≤ ·) (enc t) v w' ∧ Cp v ∧ Below w.heap.size w w') :=
    (encode_cp t (fun _ => True) (.bool l, .slice b1 m1 d1, .slice b2 m2 d2) w1 hiv ht.out).mono fun e w' he => by
      obtain ⟨v, h1, h2, h3, h4⟩ := he
      exact ⟨v, h1, Ty_mono h2 (fun k hk _ => Nat.le_trans HL1.size hk), h3, HL1.trans (h4.mono HL1.size)⟩
  clear hiv hb KI HB HL1
  dsimp only [v3]
  go_wp2_with fail
  refine KE.out.mono ?_
  rintro e w3 ⟨v, rfl, h2, h3, h4⟩
  have HZ : Hid (Ty (w.heap.size ≤ ·) (enc t) v w3 ∧ Cp v ∧ Below w.heap.size w w3) := ⟨h2, h3, h4⟩
  clear h2 h3 h4 KE
  go_wp2_with fail
  go_ret
  exact ⟨_, rfl, HZ.out⟩
theorem write_any (s : Shp) (x : V4) (w : World) (h : Sh s x w) (hs : isS s = true) (hp : s.2.1.length ≤ 1048576) :
    Calls Tryd.prog 13 #[v4 x] w fun e w' => ∃ v, e = .returned v ∧ Ty (w.heap.size ≤ ·) (enc (itS s)) v w' ∧ Cp v ∧ Below w.heap.size w w' := by
  obtain ⟨a1, c1, a2, c2, a3, c3, e⟩ := Sh_form h
  have KI := fun (wx : World) (hb : Below w.heap.size w wx) => itemof_any s x wx (Sh_below h hb) hs hp
  subst e
  exact write_walk s.1 a1 a2 a3 _ c1 _ c2 _ c3 w (itS s) (encS_len s hs hp) KI
set_option maxHeartbeats 1000000 in
set_option maxRecDepth 100000 in
theorem code_walk (kk : Int) (a1 a2 a3 : Option Addr) (n1 c1 n2 c2 n3 c3 : Nat) (w : World) (R : Bool) (t : It)
    (KI : Hid (∀ wx : World, Below w.heap.size w wx → Calls Tryd.prog 12 #[.agg #[.int .i64 kk, .slice a1 n1 c1, .slice a2 n2 c2, .slice a3 n3 c3]] wx fun e w' => e = .returned (.bool R) ∧ Below wx.heap.size wx w'))
    (KW : Hid (∀ wx : World, R = true → Below w.heap.size w wx → Calls Tryd.prog 13 #[.agg #[.int .i64 kk, .slice a1 n1 c1, .slice a2 n2 c2, .slice a3 n3 c3]] wx fun e w' => ∃ v, e = .returned v ∧ Ty (wx.heap.size ≤ ·) (enc t) v w' ∧ Cp v ∧ Below wx.heap.size wx w')) :
    Calls Tryd.prog 5 #[.agg #[.int .i64 kk, .slice a1 n1 c1, .slice a2 n2 c2, .slice a3 n3 c3]] w fun e w' => ∃ v, e = .returned (.tuple #[v, .int .i64 (if R then 0 else 1)]) ∧ Sl (if R then enc t else []) v w' ∧ Below w.heap.size w w' := by
  have HB : Hid (Below w.heap.size w (w.alloc (.cells #[.int .i64 kk, .slice a1 n1 c1, .slice a2 n2 c2, .slice a3 n3 c3] 25))) := (Below.refl _ _).alloc (Nat.le_refl _) _
  have HA := heap_alloc_new w (.cells #[.int .i64 kk, .slice a1 n1 c1, .slice a2 n2 c2, .slice a3 n3 c3] 25)
  have hsz : (w.alloc (.cells #[.int .i64 kk, .slice a1 n1 c1, .slice a2 n2 c2, .slice a3 n3 c3] 25)).heap.size = w.heap.size + 1 := by simp
  have p0 : (w.alloc (.cells #[.int .i64 kk, .slice a1 n1 c1, .slice a2 n2 c2, .slice a3 n3 c3] 25)).cell? ⟨w.heap.size, 0, none⟩ = some (.int .i64 kk) := by simp only [World.cell?, HA]; rfl
  have p1 : (w.alloc (.cells #[.int .i64 kk, .slice a1 n1 c1, .slice a2 n2 c2, .slice a3 n3 c3] 25)).cell? ⟨w.heap.size, 1, none⟩ = some (.slice a1 n1 c1) := by simp only [World.cell?, HA]; rfl
  have p2 : (w.alloc (.cells #[.int .i64 kk, .slice a1 n1 c1, .slice a2 n2 c2, .slice a3 n3 c3] 25)).cell? ⟨w.heap.size, 2, none⟩ = some (.slice a2 n2 c2) := by simp only [World.cell?, HA]; rfl
  have p3 : (w.alloc (.cells #[.int .i64 kk, .slice a1 n1 c1, .slice a2 n2 c2, .slice a3 n3 c3] 25)).cell? ⟨w.heap.size, 3, none⟩ = some (.slice a3 n3 c3) := by simp only [World.cell?, HA]; rfl
  clear HA
  go_enter Tryd.func5, Tryd.ntmps5
  go_upto_region 1 with fail
  generalize w.alloc (.cells #[.int .i64 kk, .slice a1 n1 c1, .slice a2 n2 c2, .slice a3 n3 c3] 25) = W0 at *
  go_wp2_with fail
  refine (KI.out _ HB.out).mono ?_
  rintro e w1 ⟨rfl, hb⟩
  have HL1 : Hid (Below w.heap.size w w1) := HB.out.trans (hb.mono HB.out.size)
  have r0 := (hb.cell (p := ⟨w.heap.size, 0, none⟩) (by show w.heap.size < _; omega)).trans p0
  have r1 := (hb.cell (p := ⟨w.heap.size, 1, none⟩) (by show w.heap.size < _; omega)).trans p1
  have r2 := (hb.cell (p := ⟨w.heap.size, 2, none⟩) (by show w.heap.size < _; omega)).trans p2
  have r3 := (hb.cell (p := ⟨w.heap.size, 3, none⟩) (by show w.heap.size < _; omega)).trans p3
  clear hb KI HB p0 p1 p2 p3 hsz
  cases R with
  | false =>
    go_wp2_with fail
    go_ret2
    exact ⟨_, rfl, Sl_nil _, HL1.out⟩
  | true =>
    have KW2 : Hid _ := KW.out w1 rfl HL1.out
    clear KW
    go_wp2_with fail
    refine Calls.mono KW2.out ?_
    rintro e w3 ⟨v, rfl, h2, h3, h4⟩
    have HZ : Hid (Sl (enc t) v w3 ∧ Below w.heap.size w w3) := ⟨Ty_sl h2, HL1.out.trans (h4.mono HL1.out.size)⟩
    clear h2 h3 h4 KW2
    go_wp2_with fail
    go_ret2
    exact ⟨_, rfl, HZ.out.1, HZ.out.2⟩
theorem code_any (s : Shp) (x : V4) (w : World) (h : Sh s x w) (hp : s.2.1.length ≤ 1048576) (hz : s.2.2.2.length ≤ 1048575) :
    Calls Tryd.prog 5 #[v4 x] w fun e w' => ∃ v, e = .returned (.tuple #[v, .int .i64 (he s)]) ∧ Sl (hc s) v w' ∧ Below w.heap.size w w' := by
  obtain ⟨a1, c1, a2, c2, a3, c3, e⟩ := Sh_form h
  have KI := fun (wx : World) (hb : Below w.heap.size w wx) => isshape_any s x wx (Sh_below h hb) hp hz
  have KW := fun (wx : World) (hs : isS s = true) (hb : Below w.heap.size w wx) => write_any s x wx (Sh_below h hb) hs hp
  subst e
  exact code_walk s.1 a1 a2 a3 _ c1 _ c2 _ c3 w (isS s) (itS s) KI KW
end Rs
end Go.Proofs.YtcgimjlmihaegaaDoor
/- The law RootCodes. -/
namespace Go.Proofs.YtcgimjlmihaegaaDoor
namespace Rs
open Nb Sp Pk Go.RowKit
set_option maxHeartbeats 1000000 in
set_option maxRecDepth 100000 in
theorem rcodes_walk (kk : Int) (a1 a2 a3 : Option Addr) (n1 c1 n2 c2 n3 c3 : Nat) (w : World) (z : Int) (b : List UInt8)
    (KC : Hid (∀ wx : World, Below w.heap.size w wx → Calls Tryd.prog 5 #[.agg #[.int .i64 kk, .slice a1 n1 c1, .slice a2 n2 c2, .slice a3 n3 c3]] wx fun e w' => ∃ v, e = .returned (.tuple #[v, .int .i64 z]) ∧ Sl b v w' ∧ Below wx.heap.size wx w'))
    (KH : Hid (∀ wx : World, Below w.heap.size w wx → Calls Tryd.prog 6 #[.agg #[.int .i64 kk, .slice a1 n1 c1, .slice a2 n2 c2, .slice a3 n3 c3]] wx fun e w' => ∃ v, e = .returned (.tuple #[v, .int .i64 z]) ∧ Sl b v w' ∧ Below wx.heap.size wx w')) :
    Calls Tryd.prog 3 #[.agg #[.int .i64 kk, .slice a1 n1 c1, .slice a2 n2 c2, .slice a3 n3 c3]] w fun e w' => e = .returned (.bool true) ∧ Below w.heap.size w w' := by
  have HB : Hid (Below w.heap.size w (w.alloc (.cells #[.int .i64 kk, .slice a1 n1 c1, .slice a2 n2 c2, .slice a3 n3 c3] 25))) := (Below.refl _ _).alloc (Nat.le_refl _) _
  have HA := heap_alloc_new w (.cells #[.int .i64 kk, .slice a1 n1 c1, .slice a2 n2 c2, .slice a3 n3 c3] 25)
  have hsz : (w.alloc (.cells #[.int .i64 kk, .slice a1 n1 c1, .slice a2 n2 c2, .slice a3 n3 c3] 25)).heap.size = w.heap.size + 1 := by simp
  have p0 : (w.alloc (.cells #[.int .i64 kk, .slice a1 n1 c1, .slice a2 n2 c2, .slice a3 n3 c3] 25)).cell? ⟨w.heap.size, 0, none⟩ = some (.int .i64 kk) := by simp only [World.cell?, HA]; rfl
  have p1 : (w.alloc (.cells #[.int .i64 kk, .slice a1 n1 c1, .slice a2 n2 c2, .slice a3 n3 c3] 25)).cell? ⟨w.heap.size, 1, none⟩ = some (.slice a1 n1 c1) := by simp only [World.cell?, HA]; rfl
  have p2 : (w.alloc (.cells #[.int .i64 kk, .slice a1 n1 c1, .slice a2 n2 c2, .slice a3 n3 c3] 25)).cell? ⟨w.heap.size, 2, none⟩ = some (.slice a2 n2 c2) := by simp only [World.cell?, HA]; rfl
  have p3 : (w.alloc (.cells #[.int .i64 kk, .slice a1 n1 c1, .slice a2 n2 c2, .slice a3 n3 c3] 25)).cell? ⟨w.heap.size, 3, none⟩ = some (.slice a3 n3 c3) := by simp only [World.cell?, HA]; rfl
  clear HA
  go_enter Tryd.func3, Tryd.ntmps3
  go_upto_region 1 with fail
  generalize w.alloc (.cells #[.int .i64 kk, .slice a1 n1 c1, .slice a2 n2 c2, .slice a3 n3 c3] 25) = W0 at *
  go_wp2_with fail
  refine (KC.out _ HB.out).mono ?_
  rintro e w1 ⟨v, rfl, s1, hb⟩
  obtain ⟨x1, y1, rfl⟩ := Sl_fm s1
  have HL1 : Hid (Below w.heap.size w w1) := HB.out.trans (hb.mono HB.out.size)
  have HS1 : Hid (Sl b (.slice x1 b.length y1) w1) := s1
  have r0 := (hb.cell (p := ⟨w.heap.size, 0, none⟩) (by show w.heap.size < _; omega)).trans p0
  have r1 := (hb.cell (p := ⟨w.heap.size, 1, none⟩) (by show w.heap.size < _; omega)).trans p1
  have r2 := (hb.cell (p := ⟨w.heap.size, 2, none⟩) (by show w.heap.size < _; omega)).trans p2
  have r3 := (hb.cell (p := ⟨w.heap.size, 3, none⟩) (by show w.heap.size < _; omega)).trans p3
  clear hb KC HB p0 p1 p2 p3 hsz s1
  go_wp2_with fail
  refine (KH.out _ HL1.out).mono ?_
  rintro e w2 ⟨v, rfl, s2, hb⟩
  obtain ⟨x2, y2, rfl⟩ := Sl_fm s2
  have HL2 : Hid (Below w.heap.size w w2) := HL1.out.trans (hb.mono HL1.out.size)
  have k1 := Sl_bst (Sl_below HS1.out hb)
  have k2 := Sl_bst s2
  have kz : (z == z) = true := beq_self_eq_true z
  have ks : ((bst b).toList == (bst b).toList) = true := beq_self_eq_true _
  clear hb KH HL1 r0 r1 r2 r3 HS1 s2
  generalize b.length = m at *
  generalize bst b = X at *
  go_wp2_with fail
  go_ret
  exact ⟨rfl, HL2.out⟩
theorem law_codes (s : Shp) (x : V4) (w : World) (h : Sh s x w) (hp : s.2.1.length ≤ 1048576) (hz : s.2.2.2.length ≤ 1048575) :
    Calls Tryd.prog 3 #[v4 x] w fun e w' => e = .returned (.bool true) ∧ Below w.heap.size w w' := by
  obtain ⟨a1, c1, a2, c2, a3, c3, e⟩ := Sh_form h
  have KC := fun (wx : World) (hb : Below w.heap.size w wx) => code_any s x wx (Sh_below h hb) hp hz
  have KH := fun (wx : World) (hb : Below w.heap.size w wx) => hcode_any s x wx (Sh_below h hb) hp
  subst e
  exact rcodes_walk s.1 a1 a2 a3 _ c1 _ c2 _ c3 w (he s) (hc s) KC KH
end Rs
end Go.Proofs.YtcgimjlmihaegaaDoor
/- What every card of this seat wants: a world that holds the two tables; the bound's readings. -/
namespace Go.Proofs.YtcgimjlmihaegaaDoor
namespace Cd
open Go.ChangeShapes Go.WideShapes Go.ChangeAt Go.RowKit
theorem own : ownKnob Tryd.prog.godebug = none := by kernel_rfl
theorem laidOut : laidOutB Tryd.prog = true := by kernel_rfl
def lay0 : Obj → Obj
  | .cells _ t frozen => .cells (Go.Pinned.utf8FirstZ.map fun n => .int .u8 (n : Int)).toArray t frozen
  | o => o
def lay1 : Obj → Obj
  | .cells _ t frozen => .cells #[.int .u8 128, .int .u8 191, .int .u8 160, .int .u8 191, .int .u8 128, .int .u8 159, .int .u8 144, .int .u8 191, .int .u8 128, .int .u8 143, .int .u8 0, .int .u8 0, .int .u8 0, .int .u8 0, .int .u8 0, .int .u8 0, .int .u8 0, .int .u8 0, .int .u8 0, .int .u8 0, .int .u8 0, .int .u8 0, .int .u8 0, .int .u8 0, .int .u8 0, .int .u8 0, .int .u8 0, .int .u8 0, .int .u8 0, .int .u8 0, .int .u8 0, .int .u8 0] t frozen
  | o => o
noncomputable def laidWorld (os : Os) : World :=
  { World.holding Tryd.prog os ⟨#[], #[], []⟩ with heap := ((World.holding Tryd.prog os ⟨#[], #[], []⟩).heap.modify 0 lay0).modify 1 lay1 }
theorem blk_one {H : Type} (d : DataW H) : 1 ≤ Rows.uptoBulk d := by
  unfold Rows.uptoBulk
  split <;> omega
theorem blk_len {H : Type} : ∀ l : List (DataW H), l.length ≤ Rows.uptoBulkAll l
  | [] => Nat.zero_le _
  | d :: r => by
    have h1 := blk_one d
    have h2 := blk_len r
    rw [Rows.uptoBulkAll, List.length_cons]
    omega
theorem blk_slice {H : Type} (el sp : List (DataW H)) : el.length ≤ Rows.uptoBulk (.slice el sp) := by
  have := blk_len el
  rw [Rows.uptoBulk]
  omega
theorem small1 {H : Type} (d0 : DataW H) (gs : List (DataW H)) (hk : Rows.uptoSmall H ([d0] ++ gs) = true) : Rows.uptoBulk d0 ≤ 1048576 := by
  have h : Rows.uptoBulkAll ([d0] ++ gs) ≤ 1048576 := of_decide_eq_true hk
  simp only [List.cons_append, List.nil_append, Rows.uptoBulkAll] at h
  omega
theorem small2 {H : Type} (d0 d1 : DataW H) (gs : List (DataW H)) (hk : Rows.uptoSmall H ([d0, d1] ++ gs) = true) : Rows.uptoBulk d0 ≤ 1048576 ∧ Rows.uptoBulk d1 ≤ 1048576 := by
  have h : Rows.uptoBulkAll ([d0, d1] ++ gs) ≤ 1048576 := of_decide_eq_true hk
  simp only [List.cons_append, List.nil_append, Rows.uptoBulkAll] at h
  omega
theorem len_of {H : Type} {d : DataW H} {l : List UInt8} {n : Nat} (k : Rows.uptoBulk d ≤ n) (hd : l = [] ∨ ∃ elems spare, d = .slice elems spare ∧ elems.length = l.length) : Hid (l.length ≤ n) := by
  show _ ≤ _
  rcases hd with rfl | ⟨el, sp, rfl, he⟩
  · exact Nat.zero_le _
  · rw [← he]
    exact Nat.le_trans (blk_slice el sp) k
theorem sum2 {H : Type} (d0 d1 : DataW H) (gs : List (DataW H)) (hk : Rows.uptoSmall H ([d0, d1] ++ gs) = true) : Rows.uptoBulk d0 + Rows.uptoBulk d1 ≤ 1048576 := by
  have h : Rows.uptoBulkAll ([d0, d1] ++ gs) ≤ 1048576 := of_decide_eq_true hk
  simp only [List.cons_append, List.nil_append, Rows.uptoBulkAll] at h
  omega
theorem sum_of {H : Type} {d0 d1 : DataW H} {l m : List UInt8} {n : Nat} (k : Rows.uptoBulk d0 + Rows.uptoBulk d1 ≤ n) (h0 : l = [] ∨ ∃ elems spare, d0 = .slice elems spare ∧ elems.length = l.length) (h1 : m = [] ∨ ∃ elems spare, d1 = .slice elems spare ∧ elems.length = m.length) : Hid (l.length + m.length ≤ n) := by
  have e0 := (len_of (Nat.le_refl _) h0).out
  have e1 := (len_of (Nat.le_refl _) h1).out
  show _ ≤ _
  omega
end Cd
end Go.Proofs.YtcgimjlmihaegaaDoor
/- Bytes that came in. -/
namespace Go.Proofs.YtcgimjlmihaegaaDoor
namespace Sp
open Go.ChangeShapes Go.WideShapes Go.ChangeAt Go.RowKit Go.Joins
theorem ownK : ownKnob Tryd.prog.godebug = none := by kernel_rfl
theorem laidOutK : laidOutB Tryd.prog = true := by kernel_rfl
theorem cellsU8 : Tryd.prog.cellsOf 5 = 1 := by kernel_rfl
theorem bytesU8 : Tryd.prog.bytesOf 5 = 1 := by kernel_rfl
/-- Numbers as bytes. -/
def ub (zs : List Int) : List UInt8 := zs.map fun z => UInt8.ofNat z.toNat
theorem ub_length (zs : List Int) : (ub zs).length = zs.length := by simp [ub]
theorem ub_bz (zs : List Int) (hz : ∀ z ∈ zs, 0 ≤ z ∧ z < 256) (j : Nat) (h : j < zs.length) : bz (ub zs) j = zs.getD j 0 := by
  have hm := hz zs[j] (List.getElem_mem h)
  have h2 : j < (ub zs).length := by rw [ub_length]; exact h
  unfold bz
  rw [List.getD_eq_getElem?_getD, List.getD_eq_getElem?_getD, List.getElem?_eq_getElem h2, List.getElem?_eq_getElem h]
  simp only [Option.getD_some, ub, List.getElem_map, UInt8.toNat_ofNat']
  omega
set_option maxRecDepth 100000 in
theorem open_bytes {H : Type} {enc : TypeId × Value → H} {W : World} {r : Reach} {b0 : Nat} {v : Value} {d : DataW H} {p : List MemPlace}
    (hv : Value.okWide Tryd.prog W r b0 22 v) (h : DataW.Trod enc Tryd.prog W 0 (fun _ => true) true 22 v d p) :
    ∃ (l : List UInt8) (ao : Option Addr) (cap : Nat), v = .slice ao l.length cap ∧ l.length ≤ cap ∧ Vw l ao W ∧ (l = [] ∨ ∃ elems spare, d = .slice elems spare ∧ elems.length = l.length) := by
  obtain ⟨a0, len, cap, rfl⟩ := okWide_slice Tryd.underlying22 hv
  obtain ⟨fuel, hf⟩ := h
  rcases open_ints Tryd.underlying22 Tryd.underlying5 cellsU8 hf with ⟨hcs, hx⟩ | ⟨a, len', cap', zs, hcs, _, hl, hm, hz, hx, hcell, hwz⟩
  · simp [Value.cells] at hcs
    obtain ⟨rfl, rfl, rfl⟩ := hcs
    exact ⟨[], none, 0, rfl, Nat.le_refl _, Vw_nil _ _, .inl rfl⟩
  · simp [Value.cells] at hcs
    obtain ⟨rfl, rfl, rfl⟩ := hcs
    simp only [if_true] at hz
    have hb : ∀ z ∈ zs, 0 ≤ z ∧ z < 256 := fun z hz' => by have := bounds_u8 (hwz z hz'); omega
    have hb' : ∀ z ∈ zs.take len, 0 ≤ z ∧ z < 256 := fun z hz' => hb z (List.mem_of_mem_take hz')
    have hlt : (ub (zs.take len)).length = len := by rw [ub_length, List.length_take]; omega
    simp only [Prod.mk.injEq] at hx
    refine ⟨ub (zs.take len), some a, cap, by rw [hlt], by rw [hlt]; exact hl, ?_, .inr ⟨_, _, hx.1, by simp [lits, hlt]; omega⟩⟩
    intro h0
    rw [hlt] at h0
    obtain ⟨b, off, rfl, hc⟩ := ints_at hcell (by omega)
    refine ⟨b, off, rfl, ?_, fun j hj => ?_⟩
    · exact World.block_lt_of_cell? W ⟨b, off + 0, none⟩ (hc 0 (by omega))
    · rw [hlt] at hj
      rw [hc j (by omega), ub_bz _ hb' j (by rw [List.length_take]; omega)]
      simp [List.getD_eq_getElem?_getD, hj]
end Sp
end Go.Proofs.YtcgimjlmihaegaaDoor
