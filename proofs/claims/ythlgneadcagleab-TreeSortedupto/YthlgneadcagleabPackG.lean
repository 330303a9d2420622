/- tree.Pairs, its row the call's own. -/
import Derived.Test.YthlgneadcagleabPackF
import Derived.RangeFuncNested
import Derived.RangeFuncBound
import Derived.RangeFuncLeaves
import Derived.Shelf.Abstract
import Derived.Shelf.RegionOpen
import Derived.OwnWalkIn
import Derived.TacticsInMore
import Derived.LoopNIn
import Derived.LoopIn
import Derived.Shelf.SlGeneric
import Derived.Shelf.SlicesQ.Reverse
import Derived.Ground.SlgnProg
import Derived.Test.YthlgneadcagleabProg
import Derived.Sort.OwnSorted
import Derived.Test.YthlgneadcagleabPackA
import Derived.Lib.AppendZeros
namespace Go.Proofs.Ythlgneadcagleab
namespace Tr
open Nb Go.RowKit
attribute [local go_sem] Oper.semAt_some
set_option maxHeartbeats 4000000 in
set_option maxRecDepth 100000 in
theorem pairs_own (k : Int) (a1 a2 a3 : Option Addr) (n1 c1 m2 c2 n3 c3 : Nat) (w : World) (lo : Nat) (t : Nd) (m : Rt) (KR0 : ∀ wx : World, Below w.heap.size w wx → Calls Try.prog 17 #[.agg #[.int .i64 k, .slice a1 n1 c1, .slice a2 m2 c2, .slice a3 n3 c3], .int .i64 0] wx fun e w' => ∃ y, e = .returned (.tuple #[y, .bool true]) ∧ In lo w' t y (fun _ => True) ∧ Below wx.heap.size wx w') (hrs : Hid (Rs t)) (hm : Hid (rt t = some m)) (hok : Hid (Okp [] m)) (hN : Hid (m.length ≤ 1048576)) :
    Calls Try.prog 12 #[.agg #[.int .i64 k, .slice a1 n1 c1, .slice a2 m2 c2, .slice a3 n3 c3]] w fun e w' => ∃ b0 a n c, e = .returned (.tuple #[.slice a n c, .int .i64 0]) ∧ w.heap.size ≤ b0 ∧ Po b0 (m.map jp) (.slice a n c) w' ∧ Below w.heap.size w w' := by
  have b1 : Below w.heap.size w (w.alloc (.cells #[.int .i64 k, .slice a1 n1 c1, .slice a2 m2 c2, .slice a3 n3 c3] 25)) := (Below.refl _ _).alloc (Nat.le_refl _) _
  obtain ⟨_, q0, q1, q2, q3⟩ := Bx_new w (.int .i64 k, .slice a1 n1 c1, .slice a2 m2 c2, .slice a3 n3 c3)
  dsimp only at q0 q1 q2 q3
  have HBB : Hid (Below w.heap.size w (w.alloc (.cells #[.int .i64 k, .slice a1 n1 c1, .slice a2 m2 c2, .slice a3 n3 c3] 25))) := b1
  have KR : Hid (Calls Try.prog 17 #[.agg #[.int .i64 k, .slice a1 n1 c1, .slice a2 m2 c2, .slice a3 n3 c3], .int .i64 0] (w.alloc (.cells #[.int .i64 k, .slice a1 n1 c1, .slice a2 m2 c2, .slice a3 n3 c3] 25)) fun e w' => ∃ y, e = .returned (.tuple #[y, .bool true]) ∧ In lo w' t y (fun _ => True) ∧ Below (w.alloc (.cells #[.int .i64 k, .slice a1 n1 c1, .slice a2 m2 c2, .slice a3 n3 c3] 25)).heap.size (w.alloc (.cells #[.int .i64 k, .slice a1 n1 c1, .slice a2 m2 c2, .slice a3 n3 c3] 25)) w') := KR0 _ b1
  clear KR0 b1
  refine (callsIn_wide (n := 5)).1 ?_
  refine callsIn_of_wp_marks Try.func12 rfl trivial ?_ rfl
  simp only [Try.ntmps12, List.size_toArray, List.length_cons, List.length_nil, Nat.reduceAdd, Nat.reduceSub, Array.replicate_succ, Array.replicate_zero, List.push_toArray, List.append_toArray, List.nil_append, List.cons_append]
  gi_wp2_with fail
  refine ⟨trivial, (callsIn_wide.2 KR.out).mono ?_⟩
  rintro e W0 ⟨y, rfl, hin, hb1⟩
  obtain ⟨ty, yy, rfl⟩ := In_form hin
  have HZ : Hid (Below w.heap.size w W0) := HBB.out.trans (hb1.mono HBB.out.size)
  have HW : Hid (w.heap.size < W0.heap.size) := by have := hb1.size; show _ < _; simp at this; omega
  have HIN : Hid (In lo W0 t (.iface ty yy) (fun _ => True)) := hin
  clear hb1 hin q0 q1 q2 q3 KR HBB
  gi_wp2_with fail
  refine ⟨trivial, (callsIn_wide.2 (all_any ty yy _)).mono ?_⟩
  rintro e w2 ⟨rfl, rfl⟩
  gi_wp2_with fail
  have bL : Below W0.heap.size W0 ((W0.alloc (.cells #[.slice none 0 0] 36)).alloc (.cells #[.iface ty yy] 47)) := ((Below.refl _ _).alloc (Nat.le_refl _) _).alloc (by simp) _
  have hsL : ((W0.alloc (.cells #[.slice none 0 0] 36)).alloc (.cells #[.iface ty yy] 47)).heap.size = W0.heap.size + 2 := by simp
  have hbox : ((W0.alloc (.cells #[.slice none 0 0] 36)).alloc (.cells #[.iface ty yy] 47)).heap[W0.heap.size]? = some (.cells #[.slice none 0 0] 36 (0, 0)) := by
    rw [Below.heap_alloc _ _ _ (by simp)]
    exact heap_alloc_new W0 _
  have hbn : ((W0.alloc (.cells #[.slice none 0 0] 36)).alloc (.cells #[.iface ty yy] 47)).cell? ⟨W0.heap.size + 1, 0, none⟩ = some (.iface ty yy) := by
    have := heap_alloc_new (W0.alloc (.cells #[.slice none 0 0] 36)) (.cells #[.iface ty yy] 47)
    rw [show (W0.alloc (.cells #[.slice none 0 0] 36)).heap.size = W0.heap.size + 1 by simp] at this
    simp only [World.cell?, this]; rfl
  generalize ((W0.alloc (.cells #[.slice none 0 0] 36)).alloc (.cells #[.iface ty yy] 47)) = Wl at *
  have bwl : Below w.heap.size w Wl := HZ.out.trans (bL.mono HZ.out.size)
  have HWO := HW.out
  refine wpIn_range_buf (gf := 40) (lb := #[.pointer (some ⟨W0.heap.size + 1, 0, none⟩)]) rfl (enters_of Try.func40 (by kernel_rfl) rfl) rfl W0.heap.size 1048576 W0 rfl bL (PI w W0.heap.size (Wl.heap.size + 2))
    (fun s A B h hg => PI_gb h hg (by omega) (by omega)) (fun s A q o hq h => PI_put h (by omega) (by omega) (by omega)) ⟨⟨none, 0, 0, hbox, Po_nil _ _⟩, bwl⟩ m ?seq
    (fun pv vv => { tmps := #[.agg #[.int .i64 k, .slice a1 n1 c1, .slice a2 m2 c2, .slice a3 n3 c3], .pointer (some ⟨w.heap.size, 0, none⟩), .slice none 0 0, .int .i64 0, .iface ty yy, .bool true, .pointer (some ⟨W0.heap.size, 0, none⟩), pv, vv, undef, undef, .tuple #[.iface ty yy, .bool true], .agg #[.int .i64 k, .slice a1 n1 c1, .slice a2 m2 c2, .slice a3 n3 c3], .tuple #[.iface ty yy, .bool true], .iface ty yy, .bool true, .bool true, .bool false, .iface ty yy, .func (.func 40) #[] #[.pointer (some ⟨W0.heap.size + 1, 0, none⟩)], pv, vv, undef, undef, undef, undef, undef, undef, undef, undef, undef, undef, undef, undef, undef], defers := [] }) ?assign ?body ?done
  case seq =>
    intro J W1 hs1 hb1 hY hJ
    obtain ⟨WC, hr, hf, hbC⟩ := Bf_make W1.drew
    have hs1' : W1.drew.heap.size = Wl.heap.size + 2 := hs1
    rw [hs1'] at hr hf
    have bC : Below W1.heap.size W1 WC := ((Below.refl _ _).drew).trans hbC
    have hn0 : Below W0.heap.size W0 WC := by
      have h1 := bL.trans (hb1.mono bL.size)
      exact h1.trans (bC.mono h1.size)
    have hJ2 : J [] WC := hY.ab [] W1 WC hJ (bl_gb bC)
    refine (all1_any (Wl.heap.size + 1) (Wl.heap.size + 2) (W0.heap.size + 1) ty yy W1 WC (fun w' => J m w') hr (by omega) bC ((hb1.cell (p := ⟨W0.heap.size + 1, 0, none⟩) (by show W0.heap.size + 1 < Wl.heap.size; omega)).trans hbn) (fun W => nw_in HIN.out W) ?_).mono fun e w' he => he
    have hI := walk_all hY HIN.out hrs.out m hm.out [] [] WC (fun c hc => by cases hc) hok.out hJ2 hf hn0 (by rw [List.length_nil, Nat.zero_add]; exact hN.out)
    refine hI.mono fun e w' he => ⟨he.1, ?_⟩
    have := he.2.1
    rw [List.nil_append, show pre [] m = m from by unfold pre; simp] at this
    exact this
  case assign =>
    intro pv vv W K hK
    gi_wp2
    exact hK
  case done =>
    intro W hI hK
    obtain ⟨⟨a, n, c, h1, h2⟩, h3⟩ := hI
    have x0 : W.cell? ⟨W0.heap.size, 0, none⟩ = some (.slice a n c) := by simp only [World.cell?, h1]; rfl
    have HK : Hid (W.heap[Wl.heap.size]? = some (.deferred (some []))) := hK
    have hPO2 : Hid (Po (Wl.heap.size + 2) (m.map jp) (.slice a n c) (W.putObj Wl.heap.size (.deferred none))) := Po_keep h2 (fun q hq _ => World.putObj_heap_other (by omega)) (by simp [World.putObj])
    have hLE : Hid (w.heap.size ≤ Wl.heap.size + 2) := by show _ ≤ _; omega
    have hB2 : Hid (Below w.heap.size w (W.putObj Wl.heap.size (.deferred none))) := ⟨h3.os, h3.tape, h3.output, Nat.le_trans h3.size (by simp [World.putObj]), fun j hj => (World.putObj_heap_other (by omega)).trans (h3.block j hj)⟩
    clear h1 h2 h3 hK
    gi_wp2
    refine ⟨by simp, .inl ⟨_, _, rfl, run_takeDeferred HK.out, ?_⟩⟩
    exact ⟨_, results_tmp2 rfl _ _ _, _, a, n, c, rfl, hLE.out, hPO2.out, hB2.out⟩
  case body =>
    intro s p v vv W hI hBf hp1 hp2 hp3 hV hv0 hv1 hbl hsN
    obtain ⟨⟨pa, pn, pc, hbx, hpo⟩, hbw⟩ := hI
    obtain ⟨va, vc, rfl, _⟩ := Bs_form hV
    have KJ : Hid (Calls Try.prog 25 #[.slice (some ⟨Wl.heap.size + 2, 0, none⟩) p.length 64] W fun e w' => ∃ a n c, e = .returned (.tuple #[.slice a n c, .int .i64 0]) ∧ Bs (W.heap.size ≤ ·) (jn p) (.slice a n c) w' ∧ Below W.heap.size W w') := join_bs (Bf_bs hBf) hp1 ⟨hp2, hp3⟩
    have HSL : Hid (Wl.heap.size = W0.heap.size + 2) := hsL
    have HSW : Hid (w.heap.size < W0.heap.size) := HWO
    have FA : Hid (PI w W0.heap.size (Wl.heap.size + 2) s W ∧ W.heap[W0.heap.size]? = some (.cells #[.slice pa pn pc] 36 (0, 0)) ∧ Po (Wl.heap.size + 2) (s.map jp) (.slice pa pn pc) W ∧ Bf (Wl.heap.size + 2) p W ∧ Bs (· < W0.heap.size) v (.slice va v.length vc) W ∧ v.length ≤ 1024 ∧ Below W0.heap.size W0 W ∧ s.length < 1048576) := ⟨⟨⟨pa, pn, pc, hbx, hpo⟩, hbw⟩, hbx, hpo, hBf, hV, hv1, hbl, hsN⟩
    clear hsL HWO hbx hpo hbw hBf hV hv0 hv1 hbl hsN hp1 hp2 hp3 hbox hbn bL bwl hrs hm hok hN HZ HW HIN
    generalize hvn : v.length = vn at *
    generalize hpl : p.length = np at *
    gi_wp2_with fail
    refine ⟨trivial, rfl, CallsIn.inRound _ ((callsIn_wide.2 KJ.out).mono ?_)⟩
    rintro e W1 ⟨ka, kn, kc, rfl, hkb, hb1⟩
    have HKB : Hid (Bs (W.heap.size ≤ ·) (jn p) (.slice ka kn kc) W1) := hkb
    have HB1 : Hid (Below W.heap.size W W1) := hb1
    clear hkb hb1 KJ
    gi_wp2_with fail
    obtain ⟨f1, f2, f3, f4, f5, f6, f7, f8⟩ := FA.out
    have e1 := HSL.out
    have e2 := HSW.out
    have e3 := Bf_lt f4
    have e4 := HB1.out.size
    have OWN : ∀ q, (Value.slice pa pn pc).ownBlock = some q → Wl.heap.size + 2 < q ∧ q < W.heap.size := fun q hq => by
      obtain ⟨vs, _, h2, _⟩ := f3
      have := h2.lt q hq
      exact ⟨by omega, this.2⟩
    have NEO : ∀ q, q ≤ Wl.heap.size + 2 → some q ≠ (Value.slice pa pn pc).ownBlock := fun q hq e => by have := (OWN q e.symm).1; omega
    have hbx1 : W1.drew.heap[W0.heap.size]? = some (.cells #[.slice pa pn pc] 36 (0, 0)) := (HB1.out.block _ (by omega)).trans f2
    have HBP : Hid (W0.heap.size < W1.drew.heap.size) := by show W0.heap.size < W1.heap.size; omega
    have C0 : Hid (W1.drew.cell? ⟨W0.heap.size, 0, none⟩ = some (.slice pa pn pc)) := by show _ = _; simp only [World.cell?, hbx1]; rfl
    have bD : Below W.heap.size W W1.drew := HB1.out.drew
    have KC : Hid (∀ wx : World, Below W1.drew.heap.size W1.drew wx → Calls Try.prog 23 #[.slice va vn vc] wx fun e w' => ∃ ca cn cc, e = .returned (.slice ca cn cc) ∧ Bs (wx.heap.size ≤ ·) v (.slice ca cn cc) w' ∧ Below wx.heap.size wx w') := fun wx hx => by
      refine (clone_call (Bs_below (Bs_below f5 bD) hx) (by omega)).mono fun e w' he => ?_
      obtain ⟨ca, cc, g1, g2, g3⟩ := he
      exact ⟨ca, _, cc, g1, g2, g3⟩
    have hpoA : Po (Wl.heap.size + 2) (s.map jp) (.slice pa pn pc) W1.drew := Po_keep f3 (fun q _ hq => bD.block q hq) bD.size
    have PAP : Hid (∀ (gb : Nat) (u30 : Value) (wx : World), Below W1.drew.heap.size W1.drew wx → Bs (W1.drew.heap.size ≤ ·) v u30 wx → wx.cell? ⟨gb, 0, none⟩ = some (.slice ka kn kc) → wx.cell? ⟨gb, 1, none⟩ = some u30 → ∃ g c W9, (Builtin.append_ #[36, 36] 36 #[.slice pa pn pc, .slice (some ⟨gb, 0, none⟩) 1 1]).run Try.prog wx = .ok (.slice (some ⟨g, 0, none⟩) ((s.map jp).length + 1) c) W9 ∧ Po (Wl.heap.size + 2) (s.map jp ++ [(jn p, v)]) (.slice (some ⟨g, 0, none⟩) ((s.map jp).length + 1) c) W9 ∧ wx.grownBy W9 (Value.slice pa pn pc).ownBlock ∧ (∀ q, (Value.slice pa pn pc).ownBlock = some q → Wl.heap.size + 2 < q)) := fun gb u30 wx hx hu c0 c1 => by
      have hz : W.heap.size ≤ W1.drew.heap.size := bD.size
      have hz2 := hx.size
      refine Po_app _ (Po_keep hpoA (fun q _ hq => hx.block q hq) hx.size) (Bs_mono (Bs_below (show Bs _ _ _ W1.drew from HKB.out) hx) (fun q hq _ => ⟨?_, fun e => ?_⟩)) (Bs_mono hu (fun q hq _ => ⟨?_, fun e => ?_⟩)) c0 c1 (by omega) (by rw [List.length_map]; omega)
      · have : W.heap.size ≤ q := hq; omega
      · have : W.heap.size ≤ q := hq; have := (OWN q e.symm).2; omega
      · have : W1.drew.heap.size ≤ q := hq; omega
      · have : W1.drew.heap.size ≤ q := hq; have := (OWN q e.symm).2; omega
    have BXF : Hid (∀ wx : World, W1.drew.grownBy wx (Value.slice pa pn pc).ownBlock → wx.heap[W0.heap.size]? = some (.cells #[.slice pa pn pc] 36 (0, 0)) ∧ wx.cell? ⟨W0.heap.size, 0, none⟩ = some (.slice pa pn pc) ∧ wx.frozen? ⟨W0.heap.size, 0, none⟩ = false) := fun wx hg => by
      have h1 := (hg.block _ HBP.out (NEO _ (by omega))).trans hbx1
      exact ⟨h1, by simp only [World.cell?, h1]; rfl, by simp only [World.frozen?, h1]; simp⟩
    have FIN : Hid (∀ (g n c : Nat) (wx : World), Po (Wl.heap.size + 2) (s.map jp ++ [(jn p, v)]) (.slice (some ⟨g, 0, none⟩) n c) wx → W1.drew.grownBy wx (Value.slice pa pn pc).ownBlock → (PI w W0.heap.size (Wl.heap.size + 2) (s ++ [(p, v)]) (wx.setCell ⟨W0.heap.size, 0, none⟩ (.slice (some ⟨g, 0, none⟩) n c)) ∧ Below W0.heap.size W (wx.setCell ⟨W0.heap.size, 0, none⟩ (.slice (some ⟨g, 0, none⟩) n c)) ∧ (wx.setCell ⟨W0.heap.size, 0, none⟩ (.slice (some ⟨g, 0, none⟩) n c)).heap[Wl.heap.size + 2]? = W.heap[Wl.heap.size + 2]? ∧ (wx.setCell ⟨W0.heap.size, 0, none⟩ (.slice (some ⟨g, 0, none⟩) n c)).heap[Wl.heap.size + 1]? = W.heap[Wl.heap.size + 1]? ∧ (wx.setCell ⟨W0.heap.size, 0, none⟩ (.slice (some ⟨g, 0, none⟩) n c)).heap[Wl.heap.size]? = W.heap[Wl.heap.size]?)) := fun g n c wx hp hg => by
      have h1 := (BXF.out wx hg).1
      have gW : W.grownBy wx (Value.slice pa pn pc).ownBlock := gb_trans (gb_below bD) hg
      have SM : ∀ q, q < W.heap.size → q ≠ W0.heap.size → some q ≠ (Value.slice pa pn pc).ownBlock → (wx.setCell ⟨W0.heap.size, 0, none⟩ (.slice (some ⟨g, 0, none⟩) n c)).heap[q]? = W.heap[q]? := fun q h2 h3 h4 => (Below.heap_setCell _ _ _ _ h3).trans (gW.block q h2 h4)
      have bS : ∀ x, x ≤ W0.heap.size → Below x W (wx.setCell ⟨W0.heap.size, 0, none⟩ (.slice (some ⟨g, 0, none⟩) n c)) := fun x hx => ⟨gW.os, gW.tape, gW.output, Nat.le_trans gW.size (by simp [World.setCell]), fun q hq => SM q (by omega) (by omega) (NEO q (by omega))⟩
      refine ⟨⟨⟨some ⟨g, 0, none⟩, n, c, ?_, ?_⟩, f1.b.trans (bS _ (by omega))⟩, bS _ (Nat.le_refl _), SM _ (by omega) (by omega) (NEO _ (by omega)), SM _ (by omega) (by omega) (NEO _ (by omega)), SM _ (by omega) (by omega) (NEO _ (by omega))⟩
      · exact heap_setCell_same h1 _
      · rw [List.map_append]
        exact Po_keep hp (fun q hq _ => Below.heap_setCell _ _ _ _ (by show q ≠ W0.heap.size; omega)) (by simp [World.setCell])
    have hw0 : PWx W1.drew (Wl.heap.size + 2) (jn p) v (.slice ka kn kc) (.slice pa pn pc) (s.map jp) (fun wx => PI w W0.heap.size (Wl.heap.size + 2) (s ++ [(p, v)]) wx ∧ Below W0.heap.size W wx ∧ wx.heap[Wl.heap.size + 2]? = W.heap[Wl.heap.size + 2]? ∧ wx.heap[Wl.heap.size + 1]? = W.heap[Wl.heap.size + 1]? ∧ wx.heap[Wl.heap.size]? = W.heap[Wl.heap.size]?) false false false false undef undef undef W1.drew := ⟨fun _ => Below.refl _ _, fun e => (by cases e), fun e => (by cases e), fun e => (by cases e), fun e => (by cases e), fun e => (by cases e), fun e => (by cases e), fun e => (by cases e), fun e => (by cases e)⟩
    clear f1 f2 f3 f4 f5 f6 f7 f8 e1 e2 e3 e4 OWN NEO hbx1 bD hpoA FA HSL HSW HKB HB1 hvn hpl
    generalize hPz : (fun wx => PI w W0.heap.size (Wl.heap.size + 2) (s ++ [(p, v)]) wx ∧ Below W0.heap.size W wx ∧ wx.heap[Wl.heap.size + 2]? = W.heap[Wl.heap.size + 2]? ∧ wx.heap[Wl.heap.size + 1]? = W.heap[Wl.heap.size + 1]? ∧ wx.heap[Wl.heap.size]? = W.heap[Wl.heap.size]?) = Pz at hw0
    have FIN2 : Hid (∀ (g n c : Nat) (wx : World), Po (Wl.heap.size + 2) (s.map jp ++ [(jn p, v)]) (.slice (some ⟨g, 0, none⟩) n c) wx → W1.drew.grownBy wx (Value.slice pa pn pc).ownBlock → Pz (wx.setCell ⟨W0.heap.size, 0, none⟩ (.slice (some ⟨g, 0, none⟩) n c))) := by
      subst hPz
      exact FIN.out
    have HPZ : Hid ((fun wx => PI w W0.heap.size (Wl.heap.size + 2) (s ++ [(p, v)]) wx ∧ Below W0.heap.size W wx ∧ wx.heap[Wl.heap.size + 2]? = W.heap[Wl.heap.size + 2]? ∧ wx.heap[Wl.heap.size + 1]? = W.heap[Wl.heap.size + 1]? ∧ wx.heap[Wl.heap.size]? = W.heap[Wl.heap.size]?) = Pz) := hPz
    clear FIN hPz
    refine RI.wpIn_region_inv (PRX W1.drew (Wl.heap.size + 2) W0.heap.size (jn p) v (s.map jp) Pz ka va pa kn kc vn vc pn pc (.agg #[.int .i64 k, .slice a1 n1 c1, .slice a2 m2 c2, .slice a3 n3 c3]) (.pointer (some ⟨w.heap.size, 0, none⟩)) (.slice none 0 0) (.int .i64 0) (.iface ty yy) (.bool true) (.slice (some ⟨Wl.heap.size + 2, 0, none⟩) np 64) (.int .i64 0) (.tuple #[.iface ty yy, .bool true]) (.agg #[.int .i64 k, .slice a1 n1 c1, .slice a2 m2 c2, .slice a3 n3 c3]) (.tuple #[.iface ty yy, .bool true]) (.iface ty yy) (.bool true) (.bool true) (.bool false) (.iface ty yy) (.func (.func 40) #[] #[.pointer (some ⟨W0.heap.size + 1, 0, none⟩)]) (.slice (some ⟨Wl.heap.size + 2, 0, none⟩) np 64) (.slice va vn vc) (.tuple #[.slice ka kn kc, .int .i64 0]) (.slice (some ⟨Wl.heap.size + 2, 0, none⟩) np 64) (.tuple #[.slice ka kn kc, .int .i64 0]) (.slice ka kn kc) (.int .i64 0)) (by kernel_rfl) (by kernel_rfl) ?_ ?_ ?_
    · exact ⟨undef, undef, undef, undef, undef, undef, undef, rfl, hw0, nofun, nofun, nofun, nofun, nofun, nofun, nofun, nofun⟩
    · skip
      intro d x wx i hI hi hm
      obtain ⟨u27, u28, u29, u30, u31, u32, u33, rfl, hw, p0, p1, p2, p4, y3, y4, y5, y6⟩ := hI
      have hi' : i = 0 ∨ i = 1 ∨ i = 2 ∨ i = 3 ∨ i = 4 ∨ i = 5 ∨ i = 6 ∨ i = 7 := by simp at hi; omega
      have hd := hm.2
      have hf := hm.1
      clear hm hi
      rcases hi' with rfl | rfl | rfl | rfl | rfl | rfl | rfl | rfl
      · refine RI.wpOpIn_plain rfl rfl (RI.wpIn_round nofun ?_)
        have h6 : d 6 = false := by
          cases h : d 6 with
          | false => rfl
          | true => have := y6 h; rw [hf] at this; cases this
        have x0 := ((hw.a h6).cell (p := ⟨W0.heap.size, 0, none⟩) HBP.out).trans C0.out
        go_simp
        exact ⟨_, u28, u29, u30, u31, u32, u33, rfl, hw, fun _ => rfl, p1, p2, p4, y3, y4, y5, fun _ => rfl⟩
      · refine RI.wpOpIn_plain rfl rfl (RI.wpIn_round nofun ?_)
        go_simp
        exact ⟨u27, _, u29, u30, u31, u32, u33, rfl, hw, p0, fun _ => rfl, p2, p4, y3, y4, y5, y6⟩
      · refine RI.wpOpIn_plain rfl rfl (RI.wpIn_round nofun ?_)
        go_simp
        exact ⟨u27, u28, _, u30, u31, u32, u33, rfl, hw, p0, p1, fun _ => rfl, p4, y3, y4, y5, y6⟩
      · have hd := hd _ rfl
        simp [Region.binds] at hd
        obtain rfl := p2 (by simp [hd])
        refine RI.wpOpIn_plain rfl rfl (RI.wpIn_round nofun ?_)
        have h6 : d 6 = false := hw.n6 (hw.n5 hf)
        go_simp
        refine (KC.out _ (hw.a h6)).mono ?_
        rintro e w1 ⟨ca, cn, cc, rfl, hbs, hb1⟩
        refine ⟨_, rfl, ?_⟩
        exact ⟨u27, u28, _, _, u31, u32, u33, rfl, hw.s3 hf ⟨_, _, _, rfl⟩ hbs hb1, p0, p1, p2, fun h => absurd (y4 h) (by rw [hf]; decide), fun _ => trivial, fun _ => rfl, y5, y6⟩
      · have hd := hd _ rfl
        simp [Region.binds] at hd
        obtain rfl := p1 (by simp [hd])
        refine RI.wpOpIn_plain rfl rfl (RI.wpIn_round nofun ?_)
        obtain ⟨ca, cn, cc, rfl⟩ := hw.b1 (by simp [hd])
        go_simp
        exact ⟨u27, _, u29, _, _, u32, u33, rfl, hw, p0, p1, p2, fun _ => rfl, y3, fun _ => (show d 3 = true by simp [hd]), y5, y6⟩
      · have hd := hd _ rfl
        simp [Region.binds] at hd
        obtain rfl := p4 (by simp [hd])
        refine RI.wpOpIn_plain rfl rfl (RI.wpIn_round nofun ?_)
        have h3 : d 3 = true := y4 (by simp [hd])
        obtain ⟨ca, cn, cc, rfl⟩ := hw.b1 h3
        go_simp
        exact ⟨u27, u28, u29, _, _, _, u33, rfl, hw.s5 hf h3 ((Below.refl _ _).alloc (Nat.le_refl _) _) ⟨_, rfl, by simp, by simp only [World.cell?, heap_alloc_new]; rfl, by simp only [World.cell?, heap_alloc_new]; rfl⟩, p0, p1, p2, p4, y3, y4, fun _ => trivial, y6⟩
      · have hd := hd _ rfl
        simp [Region.binds] at hd
        obtain rfl := p0 (by simp [hd])
        refine RI.wpOpIn_plain rfl rfl (RI.wpIn_round nofun ?_)
        obtain ⟨gb, rfl, hgb, hc0, hc1⟩ := hw.c (by simp [hd]) hf
        obtain ⟨gg, gc, W9, hr, hpo, hgr, hgo⟩ := PAP.out _ _ _ (hw.a hf) (hw.b (by simp [hd]) hf) hc0 hc1
        refine upw_ap rfl rfl rfl hr ?_
        simp only [Act.put]
        exact ⟨_, u28, u29, u30, u31, _, _, rfl, hw.s6 hf (by simp [hd]) ⟨_, _, _, rfl⟩ hpo hgr, p0, p1, p2, p4, y3, y4, y5, fun _ => (show d 0 = true by simp [hd])⟩
      · have hd := hd _ rfl
        simp [Region.binds] at hd
        obtain rfl := p0 (by simp [hd])
        obtain rfl := p1 (by simp [hd])
        obtain rfl := p2 (by simp [hd])
        obtain rfl := p4 (by simp [hd])
        refine RI.wpOpIn_plain rfl rfl (RI.wpIn_round nofun ?_)
        obtain ⟨⟨gg, gn, gc, rfl⟩, hpo, hgr⟩ := hw.e (by simp [hd]) hf
        obtain ⟨xb, xc, xf⟩ := BXF.out _ hgr
        go_simp
        exact ⟨_, _, _, u30, _, u32, _, rfl, hw.s7 (by simp [hd]) (FIN2.out _ _ _ _ hpo hgr), p0, p1, p2, p4, y3, y4, y5, y6⟩
    · skip
      intro d x wx hI hd
      obtain ⟨u27, u28, u29, u30, u31, u32, u33, rfl, hw, p0, p1, p2, p4, y3, y4, y5, y6⟩ := hI
      have hz := hw.z (hd 7 (by decide))
      rw [← HPZ.out] at hz
      exact ⟨rfl, hz.1, hz.2.1, hz.2.2.1, hz.2.2.2.1, hz.2.2.2.2⟩
end Tr
end Go.Proofs.Ythlgneadcagleab
/- The library's contract of slices.Reverse, laid at this dump by the kit's own tool. -/
namespace Go.Proofs
open Go.Shelf
def Try.revPr_ren : Go.Shelf.Ren := ⟨fun | 35 => 15 | n => n, fun | 22 => 36 | 23 => 41 | 3 => 3 | 4 => 4 | 0 => 0 | n => n, fun | n => n⟩
theorem Try.revPr : Go.Proofs.SlLaysE0.n35 Try.prog Try.revPr_ren := {
  mixed := by kernel_rfl
  f35 := ⟨Try.f15.name, by decide, Try.func15.trans (congrArg some (by kernel_rfl))⟩
  t0 := Try.underlying0
  a0 := Try.isAgg0
  z0 := Try.sizeOf0
  v0 := Try.zeroValue0
  t3 := Try.underlying3
  a3 := Try.isAgg3
  z3 := Try.sizeOf3
  v3 := Try.zeroValue3
  t4 := Try.underlying4
  a4 := Try.isAgg4
  z4 := Try.sizeOf4
  v4 := Try.zeroValue4
  t22 := Try.underlying36
  a22 := Try.isAgg36
  z22 := Try.sizeOf36
  v22 := Try.zeroValue36 }
end Go.Proofs
/- slices.Reverse of pairs. -/
namespace Go.Proofs.Ythlgneadcagleab
namespace Tr
open Nb Go.RowKit Go.Sort Go.Shelf
abbrev S3 := Option Addr × Nat × Nat
abbrev S6 := S3 × S3
def n6 : S6 := ((none, 0, 0), (none, 0, 0))
def sv (s : S6) : V2 := (.slice s.1.1 s.1.2.1 s.1.2.2, .slice s.2.1 s.2.2.1 s.2.2.2)
def enc6 (s : S6) : List Value := [.slice s.1.1 s.1.2.1 s.1.2.2, .slice s.2.1 s.2.2.1 s.2.2.2]
def c6 (L : List S6) : List Value := c2p (L.map sv)
theorem c6_len (L : List S6) : (c6 L).length = L.length * 2 := by unfold c6; rw [c2p_len, List.length_map]
theorem c6_at : ∀ (L : List S6) (t : Nat), t < L.length * 2 → (c6 L)[t]? = some ((enc6 (L.getD (t / 2) n6))[t % 2]!)
  | [], t, h => absurd h (by simp)
  | r :: L, 0, _ => rfl
  | r :: L, 1, _ => rfl
  | r :: L, t + 2, h => by
    have ih := c6_at L t (by simp only [List.length_cons] at h; omega)
    have e1 : (t + 2) / 2 = t / 2 + 1 := by omega
    have e2 : (t + 2) % 2 = t % 2 := by omega
    rw [e1, e2, List.getD_cons_succ, ← ih]
    rfl
theorem flat6 (L : List S6) (t : Nat) (h : t < L.length * 2) : (flatK enc6 2 L.toArray)[t]! = (enc6 (L.getD (t / 2) n6))[t % 2]! := by
  rw [get_flatK enc6 2 L.toArray t (by simpa using h)]
  have hd : t / 2 < L.length := by omega
  have e : L.toArray[t / 2]! = L.getD (t / 2) n6 := by
    rw [List.getD_eq_getElem?_getD, List.getElem?_eq_getElem hd]
    simp [hd]
  rw [e]
theorem heap_rev {w : World} {g n : Nat} {cur : Array Value} {e : TypeId} {fr : Nat × Nat} (F : Array Value) (hb : w.heap[g]? = some (.cells cur e fr)) :
    (putRow id (Go.Sort.ahead w n) g 0 F).heap[g]? = some (.cells (putCells id 0 F cur) e fr) := by
  simp [putRow, mapBlock, Go.Sort.ahead, Array.getElem?_modify, hb, onCells]
theorem gb_rev {w : World} {g n : Nat} (F : Array Value) : w.grownBy (putRow id (Go.Sort.ahead w n) g 0 F) (some g) := by
  refine ⟨rfl, rfl, rfl, by simp [putRow, mapBlock, Go.Sort.ahead], fun k hk hne => ?_⟩
  have : g ≠ k := fun e => hne (by rw [e])
  simp [putRow, mapBlock, Go.Sort.ahead, Array.getElem?_modify, this]
theorem take_put6 (cur : Array Value) (L : List S6) (h : L.length * 2 ≤ cur.size) : (putCells id 0 (flatK enc6 2 L.toArray) cur).toList.take (L.length * 2) = c6 L := by
  apply List.ext_getElem?
  intro j
  by_cases hj : j < L.length * 2
  · rw [List.getElem?_take_of_lt hj, Array.getElem?_toList, c6_at L j hj, ← flat6 L j hj]
    have hc : j < cur.size := by omega
    simp [putCells, hj, hc]
  · rw [List.getElem?_take_eq_none (by omega), List.getElem?_eq_none (by rw [c6_len]; omega)]
theorem Po_s6 {b0 : Nat} {l : Rt} {v : Value} {W : World} (h : Po b0 l v W) : ∃ ss : List S6, ss.length = l.length ∧ W.ownsRow (b0 + 1) 41 2 v l.length (c6 ss) ∧ ∀ j, j < l.length → Bs (Sk b0 v) (l.getD j n2).1 (sv (ss.getD j n6)).1 W ∧ Bs (Sk b0 v) (l.getD j n2).2 (sv (ss.getD j n6)).2 W := by
  obtain ⟨vs, h1, h2, h3⟩ := h
  have HI : ∀ j, ∃ s : S6, j < l.length → vs.getD j m2 = sv s := fun j => by
    by_cases hj : j < l.length
    · obtain ⟨a, c, e1, _⟩ := Bs_form (h3 j hj).1
      obtain ⟨a2, c2, e2, _⟩ := Bs_form (h3 j hj).2
      exact ⟨((a, _, c), (a2, _, c2)), fun _ => Prod.ext e1 e2⟩
    · exact ⟨n6, fun h => absurd h hj⟩
  obtain ⟨F, hF⟩ := Classical.axiomOfChoice HI
  have hl : ((List.range l.length).map F).length = l.length := by simp
  have hv : vs = ((List.range l.length).map F).map sv := by
    apply List.ext_getElem
    · rw [List.length_map, hl, h1]
    · intro i i1 i2
      have hi : i < l.length := by omega
      have := hF i hi
      rw [List.getD_eq_getElem?_getD, List.getElem?_eq_getElem i1] at this
      simpa using this
  refine ⟨(List.range l.length).map F, hl, ?_, fun j hj => ?_⟩
  · unfold c6
    rw [← hv]
    exact h2
  · have e : sv (((List.range l.length).map F).getD j n6) = vs.getD j m2 := by
      rw [getD_range F l.length j n6 hj]
      exact (hF j hj).symm
    rw [e]
    exact h3 j hj
theorem getD_rev {α : Type} (L : List α) (j : Nat) (d : α) (hj : j < L.length) : L.reverse.getD j d = L.getD (L.length - 1 - j) d := by
  rw [List.getD_eq_getElem?_getD, List.getD_eq_getElem?_getD, List.getElem?_reverse hj]
theorem reverse_po {b0 : Nat} {l : Rt} {v : Value} {w : World} (h : Po b0 l v w) (hl : l.length ≤ 4194304) : Calls Try.prog 15 #[v] w fun e w' => e = .returned (.tuple #[]) ∧ Po b0 l.reverse v w' ∧ w.grownBy w' v.ownBlock ∧ (∀ q, v.ownBlock = some q → b0 < q) := by
  obtain ⟨ss, h1, h2, h3⟩ := Po_s6 h
  rcases h2.2 with ⟨h4, h5⟩ | ⟨g, cap, cur, h4, h5, h6, h7, h8, h9, h10⟩
  · subst h4
    have hcon := AnyQ.slices_Reverse_empty Try.revPr none 0 w
    have hcon' : Calls Try.prog 15 #[.slice none 0 0] w _ := hcon
    refine hcon'.mono fun e w' he => ?_
    obtain ⟨e1, rfl⟩ := he
    have el : l = [] := List.length_eq_zero_iff.1 h5
    subst el
    exact ⟨e1, h, ⟨rfl, rfl, rfl, Nat.le_refl _, fun _ _ _ => rfl⟩, fun q hq => by cases hq⟩
  · subst h4
    have hH : HoldsK enc6 2 w g 0 ss.toArray := fun j hj => by
      have hj' : j < ss.length * 2 := by simpa using hj
      refine ⟨?_, World.ownsRow.frozenAt h2 _⟩
      rw [Nat.zero_add, World.ownsRow.cellAt h2 j (by omega), c6_at ss j hj', flat6 ss j hj']
      rfl
    have hcon := AnyQ.slices_Reverse Try.revPr 2 Try.isAgg41 Try.sizeOf41 enc6 (fun _ => rfl) (fun x v hv => by simp [enc6] at hv; rcases hv with rfl | rfl <;> rfl) g 0 cap ss.toArray w hH (by simp; omega)
    have esz : ss.toArray.size = l.length := by simp [h1]
    rw [esz] at hcon
    have hcon' : Calls Try.prog 15 #[.slice (some ⟨g, 0, none⟩) l.length cap] w _ := hcon
    refine hcon'.mono fun e w' he => ?_
    obtain ⟨e1, n, rfl⟩ := he
    have erv : ss.toArray.reverse = ss.reverse.toArray := by simp
    rw [erv]
    have hgr : w.grownBy (putRow id (Go.Sort.ahead w n) g 0 (flatK enc6 2 ss.reverse.toArray)) (some g) := gb_rev _
    refine ⟨e1, ⟨ss.reverse.map sv, by simp [h1], ⟨?_, .inr ⟨g, cap, _, by rw [List.length_reverse], h5, heap_rev _ h6, by rw [List.length_reverse]; exact h7, h8, by simp [putCells, h9], ?_⟩⟩, fun j hj => ?_⟩, hgr, fun q hq => ?_⟩
    · rw [c2p_len, List.length_map, List.length_reverse, List.length_reverse, h1]
    · have h := take_put6 cur ss.reverse (by rw [List.length_reverse, h9]; omega)
      rw [List.length_reverse, h1] at h
      rw [List.length_reverse]
      exact h
    · rw [List.length_reverse] at hj
      have hj2 : l.length - 1 - j < l.length := by omega
      have e3 : (ss.reverse.map sv).getD j m2 = sv (ss.getD (l.length - 1 - j) n6) := by
        rw [List.getD_eq_getElem?_getD, List.getElem?_map, List.getElem?_reverse (by omega), h1, List.getElem?_eq_getElem (by omega), List.getD_eq_getElem?_getD, List.getElem?_eq_getElem (by omega)]
        rfl
      rw [getD_rev l j n2 hj, e3]
      exact ⟨Bs_gb (h3 _ hj2).1 hgr (fun k hk => hk.2), Bs_gb (h3 _ hj2).2 hgr (fun k hk => hk.2)⟩
    · have e : g = q := by injection hq
      omega
end Tr
end Go.Proofs.Ythlgneadcagleab
/- slices.Grow of nothing, and slices.Concat, of pairs. -/
namespace Go.Proofs.Ythlgneadcagleab
namespace Tr
open Nb Go.RowKit
theorem c6_app (x y : List S6) : c6 (x ++ y) = c6 x ++ c6 y := by unfold c6; rw [List.map_append, c2p_app]
theorem c6_one (l : List S6) : ∀ u ∈ c6 l, u.oneCell' = true := fun u hu => by
  unfold c6 c2p at hu
  obtain ⟨r, hr, h⟩ := List.mem_flatMap.1 hu
  obtain ⟨s, _, rfl⟩ := List.mem_map.1 hr
  rcases List.mem_cons.1 h with rfl | h
  · rfl
  rcases List.mem_cons.1 h with rfl | h
  · rfl
  · cases h
/-- A slice of pairs whose cells are xs. -/
def V6 (xs : List S6) (v : Value) (w : World) : Prop := ∃ (ao : Option Addr) (cap : Nat), v = .slice ao xs.length cap ∧ (0 < xs.length → ∃ g off, ao = some ⟨g, off, none⟩ ∧ g < w.heap.size ∧ ∀ j, j < xs.length * 2 → w.cell? ⟨g, off + j, none⟩ = (c6 xs)[j]?)
theorem V6_below {xs : List S6} {v : Value} {w w' : World} (h : V6 xs v w) (hb : Below w.heap.size w w') : V6 xs v w' := by
  obtain ⟨ao, cap, h1, h3⟩ := h
  refine ⟨ao, cap, h1, fun h0 => ?_⟩
  obtain ⟨g, off, h4, h5, h6⟩ := h3 h0
  exact ⟨g, off, h4, Nat.lt_of_lt_of_le h5 hb.size, fun j hj => (hb.cell (p := ⟨g, off + j, none⟩) h5).trans (h6 j hj)⟩
def V6s (xss : List (List S6)) (v : Value) (w : World) : Prop := ∃ (ao : Option Addr) (cap : Nat), v = .slice ao xss.length cap ∧ (0 < xss.length → ∃ g off, ao = some ⟨g, off, none⟩ ∧ g < w.heap.size ∧ ∀ i, i < xss.length → ∃ vi, w.cell? ⟨g, off + i, none⟩ = some vi ∧ V6 (xss.getD i []) vi w)
theorem V6s_below {xss : List (List S6)} {v : Value} {w w' : World} (h : V6s xss v w) (hb : Below w.heap.size w w') : V6s xss v w' := by
  obtain ⟨ao, cap, h1, h2⟩ := h
  refine ⟨ao, cap, h1, fun h0 => ?_⟩
  obtain ⟨g, off, h3, h4, h5⟩ := h2 h0
  refine ⟨g, off, h3, Nat.lt_of_lt_of_le h4 hb.size, fun i hi => ?_⟩
  obtain ⟨vi, h6, h7⟩ := h5 i hi
  exact ⟨vi, (hb.cell (p := ⟨g, off + i, none⟩) h4).trans h6, V6_below h7 hb⟩
def pv6 (xss : List (List S6)) (k : Nat) : List S6 := (xss.take k).flatten
theorem pv6_succ (xss : List (List S6)) (k : Nat) (h : k < xss.length) : pv6 xss (k + 1) = pv6 xss k ++ xss.getD k [] := by
  unfold pv6
  rw [List.take_succ_eq_append_getElem h, List.flatten_append]
  simp [h]
theorem pv6_le (xss : List (List S6)) (k : Nat) : (pv6 xss k).length ≤ xss.flatten.length := by
  unfold pv6
  conv => rhs; rw [← List.take_append_drop k xss, List.flatten_append, List.length_append]
  omega
theorem app6 {base : Nat} {xs ys : List S6} {v vb : Value} {w : World} (ty : TypeId) (h : w.ownsRow base 41 2 v xs.length (c6 xs)) (hb : V6 ys vb w) (hbase : base ≤ w.heap.size) (hlen : xs.length + ys.length ≤ 4194304) :
    ∃ v' w', (Builtin.append_ #[36, 36] ty #[v, vb]).run Try.prog w = .ok v' w' ∧ w'.ownsRow base 41 2 v' (xs ++ ys).length (c6 (xs ++ ys)) ∧ Below base w w' := by
  obtain ⟨i0, hi, hz0, hz1, hz2⟩ := info_parts infoPr
  obtain ⟨ao, cap, rfl, vw⟩ := hb
  by_cases h0 : 0 < ys.length
  · obtain ⟨g, off, rfl, hg, hc⟩ := vw h0
    obtain ⟨v', w', hr, ho, hgr, _⟩ := run_append_own (P := Try.prog) w base 36 ty 41 i0 _ 2 48 Try.underlying36 hi hz0 hz1 hz2 rfl (by decide) v xs.length (c6 xs) h ⟨g, off, none⟩ ys.length cap (c6 ys) (c6_len ys)
      (fun j u hj => by
        have hj' : j < ys.length * 2 := by have := (List.getElem?_eq_some_iff.1 hj).1; rwa [c6_len] at this
        rw [Ct.add_lit, hc j hj', hj]) (c6_one ys) (by unfold maxLen; omega) (by omega) hbase
    refine ⟨v', w', hr, by rw [List.length_append, c6_app]; exact ho, (Below.refl _ _).grown hgr hbase (fun k hk => (Ct.own_lo h k hk).1)⟩
  · have e : ys = [] := List.length_eq_zero_iff.1 (by omega)
    subst e
    rw [List.append_nil]
    refine ⟨v, w, ?_, h, Below.refl _ _⟩
    have hs : Src Try.prog i0.size 36 (.slice ao 0 cap) 0 [] w := by
      cases ao with
      | none => exact Src.ofNil w Try.underlying36 cap
      | some ad => exact Src.ofSlice w Try.underlying36 ad 0 cap [] (by simp) (fun j u hj => by simp at hj) (fun u hu => by cases hu)
    rcases h.2 with ⟨h3, h4⟩ | ⟨g', cap', cur, h3, h5⟩
    · subst h3
      exact run_append_nothing w 36 36 ty 41 i0 Try.underlying36 hi none 0 0 (Nat.le_refl _) _ hs
    · subst h3
      exact run_append_nothing w 36 36 ty 41 i0 Try.underlying36 hi _ _ _ h5.2.2.1 _ hs
def zPr : Value := .agg #[.slice none 0 0, .slice none 0 0]
set_option maxHeartbeats 400000 in
set_option maxRecDepth 100000 in
theorem grow6 (n : Nat) (hn : Hid (n ≤ 4194304)) (w : World) :
    Calls Try.prog 28 #[.slice none 0 0, .int .i64 (n : Int)] w fun e w' => ∃ v, e = .returned v ∧ w'.ownsRow w.heap.size 41 2 v 0 [] ∧ Below w.heap.size w w' := by
  have hww : wrap64 (n : Int) = n := by have := hn.out; unfold wrap64; omega
  have hn0 : decide ((n : Int) < 0) = false := decide_eq_false (by omega)
  by_cases h0 : n = 0
  · subst h0
    go_enter Try.func28, Try.ntmps28
    go_wp2
    go_ret
    exact ⟨_, rfl, World.ownsRow_nil _ _ _ _, Below.refl _ _⟩
  · obtain ⟨i0, hi, hz0, hz1, hz2⟩ := info_parts infoPr
    have hap := Lib.run_append_nil_zeros (P := Try.prog) w 36 3 36 41 i0 zPr .i64 .i64 Try.underlying36 Try.underlying3 hi hz0 n (by omega) (by omega) (by have := hn.out; omega) (by have := hn.out; rw [hz2]; omega)
    have hge := grownCap_ge w n 0 41
    have hle := grownCap_le_maxLen w n 0 41 (by have := hn.out; unfold maxLen; omega)
    generalize grownCap w n 0 41 = C at hap hge hle
    have hsz : (Builtin.zeroCells zPr.cells n ++ Builtin.zeroCells zPr.cells (C - n)).size = C * 2 := by
      have hz : zPr.cells.size = 2 := rfl
      simp only [Array.size_append, size_zeroCells, hz]
      omega
    have HO : Hid ((w.drew.alloc (.cells (Builtin.zeroCells zPr.cells n ++ Builtin.zeroCells zPr.cells (C - n)) 41)).ownsRow w.heap.size 41 2 (.slice (some ⟨w.heap.size, 0, none⟩) 0 C) 0 []) := ⟨rfl, .inr ⟨w.heap.size, C, _, rfl, Nat.le_refl _, heap_alloc_new w.drew _, Nat.zero_le _, hle, hsz, by rw [Nat.zero_mul]; rfl⟩⟩
    have HB : Hid (Below w.heap.size w (w.drew.alloc (.cells (Builtin.zeroCells zPr.cells n ++ Builtin.zeroCells zPr.cells (C - n)) 41))) := (Below.refl _ _).drew.alloc (Nat.le_refl _) _
    generalize w.drew.alloc (.cells (Builtin.zeroCells zPr.cells n ++ Builtin.zeroCells zPr.cells (C - n)) 41) = W1 at hap HO HB
    have p0 : (0 : Int) < (n : Int) := by omega
    have p1 : (n : Int) ≤ (C : Int) := by omega
    clear hsz hi hz0 hz1 hz2 hle
    go_enter Try.func28, Try.ntmps28
    go_upto_region 5 with fail
    simp only [hww]
    go_wp2_with (at_builtin; refine wpList_ap rfl rfl rfl rfl hap ?_)
    go_ret
    exact ⟨_, rfl, HO.out, HB.out⟩
set_option maxHeartbeats 2000000 in
set_option maxRecDepth 100000 in
theorem concat6 (xss : List (List S6)) (v : Value) (w : World) (hx : Hid (xss.flatten.length ≤ 1048576)) (hn : Hid (xss.length ≤ 1048576)) (h : V6s xss v w) :
    Calls Try.prog 14 #[v] w fun e w' => ∃ v', e = .returned v' ∧ w'.ownsRow w.heap.size 41 2 v' xss.flatten.length (c6 xss.flatten) ∧ Below w.heap.size w w' := by
  have HL : Hid (V6s xss v w) := h
  obtain ⟨ao, cap, rfl, hL⟩ := h
  clear hL
  obtain ⟨n, en⟩ : ∃ n, n = xss.length := ⟨_, rfl⟩
  rw [← en] at HL hn ⊢
  have EN : Hid (n = xss.length) := en
  clear en
  have HE : Hid (pv6 xss n = xss.flatten) := by
    show _ = _
    unfold pv6
    rw [EN.out, List.take_length]
  have KG : Hid (∀ w : World, Calls Try.prog 28 #[.slice none 0 0, .int .i64 ((pv6 xss n).length : Int)] w fun e w' => ∃ v, e = .returned v ∧ w'.ownsRow w.heap.size 41 2 v 0 [] ∧ Below w.heap.size w w') := fun w => grow6 _ (by have := pv6_le xss n; have := hx.out; show _ ≤ _; omega) w
  go_enter Try.func14, Try.ntmps14
  go_wp2_with fail
  go_loopw [3, 11] (fun sz i wr => ∃ k : Nat, k ≤ n ∧ i = .int .i64 (k : Int) ∧ sz = .int .i64 ((pv6 xss k).length : Int) ∧ w = wr) (fun _ i _ => ((n : Int) - intOf i).toNat)
  case atStart => exact ⟨0, Nat.zero_le _, rfl, rfl, rfl⟩
  case round =>
    obtain ⟨k, hk, rfl, rfl, rfl⟩ := hrel
    by_cases hlt : k < n
    · have en := EN.out
      obtain ⟨ao2, cap2, e2, hL2⟩ := HL.out
      obtain ⟨gp, op, hao, hgp, hcell⟩ := hL2 (by omega)
      obtain ⟨vi, c1, hvl⟩ := hcell k (by omega)
      have hao2 : ao = some ⟨gp, op, none⟩ := by
        rw [← hao]
        injection e2
      subst hao2
      obtain ⟨ai, ci, rfl, _⟩ := hvl
      have hsum : (pv6 xss (k + 1)).length = (pv6 xss k).length + (xss.getD k []).length := by rw [pv6_succ xss k (by omega), List.length_append]
      have hpl := pv6_le xss (k + 1)
      have hx2 := hx.out
      have hw1 : Hid (wrap64 (((pv6 xss k).length : Int) + ((xss.getD k []).length : Int)) = ((pv6 xss (k + 1)).length : Int)) := by show _ = _; unfold wrap64; omega
      have hw := Ct.step_w k n hlt hn
      have d0 : (k : Int) < (n : Int) := by omega
      have d1 : (0 : Int) ≤ (k : Int) := by omega
      have d2 : decide (((pv6 xss (k + 1)).length : Int) < 0) = false := decide_eq_false (by omega)
      clear hsum hpl hx2 hcell hL2 e2 hao en hgp
      generalize (xss.getD k []).length = li at *
      obtain ⟨s2, e3⟩ : ∃ s2, s2 = (pv6 xss (k + 1)).length := ⟨_, rfl⟩
      rw [← e3] at hw1 d2
      have HS2 : Hid (s2 = (pv6 xss (k + 1)).length) := e3
      clear e3
      generalize (pv6 xss k).length = s1 at *
      have hw2 := hw1.out
      go_wp2_with fail
      go_roundw
      case rel => first | exact ⟨k + 1, hlt, Ct.step_v k _ hw.out, (by rw [← HS2.out]; first | rfl | rw [hw1.out]), trivial⟩ | exact ⟨k + 1, hlt, Ct.step_v k _ hw.out, (by rw [← HS2.out]; first | rfl | rw [hw1.out]), rfl⟩ | ((repeat apply Exists.intro); exact ⟨⟨k + 1, hlt, Ct.step_v k _ hw.out, (by rw [← HS2.out]; first | rfl | rw [hw1.out]), rfl⟩, rfl⟩)
      case measure => exact Ct.msr k n hlt _ hw.out
    · have ek : k = n := by omega
      subst ek
      have d0 : decide ((k : Int) < (k : Int)) = false := decide_eq_false (by omega)
      go_wp2_with fail
      refine (KG.out _).mono (fun e w2 he => ?_)
      obtain ⟨v2, rfl, o2, b2⟩ := he
      clear d0 KG
      go_wp2_with fail
      go_loopw [6, 27] (fun vn i wr => ∃ j : Nat, j ≤ k ∧ i = .int .i64 (j : Int) ∧ wr.ownsRow w.heap.size 41 2 vn (pv6 xss j).length (c6 (pv6 xss j)) ∧ Below w.heap.size w wr) (fun _ i _ => ((k : Int) - intOf i).toNat)
      case atStart => exact ⟨0, Nat.zero_le _, rfl, o2, b2⟩
      case round =>
        clear o2 b2
        obtain ⟨j, hj, rfl, oj, bj⟩ := hrel
        by_cases hlt2 : j < k
        · have en := EN.out
          obtain ⟨ao2, cap2, e2, hL2⟩ := V6s_below HL.out bj
          obtain ⟨gp, op, hao, hgp, hcell⟩ := hL2 (by omega)
          obtain ⟨vi, c1, hvl⟩ := hcell j (by omega)
          have hao2 : ao = some ⟨gp, op, none⟩ := by
            rw [← hao]
            injection e2
          subst hao2
          have hs1 := pv6_succ xss j (by omega)
          have hpl := pv6_le xss (j + 1)
          rw [hs1, List.length_append] at hpl
          obtain ⟨v3, w3, hap, o3, b3⟩ := app6 36 oj hvl bj.size (by have := hx.out; omega)
          rw [← hs1] at o3
          have HO : Hid (w3.ownsRow w.heap.size 41 2 v3 (pv6 xss (j + 1)).length (c6 (pv6 xss (j + 1)))) := o3
          have HB : Hid (Below w.heap.size w w3) := bj.trans b3
          have hw := Ct.step_w j k hlt2 hn
          have d0 : (j : Int) < (k : Int) := by omega
          have d1 : (0 : Int) ≤ (j : Int) := by omega
          clear hs1 hpl hcell hL2 e2 hao en hgp hvl o3 b3 oj bj
          go_wp2_with (at_builtin; refine wpList_ap rfl rfl rfl rfl hap ?_)
          go_roundw
          case rel => exact ⟨j + 1, hlt2, Ct.step_v j _ hw.out, HO.out, HB.out⟩
          case measure => exact Ct.msr j k hlt2 _ hw.out
        · have ej : j = k := by omega
          subst ej
          have HO : Hid (wr.ownsRow w.heap.size 41 2 u6 (pv6 xss j).length (c6 (pv6 xss j))) := oj
          have HB : Hid (Below w.heap.size w wr) := bj
          have d0 : decide ((j : Int) < (j : Int)) = false := decide_eq_false (by omega)
          clear oj bj
          go_wp2
          go_ret
          exact ⟨_, rfl, by have := HO.out; rw [HE.out] at this; exact this, HB.out⟩
end Tr
end Go.Proofs.Ythlgneadcagleab
/- Pairs in order, in whatever order put again. -/
namespace Go.Proofs.Ythlgneadcagleab
namespace Tr
open Nb Go.RowKit
theorem vl_mem : ∀ (l : Rt) (r : By × By), (l.Pairwise fun a b => hv a.1 ≠ hv b.1) → r ∈ l → vl l (hv r.1) = r.2 := by
  intro l
  have key : ∀ (m : Rt) (f : By → By) (q : By), (∀ r ∈ m, hv r.1 ≠ q) → (m.foldl (fun f r q => if q = hv r.1 then r.2 else f q) f) q = f q := by
    intro m
    induction m with
    | nil => intro f q _; rfl
    | cons a m ih =>
      intro f q h
      rw [List.foldl_cons, ih _ q (fun r hr => h r (List.mem_cons_of_mem _ hr)), if_neg (fun e => h a (List.mem_cons_self ..) e.symm)]
  have gen : ∀ (m : Rt) (f : By → By) (r : By × By), (m.Pairwise fun a b => hv a.1 ≠ hv b.1) → r ∈ m → (m.foldl (fun f r q => if q = hv r.1 then r.2 else f q) f) (hv r.1) = r.2 := by
    intro m
    induction m with
    | nil => intro f r _ h; cases h
    | cons a m ih =>
      intro f r hp hr
      have hp' := List.pairwise_cons.1 hp
      rw [List.foldl_cons]
      rcases List.mem_cons.1 hr with rfl | hr
      · rw [key m _ _ (fun x hx e => hp'.1 x hx e.symm), if_pos rfl]
      · exact ih _ r hp'.2 hr
  exact fun r hp hr => gen l _ r hp hr
theorem vl_out (l : Rt) (q : By) (h : ∀ r ∈ l, hv r.1 ≠ q) : vl l q = [] := by
  apply Classical.byContradiction
  intro hn
  obtain ⟨r, hr, e, _⟩ := vl_in l q hn
  exact h r hr e.symm
/-- What a tree's pairs come to again, in whatever order. -/
theorem again {t : Nd} (hr : rd 0 t = true) {m : Rt} (hp : m.Perm (prs t)) : oe m = 0 ∧ ∀ q, vl m q = gt t q := by
  have hR := (rd_right t).1 hr
  obtain ⟨l, hl, hok, _⟩ := (right_iff t).1 hR
  obtain ⟨hs, hpt, hg⟩ := rt_spec hl
  have e1 : prs t = l.map jp := by unfold prs; rw [hr, hl]; rfl
  rw [e1] at hp
  have hj : ∀ r ∈ l, hv (jp r).1 = r.1 := fun r h => hv_jn r.1 ⟨(hok r h).1, hpt r h⟩
  have hmem : ∀ x, x ∈ m ↔ ∃ r ∈ l, jp r = x := fun x => hp.mem_iff.trans List.mem_map
  have hpw : (l.map jp).Pairwise fun a b => hv a.1 ≠ hv b.1 := by
    rw [List.pairwise_map]
    refine List.Pairwise.imp_of_mem (fun {a b} ha hb h => ?_) hs
    rw [hj a ha, hj b hb]
    exact less_ne h
  have hpm : m.Pairwise fun a b => hv a.1 ≠ hv b.1 := (hp.pairwise_iff (fun h e => h e.symm)).2 hpw
  refine ⟨oe_zero m (fun x hx => ?_), fun q => ?_⟩
  · obtain ⟨r, h1, rfl⟩ := (hmem x).1 hx
    have k := hok r h1
    have k2 : (jn r.1).length ≤ 32 := by rw [jn_length]; have := k.2.1; omega
    show mp (jn r.1).length r.2.length = 0
    unfold mp
    rw [if_pos k2, if_pos k.2.2.2]
  · rw [← hg q]
    by_cases h : ∃ r ∈ l, r.1 = q
    · obtain ⟨r, h1, rfl⟩ := h
      rw [lk_mem l r hs h1]
      have := vl_mem m (jp r) hpm ((hmem _).2 ⟨r, h1, rfl⟩)
      rw [hj r h1] at this
      exact this
    · rw [lk_out l q (fun r h1 e => h ⟨r, h1, e⟩)]
      refine vl_out m q (fun x hx e => ?_)
      obtain ⟨r, h1, rfl⟩ := (hmem x).1 hx
      rw [hj r h1] at e
      exact h ⟨r, h1, e⟩
theorem again_sn {t : Nd} (hr : rd 0 t = true) {m : Rt} (hp : m.Perm (prs t)) {r : Nd} (h : OR m r) : sn r t = true := by
  obtain ⟨h1, h2⟩ := again hr hp
  unfold OR at h
  rw [if_pos h1] at h
  obtain ⟨t', rfl, hs, hu⟩ := h
  have hR := (rd_right t).1 hr
  exact (sn_bn _ _).2 ((bn_bn' t').trans (uniq hs t hR.1 (fun q => by rw [hu q, h2 q])))
/-- Keys stand in order. -/
theorem keys_less {t : Nd} (i : Nat) (hi : i + 1 < (prs t).length) : Op.bytesLess ((prs t).getD i n2).1 ((prs t).getD (i + 1) n2).1 = true := by
  have hr : rd 0 t = true := by
    cases h : rd 0 t with
    | true => rfl
    | false => unfold prs at hi; rw [h] at hi; simp at hi
  have hR := (rd_right t).1 hr
  obtain ⟨l, hl, hok, _⟩ := (right_iff t).1 hR
  obtain ⟨hs, hpt, hg⟩ := rt_spec hl
  have e1 : prs t = l.map jp := by unfold prs; rw [hr, hl]; rfl
  rw [e1] at hi ⊢
  rw [List.length_map] at hi
  have g1 : (l.map jp).getD i n2 = jp l[i] := by simp [List.getD_eq_getElem?_getD, (by omega : i < l.length)]
  have g2 : (l.map jp).getD (i + 1) n2 = jp l[i + 1] := by simp [List.getD_eq_getElem?_getD, hi]
  rw [g1, g2]
  have h := List.pairwise_iff_getElem.1 hs i (i + 1) (by omega) hi (by omega)
  have k1 := hv_jn l[i].1 ⟨(hok _ (List.getElem_mem _)).1, hpt _ (List.getElem_mem _)⟩
  have k2 := hv_jn l[i + 1].1 ⟨(hok _ (List.getElem_mem _)).1, hpt _ (List.getElem_mem _)⟩
  show Op.bytesLess (jn l[i].1) (jn l[i + 1].1) = true
  rw [← hv_less, k1, k2]
  exact h
theorem rot_perm (l : Rt) (k : Nat) : (l.drop k ++ l.take k).Perm l := by
  have h := List.perm_append_comm (l₁ := l.drop k) (l₂ := l.take k)
  rwa [List.take_append_drop] at h
end Tr
end Go.Proofs.Ythlgneadcagleab
/- The law TreeSorted. -/
namespace Go.Proofs.Ythlgneadcagleab
namespace Tr
open Nb Go.RowKit
theorem or_sm2 {l : Rt} {r : Nd} (h : OR l r) : Sm r := by
  unfold OR at h
  split at h
  · obtain ⟨t', rfl, hr, _⟩ := h
    exact sm_bn hr
  · rw [h]
    exact sm_nil _ _ _
theorem NX_gb {h : Nat} {u : V4} {t : Nd} {w w' : World} {r : Option Nat} (k : Bx h u w) (n : Nv (· < h) w t u) (g : w.grownBy w' r) (hr : ∀ q, r = some q → h < q) : NX h u t w' := by
  have B : Below (h + 1) w w' := (Below.refl _ _).grown g k.1 (fun q e => hr q e)
  have e : ∀ i, w'.cell? ⟨h, i, none⟩ = w.cell? ⟨h, i, none⟩ := fun i => B.cell (p := ⟨h, i, none⟩) (Nat.lt_succ_self h)
  exact ⟨⟨Nat.lt_of_lt_of_le k.1 B.size, (e 0).trans k.2.1, (e 1).trans k.2.2.1, (e 2).trans k.2.2.2.1, (e 3).trans k.2.2.2.2⟩, Nv_mono (Nv_gb n g (fun q hq e => by have := hr q e.symm; omega)) (fun _ _ _ => trivial)⟩
theorem rot_getD {α : Type} (l : List α) (k j : Nat) (d : α) (hk : k ≤ l.length) (hj : j < l.length) : (l.drop k ++ l.take k).getD j d = l.getD (if j < l.length - k then k + j else j - (l.length - k)) d := by
  rw [List.getD_eq_getElem?_getD, List.getD_eq_getElem?_getD, List.getElem?_append, List.length_drop]
  split
  · rw [List.getElem?_drop]
  · rw [List.getElem?_take_of_lt (by omega)]
theorem pv_own {base : Nat} {m : Rt} {v : Value} {ss : List S6} {W : World} (h1 : ss.length = m.length) (h2 : W.ownsRow base 41 2 v ss.length (c6 ss)) (hb : ∀ j, j < m.length → Bs (fun _ => True) (m.getD j n2).1 (sv (ss.getD j n6)).1 W ∧ Bs (fun _ => True) (m.getD j n2).2 (sv (ss.getD j n6)).2 W) : Pv (· < W.heap.size) m v W := by
  have hl : (ss.map sv).length = m.length := by rw [List.length_map, h1]
  have hg : ∀ j, j < m.length → (ss.map sv).getD j m2 = sv (ss.getD j n6) := fun j hj => by
    simp [List.getD_eq_getElem?_getD, (by omega : j < ss.length)]
  refine ⟨ss.map sv, hl, ?_, fun j hj => by rw [hg j hj]; exact ⟨Bs_mono (hb j hj).1 (fun k _ h => h), Bs_mono (hb j hj).2 (fun k _ h => h)⟩⟩
  rcases h2.2 with ⟨h4, h5⟩ | ⟨g, cap, cur, h4, h5⟩
  · subst h4
    have : ss = [] := List.length_eq_zero_iff.1 h5
    subst this
    exact ⟨none, 0, rfl, Nat.le_refl _, fun h => absurd h (by simp)⟩
  · subst h4
    refine ⟨some ⟨g, 0, none⟩, cap, by rw [List.length_map], by rw [List.length_map]; exact h5.2.2.1, fun _ => ⟨g, 0, rfl, Pk.lt_of_heap h5.2.1, Pk.lt_of_heap h5.2.1, fun j hj => ?_⟩⟩
    have hc := c2p_get (ss.map sv) j hj
    rw [List.length_map] at hj
    refine ⟨?_, ?_⟩
    · rw [Nat.zero_add, h2.cellAt _ (by omega)]; exact hc.1
    · rw [Nat.zero_add, h2.cellAt _ (by omega)]; exact hc.2
theorem v6_two {xs ys : List S6} {a b : Value} {W : World} (ty : TypeId) (ha : V6 xs a W) (hb : V6 ys b W) : V6s [xs, ys] (.slice (some ⟨W.heap.size, 0, none⟩) 2 2) (W.alloc (.cells #[a, b] ty)) := by
  have HA := heap_alloc_new W (.cells #[a, b] ty)
  have hB : Below W.heap.size W (W.alloc (.cells #[a, b] ty)) := (Below.refl _ _).alloc (Nat.le_refl _) _
  refine ⟨_, 2, rfl, fun _ => ⟨W.heap.size, 0, rfl, by simp, fun i hi => ?_⟩⟩
  rcases i with _ | _ | i
  · exact ⟨a, by simp only [World.cell?, HA]; rfl, V6_below ha hB⟩
  · exact ⟨b, by simp only [World.cell?, HA]; rfl, V6_below hb hB⟩
  · simp at hi; omega
theorem c6_cut (ss : List S6) (k : Nat) (hk : k ≤ ss.length) : (∀ j, (c6 ss)[k * 2 + j]? = (c6 (ss.drop k))[j]?) ∧ ∀ j, j < k * 2 → (c6 ss)[j]? = (c6 (ss.take k))[j]? := by
  have e : c6 ss = c6 (ss.take k) ++ c6 (ss.drop k) := by rw [← c6_app, List.take_append_drop]
  have hl : (c6 (ss.take k)).length = k * 2 := by rw [c6_len, List.length_take]; omega
  refine ⟨fun j => ?_, fun j hj => ?_⟩
  · rw [e, List.getElem?_append_right (by omega), hl, Nat.add_sub_cancel_left]
  · rw [e, List.getElem?_append_left (by omega)]
/-- A row of pairs, cut in two and joined again the other way. -/
theorem rot_any {b0 : Nat} {l : Rt} {pa : Option Addr} {pn pc : Nat} {W : World} (h : Po b0 l (.slice pa pn pc) W) (hz : l.length ≤ 1048576) {k : Nat} (hk : 0 < k) (hk2 : k < pn) (ty : TypeId) :
    ∃ g, pa = some ⟨g, 0, none⟩ ∧ pn ≤ pc ∧ Calls Try.prog 14 #[.slice (some ⟨W.heap.size, 0, none⟩) 2 2] (W.alloc (.cells #[.slice (some ⟨g, k * 2, none⟩) (pn - k) (pc - k), .slice (some ⟨g, 0, none⟩) k pc] ty)) fun e w' => ∃ a n c, e = .returned (.slice a n c) ∧ n = (l.drop k ++ l.take k).length ∧ Pv (· < w'.heap.size) (l.drop k ++ l.take k) (.slice a n c) w' ∧ Below W.heap.size W w' := by
  obtain ⟨ss, h1, h2, h3⟩ := Po_s6 h
  have hb := fun j (hj : j < l.length) => And.intro (Bs_mono (S' := fun _ => True) (h3 j hj).1 (fun _ _ _ => trivial)) (Bs_mono (S' := fun _ => True) (h3 j hj).2 (fun _ _ _ => trivial))
  rcases h2.2 with ⟨h4, h5⟩ | ⟨g, cap, cur, h4, h5⟩
  · injection h4 with _ e2 _
    omega
  · injection h4 with e1 e2 e3
    subst e1 e2 e3
    have hcut := c6_cut ss k (by omega)
    have s1 : V6 (ss.drop k) (.slice (some ⟨g, k * 2, none⟩) (l.length - k) (pc - k)) W := by
      refine ⟨some ⟨g, k * 2, none⟩, pc - k, by rw [List.length_drop, h1], fun _ => ⟨g, k * 2, rfl, Pk.lt_of_heap h5.2.1, fun j hj => ?_⟩⟩
      rw [List.length_drop] at hj
      rw [h2.cellAt _ (by omega), hcut.1 j]
    have s2 : V6 (ss.take k) (.slice (some ⟨g, 0, none⟩) k pc) W := by
      refine ⟨some ⟨g, 0, none⟩, pc, by rw [List.length_take, Nat.min_eq_left (by omega)], fun _ => ⟨g, 0, rfl, Pk.lt_of_heap h5.2.1, fun j hj => ?_⟩⟩
      rw [List.length_take] at hj
      rw [Nat.zero_add, h2.cellAt _ (by omega), hcut.2 j (by omega)]
    have ef : [ss.drop k, ss.take k].flatten = ss.drop k ++ ss.take k := by simp
    have el : (ss.drop k ++ ss.take k).length = (l.drop k ++ l.take k).length := by rw [List.length_append, List.length_append, List.length_drop, List.length_take, List.length_drop, List.length_take, h1]
    have el2 : (l.drop k ++ l.take k).length = l.length := by rw [List.length_append, List.length_drop, List.length_take]; omega
    have hB : Below W.heap.size W (W.alloc (.cells #[.slice (some ⟨g, k * 2, none⟩) (l.length - k) (pc - k), .slice (some ⟨g, 0, none⟩) k pc] ty)) := (Below.refl _ _).alloc (Nat.le_refl _) _
    refine ⟨g, rfl, h5.2.2.1, (concat6 [ss.drop k, ss.take k] _ _ (by show _ ≤ _; rw [ef]; omega) (by show (2 : Nat) ≤ 1048576; decide) (v6_two ty s1 s2)).mono fun e w' he => ?_⟩
    obtain ⟨v', h6, h7, h8⟩ := he
    rw [ef] at h7
    have b8 := hB.trans (h8.mono hB.size)
    have hp : Pv (· < w'.heap.size) (l.drop k ++ l.take k) v' w' := pv_own el h7 (fun j hj => by
      rw [el2] at hj
      rw [rot_getD l k j n2 (by omega) hj, rot_getD ss k j n6 (by omega) (by omega), h1]
      have := hb (if j < l.length - k then k + j else j - (l.length - k)) (by split <;> omega)
      exact ⟨Bs_below this.1 b8, Bs_below this.2 b8⟩)
    obtain ⟨a, c, rfl, _⟩ := Pv_form hp
    exact ⟨a, _, c, h6, rfl, hp, b8⟩
theorem own_pairs {t : Nd} (hr : rd 0 t = true) {x : V4} {w : World} (hx : Nv (fun _ => True) w t x) (hw : wn t ≤ 1048576) : Calls Try.prog 12 #[v4 x] w fun e w' => ∃ b0 a n c, e = .returned (.tuple #[.slice a n c, .int .i64 0]) ∧ (b0 < w'.heap.size ∨ prs t = []) ∧ w.heap.size ≤ b0 ∧ Po b0 (prs t) (.slice a n c) w' ∧ Below w.heap.size w w' := by
  have hx := Nv_mono (S' := (· < w.heap.size)) hx (fun k _ h => h)
  obtain ⟨zk, za1, zn1, zc1, za2, zn2, zc2, za3, zn3, zc3, rfl⟩ := Nv_form hx
  have KR : ∀ wx : World, Below w.heap.size w wx → Calls Try.prog 17 #[.agg #[.int .i64 zk, .slice za1 zn1 zc1, .slice za2 zn2 zc2, .slice za3 zn3 zc3], .int .i64 0] wx (RP w.heap.size 0 t wx) := fun wx h => (read_all w.heap.size (wf_any t)).1 0 (.int .i64 zk, .slice za1 zn1 zc1, .slice za2 zn2 zc2, .slice za3 zn3 zc3) wx (by omega) (Nv_below hx h) h.size (by omega)
  have hR := (rd_right t).1 hr
  obtain ⟨l, hl, hok, _⟩ := (right_iff t).1 hR
  have h2 : prs t = l.map jp := by unfold prs; rw [hr, hl]; rfl
  rw [h2]
  refine (pairs_own zk za1 za2 za3 zn1 zc1 zn2 zc2 zn3 zc3 w w.heap.size t l (fun wx h => (KR wx h).mono fun e w' he => ?_) hR.1 hl (okr_okp hok) (by have := rt_less hl; show _ ≤ _; omega)).mono fun e w' he => ?_
  · obtain ⟨z, h1, h2, h3⟩ := he
    rw [hr] at h1
    exact ⟨z, h1, In_mono (h2 hr) (fun _ _ => trivial), h3⟩
  · obtain ⟨b0, a, n, c, h1, h2, h3, h4⟩ := he
    refine ⟨b0, a, n, c, h1, ?_, h2, h3, h4⟩
    obtain ⟨vs, k1, k2, _⟩ := h3
    rcases k2.2 with ⟨_, k4⟩ | ⟨g, cap, cur, _, k5, k6, _⟩
    · exact .inr (List.length_eq_zero_iff.1 k4)
    · exact .inl (by have := Pk.lt_of_heap k6; omega)
inductive SNI (WA : World) (g off n c i j : Nat) (k1 k2 : Option Addr) (a1 b1 a2 b2 : Nat) (X Y : ByteArray) (x0 x1 x2 x3 x4 x6 x8 x9 x10 x11 x12 x13 x14 x15 x16 x17 x18 x19 x20 x21 x22 x23 x24 x25 x26 x27 x28 x29 x30 x31 x46 x47 x48 x49 x50 x51 x52 x53 x54 x55 x56 x57 x58 x59 x60 x61 x62 x63 x64 x65 x66 x67 x68 x69 x70 x71 x72 x73 x74 x75 : Value) (d : Nat → Bool) (x : Act) (wx : World) : Prop where
  | mk (u32 u33 u34 u35 u36 u37 u38 u39 u40 u41 u42 u43 u44 u45 : Value) (hx : x = { tmps := #[x0, x1, x2, x3, x4, .slice (some ⟨g, off, none⟩) n c, x6, .int .i64 (j : Int), x8, x9, x10, x11, x12, x13, x14, x15, x16, x17, x18, x19, x20, x21, x22, x23, x24, x25, x26, x27, x28, x29, x30, x31, u32, u33, u34, u35, u36, u37, u38, u39, u40, u41, u42, u43, u44, u45, x46, x47, x48, x49, x50, x51, x52, x53, x54, x55, x56, x57, x58, x59, x60, x61, x62, x63, x64, x65, x66, x67, x68, x69, x70, x71, x72, x73, x74, x75], defers := [] }) (hw : Hid (wx = WA)) (p0 : d 0 = true → u32 = .slice (some ⟨g, off, none⟩) n c) (p1 : d 1 = true → u33 = .int .i64 (j : Int)) (p2 : d 2 = true → u34 = .int .i64 (i : Int)) (p3 : d 3 = true → u35 = .pointer (some ⟨g, off + i * 2, none⟩)) (p4 : d 4 = true → u36 = .pointer (some ⟨g, off + i * 2, none⟩)) (p5 : d 5 = true → u37 = .slice k1 a1 b1) (p6 : d 6 = true → u38 = .string X) (p7 : d 7 = true → u39 = .slice (some ⟨g, off, none⟩) n c) (p8 : d 8 = true → u40 = .int .i64 (j : Int)) (p9 : d 9 = true → u41 = .pointer (some ⟨g, off + j * 2, none⟩)) (p10 : d 10 = true → u42 = .pointer (some ⟨g, off + j * 2, none⟩)) (p11 : d 11 = true → u43 = .slice k2 a2 b2) (p12 : d 12 = true → u44 = .string Y) (p13 : d 13 = true → u45 = .bool false) : SNI WA g off n c i j k1 k2 a1 b1 a2 b2 X Y x0 x1 x2 x3 x4 x6 x8 x9 x10 x11 x12 x13 x14 x15 x16 x17 x18 x19 x20 x21 x22 x23 x24 x25 x26 x27 x28 x29 x30 x31 x46 x47 x48 x49 x50 x51 x52 x53 x54 x55 x56 x57 x58 x59 x60 x61 x62 x63 x64 x65 x66 x67 x68 x69 x70 x71 x72 x73 x74 x75 d x wx
inductive SRI (WA : World) (Pz : Value → World → Prop) (g n c k : Nat) (x0 x2 x3 x4 x6 x7 x8 x9 x10 x11 x12 x13 x14 x15 x16 x17 x18 x19 x20 x21 x22 x23 x24 x25 x26 x27 x28 x29 x30 x31 x32 x33 x34 x35 x36 x37 x38 x39 x40 x41 x42 x43 x44 x45 x46 x47 x48 x49 x50 x51 x52 x53 x62 x63 x64 x65 x66 x67 x68 x69 x70 x71 x72 x73 x74 x75 : Value) (d : Nat → Bool) (x : Act) (wx : World) : Prop where
  | mk (u5 u54 u55 u56 u57 u58 u59 u60 u61 : Value) (hx : x = { tmps := #[x0, .int .i64 (k : Int), x2, x3, x4, u5, x6, x7, x8, x9, x10, x11, x12, x13, x14, x15, x16, x17, x18, x19, x20, x21, x22, x23, x24, x25, x26, x27, x28, x29, x30, x31, x32, x33, x34, x35, x36, x37, x38, x39, x40, x41, x42, x43, x44, x45, x46, x47, x48, x49, x50, x51, x52, x53, u54, u55, u56, u57, u58, u59, u60, u61, x62, x63, x64, x65, x66, x67, x68, x69, x70, x71, x72, x73, x74, x75], defers := [] }) (hw : WL WA (WA.alloc (.cells #[.slice (some ⟨g, k * 2, none⟩) (n - k) (c - k), .slice (some ⟨g, 0, none⟩) k c] 36)) (fun _ => True) true (d 6) true (d 7) wx ∧ (d 8 = false → u5 = .slice (some ⟨g, 0, none⟩) n c)) (p0 : d 0 = true → u54 = .slice (some ⟨g, 0, none⟩) n c) (p1 : d 1 = true → u55 = .int .i64 (k : Int)) (p2 : d 2 = true → u56 = .slice (some ⟨g, k * 2, none⟩) (n - k) (c - k)) (p3 : d 3 = true → u57 = .slice (some ⟨g, 0, none⟩) n c) (p4 : d 4 = true → u58 = .int .i64 (k : Int)) (p5 : d 5 = true → u59 = .slice (some ⟨g, 0, none⟩) k c) (p6 : d 6 = true → u60 = .slice (some ⟨WA.heap.size, 0, none⟩) 2 2) (y7 : d 7 = true → Pz u61 wx) (y8 : d 8 = true → u5 = u61) (y9 : d 8 = true → d 0 = true) (z3 : d 8 = true → d 3 = true) (z7 : d 8 = true → d 7 = true) : SRI WA Pz g n c k x0 x2 x3 x4 x6 x7 x8 x9 x10 x11 x12 x13 x14 x15 x16 x17 x18 x19 x20 x21 x22 x23 x24 x25 x26 x27 x28 x29 x30 x31 x32 x33 x34 x35 x36 x37 x38 x39 x40 x41 x42 x43 x44 x45 x46 x47 x48 x49 x50 x51 x52 x53 x62 x63 x64 x65 x66 x67 x68 x69 x70 x71 x72 x73 x74 x75 d x wx
set_option maxHeartbeats 8000000 in
set_option maxRecDepth 100000 in
theorem law_sorted (t : Nd) (hs : Sm t) (x : V4) (w : World) (hx : Nv (· < w.heap.size) w t x) (hw : wn t ≤ 1048576) (turn : Int) :
    Calls Try.prog 6 #[v4 x, .int .i64 turn] w fun e w' => e = .returned (.bool true) ∧ Below w.heap.size w w' := by
  obtain ⟨zk, za1, zn1, zc1, za2, zn2, zc2, za3, zn3, zc3, rfl⟩ := Nv_form hx
  have bA : Below w.heap.size w (w.alloc (.cells #[.int .i64 zk, .slice za1 zn1 zc1, .slice za2 zn2 zc2, .slice za3 zn3 zc3] 25)) := (Below.refl _ _).alloc (Nat.le_refl _) _
  have Nt : Hid (NX w.heap.size (.int .i64 zk, .slice za1 zn1 zc1, .slice za2 zn2 zc2, .slice za3 zn3 zc3) t (w.alloc (.cells #[.int .i64 zk, .slice za1 zn1 zc1, .slice za2 zn2 zc2, .slice za3 zn3 zc3] 25))) := ⟨Bx_new w (.int .i64 zk, .slice za1 zn1 zc1, .slice za2 zn2 zc2, .slice za3 zn3 zc3), Nv_below (Nv_mono hx (fun _ _ _ => trivial)) bA⟩
  have HB : Hid (Below w.heap.size w (w.alloc (.cells #[.int .i64 zk, .slice za1 zn1 zc1, .slice za2 zn2 zc2, .slice za3 zn3 zc3] 25))) := bA
  have HW : Hid (wn t ≤ 1048576) := hw
  have LP : Hid (Lp t) := lp_wn (by omega)
  have HSM : Hid (Sm t) := hs
  have N0 : Hid (Nv (· < w.heap.size) (w.alloc (.cells #[.int .i64 zk, .slice za1 zn1 zc1, .slice za2 zn2 zc2, .slice za3 zn3 zc3] 25)) t (.int .i64 zk, .slice za1 zn1 zc1, .slice za2 zn2 zc2, .slice za3 zn3 zc3)) := Nv_below hx bA
  clear bA hx hw hs
  show Calls Try.prog _ #[.agg #[.int .i64 zk, .slice za1 zn1 zc1, .slice za2 zn2 zc2, .slice za3 zn3 zc3], .int .i64 turn] w _
  go_enter Try.func6, Try.ntmps6
  go_wp2_with fail
  refine (alive7_any _).mono ?_
  rintro e w1 ⟨rfl, hb⟩
  replace N0 : Hid (Nv (· < w.heap.size) w1 t (.int .i64 zk, .slice za1 zn1 zc1, .slice za2 zn2 zc2, .slice za3 zn3 zc3)) := Nv_below N0.out hb
  replace Nt : Hid (NX w.heap.size (.int .i64 zk, .slice za1 zn1 zc1, .slice za2 zn2 zc2, .slice za3 zn3 zc3) t w1) := NX_below Nt.out hb
  replace HB : Hid (Below w.heap.size w w1) := HB.out.trans ((hb).mono HB.out.size)
  clear hb
  cases hr : rd 0 t with
  | false =>
    have KR : Hid (Calls Try.prog 12 #[.agg #[.int .i64 zk, .slice za1 zn1 zc1, .slice za2 zn2 zc2, .slice za3 zn3 zc3]] w1 fun e w' => ∃ a n c, e = .returned (.tuple #[.slice a n c, .int .i64 1]) ∧ Below w1.heap.size w1 w') := by
      refine (tpairs_any t _ (.int .i64 zk, .slice za1 zn1 zc1, .slice za2 zn2 zc2, .slice za3 zn3 zc3) w1 Nt.out.2 HW.out).mono fun e w' he => ?_
      obtain ⟨v, h1, h2, h3⟩ := he
      rw [show pz t = 1 by unfold pz; rw [hr]; rfl] at h1
      obtain ⟨ao, cap, rfl, _⟩ := Pv_form h2
      exact ⟨ao, _, cap, h1, h3⟩
    have HR : Hid (rd 0 t = false) := hr
    clear hr
    have q0 := Nt.out.1.2.1
    have q1 := Nt.out.1.2.2.1
    have q2 := Nt.out.1.2.2.2.1
    have q3 := Nt.out.1.2.2.2.2
    dsimp only at q0 q1 q2 q3
    go_wp2_with fail
    refine KR.out.mono ?_
    rintro e w2 ⟨pa, pn, pc, rfl, hb⟩
    clear q0 q1 q2 q3
    replace N0 : Hid (Nv (· < w.heap.size) w2 t (.int .i64 zk, .slice za1 zn1 zc1, .slice za2 zn2 zc2, .slice za3 zn3 zc3)) := Nv_below N0.out hb
    replace Nt : Hid (NX w.heap.size (.int .i64 zk, .slice za1 zn1 zc1, .slice za2 zn2 zc2, .slice za3 zn3 zc3) t w2) := NX_below Nt.out hb
    replace HB : Hid (Below w.heap.size w w2) := HB.out.trans ((hb).mono HB.out.size)
    clear hb KR
    have KT : Hid (Calls Try.prog 11 #[.agg #[.int .i64 zk, .slice za1 zn1 zc1, .slice za2 zn2 zc2, .slice za3 zn3 zc3]] w2 fun e w' => e = .returned (.bool false) ∧ Below w2.heap.size w2 w') := by
      have h := right_lp t w2.heap.size (.int .i64 zk, .slice za1 zn1 zc1, .slice za2 zn2 zc2, .slice za3 zn3 zc3) w2 (Nv_mono Nt.out.2 (fun _ _ h => h)) (Nat.le_refl _) LP.out
      rwa [HR.out] at h
    have q0 := Nt.out.1.2.1
    have q1 := Nt.out.1.2.2.1
    have q2 := Nt.out.1.2.2.2.1
    have q3 := Nt.out.1.2.2.2.2
    dsimp only at q0 q1 q2 q3
    go_wp2_with fail
    refine KT.out.mono ?_
    rintro e w3 ⟨rfl, hb⟩
    clear q0 q1 q2 q3
    replace N0 : Hid (Nv (· < w.heap.size) w3 t (.int .i64 zk, .slice za1 zn1 zc1, .slice za2 zn2 zc2, .slice za3 zn3 zc3)) := Nv_below N0.out hb
    replace Nt : Hid (NX w.heap.size (.int .i64 zk, .slice za1 zn1 zc1, .slice za2 zn2 zc2, .slice za3 zn3 zc3) t w3) := NX_below Nt.out hb
    replace HB : Hid (Below w.heap.size w w3) := HB.out.trans ((hb).mono HB.out.size)
    clear hb KT
    go_wp2_with fail
    go_ret
    exact ⟨rfl, HB.out⟩
  | true =>
    have KR : Hid (Calls Try.prog 12 #[.agg #[.int .i64 zk, .slice za1 zn1 zc1, .slice za2 zn2 zc2, .slice za3 zn3 zc3]] w1 fun e w' => ∃ b0 a n c, e = .returned (.tuple #[.slice a n c, .int .i64 0]) ∧ (b0 < w'.heap.size ∨ prs t = []) ∧ w1.heap.size ≤ b0 ∧ Po b0 (prs t) (.slice a n c) w' ∧ Below w1.heap.size w1 w') := own_pairs hr (x := (.int .i64 zk, .slice za1 zn1 zc1, .slice za2 zn2 zc2, .slice za3 zn3 zc3)) Nt.out.2 HW.out
    have HR : Hid (rd 0 t = true) := hr
    clear hr
    have HB1 : Hid (Below w.heap.size w w1) := HB.out
    have q0 := Nt.out.1.2.1
    have q1 := Nt.out.1.2.2.1
    have q2 := Nt.out.1.2.2.2.1
    have q3 := Nt.out.1.2.2.2.2
    dsimp only at q0 q1 q2 q3
    go_wp2_with fail
    refine KR.out.mono ?_
    rintro e w2 ⟨b0, pa, pn, pc, rfl, hb0, hle, hpo, hb⟩
    clear q0 q1 q2 q3
    replace N0 : Hid (Nv (· < w.heap.size) w2 t (.int .i64 zk, .slice za1 zn1 zc1, .slice za2 zn2 zc2, .slice za3 zn3 zc3)) := Nv_below N0.out hb
    replace Nt : Hid (NX w.heap.size (.int .i64 zk, .slice za1 zn1 zc1, .slice za2 zn2 zc2, .slice za3 zn3 zc3) t w2) := NX_below Nt.out hb
    replace HB : Hid (Below w.heap.size w w2) := HB.out.trans ((hb).mono HB.out.size)
    have PO : Hid (Po b0 (prs t) (.slice pa pn pc) w2) := hpo
    have PO : Hid (Po b0 (prs t) (.slice pa pn pc) w2) := hpo
    have HPN : Hid (pn = (prs t).length) := by
      obtain ⟨vs, h1, h2, _⟩ := hpo
      rcases h2.2 with ⟨h3, h4⟩ | ⟨g, cap, cur, h3, _⟩
      · injection h3 with _ e2 _; show _ = _; omega
      · injection h3
    have HPL : Hid ((prs t).length ≤ 1048576) := prs_len HW.out
    have HB0 : Hid (b0 < w2.heap.size ∨ prs t = []) := hb0
    have HLE : Hid (w.heap.size ≤ b0) := by have := HB1.out.size; show _ ≤ _; omega
    clear hpo hb KR hb0 hle HB1
    go_wp2_with fail
    go_loopw [7] (fun iv wr => ∃ j : Nat, 1 ≤ j ∧ j ≤ pn + 1 ∧ iv = .int .i64 (j : Int) ∧ Below w2.heap.size w2 wr) (fun iv _ => ((pn : Int) + 1 - intOf iv).toNat)
    case atStart => exact ⟨1, Nat.le_refl _, by omega, rfl, Below.refl _ _⟩
    case round =>
      obtain ⟨j, hj1, hj2, rfl, hBr⟩ := hrel
      by_cases hlt : j < pn
      · obtain ⟨i, hij⟩ : ∃ i, j = i + 1 := ⟨j - 1, by omega⟩
        have hlen := HPN.out
        have hpl := HPL.out
        have PV2 := Po_pv PO.out
        obtain ⟨g, off, kv1, vv1, rfl, -, hg, z0, -, i1, -⟩ := Pv_at PV2 (j := i) (by omega)
        obtain ⟨g', off', kv2, vv2, eg, -, hg', t0, -, j1, -⟩ := Pv_at PV2 (j := j) (by omega)
        injection eg with eg
        injection eg with eg eo
        subst eg eo
        have Q1 : Hid (wr.drew.cell? ⟨g, off + i * 2, none⟩ = some kv1) := by rw [Nat.mul_comm i 2]; exact (hBr.cell (p := ⟨g, off + 2 * i, none⟩) hg).trans z0
        have Q2 : Hid (wr.drew.cell? ⟨g, off + j * 2, none⟩ = some kv2) := by rw [Nat.mul_comm j 2]; exact (hBr.cell (p := ⟨g, off + 2 * j, none⟩) hg).trans t0
        have k0 := keys_less i (t := t) (by omega)
        rw [← hij] at k0
        have s1 := Bs_below i1 (show Below w2.heap.size w2 wr.drew from hBr.drew)
        have s2 := Bs_below j1 (show Below w2.heap.size w2 wr.drew from hBr.drew)
        generalize ((prs t).getD i n2).1 = p1 at *
        generalize ((prs t).getD j n2).1 = p2 at *
        obtain ⟨k1, b1, rfl, _⟩ := Bs_form i1
        obtain ⟨k2, b2, rfl, _⟩ := Bs_form j1
        have V1 : Hid ((convert 22 9 (.slice k1 p1.length b1)).run Try.prog wr.drew = .ok (.string (Tr.st p1)) wr.drew) := Sl_st (Bs_sl s1)
        have V2 : Hid ((convert 22 9 (.slice k2 p2.length b2)).run Try.prog wr.drew = .ok (.string (Tr.st p2)) wr.drew) := Sl_st (Bs_sl s2)
        have HLT : Hid (Op.bytesLess (Tr.st p1).toList (Tr.st p2).toList = true) := by show _ = _; rw [st_list, st_list]; exact k0
        have HI1 : Hid ((0 : Int) ≤ (i : Int)) := by show _ ≤ _; omega
        have HI2 : Hid ((i : Int) < (pn : Int)) := by show _ < _; omega
        have HJ1 : Hid ((0 : Int) ≤ (j : Int)) := by show _ ≤ _; omega
        have HJ2 : Hid ((j : Int) < (pn : Int)) := by show _ < _; omega
        have HSUB : Hid (IntKind.i64.wrap ((j : Int) - 1) = (i : Int)) := by show _ = _; rw [IntKind.wrap_i64]; omega
        have d0 : decide ((j : Int) < (pn : Int)) = true := decide_eq_true (by omega)
        have e5 : Hid (wrap64 ((j : Int) + 1) = ((j + 1 : Nat) : Int)) := by show _ = _; unfold wrap64; omega
        have HBR : Hid (Below w2.heap.size w2 wr.drew) := hBr.drew
        have hms : ((pn : Int) + 1 - intOf (.int .i64 ((j + 1 : Nat) : Int))).toNat < ((pn : Int) + 1 - intOf (.int .i64 (j : Int))).toNat := by simp only [intOf]; omega
        clear hij hlen hpl PV2 hg hg' z0 t0 i1 j1 k0 s1 s2 hBr
        generalize Tr.st p1 = X at *
        generalize Tr.st p2 = Y at *
        generalize p1.length = a1 at *
        generalize p2.length = a2 at *
        go_upto_region 9 with fail
        refine RI.wp_region_inv (SNI wr.drew g off pn pc i j k1 k2 a1 b1 a2 b2 X Y (.agg #[.int .i64 zk, .slice za1 zn1 zc1, .slice za2 zn2 zc2, .slice za3 zn3 zc3]) (.int .i64 turn) (.pointer (some ⟨w.heap.size, 0, none⟩)) (undef) (u4) (.int .i64 0) (undef) (undef) (.bool true) (.bool false) (.tuple #[.slice (some ⟨g, off, none⟩) pn pc, .int .i64 0]) (.agg #[.int .i64 zk, .slice za1 zn1 zc1, .slice za2 zn2 zc2, .slice za3 zn3 zc3]) (.tuple #[.slice (some ⟨g, off, none⟩) pn pc, .int .i64 0]) (.slice (some ⟨g, off, none⟩) pn pc) (.int .i64 0) (.int .i64 0) (.bool false) (undef) (undef) (undef) (undef) (undef) (undef) (undef) (.int .i64 (j : Int)) (.slice (some ⟨g, off, none⟩) pn pc) (.int .i64 (pn : Int)) (.bool true) (u30) (u31) (undef) (undef) (undef) (undef) (undef) (undef) (undef) (undef) (undef) (undef) (undef) (undef) (undef) (undef) (undef) (undef) (undef) (undef) (undef) (undef) (undef) (undef) (undef) (undef) (undef) (undef) (undef) (undef) (undef) (undef)) (by kernel_rfl) (by kernel_rfl) ?_ ?_ ?_
        · exact ⟨_, _, _, _, _, _, _, _, _, _, _, _, _, _, rfl, (show Hid (wr.drew = wr.drew) from rfl), nofun, nofun, nofun, nofun, nofun, nofun, nofun, nofun, nofun, nofun, nofun, nofun, nofun, nofun⟩
        · skip
          intro d x wx i hI hi hm
          obtain ⟨u32, u33, u34, u35, u36, u37, u38, u39, u40, u41, u42, u43, u44, u45, rfl, hw, p0, p1, p2, p3, p4, p5, p6, p7, p8, p9, p10, p11, p12, p13⟩ := hI
          have hi' : i = 0 ∨ i = 1 ∨ i = 2 ∨ i = 3 ∨ i = 4 ∨ i = 5 ∨ i = 6 ∨ i = 7 ∨ i = 8 ∨ i = 9 ∨ i = 10 ∨ i = 11 ∨ i = 12 ∨ i = 13 := by simp at hi; omega
          have hd := hm.2
          clear hm hi
          rcases hi' with rfl | rfl | rfl | rfl | rfl | rfl | rfl | rfl | rfl | rfl | rfl | rfl | rfl | rfl
          · refine RI.wpOp_plain rfl rfl ?_
            go_simp
            exact ⟨_, u33, u34, u35, u36, u37, u38, u39, u40, u41, u42, u43, u44, u45, rfl, hw, fun _ => rfl, p1, p2, p3, p4, p5, p6, p7, p8, p9, p10, p11, p12, p13⟩
          · refine RI.wpOp_plain rfl rfl ?_
            go_simp
            exact ⟨u32, _, u34, u35, u36, u37, u38, u39, u40, u41, u42, u43, u44, u45, rfl, hw, p0, fun _ => rfl, p2, p3, p4, p5, p6, p7, p8, p9, p10, p11, p12, p13⟩
          · have hd := hd _ rfl
            simp [Region.binds] at hd
            obtain rfl := p1 (by simp [hd])
            refine RI.wpOp_plain rfl rfl ?_
            have hsub := HSUB.out
            go_simp
            exact ⟨u32, _, _, u35, u36, u37, u38, u39, u40, u41, u42, u43, u44, u45, rfl, hw, p0, p1, fun _ => rfl, p3, p4, p5, p6, p7, p8, p9, p10, p11, p12, p13⟩
          · have hd := hd _ rfl
            simp [Region.binds] at hd
            obtain rfl := p0 (by simp [hd])
            obtain rfl := p2 (by simp [hd])
            refine RI.wpOp_plain rfl rfl ?_
            have h1 := HI1.out
            have h2 := HI2.out
            go_simp
            exact ⟨_, u33, _, _, u36, u37, u38, u39, u40, u41, u42, u43, u44, u45, rfl, hw, p0, p1, p2, fun _ => rfl, p4, p5, p6, p7, p8, p9, p10, p11, p12, p13⟩
          · have hd := hd _ rfl
            simp [Region.binds] at hd
            obtain rfl := p3 (by simp [hd])
            refine RI.wpOp_plain rfl rfl ?_
            go_simp
            exact ⟨u32, u33, u34, _, _, u37, u38, u39, u40, u41, u42, u43, u44, u45, rfl, hw, p0, p1, p2, p3, fun _ => rfl, p5, p6, p7, p8, p9, p10, p11, p12, p13⟩
          · have hd := hd _ rfl
            simp [Region.binds] at hd
            obtain rfl := p4 (by simp [hd])
            refine RI.wpOp_plain rfl rfl ?_
            have e := hw.out
            subst e
            have y0 := Q1.out
            go_simp
            exact ⟨u32, u33, u34, u35, _, _, u38, u39, u40, u41, u42, u43, u44, u45, rfl, hw, p0, p1, p2, p3, p4, fun _ => rfl, p6, p7, p8, p9, p10, p11, p12, p13⟩
          · have hd := hd _ rfl
            simp [Region.binds] at hd
            obtain rfl := p5 (by simp [hd])
            refine RI.wpOp_plain rfl rfl ?_
            have e := hw.out
            subst e
            have y0 := V1.out
            go_simp
            exact ⟨u32, u33, u34, u35, u36, _, _, u39, u40, u41, u42, u43, u44, u45, rfl, hw, p0, p1, p2, p3, p4, p5, fun _ => rfl, p7, p8, p9, p10, p11, p12, p13⟩
          · refine RI.wpOp_plain rfl rfl ?_
            go_simp
            exact ⟨u32, u33, u34, u35, u36, u37, u38, _, u40, u41, u42, u43, u44, u45, rfl, hw, p0, p1, p2, p3, p4, p5, p6, fun _ => rfl, p8, p9, p10, p11, p12, p13⟩
          · refine RI.wpOp_plain rfl rfl ?_
            go_simp
            exact ⟨u32, u33, u34, u35, u36, u37, u38, u39, _, u41, u42, u43, u44, u45, rfl, hw, p0, p1, p2, p3, p4, p5, p6, p7, fun _ => rfl, p9, p10, p11, p12, p13⟩
          · have hd := hd _ rfl
            simp [Region.binds] at hd
            obtain rfl := p7 (by simp [hd])
            obtain rfl := p8 (by simp [hd])
            refine RI.wpOp_plain rfl rfl ?_
            have h1 := HJ1.out
            have h2 := HJ2.out
            go_simp
            exact ⟨u32, u33, u34, u35, u36, u37, u38, _, _, _, u42, u43, u44, u45, rfl, hw, p0, p1, p2, p3, p4, p5, p6, p7, p8, fun _ => rfl, p10, p11, p12, p13⟩
          · have hd := hd _ rfl
            simp [Region.binds] at hd
            obtain rfl := p9 (by simp [hd])
            refine RI.wpOp_plain rfl rfl ?_
            go_simp
            exact ⟨u32, u33, u34, u35, u36, u37, u38, u39, u40, _, _, u43, u44, u45, rfl, hw, p0, p1, p2, p3, p4, p5, p6, p7, p8, p9, fun _ => rfl, p11, p12, p13⟩
          · have hd := hd _ rfl
            simp [Region.binds] at hd
            obtain rfl := p10 (by simp [hd])
            refine RI.wpOp_plain rfl rfl ?_
            have e := hw.out
            subst e
            have y0 := Q2.out
            go_simp
            exact ⟨u32, u33, u34, u35, u36, u37, u38, u39, u40, u41, _, _, u44, u45, rfl, hw, p0, p1, p2, p3, p4, p5, p6, p7, p8, p9, p10, fun _ => rfl, p12, p13⟩
          · have hd := hd _ rfl
            simp [Region.binds] at hd
            obtain rfl := p11 (by simp [hd])
            refine RI.wpOp_plain rfl rfl ?_
            have e := hw.out
            subst e
            have y0 := V2.out
            go_simp
            exact ⟨u32, u33, u34, u35, u36, u37, u38, u39, u40, u41, u42, _, _, u45, rfl, hw, p0, p1, p2, p3, p4, p5, p6, p7, p8, p9, p10, p11, fun _ => rfl, p13⟩
          · have hd := hd _ rfl
            simp [Region.binds] at hd
            obtain rfl := p6 (by simp [hd])
            obtain rfl := p12 (by simp [hd])
            refine RI.wpOp_plain rfl rfl ?_
            have hlt := HLT.out
            go_simp
            exact ⟨u32, u33, u34, u35, u36, u37, _, u39, u40, u41, u42, u43, _, _, rfl, hw, p0, p1, p2, p3, p4, p5, p6, p7, p8, p9, p10, p11, p12, fun _ => rfl⟩
        · skip
          intro d x wx hI hd
          obtain ⟨u32, u33, u34, u35, u36, u37, u38, u39, u40, u41, u42, u43, u44, u45, rfl, hw, p0, p1, p2, p3, p4, p5, p6, p7, p8, p9, p10, p11, p12, p13⟩ := hI
          obtain rfl := p13 (hd 13 (by decide))
          have ew := hw.out
          subst ew
          clear p0 p1 p2 p3 p4 p5 p6 p7 p8 p9 p10 p11 p12 p13 hw hd
          go_wp2_with fail
          go_roundw
          case rel => exact ⟨j + 1, by omega, by have := HJ2.out; omega, by rw [e5.out], HBR.out⟩
          case measure => first | exact hms | (rw [e5.out]; exact hms)
      · have HBR : Hid (Below w2.heap.size w2 wr) := hBr
        have d0 : (pn : Int) ≤ (j : Int) := by omega
        clear hBr hlt hj1 hj2
        by_cases ht : 0 < turn
        · by_cases ht2 : turn < pn
          · obtain ⟨k, rfl⟩ : ∃ k : Nat, turn = (k : Int) := ⟨turn.toNat, by omega⟩
            have hk : 0 < k := by omega
            have hk2 : k < pn := by omega
            obtain ⟨g, rfl, hpc, hcon⟩ := rot_any (W := wr.drew) (Po_keep PO.out (fun k _ h2 => HBR.out.drew.block k h2) HBR.out.drew.size) HPL.out hk hk2 36
            have d1 : decide (0 < (k : Int)) = true := decide_eq_true ht
            have d2 : decide ((k : Int) < (pn : Int)) = true := decide_eq_true ht2
            obtain ⟨PZ, hPZ⟩ : ∃ PZ : Value → World → Prop, PZ = fun v w' => ∃ a n c, v = .slice a n c ∧ n = ((prs t).drop k ++ (prs t).take k).length ∧ Pv (· < w'.heap.size) ((prs t).drop k ++ (prs t).take k) (.slice a n c) w' ∧ Below wr.heap.size wr w' := ⟨_, rfl⟩
            have KC : Hid (Calls Try.prog 14 #[.slice (some ⟨wr.drew.heap.size, 0, none⟩) 2 2] (wr.drew.alloc (.cells #[.slice (some ⟨g, k * 2, none⟩) (pn - k) (pc - k), .slice (some ⟨g, 0, none⟩) k pc] 36)) fun e w' => ∃ a n c, e = .returned (.slice a n c) ∧ PZ (.slice a n c) w') := by
              refine hcon.mono fun e w' he => ?_
              obtain ⟨a, n, c, h1, h2, h3, h4⟩ := he
              refine ⟨a, n, c, h1, ?_⟩
              rw [hPZ]
              exact ⟨a, n, c, rfl, h2, h3, (Below.refl _ _).drew.trans h4⟩
            have HK2 : Hid ((k : Int) ≤ (pn : Int)) := by show _ ≤ _; omega
            have HK4 : Hid (¬ pc = k) := by show ¬ _; omega
            have HK5 : Hid (k ≤ pc) := by show _ ≤ _; omega
            have HK3 : Hid ((pn : Int) ≤ (pc : Int)) := by show _ ≤ _; omega
            have HPZ : Hid (∀ v w', PZ v w' → ∃ a n c, v = .slice a n c ∧ n = ((prs t).drop k ++ (prs t).take k).length ∧ Pv (· < w'.heap.size) ((prs t).drop k ++ (prs t).take k) (.slice a n c) w' ∧ Below wr.heap.size wr w') := fun v w' h => by rw [hPZ] at h; exact h
            clear hcon hPZ hk hk2 hpc
            go_upto_region 12 with fail
            refine RI.wp_region_inv (SRI wr.drew PZ g pn pc k (.agg #[.int .i64 zk, .slice za1 zn1 zc1, .slice za2 zn2 zc2, .slice za3 zn3 zc3]) (.pointer (some ⟨w.heap.size, 0, none⟩)) (undef) (u4) (.int .i64 0) (.int .i64 (j : Int)) (undef) (undef) (.bool true) (.bool false) (.tuple #[.slice (some ⟨g, 0, none⟩) pn pc, .int .i64 0]) (.agg #[.int .i64 zk, .slice za1 zn1 zc1, .slice za2 zn2 zc2, .slice za3 zn3 zc3]) (.tuple #[.slice (some ⟨g, 0, none⟩) pn pc, .int .i64 0]) (.slice (some ⟨g, 0, none⟩) pn pc) (.int .i64 0) (.int .i64 0) (.bool false) (undef) (undef) (undef) (undef) (undef) (undef) (undef) (.int .i64 (j : Int)) (.slice (some ⟨g, 0, none⟩) pn pc) (.int .i64 (pn : Int)) (.bool false) (u30) (u31) (u32) (u33) (u34) (u35) (u36) (u37) (u38) (u39) (u40) (u41) (u42) (u43) (u44) (u45) (.int .i64 (k : Int)) (.bool true) (.bool true) (.int .i64 (k : Int)) (.slice (some ⟨g, 0, none⟩) pn pc) (.int .i64 (pn : Int)) (.bool true) (.bool true) (undef) (undef) (undef) (undef) (undef) (undef) (undef) (undef) (undef) (undef) (undef) (undef) (undef) (undef)) (by kernel_rfl) (by kernel_rfl) ?_ ?_ ?_
            · exact ⟨_, _, _, _, _, _, _, _, _, rfl, ⟨⟨fun _ => rfl, fun e => (by cases e), fun e => (by cases e), fun e => (by cases e), fun _ => rfl⟩, fun _ => rfl⟩, nofun, nofun, nofun, nofun, nofun, nofun, nofun, nofun, nofun, nofun, nofun, nofun⟩
            · skip
              intro d x wx i hI hi hm
              obtain ⟨u5, u54, u55, u56, u57, u58, u59, u60, u61, rfl, hw, p0, p1, p2, p3, p4, p5, p6, y7, y8, y9, z3, z7⟩ := hI
              have hi' : i = 0 ∨ i = 1 ∨ i = 2 ∨ i = 3 ∨ i = 4 ∨ i = 5 ∨ i = 6 ∨ i = 7 ∨ i = 8 := by simp at hi; omega
              have hd := hm.2
              have hf := hm.1
              clear hm hi
              rcases hi' with rfl | rfl | rfl | rfl | rfl | rfl | rfl | rfl | rfl
              · refine RI.wpOp_plain rfl rfl ?_
                obtain rfl := (by cases h : d 8 with | false => exact hw.2 h | true => exact absurd (y9 h) (by rw [hf]; decide))
                go_simp
                exact ⟨_, _, u55, u56, u57, u58, u59, u60, u61, rfl, hw, fun _ => rfl, p1, p2, p3, p4, p5, p6, y7, y8, fun _ => rfl, z3, z7⟩
              · refine RI.wpOp_plain rfl rfl ?_
                go_simp
                exact ⟨u5, u54, _, u56, u57, u58, u59, u60, u61, rfl, hw, p0, fun _ => rfl, p2, p3, p4, p5, p6, y7, y8, y9, z3, z7⟩
              · have hd := hd _ rfl
                simp [Region.binds] at hd
                obtain rfl := p0 (by simp [hd])
                obtain rfl := p1 (by simp [hd])
                refine RI.wpOp_plain rfl rfl ?_
                have h0 : (0 : Int) ≤ (k : Int) := by omega
                have h1 := HK2.out
                have h2 := HK3.out
                have h3 := HK4.out
                have h4 := HK5.out
                go_simp
                exact ⟨u5, _, _, _, u57, u58, u59, u60, u61, rfl, hw, p0, p1, fun _ => rfl, p3, p4, p5, p6, y7, y8, y9, z3, z7⟩
              · refine RI.wpOp_plain rfl rfl ?_
                obtain rfl := (by cases h : d 8 with | false => exact hw.2 h | true => exact absurd (z3 h) (by rw [hf]; decide))
                go_simp
                exact ⟨_, u54, u55, u56, _, u58, u59, u60, u61, rfl, hw, p0, p1, p2, fun _ => rfl, p4, p5, p6, y7, y8, y9, fun _ => rfl, z7⟩
              · refine RI.wpOp_plain rfl rfl ?_
                go_simp
                exact ⟨u5, u54, u55, u56, u57, _, u59, u60, u61, rfl, hw, p0, p1, p2, p3, fun _ => rfl, p5, p6, y7, y8, y9, z3, z7⟩
              · have hd := hd _ rfl
                simp [Region.binds] at hd
                obtain rfl := p3 (by simp [hd])
                obtain rfl := p4 (by simp [hd])
                refine RI.wpOp_plain rfl rfl ?_
                have h0 : (0 : Int) ≤ (k : Int) := by omega
                have h1 := HK2.out
                have h2 := HK3.out
                have h4 := HK5.out
                go_simp
                exact ⟨u5, u54, u55, u56, _, _, _, u60, u61, rfl, hw, p0, p1, p2, p3, p4, fun _ => rfl, p6, y7, y8, y9, z3, z7⟩
              · have hd := hd _ rfl
                simp [Region.binds] at hd
                obtain rfl := p2 (by simp [hd])
                obtain rfl := p5 (by simp [hd])
                refine RI.wpOp_plain rfl rfl ?_
                obtain rfl := hw.1.a hf
                go_simp
                exact ⟨u5, u54, u55, _, u57, u58, _, _, u61, rfl, ⟨hw.1.sa hf rfl, hw.2⟩, p0, p1, p2, p3, p4, p5, fun _ => rfl, fun e => (by have h := (hw.1.o e).1; rw [hf] at h; cases h), (y8), (y9), (z3), (z7)⟩
              · have hd := hd _ rfl
                simp [Region.binds] at hd
                obtain rfl := p6 (by simp [hd])
                refine RI.wpOp_plain rfl rfl ?_
                obtain rfl := hw.1.c (by simp [hd]) hf
                go_simp
                refine (KC.out).mono ?_
                rintro e w1 ⟨a, n', c', rfl, hz⟩
                exact ⟨u5, u54, u55, u56, u57, u58, u59, _, _, rfl, ⟨hw.1.sc (by simp [hd]) rfl trivial, hw.2⟩, p0, p1, p2, p3, p4, p5, p6, fun _ => hz, fun e => (by have h := z7 e; rw [hf] at h; cases h), (y9), (z3), fun _ => rfl⟩
              · refine RI.wpOp_plain rfl rfl ?_
                go_simp
                have hd := hd _ rfl
                simp [Region.binds] at hd
                exact ⟨_, u54, u55, u56, u57, u58, u59, u60, u61, rfl, ⟨hw.1, fun e => (by cases e)⟩, p0, p1, p2, p3, p4, p5, p6, y7, fun _ => rfl, fun _ => (show d 0 = true by simp [hd]), fun _ => (show d 3 = true by simp [hd]), fun _ => (show d 7 = true by simp [hd])⟩
            · skip
              intro d x wx hI hd
              obtain ⟨u5, u54, u55, u56, u57, u58, u59, u60, u61, rfl, hw, p0, p1, p2, p3, p4, p5, p6, y7, y8, y9, z3, z7⟩ := hI
              have HD : Hid (PZ u61 wx) := y7 (hd 7 (by decide))
              obtain rfl := y8 (hd 8 (by decide))
              obtain ⟨ra, rn, rc, rfl, h1, h2, h3⟩ := HPZ.out _ _ HD.out
              have PV3 : Hid (Pv (· < wx.heap.size) ((prs t).drop k ++ (prs t).take k) (.slice ra rn rc) wx) := h2
              have HM : Hid (rn = ((prs t).drop k ++ (prs t).take k).length) := h1
              have HPM : Hid (((prs t).drop k ++ (prs t).take k).Perm (prs t)) := rot_perm _ _
              have N3 : Hid (NX w.heap.size (.int .i64 zk, .slice za1 zn1 zc1, .slice za2 zn2 zc2, .slice za3 zn3 zc3) t wx) := NX_below (NX_below Nt.out HBR.out) h3
              have hB := HB.out.trans (HBR.out.mono HB.out.size)
              have HB3 : Hid (Below w.heap.size w wx) := hB.trans (h3.mono hB.size)
              clear hB h1 h2 h3 HD HPZ p0 p1 p2 p3 p4 p5 p6 y7 y8 y9 z3 z7 hw hd KC d0 d1 d2
              have KO : Hid (Calls Try.prog 16 #[.slice ra rn rc] wx fun e w' => ∃ (r : Nd) (u : V4), e = .returned (.tuple #[v4 u, .int .i64 0]) ∧ Nv (wx.heap.size ≤ ·) w' r u ∧ OR ((prs t).drop k ++ (prs t).take k) r ∧ Below wx.heap.size wx w') := by
                have h := of_any ((prs t).drop k ++ (prs t).take k) _ _ _ wx PV3.out HM.out (by have := HPM.out.length_eq; have := HPL.out; have := HM.out; show _ ≤ _; omega)
                rwa [(again HR.out HPM.out).1] at h
              go_wp2_with fail
              refine KO.out.mono ?_
              rintro e w4 ⟨r, u, rfl, hn, hor, hb⟩
              obtain ⟨sk, sa1, sn1, sc1, sa2, sn2, sc2, sa3, sn3, sc3, rfl⟩ := Nv_form hn
              have bA : Below w4.heap.size w4 (w4.alloc (.cells #[.int .i64 sk, .slice sa1 sn1 sc1, .slice sa2 sn2 sc2, .slice sa3 sn3 sc3] 25)) := (Below.refl _ _).alloc (Nat.le_refl _) _
              have Ns : Hid (NX w4.heap.size (.int .i64 sk, .slice sa1 sn1 sc1, .slice sa2 sn2 sc2, .slice sa3 sn3 sc3) r (w4.alloc (.cells #[.int .i64 sk, .slice sa1 sn1 sc1, .slice sa2 sn2 sc2, .slice sa3 sn3 sc3] 25))) := ⟨Bx_new w4 (.int .i64 sk, .slice sa1 sn1 sc1, .slice sa2 sn2 sc2, .slice sa3 sn3 sc3), Nv_below (Nv_mono hn (fun _ _ _ => trivial)) bA⟩
              have Ny : Hid (NX w.heap.size (.int .i64 zk, .slice za1 zn1 zc1, .slice za2 zn2 zc2, .slice za3 zn3 zc3) t (w4.alloc (.cells #[.int .i64 sk, .slice sa1 sn1 sc1, .slice sa2 sn2 sc2, .slice sa3 sn3 sc3] 25))) := NX_below (NX_below N3.out hb) bA
              have HZ : Hid (Below w.heap.size w (w4.alloc (.cells #[.int .i64 sk, .slice sa1 sn1 sc1, .slice sa2 sn2 sc2, .slice sa3 sn3 sc3] 25))) := (HB3.out.trans (hb.mono HB3.out.size)).trans (bA.mono (Nat.le_trans HB3.out.size hb.size))
              have KS : Hid (Calls Try.prog 9 #[.agg #[.int .i64 sk, .slice sa1 sn1 sc1, .slice sa2 sn2 sc2, .slice sa3 sn3 sc3], .agg #[.int .i64 zk, .slice za1 zn1 zc1, .slice za2 zn2 zc2, .slice za3 zn3 zc3]] (w4.alloc (.cells #[.int .i64 sk, .slice sa1 sn1 sc1, .slice sa2 sn2 sc2, .slice sa3 sn3 sc3] 25)) fun e w' => e = .returned (.bool true) ∧ Below (w4.alloc (.cells #[.int .i64 sk, .slice sa1 sn1 sc1, .slice sa2 sn2 sc2, .slice sa3 sn3 sc3] 25)).heap.size (w4.alloc (.cells #[.int .i64 sk, .slice sa1 sn1 sc1, .slice sa2 sn2 sc2, .slice sa3 sn3 sc3] 25)) w') := by
                have h := same_any (or_sm2 hor) t _ _ (.int .i64 sk, .slice sa1 sn1 sc1, .slice sa2 sn2 sc2, .slice sa3 sn3 sc3) (.int .i64 zk, .slice za1 zn1 zc1, .slice za2 zn2 zc2, .slice za3 zn3 zc3) _ Ns.out.2 Ny.out.2
                rwa [again_sn HR.out HPM.out hor] at h
              clear hn hor hb bA KO
              simp only [v4]
              have qs0 := Ns.out.1.2.1
              have qs1 := Ns.out.1.2.2.1
              have qs2 := Ns.out.1.2.2.2.1
              have qs3 := Ns.out.1.2.2.2.2
              have qy0 := Ny.out.1.2.1
              have qy1 := Ny.out.1.2.2.1
              have qy2 := Ny.out.1.2.2.2.1
              have qy3 := Ny.out.1.2.2.2.2
              dsimp only at qs0 qs1 qs2 qs3 qy0 qy1 qy2 qy3
              go_wp2_with fail
              refine KS.out.mono ?_
              rintro e w9 ⟨rfl, hb9⟩
              have HZ9 : Hid (Below w.heap.size w w9) := HZ.out.trans (hb9.mono HZ.out.size)
              clear hb9 KS qs0 qs1 qs2 qs3 qy0 qy1 qy2 qy3
              go_wp2_with fail
              go_ret
              exact ⟨rfl, HZ9.out⟩
          · have d1 : decide (0 < turn) = true := decide_eq_true ht
            have d2 : decide (turn < (pn : Int)) = false := decide_eq_false ht2
            have KV : Hid (Calls Try.prog 15 #[.slice pa pn pc] wr fun e w' => e = .returned (.tuple #[]) ∧ Pv (· < w'.heap.size) (prs t).reverse (.slice pa pn pc) w' ∧ Below w.heap.size wr w' ∧ NX w.heap.size (.int .i64 zk, .slice za1 zn1 zc1, .slice za2 zn2 zc2, .slice za3 zn3 zc3) t w') := by
              refine (reverse_po (Po_keep PO.out (fun k _ h2 => HBR.out.block k h2) HBR.out.size) (by have := HPL.out; omega)).mono fun e w' he => ?_
              obtain ⟨h1, h2, h3, h4⟩ := he
              have hb := HLE.out
              have Nr := NX_below Nt.out HBR.out
              refine ⟨h1, Pv_mono (Po_pv h2) (fun k _ h => h), (Below.refl _ _).grown h3 (by have := Nr.1.1; omega) (fun q e => by have := h4 q e; omega), NX_gb Nr.1 (Nv_below N0.out HBR.out) h3 (fun q e => by have := h4 q e; omega)⟩
            go_wp2_with fail
            refine KV.out.mono ?_
            rintro e w3 ⟨rfl, h2, h3, h4⟩
            have PV3 : Hid (Pv (· < w3.heap.size) (prs t).reverse (.slice pa pn pc) w3) := h2
            have HM : Hid (pn = (prs t).reverse.length) := by show _ = _; rw [List.length_reverse]; exact HPN.out
            have HPM : Hid ((prs t).reverse.Perm (prs t)) := List.reverse_perm _
            have N3 : Hid (NX w.heap.size (.int .i64 zk, .slice za1 zn1 zc1, .slice za2 zn2 zc2, .slice za3 zn3 zc3) t w3) := h4
            have HB3 : Hid (Below w.heap.size w w3) := (HB.out.trans (HBR.out.mono HB.out.size)).trans h3
            clear h2 h3 h4 KV d1 d2
            have KO : Hid (Calls Try.prog 16 #[.slice pa pn pc] w3 fun e w' => ∃ (r : Nd) (u : V4), e = .returned (.tuple #[v4 u, .int .i64 0]) ∧ Nv (w3.heap.size ≤ ·) w' r u ∧ OR ((prs t).reverse) r ∧ Below w3.heap.size w3 w') := by
              have h := of_any ((prs t).reverse) _ _ _ w3 PV3.out HM.out (by have := HPM.out.length_eq; have := HPL.out; have := HM.out; show _ ≤ _; omega)
              rwa [(again HR.out HPM.out).1] at h
            go_wp2_with fail
            refine KO.out.mono ?_
            rintro e w4 ⟨r, u, rfl, hn, hor, hb⟩
            obtain ⟨sk, sa1, sn1, sc1, sa2, sn2, sc2, sa3, sn3, sc3, rfl⟩ := Nv_form hn
            have bA : Below w4.heap.size w4 (w4.alloc (.cells #[.int .i64 sk, .slice sa1 sn1 sc1, .slice sa2 sn2 sc2, .slice sa3 sn3 sc3] 25)) := (Below.refl _ _).alloc (Nat.le_refl _) _
            have Ns : Hid (NX w4.heap.size (.int .i64 sk, .slice sa1 sn1 sc1, .slice sa2 sn2 sc2, .slice sa3 sn3 sc3) r (w4.alloc (.cells #[.int .i64 sk, .slice sa1 sn1 sc1, .slice sa2 sn2 sc2, .slice sa3 sn3 sc3] 25))) := ⟨Bx_new w4 (.int .i64 sk, .slice sa1 sn1 sc1, .slice sa2 sn2 sc2, .slice sa3 sn3 sc3), Nv_below (Nv_mono hn (fun _ _ _ => trivial)) bA⟩
            have Ny : Hid (NX w.heap.size (.int .i64 zk, .slice za1 zn1 zc1, .slice za2 zn2 zc2, .slice za3 zn3 zc3) t (w4.alloc (.cells #[.int .i64 sk, .slice sa1 sn1 sc1, .slice sa2 sn2 sc2, .slice sa3 sn3 sc3] 25))) := NX_below (NX_below N3.out hb) bA
            have HZ : Hid (Below w.heap.size w (w4.alloc (.cells #[.int .i64 sk, .slice sa1 sn1 sc1, .slice sa2 sn2 sc2, .slice sa3 sn3 sc3] 25))) := (HB3.out.trans (hb.mono HB3.out.size)).trans (bA.mono (Nat.le_trans HB3.out.size hb.size))
            have KS : Hid (Calls Try.prog 9 #[.agg #[.int .i64 sk, .slice sa1 sn1 sc1, .slice sa2 sn2 sc2, .slice sa3 sn3 sc3], .agg #[.int .i64 zk, .slice za1 zn1 zc1, .slice za2 zn2 zc2, .slice za3 zn3 zc3]] (w4.alloc (.cells #[.int .i64 sk, .slice sa1 sn1 sc1, .slice sa2 sn2 sc2, .slice sa3 sn3 sc3] 25)) fun e w' => e = .returned (.bool true) ∧ Below (w4.alloc (.cells #[.int .i64 sk, .slice sa1 sn1 sc1, .slice sa2 sn2 sc2, .slice sa3 sn3 sc3] 25)).heap.size (w4.alloc (.cells #[.int .i64 sk, .slice sa1 sn1 sc1, .slice sa2 sn2 sc2, .slice sa3 sn3 sc3] 25)) w') := by
              have h := same_any (or_sm2 hor) t _ _ (.int .i64 sk, .slice sa1 sn1 sc1, .slice sa2 sn2 sc2, .slice sa3 sn3 sc3) (.int .i64 zk, .slice za1 zn1 zc1, .slice za2 zn2 zc2, .slice za3 zn3 zc3) _ Ns.out.2 Ny.out.2
              rwa [again_sn HR.out HPM.out hor] at h
            clear hn hor hb bA KO
            simp only [v4]
            have qs0 := Ns.out.1.2.1
            have qs1 := Ns.out.1.2.2.1
            have qs2 := Ns.out.1.2.2.2.1
            have qs3 := Ns.out.1.2.2.2.2
            have qy0 := Ny.out.1.2.1
            have qy1 := Ny.out.1.2.2.1
            have qy2 := Ny.out.1.2.2.2.1
            have qy3 := Ny.out.1.2.2.2.2
            dsimp only at qs0 qs1 qs2 qs3 qy0 qy1 qy2 qy3
            go_wp2_with fail
            refine KS.out.mono ?_
            rintro e w9 ⟨rfl, hb9⟩
            have HZ9 : Hid (Below w.heap.size w w9) := HZ.out.trans (hb9.mono HZ.out.size)
            clear hb9 KS qs0 qs1 qs2 qs3 qy0 qy1 qy2 qy3
            go_wp2_with fail
            go_ret
            exact ⟨rfl, HZ9.out⟩
        · have d1 : decide (0 < turn) = false := decide_eq_false ht
          have KV : Hid (Calls Try.prog 15 #[.slice pa pn pc] wr fun e w' => e = .returned (.tuple #[]) ∧ Pv (· < w'.heap.size) (prs t).reverse (.slice pa pn pc) w' ∧ Below w.heap.size wr w' ∧ NX w.heap.size (.int .i64 zk, .slice za1 zn1 zc1, .slice za2 zn2 zc2, .slice za3 zn3 zc3) t w') := by
            refine (reverse_po (Po_keep PO.out (fun k _ h2 => HBR.out.block k h2) HBR.out.size) (by have := HPL.out; omega)).mono fun e w' he => ?_
            obtain ⟨h1, h2, h3, h4⟩ := he
            have hb := HLE.out
            have Nr := NX_below Nt.out HBR.out
            refine ⟨h1, Pv_mono (Po_pv h2) (fun k _ h => h), (Below.refl _ _).grown h3 (by have := Nr.1.1; omega) (fun q e => by have := h4 q e; omega), NX_gb Nr.1 (Nv_below N0.out HBR.out) h3 (fun q e => by have := h4 q e; omega)⟩
          go_wp2_with fail
          refine KV.out.mono ?_
          rintro e w3 ⟨rfl, h2, h3, h4⟩
          have PV3 : Hid (Pv (· < w3.heap.size) (prs t).reverse (.slice pa pn pc) w3) := h2
          have HM : Hid (pn = (prs t).reverse.length) := by show _ = _; rw [List.length_reverse]; exact HPN.out
          have HPM : Hid ((prs t).reverse.Perm (prs t)) := List.reverse_perm _
          have N3 : Hid (NX w.heap.size (.int .i64 zk, .slice za1 zn1 zc1, .slice za2 zn2 zc2, .slice za3 zn3 zc3) t w3) := h4
          have HB3 : Hid (Below w.heap.size w w3) := (HB.out.trans (HBR.out.mono HB.out.size)).trans h3
          clear h2 h3 h4 KV d1
          have KO : Hid (Calls Try.prog 16 #[.slice pa pn pc] w3 fun e w' => ∃ (r : Nd) (u : V4), e = .returned (.tuple #[v4 u, .int .i64 0]) ∧ Nv (w3.heap.size ≤ ·) w' r u ∧ OR ((prs t).reverse) r ∧ Below w3.heap.size w3 w') := by
            have h := of_any ((prs t).reverse) _ _ _ w3 PV3.out HM.out (by have := HPM.out.length_eq; have := HPL.out; have := HM.out; show _ ≤ _; omega)
            rwa [(again HR.out HPM.out).1] at h
          go_wp2_with fail
          refine KO.out.mono ?_
          rintro e w4 ⟨r, u, rfl, hn, hor, hb⟩
          obtain ⟨sk, sa1, sn1, sc1, sa2, sn2, sc2, sa3, sn3, sc3, rfl⟩ := Nv_form hn
          have bA : Below w4.heap.size w4 (w4.alloc (.cells #[.int .i64 sk, .slice sa1 sn1 sc1, .slice sa2 sn2 sc2, .slice sa3 sn3 sc3] 25)) := (Below.refl _ _).alloc (Nat.le_refl _) _
          have Ns : Hid (NX w4.heap.size (.int .i64 sk, .slice sa1 sn1 sc1, .slice sa2 sn2 sc2, .slice sa3 sn3 sc3) r (w4.alloc (.cells #[.int .i64 sk, .slice sa1 sn1 sc1, .slice sa2 sn2 sc2, .slice sa3 sn3 sc3] 25))) := ⟨Bx_new w4 (.int .i64 sk, .slice sa1 sn1 sc1, .slice sa2 sn2 sc2, .slice sa3 sn3 sc3), Nv_below (Nv_mono hn (fun _ _ _ => trivial)) bA⟩
          have Ny : Hid (NX w.heap.size (.int .i64 zk, .slice za1 zn1 zc1, .slice za2 zn2 zc2, .slice za3 zn3 zc3) t (w4.alloc (.cells #[.int .i64 sk, .slice sa1 sn1 sc1, .slice sa2 sn2 sc2, .slice sa3 sn3 sc3] 25))) := NX_below (NX_below N3.out hb) bA
          have HZ : Hid (Below w.heap.size w (w4.alloc (.cells #[.int .i64 sk, .slice sa1 sn1 sc1, .slice sa2 sn2 sc2, .slice sa3 sn3 sc3] 25))) := (HB3.out.trans (hb.mono HB3.out.size)).trans (bA.mono (Nat.le_trans HB3.out.size hb.size))
          have KS : Hid (Calls Try.prog 9 #[.agg #[.int .i64 sk, .slice sa1 sn1 sc1, .slice sa2 sn2 sc2, .slice sa3 sn3 sc3], .agg #[.int .i64 zk, .slice za1 zn1 zc1, .slice za2 zn2 zc2, .slice za3 zn3 zc3]] (w4.alloc (.cells #[.int .i64 sk, .slice sa1 sn1 sc1, .slice sa2 sn2 sc2, .slice sa3 sn3 sc3] 25)) fun e w' => e = .returned (.bool true) ∧ Below (w4.alloc (.cells #[.int .i64 sk, .slice sa1 sn1 sc1, .slice sa2 sn2 sc2, .slice sa3 sn3 sc3] 25)).heap.size (w4.alloc (.cells #[.int .i64 sk, .slice sa1 sn1 sc1, .slice sa2 sn2 sc2, .slice sa3 sn3 sc3] 25)) w') := by
            have h := same_any (or_sm2 hor) t _ _ (.int .i64 sk, .slice sa1 sn1 sc1, .slice sa2 sn2 sc2, .slice sa3 sn3 sc3) (.int .i64 zk, .slice za1 zn1 zc1, .slice za2 zn2 zc2, .slice za3 zn3 zc3) _ Ns.out.2 Ny.out.2
            rwa [again_sn HR.out HPM.out hor] at h
          clear hn hor hb bA KO
          simp only [v4]
          have qs0 := Ns.out.1.2.1
          have qs1 := Ns.out.1.2.2.1
          have qs2 := Ns.out.1.2.2.2.1
          have qs3 := Ns.out.1.2.2.2.2
          have qy0 := Ny.out.1.2.1
          have qy1 := Ny.out.1.2.2.1
          have qy2 := Ny.out.1.2.2.2.1
          have qy3 := Ny.out.1.2.2.2.2
          dsimp only at qs0 qs1 qs2 qs3 qy0 qy1 qy2 qy3
          go_wp2_with fail
          refine KS.out.mono ?_
          rintro e w9 ⟨rfl, hb9⟩
          have HZ9 : Hid (Below w.heap.size w w9) := HZ.out.trans (hb9.mono HZ.out.size)
          clear hb9 KS qs0 qs1 qs2 qs3 qy0 qy1 qy2 qy3
          go_wp2_with fail
          go_ret
          exact ⟨rfl, HZ9.out⟩
end Tr
end Go.Proofs.Ythlgneadcagleab
