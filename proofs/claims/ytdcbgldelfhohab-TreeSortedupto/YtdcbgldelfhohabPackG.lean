/- The law TreeOne. -/
import Derived.Test.YtdcbgldelfhohabPackF
namespace Go.Proofs.Ytdcbgldelfhohab
namespace Tr
open Nb Go.RowKit
theorem jp_inj : ∀ {l m : Rt}, (∀ r ∈ l, JF r.1) → (∀ r ∈ m, JF r.1) → l.map jp = m.map jp → l = m
  | [], [], _, _, _ => rfl
  | [], _ :: _, _, _, h => by simp at h
  | _ :: _, [], _, _, h => by simp at h
  | a :: l, b :: m, hl, hm, h => by
    rw [List.map_cons, List.map_cons] at h
    injection h with h1 h2
    have e1 : jn a.1 = jn b.1 := (show (jp a).1 = (jp b).1 from congrArg Prod.fst h1)
    have e2 : a.2 = b.2 := (show (jp a).2 = (jp b).2 from congrArg Prod.snd h1)
    have e3 : a.1 = b.1 := by rw [← hv_jn a.1 (hl a (List.mem_cons_self ..)), ← hv_jn b.1 (hm b (List.mem_cons_self ..)), e1]
    rw [jp_inj (fun r hr => hl r (List.mem_cons_of_mem _ hr)) (fun r hr => hm r (List.mem_cons_of_mem _ hr)) h2, Prod.ext e3 e2]
theorem one_eq {s t : Nd} (hs : rd 0 s = true) (ht : rd 0 t = true) : decide (prs s = prs t) = sn s t := by
  have hS := (rd_right s).1 hs
  have hT := (rd_right t).1 ht
  obtain ⟨l, hl, okl, _⟩ := (right_iff s).1 hS
  obtain ⟨m, hm, okm, _⟩ := (right_iff t).1 hT
  obtain ⟨s1, p1, g1⟩ := rt_spec hl
  obtain ⟨s2, p2, g2⟩ := rt_spec hm
  have e1 : prs s = l.map jp := by unfold prs; rw [hs, hl]; rfl
  have e2 : prs t = m.map jp := by unfold prs; rw [ht, hm]; rfl
  rw [Bool.eq_iff_iff, decide_eq_true_iff, e1, e2]
  constructor
  · intro h
    have h2 := jp_inj (fun r hr => ⟨(okl r hr).1, p1 r hr⟩) (fun r hr => ⟨(okm r hr).1, p2 r hr⟩) h
    exact sn_uniq hS hT (fun q => by rw [← g1 q, ← g2 q, h2])
  · intro h
    have hb := (sn_bn s t).1 h
    rw [srt_ext l m s1 s2 (fun r hr => (okl r hr).2.2.1) (fun r hr => (okm r hr).2.2.1) (fun q => by rw [g1 q, g2 q, ← gt_bn s q, ← gt_bn t q, hb])]
inductive ONI (W0 : World) (ga gb xn xc yn yc : Nat) (xp yp : Option Addr) (z : Bool) (ak bk : Int) (aa1 aa2 aa3 ba1 ba2 ba3 : Option Addr) (an1 ac1 an2 ac2 an3 ac3 bn1 bc1 bn2 bc2 bn3 bc3 : Nat) (x0 x1 x9 x10 x11 x12 x13 x14 x15 x16 x17 x18 x19 x20 x21 x22 x23 x24 x25 x26 x27 x28 : Value) (d : Nat → Bool) (x : Act) (wx : World) : Prop where
  | mk (u4 u29 u30 u31 u32 u33 u34 u35 u36 u37 u38 u39 u40 u41 u42 u43 : Value) (hx : x = { tmps := #[x0, x1, .pointer (some ⟨ga, 0, none⟩), .pointer (some ⟨gb, 0, none⟩), u4, .slice xp xn xc, .int .i64 0, .slice yp yn yc, .int .i64 0, x9, x10, x11, x12, x13, x14, x15, x16, x17, x18, x19, x20, x21, x22, x23, x24, x25, x26, x27, x28, u29, u30, u31, u32, u33, u34, u35, u36, u37, u38, u39, u40, u41, u42, u43], defers := [] }) (hw : Below W0.heap.size W0 wx) (p0 : d 0 = true → u29 = .int .i64 0) (p1 : d 1 = true → u30 = .bool true) (p2 : d 2 = true → u31 = .bool true) (p3 : d 3 = true → u32 = .int .i64 0) (p4 : d 4 = true → u33 = .bool true) (p5 : d 5 = true → u34 = .bool true) (p6 : d 6 = true → u35 = .bool true) (p7 : d 7 = true → u36 = .slice xp xn xc) (p8 : d 8 = true → u37 = .slice yp yn yc) (p9 : d 9 = true → u38 = .bool z) (p10 : d 10 = true → u39 = .agg #[.int .i64 ak, .slice aa1 an1 ac1, .slice aa2 an2 ac2, .slice aa3 an3 ac3]) (p11 : d 11 = true → u40 = .agg #[.int .i64 bk, .slice ba1 bn1 bc1, .slice ba2 bn2 bc2, .slice ba3 bn3 bc3]) (p12 : d 12 = true → u41 = .bool z) (p13 : d 13 = true → u42 = .bool true) (p14 : d 14 = true → u43 = .bool true) (p15 : d 15 = true → u4 = .bool true) : ONI W0 ga gb xn xc yn yc xp yp z ak bk aa1 aa2 aa3 ba1 ba2 ba3 an1 ac1 an2 ac2 an3 ac3 bn1 bc1 bn2 bc2 bn3 bc3 x0 x1 x9 x10 x11 x12 x13 x14 x15 x16 x17 x18 x19 x20 x21 x22 x23 x24 x25 x26 x27 x28 d x wx
set_option maxHeartbeats 8000000 in
set_option maxRecDepth 100000 in
theorem law_one (s t : Nd) (hs : Sm s) (x y : V4) (w : World) (hx : Nv (· < w.heap.size) w s x) (hy : Nv (· < w.heap.size) w t y) (hw : wn s ≤ 1048576) (hw2 : wn t ≤ 1048576) :
    Calls Try.prog 5 #[v4 x, v4 y] w fun e w' => e = .returned (.bool true) ∧ Below w.heap.size w w' := by
  obtain ⟨ak, aa1, an1, ac1, aa2, an2, ac2, aa3, an3, ac3, rfl⟩ := Nv_form hx
  obtain ⟨bk, ba1, bn1, bc1, ba2, bn2, bc2, ba3, bn3, bc3, rfl⟩ := Nv_form hy
  have bA : Below w.heap.size w (w.alloc (.cells #[.int .i64 ak, .slice aa1 an1 ac1, .slice aa2 an2 ac2, .slice aa3 an3 ac3] 25)) := (Below.refl _ _).alloc (Nat.le_refl _) _
  have hs1 : (w.alloc (.cells #[.int .i64 ak, .slice aa1 an1 ac1, .slice aa2 an2 ac2, .slice aa3 an3 ac3] 25)).heap.size = w.heap.size + 1 := by simp
  have bB : Below (w.alloc (.cells #[.int .i64 ak, .slice aa1 an1 ac1, .slice aa2 an2 ac2, .slice aa3 an3 ac3] 25)).heap.size (w.alloc (.cells #[.int .i64 ak, .slice aa1 an1 ac1, .slice aa2 an2 ac2, .slice aa3 an3 ac3] 25)) ((w.alloc (.cells #[.int .i64 ak, .slice aa1 an1 ac1, .slice aa2 an2 ac2, .slice aa3 an3 ac3] 25)).alloc (.cells #[.int .i64 bk, .slice ba1 bn1 bc1, .slice ba2 bn2 bc2, .slice ba3 bn3 bc3] 25)) := (Below.refl _ _).alloc (Nat.le_refl _) _
  have nA : NX (w.heap.size) (.int .i64 ak, .slice aa1 an1 ac1, .slice aa2 an2 ac2, .slice aa3 an3 ac3) s (w.alloc (.cells #[.int .i64 ak, .slice aa1 an1 ac1, .slice aa2 an2 ac2, .slice aa3 an3 ac3] 25)) := ⟨Bx_new w (.int .i64 ak, .slice aa1 an1 ac1, .slice aa2 an2 ac2, .slice aa3 an3 ac3), Nv_below (Nv_mono hx (fun _ _ _ => trivial)) bA⟩
  have nB : NX (w.heap.size + 1) (.int .i64 bk, .slice ba1 bn1 bc1, .slice ba2 bn2 bc2, .slice ba3 bn3 bc3) t ((w.alloc (.cells #[.int .i64 ak, .slice aa1 an1 ac1, .slice aa2 an2 ac2, .slice aa3 an3 ac3] 25)).alloc (.cells #[.int .i64 bk, .slice ba1 bn1 bc1, .slice ba2 bn2 bc2, .slice ba3 bn3 bc3] 25)) := ⟨by have := Bx_new (w.alloc (.cells #[.int .i64 ak, .slice aa1 an1 ac1, .slice aa2 an2 ac2, .slice aa3 an3 ac3] 25)) (.int .i64 bk, .slice ba1 bn1 bc1, .slice ba2 bn2 bc2, .slice ba3 bn3 bc3); rwa [hs1] at this, Nv_below (Nv_below (Nv_mono hy (fun _ _ _ => trivial)) bA) bB⟩
  have Ns : Hid (NX (w.heap.size) (.int .i64 ak, .slice aa1 an1 ac1, .slice aa2 an2 ac2, .slice aa3 an3 ac3) s ((w.alloc (.cells #[.int .i64 ak, .slice aa1 an1 ac1, .slice aa2 an2 ac2, .slice aa3 an3 ac3] 25)).alloc (.cells #[.int .i64 bk, .slice ba1 bn1 bc1, .slice ba2 bn2 bc2, .slice ba3 bn3 bc3] 25))) := NX_below nA bB
  have Nt : Hid (NX (w.heap.size + 1) (.int .i64 bk, .slice ba1 bn1 bc1, .slice ba2 bn2 bc2, .slice ba3 bn3 bc3) t ((w.alloc (.cells #[.int .i64 ak, .slice aa1 an1 ac1, .slice aa2 an2 ac2, .slice aa3 an3 ac3] 25)).alloc (.cells #[.int .i64 bk, .slice ba1 bn1 bc1, .slice ba2 bn2 bc2, .slice ba3 bn3 bc3] 25))) := nB
  have HB : Hid (Below w.heap.size w ((w.alloc (.cells #[.int .i64 ak, .slice aa1 an1 ac1, .slice aa2 an2 ac2, .slice aa3 an3 ac3] 25)).alloc (.cells #[.int .i64 bk, .slice ba1 bn1 bc1, .slice ba2 bn2 bc2, .slice ba3 bn3 bc3] 25))) := bA.trans (bB.mono bA.size)
  have LPS : Hid (Lp s) := lp_wn (by omega)
  have LPT : Hid (Lp t) := lp_wn (by omega)
  have HWS : Hid (wn s ≤ 1048576) := hw
  have HWT : Hid (wn t ≤ 1048576) := hw2
  have HSM : Hid (Sm s) := hs
  clear bA bB nA nB hs1 hx hy hw hw2 hs
  show Calls Try.prog _ #[.agg #[.int .i64 ak, .slice aa1 an1 ac1, .slice aa2 an2 ac2, .slice aa3 an3 ac3], .agg #[.int .i64 bk, .slice ba1 bn1 bc1, .slice ba2 bn2 bc2, .slice ba3 bn3 bc3]] w _
  go_enter Try.func5, Try.ntmps5
  go_wp2_with fail
  refine (alive7_any _).mono ?_
  rintro e w1 ⟨rfl, hb⟩
  replace Ns : Hid (NX (w.heap.size) (.int .i64 ak, .slice aa1 an1 ac1, .slice aa2 an2 ac2, .slice aa3 an3 ac3) s w1) := NX_below Ns.out hb
  replace Nt : Hid (NX (w.heap.size + 1) (.int .i64 bk, .slice ba1 bn1 bc1, .slice ba2 bn2 bc2, .slice ba3 bn3 bc3) t w1) := NX_below Nt.out hb
  replace HB : Hid (Below w.heap.size w w1) := HB.out.trans (hb.mono HB.out.size)
  clear hb
  have KT : Hid (Calls Try.prog 11 #[.agg #[.int .i64 ak, .slice aa1 an1 ac1, .slice aa2 an2 ac2, .slice aa3 an3 ac3]] w1 fun e w' => e = .returned (.bool (rd 0 s)) ∧ Below w1.heap.size w1 w') := right_lp s w1.heap.size (.int .i64 ak, .slice aa1 an1 ac1, .slice aa2 an2 ac2, .slice aa3 an3 ac3) w1 (Nv_mono Ns.out.2 (fun _ _ h => h)) (Nat.le_refl _) LPS.out
  have qs0 := Ns.out.1.2.1
  have qs1 := Ns.out.1.2.2.1
  have qs2 := Ns.out.1.2.2.2.1
  have qs3 := Ns.out.1.2.2.2.2
  dsimp only at qs0 qs1 qs2 qs3
  go_wp2_with fail
  refine KT.out.mono ?_
  rintro e w2 ⟨rfl, hb⟩
  clear qs0 qs1 qs2 qs3
  clear KT
  replace Ns : Hid (NX (w.heap.size) (.int .i64 ak, .slice aa1 an1 ac1, .slice aa2 an2 ac2, .slice aa3 an3 ac3) s w2) := NX_below Ns.out hb
  replace Nt : Hid (NX (w.heap.size + 1) (.int .i64 bk, .slice ba1 bn1 bc1, .slice ba2 bn2 bc2, .slice ba3 bn3 bc3) t w2) := NX_below Nt.out hb
  replace HB : Hid (Below w.heap.size w w2) := HB.out.trans (hb.mono HB.out.size)
  clear hb
  cases hrs : rd 0 s with
  | false =>
    clear hrs
    go_wp2_with fail
    go_ret
    exact ⟨rfl, HB.out⟩
  | true =>
    have KT : Hid (Calls Try.prog 11 #[.agg #[.int .i64 bk, .slice ba1 bn1 bc1, .slice ba2 bn2 bc2, .slice ba3 bn3 bc3]] w2 fun e w' => e = .returned (.bool (rd 0 t)) ∧ Below w2.heap.size w2 w') := right_lp t w2.heap.size (.int .i64 bk, .slice ba1 bn1 bc1, .slice ba2 bn2 bc2, .slice ba3 bn3 bc3) w2 (Nv_mono Nt.out.2 (fun _ _ h => h)) (Nat.le_refl _) LPT.out
    have HRS : Hid (rd 0 s = true) := hrs
    clear hrs
    have qt0 := Nt.out.1.2.1
    have qt1 := Nt.out.1.2.2.1
    have qt2 := Nt.out.1.2.2.2.1
    have qt3 := Nt.out.1.2.2.2.2
    dsimp only at qt0 qt1 qt2 qt3
    go_wp2_with fail
    refine KT.out.mono ?_
    rintro e w3 ⟨rfl, hb⟩
    clear qt0 qt1 qt2 qt3
    clear KT
    replace Ns : Hid (NX (w.heap.size) (.int .i64 ak, .slice aa1 an1 ac1, .slice aa2 an2 ac2, .slice aa3 an3 ac3) s w3) := NX_below Ns.out hb
    replace Nt : Hid (NX (w.heap.size + 1) (.int .i64 bk, .slice ba1 bn1 bc1, .slice ba2 bn2 bc2, .slice ba3 bn3 bc3) t w3) := NX_below Nt.out hb
    replace HB : Hid (Below w.heap.size w w3) := HB.out.trans (hb.mono HB.out.size)
    clear hb
    cases hrt : rd 0 t with
    | false =>
      clear hrt
      go_wp2_with fail
      go_ret
      exact ⟨rfl, HB.out⟩
    | true =>
      have HRT : Hid (rd 0 t = true) := hrt
      clear hrt
      have KR : Hid (Calls Try.prog 12 #[.agg #[.int .i64 ak, .slice aa1 an1 ac1, .slice aa2 an2 ac2, .slice aa3 an3 ac3]] w3 fun e w' => ∃ a n c, e = .returned (.tuple #[.slice a n c, .int .i64 0]) ∧ Pv (fun _ => True) (prs s) (.slice a n c) w' ∧ Below w3.heap.size w3 w') := by
        refine (tpairs_any s _ (.int .i64 ak, .slice aa1 an1 ac1, .slice aa2 an2 ac2, .slice aa3 an3 ac3) w3 Ns.out.2 HWS.out).mono fun e w' he => ?_
        obtain ⟨v, h1, h2, h3⟩ := he
        rw [show pz s = 0 by unfold pz; rw [HRS.out]; rfl] at h1
        obtain ⟨ao, cap, rfl, _⟩ := Pv_form h2
        exact ⟨ao, _, cap, h1, Pv_mono h2 (fun _ _ _ => trivial), h3⟩
      have qs0 := Ns.out.1.2.1
      have qs1 := Ns.out.1.2.2.1
      have qs2 := Ns.out.1.2.2.2.1
      have qs3 := Ns.out.1.2.2.2.2
      dsimp only at qs0 qs1 qs2 qs3
      go_wp2_with fail
      refine KR.out.mono ?_
      rintro e w4 ⟨xp, xn, xc, rfl, hpx, hb⟩
      clear qs0 qs1 qs2 qs3
      clear KR
      have PX : Hid (Pv (fun _ => True) (prs s) (.slice xp xn xc) w4) := hpx
      clear hpx
      replace Ns : Hid (NX (w.heap.size) (.int .i64 ak, .slice aa1 an1 ac1, .slice aa2 an2 ac2, .slice aa3 an3 ac3) s w4) := NX_below Ns.out hb
      replace Nt : Hid (NX (w.heap.size + 1) (.int .i64 bk, .slice ba1 bn1 bc1, .slice ba2 bn2 bc2, .slice ba3 bn3 bc3) t w4) := NX_below Nt.out hb
      replace HB : Hid (Below w.heap.size w w4) := HB.out.trans (hb.mono HB.out.size)
      clear hb
      have KR : Hid (Calls Try.prog 12 #[.agg #[.int .i64 bk, .slice ba1 bn1 bc1, .slice ba2 bn2 bc2, .slice ba3 bn3 bc3]] w4 fun e w' => ∃ a n c, e = .returned (.tuple #[.slice a n c, .int .i64 0]) ∧ Pv (fun _ => True) (prs t) (.slice a n c) w' ∧ Below w4.heap.size w4 w') := by
        refine (tpairs_any t _ (.int .i64 bk, .slice ba1 bn1 bc1, .slice ba2 bn2 bc2, .slice ba3 bn3 bc3) w4 Nt.out.2 HWT.out).mono fun e w' he => ?_
        obtain ⟨v, h1, h2, h3⟩ := he
        rw [show pz t = 0 by unfold pz; rw [HRT.out]; rfl] at h1
        obtain ⟨ao, cap, rfl, _⟩ := Pv_form h2
        exact ⟨ao, _, cap, h1, Pv_mono h2 (fun _ _ _ => trivial), h3⟩
      have qt0 := Nt.out.1.2.1
      have qt1 := Nt.out.1.2.2.1
      have qt2 := Nt.out.1.2.2.2.1
      have qt3 := Nt.out.1.2.2.2.2
      dsimp only at qt0 qt1 qt2 qt3
      go_wp2_with fail
      refine KR.out.mono ?_
      rintro e w5 ⟨yp, yn, yc, rfl, hpy, hb⟩
      clear qt0 qt1 qt2 qt3
      clear KR
      replace PX : Hid (Pv (fun _ => True) (prs s) (.slice xp xn xc) w5) := Pv_below PX.out hb
      have PY : Hid (Pv (fun _ => True) (prs t) (.slice yp yn yc) w5) := hpy
      clear hpy
      replace Ns : Hid (NX (w.heap.size) (.int .i64 ak, .slice aa1 an1 ac1, .slice aa2 an2 ac2, .slice aa3 an3 ac3) s w5) := NX_below Ns.out hb
      replace Nt : Hid (NX (w.heap.size + 1) (.int .i64 bk, .slice ba1 bn1 bc1, .slice ba2 bn2 bc2, .slice ba3 bn3 bc3) t w5) := NX_below Nt.out hb
      replace HB : Hid (Below w.heap.size w w5) := HB.out.trans (hb.mono HB.out.size)
      clear hb
      have hz := one_eq HRS.out HRT.out
      obtain ⟨z, hzz⟩ : ∃ z, z = sn s t := ⟨_, rfl⟩
      have KP : Hid (∀ wx : World, Below w5.heap.size w5 wx → Calls Try.prog 13 #[.slice xp xn xc, .slice yp yn yc] wx fun e w' => e = .returned (.bool z) ∧ Below wx.heap.size wx w') := fun wx hx => by
        have h := samep_any (Pv_below PX.out hx) (Pv_below PY.out hx) (by have := prs_len HWS.out; omega)
        rwa [hz, ← hzz] at h
      have KS : Hid (∀ wx : World, Below w5.heap.size w5 wx → Calls Try.prog 9 #[.agg #[.int .i64 ak, .slice aa1 an1 ac1, .slice aa2 an2 ac2, .slice aa3 an3 ac3], .agg #[.int .i64 bk, .slice ba1 bn1 bc1, .slice ba2 bn2 bc2, .slice ba3 bn3 bc3]] wx fun e w' => e = .returned (.bool z) ∧ Below wx.heap.size wx w') := fun wx hx => by
        have h := same_any HSM.out t _ _ (.int .i64 ak, .slice aa1 an1 ac1, .slice aa2 an2 ac2, .slice aa3 an3 ac3) (.int .i64 bk, .slice ba1 bn1 bc1, .slice ba2 bn2 bc2, .slice ba3 bn3 bc3) wx (NX_below Ns.out hx).2 (NX_below Nt.out hx).2
        rwa [← hzz] at h
      obtain ⟨nS, A0', A1', A2', A3'⟩ := Ns.out.1
      obtain ⟨nT, B0', B1', B2', B3'⟩ := Nt.out.1
      dsimp only at A0' A1' A2' A3' B0' B1' B2' B3'
      have HGA : Hid (w.heap.size < w5.heap.size) := nS
      have HGB : Hid (w.heap.size + 1 < w5.heap.size) := nT
      have A0 : Hid (w5.cell? ⟨w.heap.size, 0, none⟩ = some (.int .i64 ak)) := A0'
      have A1 : Hid (w5.cell? ⟨w.heap.size, 1, none⟩ = some (.slice aa1 an1 ac1)) := A1'
      have A2 : Hid (w5.cell? ⟨w.heap.size, 2, none⟩ = some (.slice aa2 an2 ac2)) := A2'
      have A3 : Hid (w5.cell? ⟨w.heap.size, 3, none⟩ = some (.slice aa3 an3 ac3)) := A3'
      have B0 : Hid (w5.cell? ⟨w.heap.size + 1, 0, none⟩ = some (.int .i64 bk)) := B0'
      have B1 : Hid (w5.cell? ⟨w.heap.size + 1, 1, none⟩ = some (.slice ba1 bn1 bc1)) := B1'
      have B2 : Hid (w5.cell? ⟨w.heap.size + 1, 2, none⟩ = some (.slice ba2 bn2 bc2)) := B2'
      have B3 : Hid (w5.cell? ⟨w.heap.size + 1, 3, none⟩ = some (.slice ba3 bn3 bc3)) := B3'
      have hw0 : Below w5.heap.size w5 w5.drew := (Below.refl _ _).drew
      clear nS nT A0' A1' A2' A3' B0' B1' B2' B3' hz hzz PX PY Ns Nt HSM LPS LPT HWS HWT HRS HRT
      go_upto_region 7 with fail
      refine RI.wp_region_inv (ONI w5 w.heap.size (w.heap.size + 1) xn xc yn yc xp yp z ak bk aa1 aa2 aa3 ba1 ba2 ba3 an1 ac1 an2 ac2 an3 ac3 bn1 bc1 bn2 bc2 bn3 bc3 (.agg #[.int .i64 ak, .slice aa1 an1 ac1, .slice aa2 an2 ac2, .slice aa3 an3 ac3]) (.agg #[.int .i64 bk, .slice ba1 bn1 bc1, .slice ba2 bn2 bc2, .slice ba3 bn3 bc3]) (.bool true) (.bool false) (.agg #[.int .i64 ak, .slice aa1 an1 ac1, .slice aa2 an2 ac2, .slice aa3 an3 ac3]) (.bool true) (.bool false) (.bool false) (.agg #[.int .i64 bk, .slice ba1 bn1 bc1, .slice ba2 bn2 bc2, .slice ba3 bn3 bc3]) (.bool true) (.bool false) (.bool false) (.tuple #[.slice xp xn xc, .int .i64 0]) (.agg #[.int .i64 ak, .slice aa1 an1 ac1, .slice aa2 an2 ac2, .slice aa3 an3 ac3]) (.tuple #[.slice xp xn xc, .int .i64 0]) (.slice xp xn xc) (.int .i64 0) (.tuple #[.slice yp yn yc, .int .i64 0]) (.agg #[.int .i64 bk, .slice ba1 bn1 bc1, .slice ba2 bn2 bc2, .slice ba3 bn3 bc3]) (.tuple #[.slice yp yn yc, .int .i64 0]) (.slice yp yn yc) (.int .i64 0)) (by kernel_rfl) (by kernel_rfl) ?_ ?_ ?_
      · exact ⟨.bool false, undef, undef, undef, undef, undef, undef, undef, undef, undef, undef, undef, undef, undef, undef, undef, rfl, hw0, nofun, nofun, nofun, nofun, nofun, nofun, nofun, nofun, nofun, nofun, nofun, nofun, nofun, nofun, nofun, nofun⟩
      · skip
        intro d x wx i hI hi hm
        obtain ⟨u4, u29, u30, u31, u32, u33, u34, u35, u36, u37, u38, u39, u40, u41, u42, u43, rfl, hw, p0, p1, p2, p3, p4, p5, p6, p7, p8, p9, p10, p11, p12, p13, p14, p15⟩ := hI
        have hi' : i = 0 ∨ i = 1 ∨ i = 2 ∨ i = 3 ∨ i = 4 ∨ i = 5 ∨ i = 6 ∨ i = 7 ∨ i = 8 ∨ i = 9 ∨ i = 10 ∨ i = 11 ∨ i = 12 ∨ i = 13 ∨ i = 14 ∨ i = 15 := by simp at hi; omega
        have hd := hm.2
        clear hm hi
        rcases hi' with rfl | rfl | rfl | rfl | rfl | rfl | rfl | rfl | rfl | rfl | rfl | rfl | rfl | rfl | rfl | rfl
        · refine RI.wpOp_plain rfl rfl ?_
          go_simp
          exact ⟨u4, _, u30, u31, u32, u33, u34, u35, u36, u37, u38, u39, u40, u41, u42, u43, rfl, hw, fun _ => rfl, p1, p2, p3, p4, p5, p6, p7, p8, p9, p10, p11, p12, p13, p14, p15⟩
        · have hd := hd _ rfl
          simp [Region.binds] at hd
          obtain rfl := p0 (by simp [hd])
          refine RI.wpOp_plain rfl rfl ?_
          go_simp
          exact ⟨u4, _, _, u31, u32, u33, u34, u35, u36, u37, u38, u39, u40, u41, u42, u43, rfl, hw, p0, fun _ => rfl, p2, p3, p4, p5, p6, p7, p8, p9, p10, p11, p12, p13, p14, p15⟩
        · have hd := hd _ rfl
          simp [Region.binds] at hd
          obtain rfl := p1 (by simp [hd])
          refine RI.wpOp_plain rfl rfl ?_
          go_simp
          exact ⟨u4, u29, _, _, u32, u33, u34, u35, u36, u37, u38, u39, u40, u41, u42, u43, rfl, hw, p0, p1, fun _ => rfl, p3, p4, p5, p6, p7, p8, p9, p10, p11, p12, p13, p14, p15⟩
        · have hd := hd _ rfl
          simp [Region.binds] at hd
          obtain rfl := p2 (by simp [hd])
          refine RI.wpOp_guard rfl rfl rfl ?_
          go_simp
          exact ⟨u4, u29, u30, _, _, u33, u34, u35, u36, u37, u38, u39, u40, u41, u42, u43, rfl, hw, p0, p1, p2, fun _ => rfl, p4, p5, p6, p7, p8, p9, p10, p11, p12, p13, p14, p15⟩
        · have hd := hd _ rfl
          simp [Region.binds] at hd
          obtain rfl := p2 (by simp [hd])
          obtain rfl := p3 (by simp [hd])
          refine RI.wpOp_guard rfl rfl rfl ?_
          go_simp
          exact ⟨u4, u29, u30, _, _, _, u34, u35, u36, u37, u38, u39, u40, u41, u42, u43, rfl, hw, p0, p1, p2, p3, fun _ => rfl, p5, p6, p7, p8, p9, p10, p11, p12, p13, p14, p15⟩
        · have hd := hd _ rfl
          simp [Region.binds] at hd
          obtain rfl := p2 (by simp [hd])
          obtain rfl := p4 (by simp [hd])
          refine RI.wpOp_plain rfl rfl ?_
          go_simp
          exact ⟨u4, u29, u30, _, u32, _, _, u35, u36, u37, u38, u39, u40, u41, u42, u43, rfl, hw, p0, p1, p2, p3, p4, fun _ => rfl, p6, p7, p8, p9, p10, p11, p12, p13, p14, p15⟩
        · have hd := hd _ rfl
          simp [Region.binds] at hd
          obtain rfl := p2 (by simp [hd])
          obtain rfl := p5 (by simp [hd])
          refine RI.wpOp_plain rfl rfl ?_
          go_simp
          exact ⟨u4, u29, u30, _, u32, u33, _, _, u36, u37, u38, u39, u40, u41, u42, u43, rfl, hw, p0, p1, p2, p3, p4, p5, fun _ => rfl, p7, p8, p9, p10, p11, p12, p13, p14, p15⟩
        · have hd := hd _ rfl
          simp [Region.binds] at hd
          obtain rfl := p6 (by simp [hd])
          refine RI.wpOp_guard rfl rfl rfl ?_
          go_simp
          exact ⟨u4, u29, u30, u31, u32, u33, u34, _, _, u37, u38, u39, u40, u41, u42, u43, rfl, hw, p0, p1, p2, p3, p4, p5, p6, fun _ => rfl, p8, p9, p10, p11, p12, p13, p14, p15⟩
        · have hd := hd _ rfl
          simp [Region.binds] at hd
          obtain rfl := p6 (by simp [hd])
          refine RI.wpOp_guard rfl rfl rfl ?_
          go_simp
          exact ⟨u4, u29, u30, u31, u32, u33, u34, _, u36, _, u38, u39, u40, u41, u42, u43, rfl, hw, p0, p1, p2, p3, p4, p5, p6, p7, fun _ => rfl, p9, p10, p11, p12, p13, p14, p15⟩
        · have hd := hd _ rfl
          simp [Region.binds] at hd
          obtain rfl := p6 (by simp [hd])
          obtain rfl := p7 (by simp [hd])
          obtain rfl := p8 (by simp [hd])
          refine RI.wpOp_guard rfl rfl rfl ?_
          go_simp
          refine (KP.out _ hw).mono ?_
          rintro e w1 ⟨rfl, hb1⟩
          exact ⟨u4, u29, u30, u31, u32, u33, u34, _, _, _, _, u39, u40, u41, u42, u43, rfl, hw.trans (hb1.mono hw.size), p0, p1, p2, p3, p4, p5, p6, p7, p8, fun _ => rfl, p10, p11, p12, p13, p14, p15⟩
        · have hd := hd _ rfl
          simp [Region.binds] at hd
          obtain rfl := p6 (by simp [hd])
          refine RI.wpOp_guard rfl rfl rfl ?_
          have y0 := (hw.cell (p := ⟨w.heap.size, 0, none⟩) HGA.out).trans A0.out
          have y1 := (hw.cell (p := ⟨w.heap.size, 1, none⟩) HGA.out).trans A1.out
          have y2 := (hw.cell (p := ⟨w.heap.size, 2, none⟩) HGA.out).trans A2.out
          have y3 := (hw.cell (p := ⟨w.heap.size, 3, none⟩) HGA.out).trans A3.out
          go_simp
          exact ⟨u4, u29, u30, u31, u32, u33, u34, _, u36, u37, u38, _, u40, u41, u42, u43, rfl, hw, p0, p1, p2, p3, p4, p5, p6, p7, p8, p9, fun _ => rfl, p11, p12, p13, p14, p15⟩
        · have hd := hd _ rfl
          simp [Region.binds] at hd
          obtain rfl := p6 (by simp [hd])
          refine RI.wpOp_guard rfl rfl rfl ?_
          have y0 := (hw.cell (p := ⟨w.heap.size + 1, 0, none⟩) HGB.out).trans B0.out
          have y1 := (hw.cell (p := ⟨w.heap.size + 1, 1, none⟩) HGB.out).trans B1.out
          have y2 := (hw.cell (p := ⟨w.heap.size + 1, 2, none⟩) HGB.out).trans B2.out
          have y3 := (hw.cell (p := ⟨w.heap.size + 1, 3, none⟩) HGB.out).trans B3.out
          go_simp
          exact ⟨u4, u29, u30, u31, u32, u33, u34, _, u36, u37, u38, u39, _, u41, u42, u43, rfl, hw, p0, p1, p2, p3, p4, p5, p6, p7, p8, p9, p10, fun _ => rfl, p12, p13, p14, p15⟩
        · have hd := hd _ rfl
          simp [Region.binds] at hd
          obtain rfl := p6 (by simp [hd])
          obtain rfl := p9 (by simp [hd])
          obtain rfl := p10 (by simp [hd])
          obtain rfl := p11 (by simp [hd])
          refine RI.wpOp_guard rfl rfl rfl ?_
          go_simp
          refine (KS.out _ hw).mono ?_
          rintro e w1 ⟨rfl, hb1⟩
          exact ⟨u4, u29, u30, u31, u32, u33, u34, _, u36, u37, _, _, _, _, u42, u43, rfl, hw.trans (hb1.mono hw.size), p0, p1, p2, p3, p4, p5, p6, p7, p8, p9, p10, p11, fun _ => rfl, p13, p14, p15⟩
        · have hd := hd _ rfl
          simp [Region.binds] at hd
          obtain rfl := p6 (by simp [hd])
          obtain rfl := p9 (by simp [hd])
          obtain rfl := p12 (by simp [hd])
          refine RI.wpOp_guard rfl rfl rfl ?_
          have ezz : (z == z) = true := beq_self_eq_true z
          go_simp
          exact ⟨u4, u29, u30, u31, u32, u33, u34, _, u36, u37, _, u39, u40, _, _, u43, rfl, hw, p0, p1, p2, p3, p4, p5, p6, p7, p8, p9, p10, p11, p12, fun _ => rfl, p14, p15⟩
        · have hd := hd _ rfl
          simp [Region.binds] at hd
          obtain rfl := p6 (by simp [hd])
          obtain rfl := p13 (by simp [hd])
          refine RI.wpOp_plain rfl rfl ?_
          go_simp
          exact ⟨u4, u29, u30, u31, u32, u33, u34, _, u36, u37, u38, u39, u40, u41, _, _, rfl, hw, p0, p1, p2, p3, p4, p5, p6, p7, p8, p9, p10, p11, p12, p13, fun _ => rfl, p15⟩
        · have hd := hd _ rfl
          simp [Region.binds] at hd
          obtain rfl := p0 (by simp [hd])
          obtain rfl := p1 (by simp [hd])
          obtain rfl := p2 (by simp [hd])
          obtain rfl := p3 (by simp [hd])
          obtain rfl := p4 (by simp [hd])
          obtain rfl := p5 (by simp [hd])
          obtain rfl := p6 (by simp [hd])
          obtain rfl := p7 (by simp [hd])
          obtain rfl := p8 (by simp [hd])
          obtain rfl := p9 (by simp [hd])
          obtain rfl := p10 (by simp [hd])
          obtain rfl := p11 (by simp [hd])
          obtain rfl := p12 (by simp [hd])
          obtain rfl := p13 (by simp [hd])
          obtain rfl := p14 (by simp [hd])
          refine RI.wpOp_plain rfl rfl ?_
          go_simp
          exact ⟨_, _, _, _, _, _, _, _, _, _, _, _, _, _, _, _, rfl, hw, p0, p1, p2, p3, p4, p5, p6, p7, p8, p9, p10, p11, p12, p13, p14, fun _ => rfl⟩
      · skip
        intro d x wx hI hd
        obtain ⟨u4, u29, u30, u31, u32, u33, u34, u35, u36, u37, u38, u39, u40, u41, u42, u43, rfl, hw, p0, p1, p2, p3, p4, p5, p6, p7, p8, p9, p10, p11, p12, p13, p14, p15⟩ := hI
        obtain rfl := p15 (hd 15 (by decide))
        have HZ : Hid (Below w.heap.size w wx) := HB.out.trans (hw.mono HB.out.size)
        go_wp2_with fail
        go_ret
        exact ⟨rfl, HZ.out⟩
end Tr
end Go.Proofs.Ytdcbgldelfhohab
/- Pairs in order, in whatever order put again. -/
namespace Go.Proofs.Ytdcbgldelfhohab
namespace Tr
open Nb Go.RowKit
theorem vl_mem : ∀ (l : Rt) (r : By × By), (l.Pairwise fun a b => hv a.1 ≠ hv b.1) → r ∈ l → vl l (hv r.1) = r.2 := by
  intro l
  have key : ∀ (m : Rt) (f : By → By) (q : By), (∀ r ∈ m, hv r.1 ≠ q) → (m.foldl (fun f r q => if q = hv r.1 then r.2 else f q) f) q = f q := by
    intro m
    induction m with
    | nil => intro f q _; rfl
    | cons a m ih =>
      intro f q h
      rw [List.foldl_cons, ih _ q (fun r hr => h r (List.mem_cons_of_mem _ hr)), if_neg (fun e => h a (List.mem_cons_self ..) e.symm)]
  have gen : ∀ (m : Rt) (f : By → By) (r : By × By), (m.Pairwise fun a b => hv a.1 ≠ hv b.1) → r ∈ m → (m.foldl (fun f r q => if q = hv r.1 then r.2 else f q) f) (hv r.1) = r.2 := by
    intro m
    induction m with
    | nil => intro f r _ h; cases h
    | cons a m ih =>
      intro f r hp hr
      have hp' := List.pairwise_cons.1 hp
      rw [List.foldl_cons]
      rcases List.mem_cons.1 hr with rfl | hr
      · rw [key m _ _ (fun x hx e => hp'.1 x hx e.symm), if_pos rfl]
      · exact ih _ r hp'.2 hr
  exact fun r hp hr => gen l _ r hp hr
theorem vl_out (l : Rt) (q : By) (h : ∀ r ∈ l, hv r.1 ≠ q) : vl l q = [] := by
  apply Classical.byContradiction
  intro hn
  obtain ⟨r, hr, e, _⟩ := vl_in l q hn
  exact h r hr e.symm
/-- What a tree's pairs come to again, in whatever order. -/
theorem again {t : Nd} (hr : rd 0 t = true) {m : Rt} (hp : m.Perm (prs t)) : oe m = 0 ∧ ∀ q, vl m q = gt t q := by
  have hR := (rd_right t).1 hr
  obtain ⟨l, hl, hok, _⟩ := (right_iff t).1 hR
  obtain ⟨hs, hpt, hg⟩ := rt_spec hl
  have e1 : prs t = l.map jp := by unfold prs; rw [hr, hl]; rfl
  rw [e1] at hp
  have hj : ∀ r ∈ l, hv (jp r).1 = r.1 := fun r h => hv_jn r.1 ⟨(hok r h).1, hpt r h⟩
  have hmem : ∀ x, x ∈ m ↔ ∃ r ∈ l, jp r = x := fun x => hp.mem_iff.trans List.mem_map
  have hpw : (l.map jp).Pairwise fun a b => hv a.1 ≠ hv b.1 := by
    rw [List.pairwise_map]
    refine List.Pairwise.imp_of_mem (fun {a b} ha hb h => ?_) hs
    rw [hj a ha, hj b hb]
    exact less_ne h
  have hpm : m.Pairwise fun a b => hv a.1 ≠ hv b.1 := (hp.pairwise_iff (fun h e => h e.symm)).2 hpw
  refine ⟨oe_zero m (fun x hx => ?_), fun q => ?_⟩
  · obtain ⟨r, h1, rfl⟩ := (hmem x).1 hx
    have k := hok r h1
    have k2 : (jn r.1).length ≤ 32 := by rw [jn_length]; have := k.2.1; omega
    show mp (jn r.1).length r.2.length = 0
    unfold mp
    rw [if_pos k2, if_pos k.2.2.2]
  · rw [← hg q]
    by_cases h : ∃ r ∈ l, r.1 = q
    · obtain ⟨r, h1, rfl⟩ := h
      rw [lk_mem l r hs h1]
      have := vl_mem m (jp r) hpm ((hmem _).2 ⟨r, h1, rfl⟩)
      rw [hj r h1] at this
      exact this
    · rw [lk_out l q (fun r h1 e => h ⟨r, h1, e⟩)]
      refine vl_out m q (fun x hx e => ?_)
      obtain ⟨r, h1, rfl⟩ := (hmem x).1 hx
      rw [hj r h1] at e
      exact h ⟨r, h1, e⟩
theorem again_sn {t : Nd} (hr : rd 0 t = true) {m : Rt} (hp : m.Perm (prs t)) {r : Nd} (h : OR m r) : sn r t = true := by
  obtain ⟨h1, h2⟩ := again hr hp
  unfold OR at h
  rw [if_pos h1] at h
  obtain ⟨t', rfl, hs, hu⟩ := h
  have hR := (rd_right t).1 hr
  exact (sn_bn _ _).2 ((bn_bn' t').trans (uniq hs t hR.1 (fun q => by rw [hu q, h2 q])))
/-- Keys stand in order. -/
theorem keys_less {t : Nd} (i : Nat) (hi : i + 1 < (prs t).length) : Op.bytesLess ((prs t).getD i n2).1 ((prs t).getD (i + 1) n2).1 = true := by
  have hr : rd 0 t = true := by
    cases h : rd 0 t with
    | true => rfl
    | false => unfold prs at hi; rw [h] at hi; simp at hi
  have hR := (rd_right t).1 hr
  obtain ⟨l, hl, hok, _⟩ := (right_iff t).1 hR
  obtain ⟨hs, hpt, hg⟩ := rt_spec hl
  have e1 : prs t = l.map jp := by unfold prs; rw [hr, hl]; rfl
  rw [e1] at hi ⊢
  rw [List.length_map] at hi
  have g1 : (l.map jp).getD i n2 = jp l[i] := by simp [List.getD_eq_getElem?_getD, (by omega : i < l.length)]
  have g2 : (l.map jp).getD (i + 1) n2 = jp l[i + 1] := by simp [List.getD_eq_getElem?_getD, hi]
  rw [g1, g2]
  have h := List.pairwise_iff_getElem.1 hs i (i + 1) (by omega) hi (by omega)
  have k1 := hv_jn l[i].1 ⟨(hok _ (List.getElem_mem _)).1, hpt _ (List.getElem_mem _)⟩
  have k2 := hv_jn l[i + 1].1 ⟨(hok _ (List.getElem_mem _)).1, hpt _ (List.getElem_mem _)⟩
  show Op.bytesLess (jn l[i].1) (jn l[i + 1].1) = true
  rw [← hv_less, k1, k2]
  exact h
theorem rot_perm (l : Rt) (k : Nat) : (l.drop k ++ l.take k).Perm l := by
  have h := List.perm_append_comm (l₁ := l.drop k) (l₂ := l.take k)
  rwa [List.take_append_drop] at h
end Tr
end Go.Proofs.Ytdcbgldelfhohab
/- The law TreeSorted. -/
namespace Go.Proofs.Ytdcbgldelfhohab
namespace Tr
open Nb Go.RowKit
theorem or_sm2 {l : Rt} {r : Nd} (h : OR l r) : Sm r := by
  unfold OR at h
  split at h
  · obtain ⟨t', rfl, hr, _⟩ := h
    exact sm_bn hr
  · rw [h]
    exact sm_nil _ _ _
theorem NX_gb {h : Nat} {u : V4} {t : Nd} {w w' : World} {r : Option Nat} (k : Bx h u w) (n : Nv (· < h) w t u) (g : w.grownBy w' r) (hr : ∀ q, r = some q → h < q) : NX h u t w' := by
  have B : Below (h + 1) w w' := (Below.refl _ _).grown g k.1 (fun q e => hr q e)
  have e : ∀ i, w'.cell? ⟨h, i, none⟩ = w.cell? ⟨h, i, none⟩ := fun i => B.cell (p := ⟨h, i, none⟩) (Nat.lt_succ_self h)
  exact ⟨⟨Nat.lt_of_lt_of_le k.1 B.size, (e 0).trans k.2.1, (e 1).trans k.2.2.1, (e 2).trans k.2.2.2.1, (e 3).trans k.2.2.2.2⟩, Nv_mono (Nv_gb n g (fun q hq e => by have := hr q e.symm; omega)) (fun _ _ _ => trivial)⟩
theorem rot_getD {α : Type} (l : List α) (k j : Nat) (d : α) (hk : k ≤ l.length) (hj : j < l.length) : (l.drop k ++ l.take k).getD j d = l.getD (if j < l.length - k then k + j else j - (l.length - k)) d := by
  rw [List.getD_eq_getElem?_getD, List.getD_eq_getElem?_getD, List.getElem?_append, List.length_drop]
  split
  · rw [List.getElem?_drop]
  · rw [List.getElem?_take_of_lt (by omega)]
theorem pv_own {base : Nat} {m : Rt} {v : Value} {ss : List S6} {W : World} (h1 : ss.length = m.length) (h2 : W.ownsRow base 41 2 v ss.length (c6 ss)) (hb : ∀ j, j < m.length → Bs (fun _ => True) (m.getD j n2).1 (sv (ss.getD j n6)).1 W ∧ Bs (fun _ => True) (m.getD j n2).2 (sv (ss.getD j n6)).2 W) : Pv (· < W.heap.size) m v W := by
  have hl : (ss.map sv).length = m.length := by rw [List.length_map, h1]
  have hg : ∀ j, j < m.length → (ss.map sv).getD j m2 = sv (ss.getD j n6) := fun j hj => by
    simp [List.getD_eq_getElem?_getD, (by omega : j < ss.length)]
  refine ⟨ss.map sv, hl, ?_, fun j hj => by rw [hg j hj]; exact ⟨Bs_mono (hb j hj).1 (fun k _ h => h), Bs_mono (hb j hj).2 (fun k _ h => h)⟩⟩
  rcases h2.2 with ⟨h4, h5⟩ | ⟨g, cap, cur, h4, h5⟩
  · subst h4
    have : ss = [] := List.length_eq_zero_iff.1 h5
    subst this
    exact ⟨none, 0, rfl, Nat.le_refl _, fun h => absurd h (by simp)⟩
  · subst h4
    refine ⟨some ⟨g, 0, none⟩, cap, by rw [List.length_map], by rw [List.length_map]; exact h5.2.2.1, fun _ => ⟨g, 0, rfl, Pk.lt_of_heap h5.2.1, Pk.lt_of_heap h5.2.1, fun j hj => ?_⟩⟩
    have hc := c2p_get (ss.map sv) j hj
    rw [List.length_map] at hj
    refine ⟨?_, ?_⟩
    · rw [Nat.zero_add, h2.cellAt _ (by omega)]; exact hc.1
    · rw [Nat.zero_add, h2.cellAt _ (by omega)]; exact hc.2
theorem v6_two {xs ys : List S6} {a b : Value} {W : World} (ty : TypeId) (ha : V6 xs a W) (hb : V6 ys b W) : V6s [xs, ys] (.slice (some ⟨W.heap.size, 0, none⟩) 2 2) (W.alloc (.cells #[a, b] ty)) := by
  have HA := heap_alloc_new W (.cells #[a, b] ty)
  have hB : Below W.heap.size W (W.alloc (.cells #[a, b] ty)) := (Below.refl _ _).alloc (Nat.le_refl _) _
  refine ⟨_, 2, rfl, fun _ => ⟨W.heap.size, 0, rfl, by simp, fun i hi => ?_⟩⟩
  rcases i with _ | _ | i
  · exact ⟨a, by simp only [World.cell?, HA]; rfl, V6_below ha hB⟩
  · exact ⟨b, by simp only [World.cell?, HA]; rfl, V6_below hb hB⟩
  · simp at hi; omega
theorem c6_cut (ss : List S6) (k : Nat) (hk : k ≤ ss.length) : (∀ j, (c6 ss)[k * 2 + j]? = (c6 (ss.drop k))[j]?) ∧ ∀ j, j < k * 2 → (c6 ss)[j]? = (c6 (ss.take k))[j]? := by
  have e : c6 ss = c6 (ss.take k) ++ c6 (ss.drop k) := by rw [← c6_app, List.take_append_drop]
  have hl : (c6 (ss.take k)).length = k * 2 := by rw [c6_len, List.length_take]; omega
  refine ⟨fun j => ?_, fun j hj => ?_⟩
  · rw [e, List.getElem?_append_right (by omega), hl, Nat.add_sub_cancel_left]
  · rw [e, List.getElem?_append_left (by omega)]
/-- A row of pairs, cut in two and joined again the other way. -/
theorem rot_any {b0 : Nat} {l : Rt} {pa : Option Addr} {pn pc : Nat} {W : World} (h : Po b0 l (.slice pa pn pc) W) (hz : l.length ≤ 1048576) {k : Nat} (hk : 0 < k) (hk2 : k < pn) (ty : TypeId) :
    ∃ g, pa = some ⟨g, 0, none⟩ ∧ pn ≤ pc ∧ Calls Try.prog 14 #[.slice (some ⟨W.heap.size, 0, none⟩) 2 2] (W.alloc (.cells #[.slice (some ⟨g, k * 2, none⟩) (pn - k) (pc - k), .slice (some ⟨g, 0, none⟩) k pc] ty)) fun e w' => ∃ a n c, e = .returned (.slice a n c) ∧ n = (l.drop k ++ l.take k).length ∧ Pv (· < w'.heap.size) (l.drop k ++ l.take k) (.slice a n c) w' ∧ Below W.heap.size W w' := by
  obtain ⟨ss, h1, h2, h3⟩ := Po_s6 h
  have hb := fun j (hj : j < l.length) => And.intro (Bs_mono (S' := fun _ => True) (h3 j hj).1 (fun _ _ _ => trivial)) (Bs_mono (S' := fun _ => True) (h3 j hj).2 (fun _ _ _ => trivial))
  rcases h2.2 with ⟨h4, h5⟩ | ⟨g, cap, cur, h4, h5⟩
  · injection h4 with _ e2 _
    omega
  · injection h4 with e1 e2 e3
    subst e1 e2 e3
    have hcut := c6_cut ss k (by omega)
    have s1 : V6 (ss.drop k) (.slice (some ⟨g, k * 2, none⟩) (l.length - k) (pc - k)) W := by
      refine ⟨some ⟨g, k * 2, none⟩, pc - k, by rw [List.length_drop, h1], fun _ => ⟨g, k * 2, rfl, Pk.lt_of_heap h5.2.1, fun j hj => ?_⟩⟩
      rw [List.length_drop] at hj
      rw [h2.cellAt _ (by omega), hcut.1 j]
    have s2 : V6 (ss.take k) (.slice (some ⟨g, 0, none⟩) k pc) W := by
      refine ⟨some ⟨g, 0, none⟩, pc, by rw [List.length_take, Nat.min_eq_left (by omega)], fun _ => ⟨g, 0, rfl, Pk.lt_of_heap h5.2.1, fun j hj => ?_⟩⟩
      rw [List.length_take] at hj
      rw [Nat.zero_add, h2.cellAt _ (by omega), hcut.2 j (by omega)]
    have ef : [ss.drop k, ss.take k].flatten = ss.drop k ++ ss.take k := by simp
    have el : (ss.drop k ++ ss.take k).length = (l.drop k ++ l.take k).length := by rw [List.length_append, List.length_append, List.length_drop, List.length_take, List.length_drop, List.length_take, h1]
    have el2 : (l.drop k ++ l.take k).length = l.length := by rw [List.length_append, List.length_drop, List.length_take]; omega
    have hB : Below W.heap.size W (W.alloc (.cells #[.slice (some ⟨g, k * 2, none⟩) (l.length - k) (pc - k), .slice (some ⟨g, 0, none⟩) k pc] ty)) := (Below.refl _ _).alloc (Nat.le_refl _) _
    refine ⟨g, rfl, h5.2.2.1, (concat6 [ss.drop k, ss.take k] _ _ (by show _ ≤ _; rw [ef]; omega) (by show (2 : Nat) ≤ 1048576; decide) (v6_two ty s1 s2)).mono fun e w' he => ?_⟩
    obtain ⟨v', h6, h7, h8⟩ := he
    rw [ef] at h7
    have b8 := hB.trans (h8.mono hB.size)
    have hp : Pv (· < w'.heap.size) (l.drop k ++ l.take k) v' w' := pv_own el h7 (fun j hj => by
      rw [el2] at hj
      rw [rot_getD l k j n2 (by omega) hj, rot_getD ss k j n6 (by omega) (by omega), h1]
      have := hb (if j < l.length - k then k + j else j - (l.length - k)) (by split <;> omega)
      exact ⟨Bs_below this.1 b8, Bs_below this.2 b8⟩)
    obtain ⟨a, c, rfl, _⟩ := Pv_form hp
    exact ⟨a, _, c, h6, rfl, hp, b8⟩
theorem own_pairs {t : Nd} (hr : rd 0 t = true) {x : V4} {w : World} (hx : Nv (fun _ => True) w t x) (hw : wn t ≤ 1048576) : Calls Try.prog 12 #[v4 x] w fun e w' => ∃ b0 a n c, e = .returned (.tuple #[.slice a n c, .int .i64 0]) ∧ (b0 < w'.heap.size ∨ prs t = []) ∧ w.heap.size ≤ b0 ∧ Po b0 (prs t) (.slice a n c) w' ∧ Below w.heap.size w w' := by
  have hx := Nv_mono (S' := (· < w.heap.size)) hx (fun k _ h => h)
  obtain ⟨zk, za1, zn1, zc1, za2, zn2, zc2, za3, zn3, zc3, rfl⟩ := Nv_form hx
  have KR : ∀ wx : World, Below w.heap.size w wx → Calls Try.prog 17 #[.agg #[.int .i64 zk, .slice za1 zn1 zc1, .slice za2 zn2 zc2, .slice za3 zn3 zc3], .int .i64 0] wx (RP w.heap.size 0 t wx) := fun wx h => (read_all w.heap.size (wf_any t)).1 0 (.int .i64 zk, .slice za1 zn1 zc1, .slice za2 zn2 zc2, .slice za3 zn3 zc3) wx (by omega) (Nv_below hx h) h.size (by omega)
  have hR := (rd_right t).1 hr
  obtain ⟨l, hl, hok, _⟩ := (right_iff t).1 hR
  have h2 : prs t = l.map jp := by unfold prs; rw [hr, hl]; rfl
  rw [h2]
  refine (pairs_own zk za1 za2 za3 zn1 zc1 zn2 zc2 zn3 zc3 w w.heap.size t l (fun wx h => (KR wx h).mono fun e w' he => ?_) hR.1 hl (okr_okp hok) (by have := rt_less hl; show _ ≤ _; omega)).mono fun e w' he => ?_
  · obtain ⟨z, h1, h2, h3⟩ := he
    rw [hr] at h1
    exact ⟨z, h1, In_mono (h2 hr) (fun _ _ => trivial), h3⟩
  · obtain ⟨b0, a, n, c, h1, h2, h3, h4⟩ := he
    refine ⟨b0, a, n, c, h1, ?_, h2, h3, h4⟩
    obtain ⟨vs, k1, k2, _⟩ := h3
    rcases k2.2 with ⟨_, k4⟩ | ⟨g, cap, cur, _, k5, k6, _⟩
    · exact .inr (List.length_eq_zero_iff.1 k4)
    · exact .inl (by have := Pk.lt_of_heap k6; omega)
inductive SNI (WA : World) (g off n c i j : Nat) (k1 k2 : Option Addr) (a1 b1 a2 b2 : Nat) (X Y : ByteArray) (x0 x1 x2 x3 x4 x6 x8 x9 x10 x11 x12 x13 x14 x15 x16 x17 x18 x19 x20 x21 x22 x23 x24 x25 x26 x27 x28 x29 x30 x31 x46 x47 x48 x49 x50 x51 x52 x53 x54 x55 x56 x57 x58 x59 x60 x61 x62 x63 x64 x65 x66 x67 x68 x69 x70 x71 x72 x73 x74 x75 : Value) (d : Nat → Bool) (x : Act) (wx : World) : Prop where
  | mk (u32 u33 u34 u35 u36 u37 u38 u39 u40 u41 u42 u43 u44 u45 : Value) (hx : x = { tmps := #[x0, x1, x2, x3, x4, .slice (some ⟨g, off, none⟩) n c, x6, .int .i64 (j : Int), x8, x9, x10, x11, x12, x13, x14, x15, x16, x17, x18, x19, x20, x21, x22, x23, x24, x25, x26, x27, x28, x29, x30, x31, u32, u33, u34, u35, u36, u37, u38, u39, u40, u41, u42, u43, u44, u45, x46, x47, x48, x49, x50, x51, x52, x53, x54, x55, x56, x57, x58, x59, x60, x61, x62, x63, x64, x65, x66, x67, x68, x69, x70, x71, x72, x73, x74, x75], defers := [] }) (hw : Hid (wx = WA)) (p0 : d 0 = true → u32 = .slice (some ⟨g, off, none⟩) n c) (p1 : d 1 = true → u33 = .int .i64 (j : Int)) (p2 : d 2 = true → u34 = .int .i64 (i : Int)) (p3 : d 3 = true → u35 = .pointer (some ⟨g, off + i * 2, none⟩)) (p4 : d 4 = true → u36 = .pointer (some ⟨g, off + i * 2, none⟩)) (p5 : d 5 = true → u37 = .slice k1 a1 b1) (p6 : d 6 = true → u38 = .string X) (p7 : d 7 = true → u39 = .slice (some ⟨g, off, none⟩) n c) (p8 : d 8 = true → u40 = .int .i64 (j : Int)) (p9 : d 9 = true → u41 = .pointer (some ⟨g, off + j * 2, none⟩)) (p10 : d 10 = true → u42 = .pointer (some ⟨g, off + j * 2, none⟩)) (p11 : d 11 = true → u43 = .slice k2 a2 b2) (p12 : d 12 = true → u44 = .string Y) (p13 : d 13 = true → u45 = .bool false) : SNI WA g off n c i j k1 k2 a1 b1 a2 b2 X Y x0 x1 x2 x3 x4 x6 x8 x9 x10 x11 x12 x13 x14 x15 x16 x17 x18 x19 x20 x21 x22 x23 x24 x25 x26 x27 x28 x29 x30 x31 x46 x47 x48 x49 x50 x51 x52 x53 x54 x55 x56 x57 x58 x59 x60 x61 x62 x63 x64 x65 x66 x67 x68 x69 x70 x71 x72 x73 x74 x75 d x wx
inductive SRI (WA : World) (Pz : Value → World → Prop) (g n c k : Nat) (x0 x2 x3 x4 x6 x7 x8 x9 x10 x11 x12 x13 x14 x15 x16 x17 x18 x19 x20 x21 x22 x23 x24 x25 x26 x27 x28 x29 x30 x31 x32 x33 x34 x35 x36 x37 x38 x39 x40 x41 x42 x43 x44 x45 x46 x47 x48 x49 x50 x51 x52 x53 x62 x63 x64 x65 x66 x67 x68 x69 x70 x71 x72 x73 x74 x75 : Value) (d : Nat → Bool) (x : Act) (wx : World) : Prop where
  | mk (u5 u54 u55 u56 u57 u58 u59 u60 u61 : Value) (hx : x = { tmps := #[x0, .int .i64 (k : Int), x2, x3, x4, u5, x6, x7, x8, x9, x10, x11, x12, x13, x14, x15, x16, x17, x18, x19, x20, x21, x22, x23, x24, x25, x26, x27, x28, x29, x30, x31, x32, x33, x34, x35, x36, x37, x38, x39, x40, x41, x42, x43, x44, x45, x46, x47, x48, x49, x50, x51, x52, x53, u54, u55, u56, u57, u58, u59, u60, u61, x62, x63, x64, x65, x66, x67, x68, x69, x70, x71, x72, x73, x74, x75], defers := [] }) (hw : WL WA (WA.alloc (.cells #[.slice (some ⟨g, k * 2, none⟩) (n - k) (c - k), .slice (some ⟨g, 0, none⟩) k c] 36)) (fun _ => True) true (d 6) true (d 7) wx ∧ (d 8 = false → u5 = .slice (some ⟨g, 0, none⟩) n c)) (p0 : d 0 = true → u54 = .slice (some ⟨g, 0, none⟩) n c) (p1 : d 1 = true → u55 = .int .i64 (k : Int)) (p2 : d 2 = true → u56 = .slice (some ⟨g, k * 2, none⟩) (n - k) (c - k)) (p3 : d 3 = true → u57 = .slice (some ⟨g, 0, none⟩) n c) (p4 : d 4 = true → u58 = .int .i64 (k : Int)) (p5 : d 5 = true → u59 = .slice (some ⟨g, 0, none⟩) k c) (p6 : d 6 = true → u60 = .slice (some ⟨WA.heap.size, 0, none⟩) 2 2) (y7 : d 7 = true → Pz u61 wx) (y8 : d 8 = true → u5 = u61) (y9 : d 8 = true → d 0 = true) (z3 : d 8 = true → d 3 = true) (z7 : d 8 = true → d 7 = true) : SRI WA Pz g n c k x0 x2 x3 x4 x6 x7 x8 x9 x10 x11 x12 x13 x14 x15 x16 x17 x18 x19 x20 x21 x22 x23 x24 x25 x26 x27 x28 x29 x30 x31 x32 x33 x34 x35 x36 x37 x38 x39 x40 x41 x42 x43 x44 x45 x46 x47 x48 x49 x50 x51 x52 x53 x62 x63 x64 x65 x66 x67 x68 x69 x70 x71 x72 x73 x74 x75 d x wx
set_option maxHeartbeats 8000000 in
set_option maxRecDepth 100000 in
theorem law_sorted (t : Nd) (hs : Sm t) (x : V4) (w : World) (hx : Nv (· < w.heap.size) w t x) (hw : wn t ≤ 1048576) (turn : Int) :
    Calls Try.prog 6 #[v4 x, .int .i64 turn] w fun e w' => e = .returned (.bool true) ∧ Below w.heap.size w w' := by
  obtain ⟨zk, za1, zn1, zc1, za2, zn2, zc2, za3, zn3, zc3, rfl⟩ := Nv_form hx
  have bA : Below w.heap.size w (w.alloc (.cells #[.int .i64 zk, .slice za1 zn1 zc1, .slice za2 zn2 zc2, .slice za3 zn3 zc3] 25)) := (Below.refl _ _).alloc (Nat.le_refl _) _
  have Nt : Hid (NX w.heap.size (.int .i64 zk, .slice za1 zn1 zc1, .slice za2 zn2 zc2, .slice za3 zn3 zc3) t (w.alloc (.cells #[.int .i64 zk, .slice za1 zn1 zc1, .slice za2 zn2 zc2, .slice za3 zn3 zc3] 25))) := ⟨Bx_new w (.int .i64 zk, .slice za1 zn1 zc1, .slice za2 zn2 zc2, .slice za3 zn3 zc3), Nv_below (Nv_mono hx (fun _ _ _ => trivial)) bA⟩
  have HB : Hid (Below w.heap.size w (w.alloc (.cells #[.int .i64 zk, .slice za1 zn1 zc1, .slice za2 zn2 zc2, .slice za3 zn3 zc3] 25))) := bA
  have HW : Hid (wn t ≤ 1048576) := hw
  have LP : Hid (Lp t) := lp_wn (by omega)
  have HSM : Hid (Sm t) := hs
  have N0 : Hid (Nv (· < w.heap.size) (w.alloc (.cells #[.int .i64 zk, .slice za1 zn1 zc1, .slice za2 zn2 zc2, .slice za3 zn3 zc3] 25)) t (.int .i64 zk, .slice za1 zn1 zc1, .slice za2 zn2 zc2, .slice za3 zn3 zc3)) := Nv_below hx bA
  clear bA hx hw hs
  show Calls Try.prog _ #[.agg #[.int .i64 zk, .slice za1 zn1 zc1, .slice za2 zn2 zc2, .slice za3 zn3 zc3], .int .i64 turn] w _
  go_enter Try.func6, Try.ntmps6
  go_wp2_with fail
  refine (alive7_any _).mono ?_
  rintro e w1 ⟨rfl, hb⟩
  replace N0 : Hid (Nv (· < w.heap.size) w1 t (.int .i64 zk, .slice za1 zn1 zc1, .slice za2 zn2 zc2, .slice za3 zn3 zc3)) := Nv_below N0.out hb
  replace Nt : Hid (NX w.heap.size (.int .i64 zk, .slice za1 zn1 zc1, .slice za2 zn2 zc2, .slice za3 zn3 zc3) t w1) := NX_below Nt.out hb
  replace HB : Hid (Below w.heap.size w w1) := HB.out.trans ((hb).mono HB.out.size)
  clear hb
  cases hr : rd 0 t with
  | false =>
    have KR : Hid (Calls Try.prog 12 #[.agg #[.int .i64 zk, .slice za1 zn1 zc1, .slice za2 zn2 zc2, .slice za3 zn3 zc3]] w1 fun e w' => ∃ a n c, e = .returned (.tuple #[.slice a n c, .int .i64 1]) ∧ Below w1.heap.size w1 w') := by
      refine (tpairs_any t _ (.int .i64 zk, .slice za1 zn1 zc1, .slice za2 zn2 zc2, .slice za3 zn3 zc3) w1 Nt.out.2 HW.out).mono fun e w' he => ?_
      obtain ⟨v, h1, h2, h3⟩ := he
      rw [show pz t = 1 by unfold pz; rw [hr]; rfl] at h1
      obtain ⟨ao, cap, rfl, _⟩ := Pv_form h2
      exact ⟨ao, _, cap, h1, h3⟩
    have HR : Hid (rd 0 t = false) := hr
    clear hr
    have q0 := Nt.out.1.2.1
    have q1 := Nt.out.1.2.2.1
    have q2 := Nt.out.1.2.2.2.1
    have q3 := Nt.out.1.2.2.2.2
    dsimp only at q0 q1 q2 q3
    go_wp2_with fail
    refine KR.out.mono ?_
    rintro e w2 ⟨pa, pn, pc, rfl, hb⟩
    clear q0 q1 q2 q3
    replace N0 : Hid (Nv (· < w.heap.size) w2 t (.int .i64 zk, .slice za1 zn1 zc1, .slice za2 zn2 zc2, .slice za3 zn3 zc3)) := Nv_below N0.out hb
    replace Nt : Hid (NX w.heap.size (.int .i64 zk, .slice za1 zn1 zc1, .slice za2 zn2 zc2, .slice za3 zn3 zc3) t w2) := NX_below Nt.out hb
    replace HB : Hid (Below w.heap.size w w2) := HB.out.trans ((hb).mono HB.out.size)
    clear hb KR
    have KT : Hid (Calls Try.prog 11 #[.agg #[.int .i64 zk, .slice za1 zn1 zc1, .slice za2 zn2 zc2, .slice za3 zn3 zc3]] w2 fun e w' => e = .returned (.bool false) ∧ Below w2.heap.size w2 w') := by
      have h := right_lp t w2.heap.size (.int .i64 zk, .slice za1 zn1 zc1, .slice za2 zn2 zc2, .slice za3 zn3 zc3) w2 (Nv_mono Nt.out.2 (fun _ _ h => h)) (Nat.le_refl _) LP.out
      rwa [HR.out] at h
    have q0 := Nt.out.1.2.1
    have q1 := Nt.out.1.2.2.1
    have q2 := Nt.out.1.2.2.2.1
    have q3 := Nt.out.1.2.2.2.2
    dsimp only at q0 q1 q2 q3
    go_wp2_with fail
    refine KT.out.mono ?_
    rintro e w3 ⟨rfl, hb⟩
    clear q0 q1 q2 q3
    replace N0 : Hid (Nv (· < w.heap.size) w3 t (.int .i64 zk, .slice za1 zn1 zc1, .slice za2 zn2 zc2, .slice za3 zn3 zc3)) := Nv_below N0.out hb
    replace Nt : Hid (NX w.heap.size (.int .i64 zk, .slice za1 zn1 zc1, .slice za2 zn2 zc2, .slice za3 zn3 zc3) t w3) := NX_below Nt.out hb
    replace HB : Hid (Below w.heap.size w w3) := HB.out.trans ((hb).mono HB.out.size)
    clear hb KT
    go_wp2_with fail
    go_ret
    exact ⟨rfl, HB.out⟩
  | true =>
    have KR : Hid (Calls Try.prog 12 #[.agg #[.int .i64 zk, .slice za1 zn1 zc1, .slice za2 zn2 zc2, .slice za3 zn3 zc3]] w1 fun e w' => ∃ b0 a n c, e = .returned (.tuple #[.slice a n c, .int .i64 0]) ∧ (b0 < w'.heap.size ∨ prs t = []) ∧ w1.heap.size ≤ b0 ∧ Po b0 (prs t) (.slice a n c) w' ∧ Below w1.heap.size w1 w') := own_pairs hr (x := (.int .i64 zk, .slice za1 zn1 zc1, .slice za2 zn2 zc2, .slice za3 zn3 zc3)) Nt.out.2 HW.out
    have HR : Hid (rd 0 t = true) := hr
    clear hr
    have HB1 : Hid (Below w.heap.size w w1) := HB.out
    have q0 := Nt.out.1.2.1
    have q1 := Nt.out.1.2.2.1
    have q2 := Nt.out.1.2.2.2.1
    have q3 := Nt.out.1.2.2.2.2
    dsimp only at q0 q1 q2 q3
    go_wp2_with fail
    refine KR.out.mono ?_
    rintro e w2 ⟨b0, pa, pn, pc, rfl, hb0, hle, hpo, hb⟩
    clear q0 q1 q2 q3
    replace N0 : Hid (Nv (· < w.heap.size) w2 t (.int .i64 zk, .slice za1 zn1 zc1, .slice za2 zn2 zc2, .slice za3 zn3 zc3)) := Nv_below N0.out hb
    replace Nt : Hid (NX w.heap.size (.int .i64 zk, .slice za1 zn1 zc1, .slice za2 zn2 zc2, .slice za3 zn3 zc3) t w2) := NX_below Nt.out hb
    replace HB : Hid (Below w.heap.size w w2) := HB.out.trans ((hb).mono HB.out.size)
    have PO : Hid (Po b0 (prs t) (.slice pa pn pc) w2) := hpo
    have PO : Hid (Po b0 (prs t) (.slice pa pn pc) w2) := hpo
    have HPN : Hid (pn = (prs t).length) := by
      obtain ⟨vs, h1, h2, _⟩ := hpo
      rcases h2.2 with ⟨h3, h4⟩ | ⟨g, cap, cur, h3, _⟩
      · injection h3 with _ e2 _; show _ = _; omega
      · injection h3
    have HPL : Hid ((prs t).length ≤ 1048576) := prs_len HW.out
    have HB0 : Hid (b0 < w2.heap.size ∨ prs t = []) := hb0
    have HLE : Hid (w.heap.size ≤ b0) := by have := HB1.out.size; show _ ≤ _; omega
    clear hpo hb KR hb0 hle HB1
    go_wp2_with fail
    go_loopw [7] (fun iv wr => ∃ j : Nat, 1 ≤ j ∧ j ≤ pn + 1 ∧ iv = .int .i64 (j : Int) ∧ Below w2.heap.size w2 wr) (fun iv _ => ((pn : Int) + 1 - intOf iv).toNat)
    case atStart => exact ⟨1, Nat.le_refl _, by omega, rfl, Below.refl _ _⟩
    case round =>
      obtain ⟨j, hj1, hj2, rfl, hBr⟩ := hrel
      by_cases hlt : j < pn
      · obtain ⟨i, hij⟩ : ∃ i, j = i + 1 := ⟨j - 1, by omega⟩
        have hlen := HPN.out
        have hpl := HPL.out
        have PV2 := Po_pv PO.out
        obtain ⟨g, off, kv1, vv1, rfl, -, hg, z0, -, i1, -⟩ := Pv_at PV2 (j := i) (by omega)
        obtain ⟨g', off', kv2, vv2, eg, -, hg', t0, -, j1, -⟩ := Pv_at PV2 (j := j) (by omega)
        injection eg with eg
        injection eg with eg eo
        subst eg eo
        have Q1 : Hid (wr.drew.cell? ⟨g, off + i * 2, none⟩ = some kv1) := by rw [Nat.mul_comm i 2]; exact (hBr.cell (p := ⟨g, off + 2 * i, none⟩) hg).trans z0
        have Q2 : Hid (wr.drew.cell? ⟨g, off + j * 2, none⟩ = some kv2) := by rw [Nat.mul_comm j 2]; exact (hBr.cell (p := ⟨g, off + 2 * j, none⟩) hg).trans t0
        have k0 := keys_less i (t := t) (by omega)
        rw [← hij] at k0
        have s1 := Bs_below i1 (show Below w2.heap.size w2 wr.drew from hBr.drew)
        have s2 := Bs_below j1 (show Below w2.heap.size w2 wr.drew from hBr.drew)
        generalize ((prs t).getD i n2).1 = p1 at *
        generalize ((prs t).getD j n2).1 = p2 at *
        obtain ⟨k1, b1, rfl, _⟩ := Bs_form i1
        obtain ⟨k2, b2, rfl, _⟩ := Bs_form j1
        have V1 : Hid ((convert 22 9 (.slice k1 p1.length b1)).run Try.prog wr.drew = .ok (.string (Tr.st p1)) wr.drew) := Sl_st (Bs_sl s1)
        have V2 : Hid ((convert 22 9 (.slice k2 p2.length b2)).run Try.prog wr.drew = .ok (.string (Tr.st p2)) wr.drew) := Sl_st (Bs_sl s2)
        have HLT : Hid (Op.bytesLess (Tr.st p1).toList (Tr.st p2).toList = true) := by show _ = _; rw [st_list, st_list]; exact k0
        have HI1 : Hid ((0 : Int) ≤ (i : Int)) := by show _ ≤ _; omega
        have HI2 : Hid ((i : Int) < (pn : Int)) := by show _ < _; omega
        have HJ1 : Hid ((0 : Int) ≤ (j : Int)) := by show _ ≤ _; omega
        have HJ2 : Hid ((j : Int) < (pn : Int)) := by show _ < _; omega
        have HSUB : Hid (IntKind.i64.wrap ((j : Int) - 1) = (i : Int)) := by show _ = _; rw [IntKind.wrap_i64]; omega
        have d0 : decide ((j : Int) < (pn : Int)) = true := decide_eq_true (by omega)
        have e5 : Hid (wrap64 ((j : Int) + 1) = ((j + 1 : Nat) : Int)) := by show _ = _; unfold wrap64; omega
        have HBR : Hid (Below w2.heap.size w2 wr.drew) := hBr.drew
        have hms : ((pn : Int) + 1 - intOf (.int .i64 ((j + 1 : Nat) : Int))).toNat < ((pn : Int) + 1 - intOf (.int .i64 (j : Int))).toNat := by simp only [intOf]; omega
        clear hij hlen hpl PV2 hg hg' z0 t0 i1 j1 k0 s1 s2 hBr
        generalize Tr.st p1 = X at *
        generalize Tr.st p2 = Y at *
        generalize p1.length = a1 at *
        generalize p2.length = a2 at *
        go_upto_region 9 with fail
        refine RI.wp_region_inv (SNI wr.drew g off pn pc i j k1 k2 a1 b1 a2 b2 X Y (.agg #[.int .i64 zk, .slice za1 zn1 zc1, .slice za2 zn2 zc2, .slice za3 zn3 zc3]) (.int .i64 turn) (.pointer (some ⟨w.heap.size, 0, none⟩)) (undef) (u4) (.int .i64 0) (undef) (undef) (.bool true) (.bool false) (.tuple #[.slice (some ⟨g, off, none⟩) pn pc, .int .i64 0]) (.agg #[.int .i64 zk, .slice za1 zn1 zc1, .slice za2 zn2 zc2, .slice za3 zn3 zc3]) (.tuple #[.slice (some ⟨g, off, none⟩) pn pc, .int .i64 0]) (.slice (some ⟨g, off, none⟩) pn pc) (.int .i64 0) (.int .i64 0) (.bool false) (undef) (undef) (undef) (undef) (undef) (undef) (undef) (.int .i64 (j : Int)) (.slice (some ⟨g, off, none⟩) pn pc) (.int .i64 (pn : Int)) (.bool true) (u30) (u31) (undef) (undef) (undef) (undef) (undef) (undef) (undef) (undef) (undef) (undef) (undef) (undef) (undef) (undef) (undef) (undef) (undef) (undef) (undef) (undef) (undef) (undef) (undef) (undef) (undef) (undef) (undef) (undef) (undef) (undef)) (by kernel_rfl) (by kernel_rfl) ?_ ?_ ?_
        · exact ⟨_, _, _, _, _, _, _, _, _, _, _, _, _, _, rfl, (show Hid (wr.drew = wr.drew) from rfl), nofun, nofun, nofun, nofun, nofun, nofun, nofun, nofun, nofun, nofun, nofun, nofun, nofun, nofun⟩
        · skip
          intro d x wx i hI hi hm
          obtain ⟨u32, u33, u34, u35, u36, u37, u38, u39, u40, u41, u42, u43, u44, u45, rfl, hw, p0, p1, p2, p3, p4, p5, p6, p7, p8, p9, p10, p11, p12, p13⟩ := hI
          have hi' : i = 0 ∨ i = 1 ∨ i = 2 ∨ i = 3 ∨ i = 4 ∨ i = 5 ∨ i = 6 ∨ i = 7 ∨ i = 8 ∨ i = 9 ∨ i = 10 ∨ i = 11 ∨ i = 12 ∨ i = 13 := by simp at hi; omega
          have hd := hm.2
          clear hm hi
          rcases hi' with rfl | rfl | rfl | rfl | rfl | rfl | rfl | rfl | rfl | rfl | rfl | rfl | rfl | rfl
          · refine RI.wpOp_plain rfl rfl ?_
            go_simp
            exact ⟨_, u33, u34, u35, u36, u37, u38, u39, u40, u41, u42, u43, u44, u45, rfl, hw, fun _ => rfl, p1, p2, p3, p4, p5, p6, p7, p8, p9, p10, p11, p12, p13⟩
          · refine RI.wpOp_plain rfl rfl ?_
            go_simp
            exact ⟨u32, _, u34, u35, u36, u37, u38, u39, u40, u41, u42, u43, u44, u45, rfl, hw, p0, fun _ => rfl, p2, p3, p4, p5, p6, p7, p8, p9, p10, p11, p12, p13⟩
          · have hd := hd _ rfl
            simp [Region.binds] at hd
            obtain rfl := p1 (by simp [hd])
            refine RI.wpOp_plain rfl rfl ?_
            have hsub := HSUB.out
            go_simp
            exact ⟨u32, _, _, u35, u36, u37, u38, u39, u40, u41, u42, u43, u44, u45, rfl, hw, p0, p1, fun _ => rfl, p3, p4, p5, p6, p7, p8, p9, p10, p11, p12, p13⟩
          · have hd := hd _ rfl
            simp [Region.binds] at hd
            obtain rfl := p0 (by simp [hd])
            obtain rfl := p2 (by simp [hd])
            refine RI.wpOp_plain rfl rfl ?_
            have h1 := HI1.out
            have h2 := HI2.out
            go_simp
            exact ⟨_, u33, _, _, u36, u37, u38, u39, u40, u41, u42, u43, u44, u45, rfl, hw, p0, p1, p2, fun _ => rfl, p4, p5, p6, p7, p8, p9, p10, p11, p12, p13⟩
          · have hd := hd _ rfl
            simp [Region.binds] at hd
            obtain rfl := p3 (by simp [hd])
            refine RI.wpOp_plain rfl rfl ?_
            go_simp
            exact ⟨u32, u33, u34, _, _, u37, u38, u39, u40, u41, u42, u43, u44, u45, rfl, hw, p0, p1, p2, p3, fun _ => rfl, p5, p6, p7, p8, p9, p10, p11, p12, p13⟩
          · have hd := hd _ rfl
            simp [Region.binds] at hd
            obtain rfl := p4 (by simp [hd])
            refine RI.wpOp_plain rfl rfl ?_
            have e := hw.out
            subst e
            have y0 := Q1.out
            go_simp
            exact ⟨u32, u33, u34, u35, _, _, u38, u39, u40, u41, u42, u43, u44, u45, rfl, hw, p0, p1, p2, p3, p4, fun _ => rfl, p6, p7, p8, p9, p10, p11, p12, p13⟩
          · have hd := hd _ rfl
            simp [Region.binds] at hd
            obtain rfl := p5 (by simp [hd])
            refine RI.wpOp_plain rfl rfl ?_
            have e := hw.out
            subst e
            have y0 := V1.out
            go_simp
            exact ⟨u32, u33, u34, u35, u36, _, _, u39, u40, u41, u42, u43, u44, u45, rfl, hw, p0, p1, p2, p3, p4, p5, fun _ => rfl, p7, p8, p9, p10, p11, p12, p13⟩
          · refine RI.wpOp_plain rfl rfl ?_
            go_simp
            exact ⟨u32, u33, u34, u35, u36, u37, u38, _, u40, u41, u42, u43, u44, u45, rfl, hw, p0, p1, p2, p3, p4, p5, p6, fun _ => rfl, p8, p9, p10, p11, p12, p13⟩
          · refine RI.wpOp_plain rfl rfl ?_
            go_simp
            exact ⟨u32, u33, u34, u35, u36, u37, u38, u39, _, u41, u42, u43, u44, u45, rfl, hw, p0, p1, p2, p3, p4, p5, p6, p7, fun _ => rfl, p9, p10, p11, p12, p13⟩
          · have hd := hd _ rfl
            simp [Region.binds] at hd
            obtain rfl := p7 (by simp [hd])
            obtain rfl := p8 (by simp [hd])
            refine RI.wpOp_plain rfl rfl ?_
            have h1 := HJ1.out
            have h2 := HJ2.out
            go_simp
            exact ⟨u32, u33, u34, u35, u36, u37, u38, _, _, _, u42, u43, u44, u45, rfl, hw, p0, p1, p2, p3, p4, p5, p6, p7, p8, fun _ => rfl, p10, p11, p12, p13⟩
          · have hd := hd _ rfl
            simp [Region.binds] at hd
            obtain rfl := p9 (by simp [hd])
            refine RI.wpOp_plain rfl rfl ?_
            go_simp
            exact ⟨u32, u33, u34, u35, u36, u37, u38, u39, u40, _, _, u43, u44, u45, rfl, hw, p0, p1, p2, p3, p4, p5, p6, p7, p8, p9, fun _ => rfl, p11, p12, p13⟩
          · have hd := hd _ rfl
            simp [Region.binds] at hd
            obtain rfl := p10 (by simp [hd])
            refine RI.wpOp_plain rfl rfl ?_
            have e := hw.out
            subst e
            have y0 := Q2.out
            go_simp
            exact ⟨u32, u33, u34, u35, u36, u37, u38, u39, u40, u41, _, _, u44, u45, rfl, hw, p0, p1, p2, p3, p4, p5, p6, p7, p8, p9, p10, fun _ => rfl, p12, p13⟩
          · have hd := hd _ rfl
            simp [Region.binds] at hd
            obtain rfl := p11 (by simp [hd])
            refine RI.wpOp_plain rfl rfl ?_
            have e := hw.out
            subst e
            have y0 := V2.out
            go_simp
            exact ⟨u32, u33, u34, u35, u36, u37, u38, u39, u40, u41, u42, _, _, u45, rfl, hw, p0, p1, p2, p3, p4, p5, p6, p7, p8, p9, p10, p11, fun _ => rfl, p13⟩
          · have hd := hd _ rfl
            simp [Region.binds] at hd
            obtain rfl := p6 (by simp [hd])
            obtain rfl := p12 (by simp [hd])
            refine RI.wpOp_plain rfl rfl ?_
            have hlt := HLT.out
            go_simp
            exact ⟨u32, u33, u34, u35, u36, u37, _, u39, u40, u41, u42, u43, _, _, rfl, hw, p0, p1, p2, p3, p4, p5, p6, p7, p8, p9, p10, p11, p12, fun _ => rfl⟩
        · skip
          intro d x wx hI hd
          obtain ⟨u32, u33, u34, u35, u36, u37, u38, u39, u40, u41, u42, u43, u44, u45, rfl, hw, p0, p1, p2, p3, p4, p5, p6, p7, p8, p9, p10, p11, p12, p13⟩ := hI
          obtain rfl := p13 (hd 13 (by decide))
          have ew := hw.out
          subst ew
          clear p0 p1 p2 p3 p4 p5 p6 p7 p8 p9 p10 p11 p12 p13 hw hd
          go_wp2_with fail
          go_roundw
          case rel => exact ⟨j + 1, by omega, by have := HJ2.out; omega, by rw [e5.out], HBR.out⟩
          case measure => first | exact hms | (rw [e5.out]; exact hms)
      · have HBR : Hid (Below w2.heap.size w2 wr) := hBr
        have d0 : (pn : Int) ≤ (j : Int) := by omega
        clear hBr hlt hj1 hj2
        by_cases ht : 0 < turn
        · by_cases ht2 : turn < pn
          · obtain ⟨k, rfl⟩ : ∃ k : Nat, turn = (k : Int) := ⟨turn.toNat, by omega⟩
            have hk : 0 < k := by omega
            have hk2 : k < pn := by omega
            obtain ⟨g, rfl, hpc, hcon⟩ := rot_any (W := wr.drew) (Po_keep PO.out (fun k _ h2 => HBR.out.drew.block k h2) HBR.out.drew.size) HPL.out hk hk2 36
            have d1 : decide (0 < (k : Int)) = true := decide_eq_true ht
            have d2 : decide ((k : Int) < (pn : Int)) = true := decide_eq_true ht2
            obtain ⟨PZ, hPZ⟩ : ∃ PZ : Value → World → Prop, PZ = fun v w' => ∃ a n c, v = .slice a n c ∧ n = ((prs t).drop k ++ (prs t).take k).length ∧ Pv (· < w'.heap.size) ((prs t).drop k ++ (prs t).take k) (.slice a n c) w' ∧ Below wr.heap.size wr w' := ⟨_, rfl⟩
            have KC : Hid (Calls Try.prog 14 #[.slice (some ⟨wr.drew.heap.size, 0, none⟩) 2 2] (wr.drew.alloc (.cells #[.slice (some ⟨g, k * 2, none⟩) (pn - k) (pc - k), .slice (some ⟨g, 0, none⟩) k pc] 36)) fun e w' => ∃ a n c, e = .returned (.slice a n c) ∧ PZ (.slice a n c) w') := by
              refine hcon.mono fun e w' he => ?_
              obtain ⟨a, n, c, h1, h2, h3, h4⟩ := he
              refine ⟨a, n, c, h1, ?_⟩
              rw [hPZ]
              exact ⟨a, n, c, rfl, h2, h3, (Below.refl _ _).drew.trans h4⟩
            have HK2 : Hid ((k : Int) ≤ (pn : Int)) := by show _ ≤ _; omega
            have HK4 : Hid (¬ pc = k) := by show ¬ _; omega
            have HK5 : Hid (k ≤ pc) := by show _ ≤ _; omega
            have HK3 : Hid ((pn : Int) ≤ (pc : Int)) := by show _ ≤ _; omega
            have HPZ : Hid (∀ v w', PZ v w' → ∃ a n c, v = .slice a n c ∧ n = ((prs t).drop k ++ (prs t).take k).length ∧ Pv (· < w'.heap.size) ((prs t).drop k ++ (prs t).take k) (.slice a n c) w' ∧ Below wr.heap.size wr w') := fun v w' h => by rw [hPZ] at h; exact h
            clear hcon hPZ hk hk2 hpc
            go_upto_region 12 with fail
            refine RI.wp_region_inv (SRI wr.drew PZ g pn pc k (.agg #[.int .i64 zk, .slice za1 zn1 zc1, .slice za2 zn2 zc2, .slice za3 zn3 zc3]) (.pointer (some ⟨w.heap.size, 0, none⟩)) (undef) (u4) (.int .i64 0) (.int .i64 (j : Int)) (undef) (undef) (.bool true) (.bool false) (.tuple #[.slice (some ⟨g, 0, none⟩) pn pc, .int .i64 0]) (.agg #[.int .i64 zk, .slice za1 zn1 zc1, .slice za2 zn2 zc2, .slice za3 zn3 zc3]) (.tuple #[.slice (some ⟨g, 0, none⟩) pn pc, .int .i64 0]) (.slice (some ⟨g, 0, none⟩) pn pc) (.int .i64 0) (.int .i64 0) (.bool false) (undef) (undef) (undef) (undef) (undef) (undef) (undef) (.int .i64 (j : Int)) (.slice (some ⟨g, 0, none⟩) pn pc) (.int .i64 (pn : Int)) (.bool false) (u30) (u31) (u32) (u33) (u34) (u35) (u36) (u37) (u38) (u39) (u40) (u41) (u42) (u43) (u44) (u45) (.int .i64 (k : Int)) (.bool true) (.bool true) (.int .i64 (k : Int)) (.slice (some ⟨g, 0, none⟩) pn pc) (.int .i64 (pn : Int)) (.bool true) (.bool true) (undef) (undef) (undef) (undef) (undef) (undef) (undef) (undef) (undef) (undef) (undef) (undef) (undef) (undef)) (by kernel_rfl) (by kernel_rfl) ?_ ?_ ?_
            · exact ⟨_, _, _, _, _, _, _, _, _, rfl, ⟨⟨fun _ => rfl, fun e => (by cases e), fun e => (by cases e), fun e => (by cases e), fun _ => rfl⟩, fun _ => rfl⟩, nofun, nofun, nofun, nofun, nofun, nofun, nofun, nofun, nofun, nofun, nofun, nofun⟩
            · skip
              intro d x wx i hI hi hm
              obtain ⟨u5, u54, u55, u56, u57, u58, u59, u60, u61, rfl, hw, p0, p1, p2, p3, p4, p5, p6, y7, y8, y9, z3, z7⟩ := hI
              have hi' : i = 0 ∨ i = 1 ∨ i = 2 ∨ i = 3 ∨ i = 4 ∨ i = 5 ∨ i = 6 ∨ i = 7 ∨ i = 8 := by simp at hi; omega
              have hd := hm.2
              have hf := hm.1
              clear hm hi
              rcases hi' with rfl | rfl | rfl | rfl | rfl | rfl | rfl | rfl | rfl
              · refine RI.wpOp_plain rfl rfl ?_
                obtain rfl := (by cases h : d 8 with | false => exact hw.2 h | true => exact absurd (y9 h) (by rw [hf]; decide))
                go_simp
                exact ⟨_, _, u55, u56, u57, u58, u59, u60, u61, rfl, hw, fun _ => rfl, p1, p2, p3, p4, p5, p6, y7, y8, fun _ => rfl, z3, z7⟩
              · refine RI.wpOp_plain rfl rfl ?_
                go_simp
                exact ⟨u5, u54, _, u56, u57, u58, u59, u60, u61, rfl, hw, p0, fun _ => rfl, p2, p3, p4, p5, p6, y7, y8, y9, z3, z7⟩
              · have hd := hd _ rfl
                simp [Region.binds] at hd
                obtain rfl := p0 (by simp [hd])
                obtain rfl := p1 (by simp [hd])
                refine RI.wpOp_plain rfl rfl ?_
                have h0 : (0 : Int) ≤ (k : Int) := by omega
                have h1 := HK2.out
                have h2 := HK3.out
                have h3 := HK4.out
                have h4 := HK5.out
                go_simp
                exact ⟨u5, _, _, _, u57, u58, u59, u60, u61, rfl, hw, p0, p1, fun _ => rfl, p3, p4, p5, p6, y7, y8, y9, z3, z7⟩
              · refine RI.wpOp_plain rfl rfl ?_
                obtain rfl := (by cases h : d 8 with | false => exact hw.2 h | true => exact absurd (z3 h) (by rw [hf]; decide))
                go_simp
                exact ⟨_, u54, u55, u56, _, u58, u59, u60, u61, rfl, hw, p0, p1, p2, fun _ => rfl, p4, p5, p6, y7, y8, y9, fun _ => rfl, z7⟩
              · refine RI.wpOp_plain rfl rfl ?_
                go_simp
                exact ⟨u5, u54, u55, u56, u57, _, u59, u60, u61, rfl, hw, p0, p1, p2, p3, fun _ => rfl, p5, p6, y7, y8, y9, z3, z7⟩
              · have hd := hd _ rfl
                simp [Region.binds] at hd
                obtain rfl := p3 (by simp [hd])
                obtain rfl := p4 (by simp [hd])
                refine RI.wpOp_plain rfl rfl ?_
                have h0 : (0 : Int) ≤ (k : Int) := by omega
                have h1 := HK2.out
                have h2 := HK3.out
                have h4 := HK5.out
                go_simp
                exact ⟨u5, u54, u55, u56, _, _, _, u60, u61, rfl, hw, p0, p1, p2, p3, p4, fun _ => rfl, p6, y7, y8, y9, z3, z7⟩
              · have hd := hd _ rfl
                simp [Region.binds] at hd
                obtain rfl := p2 (by simp [hd])
                obtain rfl := p5 (by simp [hd])
                refine RI.wpOp_plain rfl rfl ?_
                obtain rfl := hw.1.a hf
                go_simp
                exact ⟨u5, u54, u55, _, u57, u58, _, _, u61, rfl, ⟨hw.1.sa hf rfl, hw.2⟩, p0, p1, p2, p3, p4, p5, fun _ => rfl, fun e => (by have h := (hw.1.o e).1; rw [hf] at h; cases h), (y8), (y9), (z3), (z7)⟩
              · have hd := hd _ rfl
                simp [Region.binds] at hd
                obtain rfl := p6 (by simp [hd])
                refine RI.wpOp_plain rfl rfl ?_
                obtain rfl := hw.1.c (by simp [hd]) hf
                go_simp
                refine (KC.out).mono ?_
                rintro e w1 ⟨a, n', c', rfl, hz⟩
                exact ⟨u5, u54, u55, u56, u57, u58, u59, _, _, rfl, ⟨hw.1.sc (by simp [hd]) rfl trivial, hw.2⟩, p0, p1, p2, p3, p4, p5, p6, fun _ => hz, fun e => (by have h := z7 e; rw [hf] at h; cases h), (y9), (z3), fun _ => rfl⟩
              · refine RI.wpOp_plain rfl rfl ?_
                go_simp
                have hd := hd _ rfl
                simp [Region.binds] at hd
                exact ⟨_, u54, u55, u56, u57, u58, u59, u60, u61, rfl, ⟨hw.1, fun e => (by cases e)⟩, p0, p1, p2, p3, p4, p5, p6, y7, fun _ => rfl, fun _ => (show d 0 = true by simp [hd]), fun _ => (show d 3 = true by simp [hd]), fun _ => (show d 7 = true by simp [hd])⟩
            · skip
              intro d x wx hI hd
              obtain ⟨u5, u54, u55, u56, u57, u58, u59, u60, u61, rfl, hw, p0, p1, p2, p3, p4, p5, p6, y7, y8, y9, z3, z7⟩ := hI
              have HD : Hid (PZ u61 wx) := y7 (hd 7 (by decide))
              obtain rfl := y8 (hd 8 (by decide))
              obtain ⟨ra, rn, rc, rfl, h1, h2, h3⟩ := HPZ.out _ _ HD.out
              have PV3 : Hid (Pv (· < wx.heap.size) ((prs t).drop k ++ (prs t).take k) (.slice ra rn rc) wx) := h2
              have HM : Hid (rn = ((prs t).drop k ++ (prs t).take k).length) := h1
              have HPM : Hid (((prs t).drop k ++ (prs t).take k).Perm (prs t)) := rot_perm _ _
              have N3 : Hid (NX w.heap.size (.int .i64 zk, .slice za1 zn1 zc1, .slice za2 zn2 zc2, .slice za3 zn3 zc3) t wx) := NX_below (NX_below Nt.out HBR.out) h3
              have hB := HB.out.trans (HBR.out.mono HB.out.size)
              have HB3 : Hid (Below w.heap.size w wx) := hB.trans (h3.mono hB.size)
              clear hB h1 h2 h3 HD HPZ p0 p1 p2 p3 p4 p5 p6 y7 y8 y9 z3 z7 hw hd KC d0 d1 d2
              have KO : Hid (Calls Try.prog 16 #[.slice ra rn rc] wx fun e w' => ∃ (r : Nd) (u : V4), e = .returned (.tuple #[v4 u, .int .i64 0]) ∧ Nv (wx.heap.size ≤ ·) w' r u ∧ OR ((prs t).drop k ++ (prs t).take k) r ∧ Below wx.heap.size wx w') := by
                have h := of_any ((prs t).drop k ++ (prs t).take k) _ _ _ wx PV3.out HM.out (by have := HPM.out.length_eq; have := HPL.out; have := HM.out; show _ ≤ _; omega)
                rwa [(again HR.out HPM.out).1] at h
              go_wp2_with fail
              refine KO.out.mono ?_
              rintro e w4 ⟨r, u, rfl, hn, hor, hb⟩
              obtain ⟨sk, sa1, sn1, sc1, sa2, sn2, sc2, sa3, sn3, sc3, rfl⟩ := Nv_form hn
              have bA : Below w4.heap.size w4 (w4.alloc (.cells #[.int .i64 sk, .slice sa1 sn1 sc1, .slice sa2 sn2 sc2, .slice sa3 sn3 sc3] 25)) := (Below.refl _ _).alloc (Nat.le_refl _) _
              have Ns : Hid (NX w4.heap.size (.int .i64 sk, .slice sa1 sn1 sc1, .slice sa2 sn2 sc2, .slice sa3 sn3 sc3) r (w4.alloc (.cells #[.int .i64 sk, .slice sa1 sn1 sc1, .slice sa2 sn2 sc2, .slice sa3 sn3 sc3] 25))) := ⟨Bx_new w4 (.int .i64 sk, .slice sa1 sn1 sc1, .slice sa2 sn2 sc2, .slice sa3 sn3 sc3), Nv_below (Nv_mono hn (fun _ _ _ => trivial)) bA⟩
              have Ny : Hid (NX w.heap.size (.int .i64 zk, .slice za1 zn1 zc1, .slice za2 zn2 zc2, .slice za3 zn3 zc3) t (w4.alloc (.cells #[.int .i64 sk, .slice sa1 sn1 sc1, .slice sa2 sn2 sc2, .slice sa3 sn3 sc3] 25))) := NX_below (NX_below N3.out hb) bA
              have HZ : Hid (Below w.heap.size w (w4.alloc (.cells #[.int .i64 sk, .slice sa1 sn1 sc1, .slice sa2 sn2 sc2, .slice sa3 sn3 sc3] 25))) := (HB3.out.trans (hb.mono HB3.out.size)).trans (bA.mono (Nat.le_trans HB3.out.size hb.size))
              have KS : Hid (Calls Try.prog 9 #[.agg #[.int .i64 sk, .slice sa1 sn1 sc1, .slice sa2 sn2 sc2, .slice sa3 sn3 sc3], .agg #[.int .i64 zk, .slice za1 zn1 zc1, .slice za2 zn2 zc2, .slice za3 zn3 zc3]] (w4.alloc (.cells #[.int .i64 sk, .slice sa1 sn1 sc1, .slice sa2 sn2 sc2, .slice sa3 sn3 sc3] 25)) fun e w' => e = .returned (.bool true) ∧ Below (w4.alloc (.cells #[.int .i64 sk, .slice sa1 sn1 sc1, .slice sa2 sn2 sc2, .slice sa3 sn3 sc3] 25)).heap.size (w4.alloc (.cells #[.int .i64 sk, .slice sa1 sn1 sc1, .slice sa2 sn2 sc2, .slice sa3 sn3 sc3] 25)) w') := by
                have h := same_any (or_sm2 hor) t _ _ (.int .i64 sk, .slice sa1 sn1 sc1, .slice sa2 sn2 sc2, .slice sa3 sn3 sc3) (.int .i64 zk, .slice za1 zn1 zc1, .slice za2 zn2 zc2, .slice za3 zn3 zc3) _ Ns.out.2 Ny.out.2
                rwa [again_sn HR.out HPM.out hor] at h
              clear hn hor hb bA KO
              simp only [v4]
              have qs0 := Ns.out.1.2.1
              have qs1 := Ns.out.1.2.2.1
              have qs2 := Ns.out.1.2.2.2.1
              have qs3 := Ns.out.1.2.2.2.2
              have qy0 := Ny.out.1.2.1
              have qy1 := Ny.out.1.2.2.1
              have qy2 := Ny.out.1.2.2.2.1
              have qy3 := Ny.out.1.2.2.2.2
              dsimp only at qs0 qs1 qs2 qs3 qy0 qy1 qy2 qy3
              go_wp2_with fail
              refine KS.out.mono ?_
              rintro e w9 ⟨rfl, hb9⟩
              have HZ9 : Hid (Below w.heap.size w w9) := HZ.out.trans (hb9.mono HZ.out.size)
              clear hb9 KS qs0 qs1 qs2 qs3 qy0 qy1 qy2 qy3
              go_wp2_with fail
              go_ret
              exact ⟨rfl, HZ9.out⟩
          · have d1 : decide (0 < turn) = true := decide_eq_true ht
            have d2 : decide (turn < (pn : Int)) = false := decide_eq_false ht2
            have KV : Hid (Calls Try.prog 15 #[.slice pa pn pc] wr fun e w' => e = .returned (.tuple #[]) ∧ Pv (· < w'.heap.size) (prs t).reverse (.slice pa pn pc) w' ∧ Below w.heap.size wr w' ∧ NX w.heap.size (.int .i64 zk, .slice za1 zn1 zc1, .slice za2 zn2 zc2, .slice za3 zn3 zc3) t w') := by
              refine (reverse_po (Po_keep PO.out (fun k _ h2 => HBR.out.block k h2) HBR.out.size) (by have := HPL.out; omega)).mono fun e w' he => ?_
              obtain ⟨h1, h2, h3, h4⟩ := he
              have hb := HLE.out
              have Nr := NX_below Nt.out HBR.out
              refine ⟨h1, Pv_mono (Po_pv h2) (fun k _ h => h), (Below.refl _ _).grown h3 (by have := Nr.1.1; omega) (fun q e => by have := h4 q e; omega), NX_gb Nr.1 (Nv_below N0.out HBR.out) h3 (fun q e => by have := h4 q e; omega)⟩
            go_wp2_with fail
            refine KV.out.mono ?_
            rintro e w3 ⟨rfl, h2, h3, h4⟩
            have PV3 : Hid (Pv (· < w3.heap.size) (prs t).reverse (.slice pa pn pc) w3) := h2
            have HM : Hid (pn = (prs t).reverse.length) := by show _ = _; rw [List.length_reverse]; exact HPN.out
            have HPM : Hid ((prs t).reverse.Perm (prs t)) := List.reverse_perm _
            have N3 : Hid (NX w.heap.size (.int .i64 zk, .slice za1 zn1 zc1, .slice za2 zn2 zc2, .slice za3 zn3 zc3) t w3) := h4
            have HB3 : Hid (Below w.heap.size w w3) := (HB.out.trans (HBR.out.mono HB.out.size)).trans h3
            clear h2 h3 h4 KV d1 d2
            have KO : Hid (Calls Try.prog 16 #[.slice pa pn pc] w3 fun e w' => ∃ (r : Nd) (u : V4), e = .returned (.tuple #[v4 u, .int .i64 0]) ∧ Nv (w3.heap.size ≤ ·) w' r u ∧ OR ((prs t).reverse) r ∧ Below w3.heap.size w3 w') := by
              have h := of_any ((prs t).reverse) _ _ _ w3 PV3.out HM.out (by have := HPM.out.length_eq; have := HPL.out; have := HM.out; show _ ≤ _; omega)
              rwa [(again HR.out HPM.out).1] at h
            go_wp2_with fail
            refine KO.out.mono ?_
            rintro e w4 ⟨r, u, rfl, hn, hor, hb⟩
            obtain ⟨sk, sa1, sn1, sc1, sa2, sn2, sc2, sa3, sn3, sc3, rfl⟩ := Nv_form hn
            have bA : Below w4.heap.size w4 (w4.alloc (.cells #[.int .i64 sk, .slice sa1 sn1 sc1, .slice sa2 sn2 sc2, .slice sa3 sn3 sc3] 25)) := (Below.refl _ _).alloc (Nat.le_refl _) _
            have Ns : Hid (NX w4.heap.size (.int .i64 sk, .slice sa1 sn1 sc1, .slice sa2 sn2 sc2, .slice sa3 sn3 sc3) r (w4.alloc (.cells #[.int .i64 sk, .slice sa1 sn1 sc1, .slice sa2 sn2 sc2, .slice sa3 sn3 sc3] 25))) := ⟨Bx_new w4 (.int .i64 sk, .slice sa1 sn1 sc1, .slice sa2 sn2 sc2, .slice sa3 sn3 sc3), Nv_below (Nv_mono hn (fun _ _ _ => trivial)) bA⟩
            have Ny : Hid (NX w.heap.size (.int .i64 zk, .slice za1 zn1 zc1, .slice za2 zn2 zc2, .slice za3 zn3 zc3) t (w4.alloc (.cells #[.int .i64 sk, .slice sa1 sn1 sc1, .slice sa2 sn2 sc2, .slice sa3 sn3 sc3] 25))) := NX_below (NX_below N3.out hb) bA
            have HZ : Hid (Below w.heap.size w (w4.alloc (.cells #[.int .i64 sk, .slice sa1 sn1 sc1, .slice sa2 sn2 sc2, .slice sa3 sn3 sc3] 25))) := (HB3.out.trans (hb.mono HB3.out.size)).trans (bA.mono (Nat.le_trans HB3.out.size hb.size))
            have KS : Hid (Calls Try.prog 9 #[.agg #[.int .i64 sk, .slice sa1 sn1 sc1, .slice sa2 sn2 sc2, .slice sa3 sn3 sc3], .agg #[.int .i64 zk, .slice za1 zn1 zc1, .slice za2 zn2 zc2, .slice za3 zn3 zc3]] (w4.alloc (.cells #[.int .i64 sk, .slice sa1 sn1 sc1, .slice sa2 sn2 sc2, .slice sa3 sn3 sc3] 25)) fun e w' => e = .returned (.bool true) ∧ Below (w4.alloc (.cells #[.int .i64 sk, .slice sa1 sn1 sc1, .slice sa2 sn2 sc2, .slice sa3 sn3 sc3] 25)).heap.size (w4.alloc (.cells #[.int .i64 sk, .slice sa1 sn1 sc1, .slice sa2 sn2 sc2, .slice sa3 sn3 sc3] 25)) w') := by
              have h := same_any (or_sm2 hor) t _ _ (.int .i64 sk, .slice sa1 sn1 sc1, .slice sa2 sn2 sc2, .slice sa3 sn3 sc3) (.int .i64 zk, .slice za1 zn1 zc1, .slice za2 zn2 zc2, .slice za3 zn3 zc3) _ Ns.out.2 Ny.out.2
              rwa [again_sn HR.out HPM.out hor] at h
            clear hn hor hb bA KO
            simp only [v4]
            have qs0 := Ns.out.1.2.1
            have qs1 := Ns.out.1.2.2.1
            have qs2 := Ns.out.1.2.2.2.1
            have qs3 := Ns.out.1.2.2.2.2
            have qy0 := Ny.out.1.2.1
            have qy1 := Ny.out.1.2.2.1
            have qy2 := Ny.out.1.2.2.2.1
            have qy3 := Ny.out.1.2.2.2.2
            dsimp only at qs0 qs1 qs2 qs3 qy0 qy1 qy2 qy3
            go_wp2_with fail
            refine KS.out.mono ?_
            rintro e w9 ⟨rfl, hb9⟩
            have HZ9 : Hid (Below w.heap.size w w9) := HZ.out.trans (hb9.mono HZ.out.size)
            clear hb9 KS qs0 qs1 qs2 qs3 qy0 qy1 qy2 qy3
            go_wp2_with fail
            go_ret
            exact ⟨rfl, HZ9.out⟩
        · have d1 : decide (0 < turn) = false := decide_eq_false ht
          have KV : Hid (Calls Try.prog 15 #[.slice pa pn pc] wr fun e w' => e = .returned (.tuple #[]) ∧ Pv (· < w'.heap.size) (prs t).reverse (.slice pa pn pc) w' ∧ Below w.heap.size wr w' ∧ NX w.heap.size (.int .i64 zk, .slice za1 zn1 zc1, .slice za2 zn2 zc2, .slice za3 zn3 zc3) t w') := by
            refine (reverse_po (Po_keep PO.out (fun k _ h2 => HBR.out.block k h2) HBR.out.size) (by have := HPL.out; omega)).mono fun e w' he => ?_
            obtain ⟨h1, h2, h3, h4⟩ := he
            have hb := HLE.out
            have Nr := NX_below Nt.out HBR.out
            refine ⟨h1, Pv_mono (Po_pv h2) (fun k _ h => h), (Below.refl _ _).grown h3 (by have := Nr.1.1; omega) (fun q e => by have := h4 q e; omega), NX_gb Nr.1 (Nv_below N0.out HBR.out) h3 (fun q e => by have := h4 q e; omega)⟩
          go_wp2_with fail
          refine KV.out.mono ?_
          rintro e w3 ⟨rfl, h2, h3, h4⟩
          have PV3 : Hid (Pv (· < w3.heap.size) (prs t).reverse (.slice pa pn pc) w3) := h2
          have HM : Hid (pn = (prs t).reverse.length) := by show _ = _; rw [List.length_reverse]; exact HPN.out
          have HPM : Hid ((prs t).reverse.Perm (prs t)) := List.reverse_perm _
          have N3 : Hid (NX w.heap.size (.int .i64 zk, .slice za1 zn1 zc1, .slice za2 zn2 zc2, .slice za3 zn3 zc3) t w3) := h4
          have HB3 : Hid (Below w.heap.size w w3) := (HB.out.trans (HBR.out.mono HB.out.size)).trans h3
          clear h2 h3 h4 KV d1
          have KO : Hid (Calls Try.prog 16 #[.slice pa pn pc] w3 fun e w' => ∃ (r : Nd) (u : V4), e = .returned (.tuple #[v4 u, .int .i64 0]) ∧ Nv (w3.heap.size ≤ ·) w' r u ∧ OR ((prs t).reverse) r ∧ Below w3.heap.size w3 w') := by
            have h := of_any ((prs t).reverse) _ _ _ w3 PV3.out HM.out (by have := HPM.out.length_eq; have := HPL.out; have := HM.out; show _ ≤ _; omega)
            rwa [(again HR.out HPM.out).1] at h
          go_wp2_with fail
          refine KO.out.mono ?_
          rintro e w4 ⟨r, u, rfl, hn, hor, hb⟩
          obtain ⟨sk, sa1, sn1, sc1, sa2, sn2, sc2, sa3, sn3, sc3, rfl⟩ := Nv_form hn
          have bA : Below w4.heap.size w4 (w4.alloc (.cells #[.int .i64 sk, .slice sa1 sn1 sc1, .slice sa2 sn2 sc2, .slice sa3 sn3 sc3] 25)) := (Below.refl _ _).alloc (Nat.le_refl _) _
          have Ns : Hid (NX w4.heap.size (.int .i64 sk, .slice sa1 sn1 sc1, .slice sa2 sn2 sc2, .slice sa3 sn3 sc3) r (w4.alloc (.cells #[.int .i64 sk, .slice sa1 sn1 sc1, .slice sa2 sn2 sc2, .slice sa3 sn3 sc3] 25))) := ⟨Bx_new w4 (.int .i64 sk, .slice sa1 sn1 sc1, .slice sa2 sn2 sc2, .slice sa3 sn3 sc3), Nv_below (Nv_mono hn (fun _ _ _ => trivial)) bA⟩
          have Ny : Hid (NX w.heap.size (.int .i64 zk, .slice za1 zn1 zc1, .slice za2 zn2 zc2, .slice za3 zn3 zc3) t (w4.alloc (.cells #[.int .i64 sk, .slice sa1 sn1 sc1, .slice sa2 sn2 sc2, .slice sa3 sn3 sc3] 25))) := NX_below (NX_below N3.out hb) bA
          have HZ : Hid (Below w.heap.size w (w4.alloc (.cells #[.int .i64 sk, .slice sa1 sn1 sc1, .slice sa2 sn2 sc2, .slice sa3 sn3 sc3] 25))) := (HB3.out.trans (hb.mono HB3.out.size)).trans (bA.mono (Nat.le_trans HB3.out.size hb.size))
          have KS : Hid (Calls Try.prog 9 #[.agg #[.int .i64 sk, .slice sa1 sn1 sc1, .slice sa2 sn2 sc2, .slice sa3 sn3 sc3], .agg #[.int .i64 zk, .slice za1 zn1 zc1, .slice za2 zn2 zc2, .slice za3 zn3 zc3]] (w4.alloc (.cells #[.int .i64 sk, .slice sa1 sn1 sc1, .slice sa2 sn2 sc2, .slice sa3 sn3 sc3] 25)) fun e w' => e = .returned (.bool true) ∧ Below (w4.alloc (.cells #[.int .i64 sk, .slice sa1 sn1 sc1, .slice sa2 sn2 sc2, .slice sa3 sn3 sc3] 25)).heap.size (w4.alloc (.cells #[.int .i64 sk, .slice sa1 sn1 sc1, .slice sa2 sn2 sc2, .slice sa3 sn3 sc3] 25)) w') := by
            have h := same_any (or_sm2 hor) t _ _ (.int .i64 sk, .slice sa1 sn1 sc1, .slice sa2 sn2 sc2, .slice sa3 sn3 sc3) (.int .i64 zk, .slice za1 zn1 zc1, .slice za2 zn2 zc2, .slice za3 zn3 zc3) _ Ns.out.2 Ny.out.2
            rwa [again_sn HR.out HPM.out hor] at h
          clear hn hor hb bA KO
          simp only [v4]
          have qs0 := Ns.out.1.2.1
          have qs1 := Ns.out.1.2.2.1
          have qs2 := Ns.out.1.2.2.2.1
          have qs3 := Ns.out.1.2.2.2.2
          have qy0 := Ny.out.1.2.1
          have qy1 := Ny.out.1.2.2.1
          have qy2 := Ny.out.1.2.2.2.1
          have qy3 := Ny.out.1.2.2.2.2
          dsimp only at qs0 qs1 qs2 qs3 qy0 qy1 qy2 qy3
          go_wp2_with fail
          refine KS.out.mono ?_
          rintro e w9 ⟨rfl, hb9⟩
          have HZ9 : Hid (Below w.heap.size w w9) := HZ.out.trans (hb9.mono HZ.out.size)
          clear hb9 KS qs0 qs1 qs2 qs3 qy0 qy1 qy2 qy3
          go_wp2_with fail
          go_ret
          exact ⟨rfl, HZ9.out⟩
end Tr
end Go.Proofs.Ytdcbgldelfhohab
