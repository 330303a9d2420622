/- The law SpongeParts. -/
import Derived.Test.YtfiighfecodjlaaPackB
import Derived.Test.YtfiighfecodjlaaPackA
import Derived.ProofKit
import Derived.OpenShut
import Derived.ShutString
import Derived.ChangeOld
import Derived.Lib.SmallJoins
import Derived.SizedLaws
import Derived.Deep.Matrix
namespace Go.Proofs.Ytfiighfecodjlaa
namespace Sp
open Go.RowKit
theorem ld32 {K : Value → World → Prop} {a : Act} {o : Oper} {s g off : Nat} {G : Nat → Int} {w : World} (ho : o.op = .load 26 (.tmp s)) (ha : a.eval (.tmp s) = .pointer (some ⟨g, off, none⟩))
    (hc : w.rangeAt g off (h32 G)) (hK : K (Hv G) w) : RS.upv Try.prog K ((execOp a.eval o).run Try.prog w) := by
  unfold execOp
  simp only [ho, ha, Instr.loadAt, Instr.sureAddr, Sem.run_bind, Sem.run_pure, Result.andThen_ok, run_loadVar_mid w g off 26 (h32 G) _ hc Try.underlying26 rfl (by rw [h32_length]; exact infoHash)]
  exact hK
theorem rng2 {B O n k : Nat} {F G : Nat → Int} {w : World} (h : Vb .u8 B O (32 * n) F w) (hk : k < n) (hG : G = fun o => F (32 * k + o)) : w.rangeAt O (k * 32) (h32 G) := fun j v hv => by
  have hj : j < 32 := by
    have := (List.getElem?_eq_some_iff.1 hv).1
    rwa [h32_length] at this
  rw [h32_get G j hj] at hv
  rw [h.c (k * 32 + j) (by omega), ← hv, hG]
  congr 3
  omega
theorem rng {B O n z : Nat} {ps : List (List UInt8)} {G : Nat → Int} {w : World} (h : Vb .u8 B O (32 * n) (HF ps n) w) (hG : G = fun o => HF ps n (32 * z + o)) (hz : z < n) : w.rangeAt O (z * 32) (h32 G) := rng2 h hz hG
theorem HF_last (ps : List (List UInt8)) (z o : Nat) (ho : o < 32) (hz : z + 1 = ps.length) : HF ps ps.length (32 * z + o) = sumf ps.flatten o := by
  unfold HF
  rw [if_pos (by omega), show (32 * z + o) / 32 = z by omega, show (32 * z + o) % 32 = o by omega, hz]
  unfold pre
  rw [List.take_length]
theorem Hv_ext {F G : Nat → Int} (h : ∀ o, o < 32 → F o = G o) : Hv F = Hv G := by
  have e : h32 F = h32 G := by
    unfold h32
    exact List.map_congr_left (fun i hi => by rw [h i (List.mem_range.1 hi)])
  unfold Hv
  rw [e]
structure PW (w : World) (ps qs : List (List UInt8)) (vp vq : Value) (O1 : Nat) (vall : Value) (wx : World) : Prop where
  b : Below w.heap.size w wx
  p : Ls ps vp wx
  q : Ls qs vq wx
  x : Vb .u8 w.heap.size O1 (32 * ps.length) (HF ps ps.length) wx
  a : Pk.Sl ps.flatten vall wx
theorem PW_below {w : World} {ps qs : List (List UInt8)} {vp vq : Value} {O1 : Nat} {vall : Value} {w1 w2 : World} (h : PW w ps qs vp vq O1 vall w1) (hb : Below w1.heap.size w1 w2) : PW w ps qs vp vq O1 vall w2 :=
  ⟨h.b.trans (hb.mono h.b.size), Ls_below h.p hb, Ls_below h.q hb, Vb_below h.x hb, Pk.Sl_below h.a hb⟩
structure QW (w : World) (O2 O3 M1 L3 : Nat) (F2 F3 : Nat → Int) (wx : World) : Prop where
  b : Below w.heap.size w wx
  x : Vb .u8 w.heap.size O2 (32 * M1) F2 wx
  y : Vb .u8 w.heap.size O3 (32 * L3) F3 wx
theorem QW_below {w : World} {O2 O3 M1 L3 : Nat} {F2 F3 : Nat → Int} {w1 w2 : World} (h : QW w O2 O3 M1 L3 F2 F3 w1) (hb : Below w1.heap.size w1 w2) : QW w O2 O3 M1 L3 F2 F3 w2 :=
  ⟨h.b.trans (hb.mono h.b.size), Vb_below h.x hb, Vb_below h.y hb⟩
theorem Vb_mono {k : IntKind} {B C g n : Nat} {F : Nat → Int} {w : World} (h : Vb k B g n F w) (hC : C ≤ B) : Vb k C g n F w := ⟨Nat.le_trans hC h.lo, h.hi, h.c, h.f⟩
theorem three (w : World) (vq vp : Value) (qh ph : List Value) (hq : Vl qh vq w) (hp : Vl ph vp w) (W : World)
    (hW : W = ((w.alloc (.cells #[] 5)).alloc (.cells #[.slice (some ⟨w.heap.size, 0, none⟩) 0 0] 30)).alloc (.cells #[vq, vp, .slice (some ⟨w.heap.size + 1, 0, none⟩) 1 1] 22)) :
    Below w.heap.size w W ∧ Vls [qh, ph, [.slice (some ⟨w.heap.size, 0, none⟩) 0 0]] (.slice (some ⟨w.heap.size + 1 + 1, 0, none⟩) 3 3) W ∧ Pk.Sl [] (.slice (some ⟨w.heap.size, 0, none⟩) 0 0) W := by
  have z1 : (w.alloc (.cells #[] 5)).heap.size = w.heap.size + 1 := by simp
  have z2 : ((w.alloc (.cells #[] 5)).alloc (.cells #[.slice (some ⟨w.heap.size, 0, none⟩) 0 0] 30)).heap.size = w.heap.size + 1 + 1 := by simp
  have h2 := heap_alloc_new (w.alloc (.cells #[] 5)) (.cells #[.slice (some ⟨w.heap.size, 0, none⟩) 0 0] 30)
  rw [z1] at h2
  have h3 := heap_alloc_new ((w.alloc (.cells #[] 5)).alloc (.cells #[.slice (some ⟨w.heap.size, 0, none⟩) 0 0] 30)) (.cells #[vq, vp, .slice (some ⟨w.heap.size + 1, 0, none⟩) 1 1] 22)
  rw [z2, ← hW] at h3
  have h4 : W.heap[w.heap.size + 1]? = some (.cells #[.slice (some ⟨w.heap.size, 0, none⟩) 0 0] 30) := by
    rw [hW, heap_alloc_old _ _ (by rw [z2]; omega)]
    exact h2
  have hb : Below w.heap.size w W := by
    rw [hW]
    exact (((Below.refl _ _).alloc (Nat.le_refl _) _).alloc (by rw [z1]; omega) _).alloc (by rw [z2]; omega) _
  have cell : ∀ (g : Nat) (cs : Array Value) (T : TypeId), W.heap[g]? = some (.cells cs T) → ∀ j, W.cell? ⟨g, j, none⟩ = cs[j]? := fun g cs T h j => by
    simp only [World.cell?, h]
    exact if_neg (by decide)
  refine ⟨hb, ⟨_, 3, rfl, fun _ => ⟨_, 0, rfl, Pk.lt_of_heap h3, fun i hi => ?_⟩⟩, ⟨_, 0, rfl, Nat.le_refl _, Vw_nil _ _⟩⟩
  have hi2 : i = 0 ∨ i = 1 ∨ i = 2 := by simp at hi; omega
  rcases hi2 with rfl | rfl | rfl
  · exact ⟨vq, by rw [cell _ _ _ h3]; rfl, Vl_below hq hb⟩
  · exact ⟨vp, by rw [cell _ _ _ h3]; rfl, Vl_below hp hb⟩
  · refine ⟨_, by rw [cell _ _ _ h3]; rfl, ⟨_, 1, rfl, fun _ => ⟨_, 0, rfl, Pk.lt_of_heap h4, fun j hj => ?_⟩⟩⟩
    have e : j = 0 := by simp at hj; omega
    subst e
    rw [cell _ _ _ h4]
    rfl
theorem flat_q (ps qs : List (List UInt8)) : (qs ++ [ps.flatten]).flatten = qs.flatten ++ ps.flatten := by simp
theorem flat_r (ps qs : List (List UInt8)) : (qs ++ (ps ++ [[]])).flatten = qs.flatten ++ ps.flatten := by simp
set_option maxHeartbeats 4000000 in
set_option maxRecDepth 100000 in
theorem law_parts (ps qs : List (List UInt8)) (vp vq : Value) (w : World) (hb1 : ps.flatten.length + qs.flatten.length ≤ 1048576) (hb2 : ps.length + qs.length + 1 ≤ 1048576) (hp : Ls ps vp w) (hq : Ls qs vq w) :
    Calls Try.prog 4 #[vp, vq] w fun e w' => e = .returned (.bool true) ∧ Below w.heap.size w w' := by
  have K0 : Hid (∀ w : World, Calls Try.prog 8 #[] w fun e w' => e = .returned (.bool true) ∧ Below w.heap.size w w') := fun w => alive3_any w
  have KE : Hid (∀ (rs : List (List UInt8)) (n : Nat) (v : Value) (w : World), n = rs.length → rs.flatten.length ≤ 1048576 → rs.length ≤ 1048576 → Ls rs v w → Calls Try.prog 6 #[v] w fun e w' => ∃ O, e = .returned (.slice (some ⟨O, 0, none⟩) n n) ∧ Vb .u8 w.heap.size O (32 * n) (HF rs rs.length) w' ∧ Below w.heap.size w w') := fun rs n v w e h1 h2 h => by subst e; exact each_any rs v w h1 h2 h
  have KC : Hid (∀ w : World, Ls ps vp w → Calls Try.prog 9 #[vp] w fun e w' => ∃ aa al ca, e = .returned (.slice aa al ca) ∧ Pk.Sl ps.flatten (.slice aa al ca) w' ∧ Below w.heap.size w w') := fun w h => (concat_b (ps.map Pk.bcs) vp w (by show _ ≤ _; rw [flat_bcs, Pk.bcs_len]; omega) (by show _ ≤ _; rw [List.length_map]; omega) (fun xs hxs u hu => by
    obtain ⟨p, _, rfl⟩ := List.mem_map.1 hxs
    obtain ⟨c, _, rfl⟩ := List.mem_map.1 hu
    rfl) (ls_vls h)).mono fun e w' he => by
      obtain ⟨v', he, ho, hb⟩ := he
      rw [flat_bcs, Pk.bcs_len] at ho
      have hs := Pk.own_sl ho
      obtain ⟨aa, ca, e, h2, h3⟩ := hs
      subst e
      exact ⟨aa, _, ca, he, ⟨aa, ca, rfl, h2, h3⟩, hb⟩
  have HP : Hid (Ls ps vp w) := hp
  have HQ : Hid (Ls qs vq w) := hq
  obtain ⟨ap, cp, rfl, _⟩ := hp
  obtain ⟨aq, cq, rfl, _⟩ := hq
  have B1 : Hid (ps.flatten.length + qs.flatten.length ≤ 1048576) := hb1
  have B2 : Hid (ps.length + qs.length + 1 ≤ 1048576) := hb2
  clear hb1 hb2
  go_enter Try.func4, Try.ntmps4
  go_wp2_with fail
  refine (K0.out _).mono ?_
  rintro e w1 ⟨rfl, b1⟩
  have p1 := Ls_below HP.out b1
  have q1 := Ls_below HQ.out b1
  clear HP HQ K0
  go_wp2_with fail
  refine (KE.out ps _ _ w1 rfl (by have := B1.out; omega) (by have := B2.out; omega) p1).mono ?_
  rintro e w2 ⟨O1, rfl, v2, b2⟩
  go_wp2_with fail
  refine (KC.out _ (Ls_below p1 b2)).mono ?_
  rintro e w3 ⟨aa, al, ca, rfl, a3, b3⟩
  have KS : Hid (∀ w : World, Pk.Sl ps.flatten (.slice aa al ca) w → Calls Try.prog 10 #[.slice aa al ca] w fun e w' => e = .returned (Hv (sumf ps.flatten)) ∧ Below w.heap.size w w') := fun w h => by
    obtain ⟨a1, c1, e1, h2, h3⟩ := h
    cases e1
    exact Sp.sum_any ps.flatten aa ca w (by have := B1.out; omega) h3
  have m3 : PW w ps qs (.slice ap ps.length cp) (.slice aq qs.length cq) O1 (.slice aa al ca) w3 := by
    have b12 := b1.trans (b2.mono b1.size)
    exact ⟨b12.trans (b3.mono b12.size), Ls_below (Ls_below p1 b2) b3, Ls_below (Ls_below q1 b2) b3, Vb_mono (Vb_below v2 b3) b1.size, a3⟩
  clear p1 q1 b1 v2 b2 a3 b3 KC
  by_cases h0 : 0 < ps.length
  · obtain ⟨z, hz⟩ : ∃ z, z + 1 = ps.length := ⟨ps.length - 1, by omega⟩
    have D0 : Hid (decide ((0 : Int) < (ps.length : Int)) = true) := decide_eq_true (by omega)
    have D9 : Hid (decide (0 < ps.length) = true) := decide_eq_true h0
    have D1 : Hid (IntKind.i64.wrap ((ps.length : Int) - 1) = (z : Int)) := by show _ = _; have := B2.out; rw [IntKind.wrap_i64]; omega
    have D2 : Hid ((z : Int) < (ps.length : Int)) := by show _ < _; omega
    have HZ : Hid (z < ps.length) := by show _ < _; omega
    obtain ⟨G, eG⟩ : ∃ G : Nat → Int, G = fun o => HF ps ps.length (32 * z + o) := ⟨_, rfl⟩
    have HG : Hid (G = fun o => HF ps ps.length (32 * z + o)) := eG
    have HS : Hid (same 32 G (sumf ps.flatten) = true) := (same_iff 32 _ _).2 fun o ho => by rw [eG]; exact HF_last ps z o ho hz
    clear eG hz h0
    go_upto_region 4 with fail
    refine RS.wp_region_one (PW w ps qs (.slice ap ps.length cp) (.slice aq qs.length cq) O1 (.slice aa al ca)) (by kernel_rfl) (by kernel_rfl) (PW_below m3 (Below.refl _ _).drew) ?_
    dsimp only [List.toList_toArray]
    refine RS.go1 (v := ?_) (a' := ?_) rfl ?_ ?_ ?_
    rotate_left 2
    · intro K wx hS hK
      go_simp
      exact hK _ hS
    · simp only [Act.put, List.setIfInBounds_toArray, List.set_cons_succ, List.set_cons_zero]
      rfl
    refine RS.go1 (v := ?_) (a' := ?_) rfl ?_ ?_ ?_
    rotate_left 2
    · intro K wx hS hK
      go_simp
      exact hK _ hS
    · simp only [Act.put, List.setIfInBounds_toArray, List.set_cons_succ, List.set_cons_zero]
      rfl
    refine RS.go1 (v := ?_) (a' := ?_) rfl ?_ ?_ ?_
    rotate_left 2
    · intro K wx hS hK
      go_simp
      exact hK _ hS
    · simp only [Act.put, List.setIfInBounds_toArray, List.set_cons_succ, List.set_cons_zero]
      rfl
    refine RS.go1 (v := ?_) (a' := ?_) rfl ?_ ?_ ?_
    rotate_left 2
    · intro K wx hS hK
      go_simp
      exact hK _ hS
    · simp only [Act.put, List.setIfInBounds_toArray, List.set_cons_succ, List.set_cons_zero]
      rfl
    refine RS.go1 (v := ?_) (a' := ?_) rfl ?_ ?_ ?_
    rotate_left 2
    · intro K wx hS hK
      go_simp
      exact hK _ hS
    · simp only [Act.put, List.setIfInBounds_toArray, List.set_cons_succ, List.set_cons_zero]
      rfl
    refine RS.go1 (v := ?_) (a' := ?_) rfl ?_ ?_ ?_
    rotate_left 2
    · intro K wx hS hK
      go_simp
      exact hK _ hS
    · simp only [Act.put, List.setIfInBounds_toArray, List.set_cons_succ, List.set_cons_zero]
      rfl
    refine RS.go1g (v := ?_) (a' := ?_) (by kernel_rfl) ?_ ?_ ?_
    rotate_left 2
    · intro K wx hS hK
      go_simp
      exact hK _ hS
    · simp only [Act.put, List.setIfInBounds_toArray, List.set_cons_succ, List.set_cons_zero]
      rfl
    refine RS.go1g (v := ?_) (a' := ?_) (by kernel_rfl) ?_ ?_ ?_
    rotate_left 2
    · intro K wx hS hK
      go_simp
      exact hK _ hS
    · simp only [Act.put, List.setIfInBounds_toArray, List.set_cons_succ, List.set_cons_zero]
      rfl
    refine RS.go1g (v := ?_) (a' := ?_) (by kernel_rfl) ?_ ?_ ?_
    rotate_left 2
    · intro K wx hS hK
      have d := D0.out
      have d2 := D9.out
      go_simp
      exact hK _ hS
    · simp only [Act.put, List.setIfInBounds_toArray, List.set_cons_succ, List.set_cons_zero]
      rfl
    refine RS.go1g (v := ?_) (a' := ?_) (by kernel_rfl) ?_ ?_ ?_
    rotate_left 2
    · intro K wx hS hK
      go_simp
      exact hK _ hS
    · simp only [Act.put, List.setIfInBounds_toArray, List.set_cons_succ, List.set_cons_zero]
      rfl
    refine RS.go1g (v := ?_) (a' := ?_) (by kernel_rfl) ?_ ?_ ?_
    rotate_left 2
    · intro K wx hS hK
      go_simp
      exact hK _ hS
    · simp only [Act.put, List.setIfInBounds_toArray, List.set_cons_succ, List.set_cons_zero]
      rfl
    refine RS.go1g (v := ?_) (a' := ?_) (by kernel_rfl) ?_ ?_ ?_
    rotate_left 2
    · intro K wx hS hK
      go_simp
      exact hK _ hS
    · simp only [Act.put, List.setIfInBounds_toArray, List.set_cons_succ, List.set_cons_zero]
      rfl
    refine RS.go1g (v := ?_) (a' := ?_) (by kernel_rfl) ?_ ?_ ?_
    rotate_left 2
    · intro K wx hS hK
      go_simp
      exact hK _ hS
    · simp only [Act.put, List.setIfInBounds_toArray, List.set_cons_succ, List.set_cons_zero]
      rfl
    refine RS.go1g (v := ?_) (a' := ?_) (by kernel_rfl) ?_ ?_ ?_
    rotate_left 2
    · intro K wx hS hK
      have d := D1.out
      go_simp
      exact hK _ hS
    · simp only [Act.put, List.setIfInBounds_toArray, List.set_cons_succ, List.set_cons_zero]
      rfl
    refine RS.go1g (v := ?_) (a' := ?_) (by kernel_rfl) ?_ ?_ ?_
    rotate_left 2
    · intro K wx hS hK
      have d := D2.out
      go_simp
      exact hK _ hS
    · simp only [Act.put, List.setIfInBounds_toArray, List.set_cons_succ, List.set_cons_zero]
      rfl
    refine RS.go1g (v := ?_) (a' := ?_) (by kernel_rfl) ?_ ?_ ?_
    rotate_left 2
    · intro K wx hS hK
      refine ld32 rfl rfl (rng hS.x HG.out HZ.out) ?_
      exact hK _ hS
    · simp only [Act.put, List.setIfInBounds_toArray, List.set_cons_succ, List.set_cons_zero]
      rfl
    refine RS.go1g (v := ?_) (a' := ?_) (by kernel_rfl) ?_ ?_ ?_
    rotate_left 2
    · intro K wx hS hK
      go_simp
      exact hK _ hS
    · simp only [Act.put, List.setIfInBounds_toArray, List.set_cons_succ, List.set_cons_zero]
      rfl
    refine RS.go1g (v := ?_) (a' := ?_) (by kernel_rfl) ?_ ?_ ?_
    rotate_left 2
    · intro K wx hS hK
      go_simp
      refine (KS.out _ hS.a).mono (fun e w2 he => ?_)
      refine ⟨_, he.1, ?_⟩
      exact hK _ (PW_below hS he.2)
    · simp only [Act.put, List.setIfInBounds_toArray, List.set_cons_succ, List.set_cons_zero]
      rfl
    refine RS.go1g (v := ?_) (a' := ?_) (by kernel_rfl) ?_ ?_ ?_
    rotate_left 2
    · intro K wx hS hK
      have e1 := neq32 G (sumf ps.flatten) wx
      rw [HS.out] at e1
      have e2 := eq_guard32 .neq (.tmp 30) (.tmp 32) G (sumf ps.flatten) wx
      go_simp
      exact hK _ hS
    · simp only [Act.put, List.setIfInBounds_toArray, List.set_cons_succ, List.set_cons_zero]
      rfl
    refine RS.go1g (v := ?_) (a' := ?_) (by kernel_rfl) ?_ ?_ ?_
    rotate_left 2
    · intro K wx hS hK
      go_simp
      exact hK _ hS
    · simp only [Act.put, List.setIfInBounds_toArray, List.set_cons_succ, List.set_cons_zero]
      rfl
    refine RS.go1 (v := ?_) (a' := ?_) rfl ?_ ?_ ?_
    rotate_left 2
    · intro K wx hS hK
      go_simp
      exact hK _ hS
    · simp only [Act.put, List.setIfInBounds_toArray, List.set_cons_succ, List.set_cons_zero]
      rfl
    refine RS.go_end ?_
    intro w4 m4
    clear m3
    obtain ⟨qh, hqh, vqh⟩ := ls_heads m4.q
    obtain ⟨ph, hph, vph⟩ := ls_heads m4.p
    have KCl : Hid (Calls Try.prog 11 #[(.slice aq qs.length cq)] w4 fun e w' => ∃ v', e = .returned v' ∧ w'.ownsRow w4.heap.size 30 1 v' qh.length qh ∧ Below w4.heap.size w4 w') := clone_any qh _ w4 (by rw [hqh.l]; have := B2.out; omega) (Hds_one' hqh) vqh
    go_wp2_with fail
    refine KCl.out.mono ?_
    rintro e w5 ⟨v37, rfl, o5, b5⟩
    clear KCl
    have ba : Below w5.heap.size w5 (w5.alloc (.cells #[(.slice aa al ca)] 30)) := (Below.refl _ _).alloc (Nat.le_refl _) _
    have h6 := heap_alloc_new w5 (.cells #[(.slice aa al ca)] 30)
    have v39 : Vl [(.slice aa al ca)] (.slice (some ⟨w5.heap.size, 0, none⟩) 1 1) (w5.alloc (.cells #[(.slice aa al ca)] 30)) := ⟨_, 1, rfl, fun _ => ⟨w5.heap.size, 0, rfl, Pk.lt_of_heap h6, fun j hj => by
      have e : j = 0 := by simp at hj; omega
      subst e
      simp only [World.cell?, h6]
      rfl⟩⟩
    obtain ⟨v40, w7, hap, o7, b7⟩ := appv_r 22 (Pk.ownb o5 ba) v39 (fun u hu => by rw [List.mem_singleton.1 hu]; rfl) (Nat.le_trans b5.size ba.size) (by rw [hqh.l]; have := B2.out; simp; omega)
    have b47 : Below w4.heap.size w4 w7 := (b5.trans (ba.mono b5.size)).trans b7
    clear v39 h6 ba o5 b5 b7
    have m7 := PW_below m4 b47
    have L40 : Ls (qs ++ [ps.flatten]) v40 w7 := own_ls o7 (Hds_app (Hds_below hqh b47) (Hds_one m7.a))
    have hq7 := Hds_below hqh b47
    have hp7 := Hds_below hph b47
    have vq7 := Vl_below vqh b47
    have vp7 := Vl_below vph b47
    clear o7 b47 m4 hqh hph vqh vph
    obtain ⟨M1, eM⟩ : ∃ M1, M1 = (qs ++ [ps.flatten]).length := ⟨_, rfl⟩
    have EM : Hid (M1 = (qs ++ [ps.flatten]).length) := eM
    clear eM
    go_wp2_with (at_builtin; refine wpList_app rfl rfl rfl rfl hap ?_)
    clear hap
    refine (KE.out (qs ++ [ps.flatten]) M1 v40 w7 EM.out (by rw [flat_q, List.length_append]; have := B1.out; omega) (by rw [List.length_append]; have := B2.out; simp; omega) L40).mono ?_
    rintro e w8 ⟨O2, rfl, x8, b8⟩
    clear L40
    have m8 := PW_below m7 b8
    have x8' := Vb_mono x8 m7.b.size
    have hq8 := Hds_below hq7 b8
    have hp8 := Hds_below hp7 b8
    have vq8 := Vl_below vq7 b8
    have vp8 := Vl_below vp7 b8
    clear m7 x8 b8 hq7 hp7 vq7 vp7
    have H3 := three w8 (.slice aq qs.length cq) (.slice ap ps.length cp) qh ph vq8 vp8 _ rfl
    go_wp2_with fail
    generalize ((w8.alloc (.cells #[] 5)).alloc (.cells #[.slice (some ⟨w8.heap.size, 0, none⟩) 0 0] 30)).alloc (.cells #[(.slice aq qs.length cq), (.slice ap ps.length cp), .slice (some ⟨w8.heap.size + 1, 0, none⟩) 1 1] 22) = W9 at H3 ⊢
    obtain ⟨b9, vs9, sn9⟩ := H3
    generalize (.slice (some ⟨w8.heap.size, 0, none⟩) 0 0 : Value) = v44 at *
    have hq9 := Hds_below hq8 b9
    have hp9 := Hds_below hp8 b9
    have b98 := m8.b.trans (b9.mono m8.b.size)
    have x9 := Vb_below x8' b9
    clear hq8 hp8 vq8 vp8 x8' m8 b9
    have hl3 : ([qh, ph, [v44]] : List (List Value)).flatten = qh ++ (ph ++ [v44]) := by simp
    refine (concat_r [qh, ph, [v44]] _ W9 (by show _ ≤ _; rw [hl3, List.length_append, List.length_append, hq9.l, hp9.l]; have := B2.out; simp; omega) (by show 3 ≤ 1048576; decide) (fun xs hxs u hu => by
      simp only [List.mem_cons, List.not_mem_nil, or_false] at hxs
      rcases hxs with rfl | rfl | rfl
      · exact Hds_one' hq9 u hu
      · exact Hds_one' hp9 u hu
      · exact Hds_one' (Hds_one sn9) u hu) vs9).mono ?_
    rintro e w10 ⟨v47, rfl, o10, b10⟩
    rw [hl3] at o10
    have L47 : Ls (qs ++ (ps ++ [[]])) v47 w10 := own_ls o10 (Hds_below (Hds_app hq9 (Hds_app hp9 (Hds_one sn9))) b10)
    have b11 := b98.trans (b10.mono b98.size)
    have x10 := Vb_below x9 b10
    clear o10 hl3 hq9 hp9 sn9 vs9 x9 b10 b98
    obtain ⟨L3, eL⟩ : ∃ L3, L3 = (qs ++ (ps ++ [[]])).length := ⟨_, rfl⟩
    have EL : Hid (L3 = (qs ++ (ps ++ [[]])).length) := eL
    clear eL
    go_wp2_with fail
    refine (KE.out (qs ++ (ps ++ [[]])) L3 v47 w10 EL.out (by rw [flat_r, List.length_append]; have := B1.out; omega) (by rw [List.length_append, List.length_append]; have := B2.out; simp; omega) L47).mono ?_
    rintro e w11 ⟨O3, rfl, y11, b12⟩
    have hM1 : M1 = qs.length + 1 := by rw [EM.out, List.length_append]; rfl
    have hL3 : L3 = qs.length + ps.length + 1 := by rw [EL.out, List.length_append, List.length_append, List.length_singleton]; omega
    have m8 : QW w O2 O3 M1 L3 (HF (qs ++ [ps.flatten]) (qs ++ [ps.flatten]).length) (HF (qs ++ (ps ++ [[]])) (qs ++ (ps ++ [[]])).length) w11 := ⟨b11.trans (b12.mono b11.size), Vb_below x10 b12, Vb_mono y11 b11.size⟩
    have E1 : Hid (IntKind.i64.wrap ((qs.length : Int) + 1) = (M1 : Int)) := by show _ = _; have := B2.out; rw [IntKind.wrap_i64]; omega
    obtain ⟨sm, hsm⟩ : ∃ sm, sm = qs.length + ps.length := ⟨_, rfl⟩
    have E2 : Hid (IntKind.i64.wrap ((qs.length : Int) + (ps.length : Int)) = (sm : Int)) := by show _ = _; have := B2.out; rw [IntKind.wrap_i64]; omega
    have E3 : Hid (IntKind.i64.wrap ((sm : Int) + 1) = (L3 : Int)) := by show _ = _; have := B2.out; rw [IntKind.wrap_i64]; omega
    obtain ⟨k2, hk2⟩ : ∃ k2, k2 = qs.length := ⟨_, rfl⟩
    have E4 : Hid (IntKind.i64.wrap ((M1 : Int) - 1) = (k2 : Int)) := by show _ = _; have := B2.out; rw [IntKind.wrap_i64]; omega
    have E5 : Hid ((k2 : Int) < (M1 : Int)) := by show _ < _; omega
    have E6 : Hid (IntKind.i64.wrap ((L3 : Int) - 1) = (sm : Int)) := by show _ = _; have := B2.out; rw [IntKind.wrap_i64]; omega
    have E7 : Hid ((sm : Int) < (L3 : Int)) := by show _ < _; omega
    have hM : Hid (k2 < M1) := by show _ < _; omega
    have hL : Hid (sm < L3) := by show _ < _; omega
    obtain ⟨G2, eG2⟩ : ∃ G2 : Nat → Int, G2 = fun o => HF (qs ++ [ps.flatten]) (qs ++ [ps.flatten]).length (32 * k2 + o) := ⟨_, rfl⟩
    obtain ⟨G3, eG3⟩ : ∃ G3 : Nat → Int, G3 = fun o => HF (qs ++ (ps ++ [[]])) (qs ++ (ps ++ [[]])).length (32 * sm + o) := ⟨_, rfl⟩
    have HG2 : Hid (G2 = fun o => HF (qs ++ [ps.flatten]) (qs ++ [ps.flatten]).length (32 * k2 + o)) := eG2
    have HG3 : Hid (G3 = fun o => HF (qs ++ (ps ++ [[]])) (qs ++ (ps ++ [[]])).length (32 * sm + o)) := eG3
    have HS : Hid (same 32 G2 G3 = true) := (same_iff 32 _ _).2 fun o ho => by
      rw [eG2, eG3]
      dsimp only
      rw [HF_last _ k2 o ho (by rw [← EM.out]; omega), HF_last _ sm o ho (by rw [← EL.out]; omega), flat_q, flat_r]
    clear L47 b11 x10 y11 b12 eG2 eG3 hk2 hsm hM1 hL3 KE
    generalize HF (qs ++ [ps.flatten]) (qs ++ [ps.flatten]).length = F2 at *
    generalize HF (qs ++ (ps ++ [[]])) (qs ++ (ps ++ [[]])).length = F3 at *
    clear EM EL
    go_upto_region 8 with fail
    refine RS.wp_region_one (QW w O2 O3 M1 L3 F2 F3) (by kernel_rfl) (by kernel_rfl) (QW_below m8 (Below.refl _ _).drew) ?_
    dsimp only [List.toList_toArray]
    refine RS.go1 (v := ?_) (a' := ?_) rfl ?_ ?_ ?_
    rotate_left 2
    · intro K wx hS hK
      go_simp
      exact hK _ hS
    · simp only [Act.put, List.setIfInBounds_toArray, List.set_cons_succ, List.set_cons_zero]
      rfl
    refine RS.go1 (v := ?_) (a' := ?_) rfl ?_ ?_ ?_
    rotate_left 2
    · intro K wx hS hK
      go_simp
      exact hK _ hS
    · simp only [Act.put, List.setIfInBounds_toArray, List.set_cons_succ, List.set_cons_zero]
      rfl
    refine RS.go1 (v := ?_) (a' := ?_) rfl ?_ ?_ ?_
    rotate_left 2
    · intro K wx hS hK
      go_simp
      exact hK _ hS
    · simp only [Act.put, List.setIfInBounds_toArray, List.set_cons_succ, List.set_cons_zero]
      rfl
    refine RS.go1 (v := ?_) (a' := ?_) rfl ?_ ?_ ?_
    rotate_left 2
    · intro K wx hS hK
      go_simp
      exact hK _ hS
    · simp only [Act.put, List.setIfInBounds_toArray, List.set_cons_succ, List.set_cons_zero]
      rfl
    refine RS.go1 (v := ?_) (a' := ?_) rfl ?_ ?_ ?_
    rotate_left 2
    · intro K wx hS hK
      have d := E1.out
      go_simp
      exact hK _ hS
    · simp only [Act.put, List.setIfInBounds_toArray, List.set_cons_succ, List.set_cons_zero]
      rfl
    refine RS.go1 (v := ?_) (a' := ?_) rfl ?_ ?_ ?_
    rotate_left 2
    · intro K wx hS hK
      go_simp
      exact hK _ hS
    · simp only [Act.put, List.setIfInBounds_toArray, List.set_cons_succ, List.set_cons_zero]
      rfl
    refine RS.go1 (v := ?_) (a' := ?_) rfl ?_ ?_ ?_
    rotate_left 2
    · intro K wx hS hK
      go_simp
      exact hK _ hS
    · simp only [Act.put, List.setIfInBounds_toArray, List.set_cons_succ, List.set_cons_zero]
      rfl
    refine RS.go1g (v := ?_) (a' := ?_) (by kernel_rfl) ?_ ?_ ?_
    rotate_left 2
    · intro K wx hS hK
      go_simp
      exact hK _ hS
    · simp only [Act.put, List.setIfInBounds_toArray, List.set_cons_succ, List.set_cons_zero]
      rfl
    refine RS.go1g (v := ?_) (a' := ?_) (by kernel_rfl) ?_ ?_ ?_
    rotate_left 2
    · intro K wx hS hK
      go_simp
      exact hK _ hS
    · simp only [Act.put, List.setIfInBounds_toArray, List.set_cons_succ, List.set_cons_zero]
      rfl
    refine RS.go1g (v := ?_) (a' := ?_) (by kernel_rfl) ?_ ?_ ?_
    rotate_left 2
    · intro K wx hS hK
      go_simp
      exact hK _ hS
    · simp only [Act.put, List.setIfInBounds_toArray, List.set_cons_succ, List.set_cons_zero]
      rfl
    refine RS.go1g (v := ?_) (a' := ?_) (by kernel_rfl) ?_ ?_ ?_
    rotate_left 2
    · intro K wx hS hK
      go_simp
      exact hK _ hS
    · simp only [Act.put, List.setIfInBounds_toArray, List.set_cons_succ, List.set_cons_zero]
      rfl
    refine RS.go1g (v := ?_) (a' := ?_) (by kernel_rfl) ?_ ?_ ?_
    rotate_left 2
    · intro K wx hS hK
      go_simp
      exact hK _ hS
    · simp only [Act.put, List.setIfInBounds_toArray, List.set_cons_succ, List.set_cons_zero]
      rfl
    refine RS.go1g (v := ?_) (a' := ?_) (by kernel_rfl) ?_ ?_ ?_
    rotate_left 2
    · intro K wx hS hK
      go_simp
      exact hK _ hS
    · simp only [Act.put, List.setIfInBounds_toArray, List.set_cons_succ, List.set_cons_zero]
      rfl
    refine RS.go1g (v := ?_) (a' := ?_) (by kernel_rfl) ?_ ?_ ?_
    rotate_left 2
    · intro K wx hS hK
      have d := E2.out
      go_simp
      exact hK _ hS
    · simp only [Act.put, List.setIfInBounds_toArray, List.set_cons_succ, List.set_cons_zero]
      rfl
    refine RS.go1g (v := ?_) (a' := ?_) (by kernel_rfl) ?_ ?_ ?_
    rotate_left 2
    · intro K wx hS hK
      have d := E3.out
      go_simp
      exact hK _ hS
    · simp only [Act.put, List.setIfInBounds_toArray, List.set_cons_succ, List.set_cons_zero]
      rfl
    refine RS.go1g (v := ?_) (a' := ?_) (by kernel_rfl) ?_ ?_ ?_
    rotate_left 2
    · intro K wx hS hK
      go_simp
      exact hK _ hS
    · simp only [Act.put, List.setIfInBounds_toArray, List.set_cons_succ, List.set_cons_zero]
      rfl
    refine RS.go1 (v := ?_) (a' := ?_) rfl ?_ ?_ ?_
    rotate_left 2
    · intro K wx hS hK
      go_simp
      exact hK _ hS
    · simp only [Act.put, List.setIfInBounds_toArray, List.set_cons_succ, List.set_cons_zero]
      rfl
    refine RS.go1 (v := ?_) (a' := ?_) rfl ?_ ?_ ?_
    rotate_left 2
    · intro K wx hS hK
      go_simp
      exact hK _ hS
    · simp only [Act.put, List.setIfInBounds_toArray, List.set_cons_succ, List.set_cons_zero]
      rfl
    refine RS.go1g (v := ?_) (a' := ?_) (by kernel_rfl) ?_ ?_ ?_
    rotate_left 2
    · intro K wx hS hK
      go_simp
      exact hK _ hS
    · simp only [Act.put, List.setIfInBounds_toArray, List.set_cons_succ, List.set_cons_zero]
      rfl
    refine RS.go1g (v := ?_) (a' := ?_) (by kernel_rfl) ?_ ?_ ?_
    rotate_left 2
    · intro K wx hS hK
      go_simp
      exact hK _ hS
    · simp only [Act.put, List.setIfInBounds_toArray, List.set_cons_succ, List.set_cons_zero]
      rfl
    refine RS.go1g (v := ?_) (a' := ?_) (by kernel_rfl) ?_ ?_ ?_
    rotate_left 2
    · intro K wx hS hK
      go_simp
      exact hK _ hS
    · simp only [Act.put, List.setIfInBounds_toArray, List.set_cons_succ, List.set_cons_zero]
      rfl
    refine RS.go1g (v := ?_) (a' := ?_) (by kernel_rfl) ?_ ?_ ?_
    rotate_left 2
    · intro K wx hS hK
      have d := E4.out
      go_simp
      exact hK _ hS
    · simp only [Act.put, List.setIfInBounds_toArray, List.set_cons_succ, List.set_cons_zero]
      rfl
    refine RS.go1g (v := ?_) (a' := ?_) (by kernel_rfl) ?_ ?_ ?_
    rotate_left 2
    · intro K wx hS hK
      have d := E5.out
      go_simp
      exact hK _ hS
    · simp only [Act.put, List.setIfInBounds_toArray, List.set_cons_succ, List.set_cons_zero]
      rfl
    refine RS.go1g (v := ?_) (a' := ?_) (by kernel_rfl) ?_ ?_ ?_
    rotate_left 2
    · intro K wx hS hK
      refine ld32 rfl rfl (rng2 hS.x hM.out HG2.out) ?_
      exact hK _ hS
    · simp only [Act.put, List.setIfInBounds_toArray, List.set_cons_succ, List.set_cons_zero]
      rfl
    refine RS.go1g (v := ?_) (a' := ?_) (by kernel_rfl) ?_ ?_ ?_
    rotate_left 2
    · intro K wx hS hK
      go_simp
      exact hK _ hS
    · simp only [Act.put, List.setIfInBounds_toArray, List.set_cons_succ, List.set_cons_zero]
      rfl
    refine RS.go1g (v := ?_) (a' := ?_) (by kernel_rfl) ?_ ?_ ?_
    rotate_left 2
    · intro K wx hS hK
      go_simp
      exact hK _ hS
    · simp only [Act.put, List.setIfInBounds_toArray, List.set_cons_succ, List.set_cons_zero]
      rfl
    refine RS.go1g (v := ?_) (a' := ?_) (by kernel_rfl) ?_ ?_ ?_
    rotate_left 2
    · intro K wx hS hK
      go_simp
      exact hK _ hS
    · simp only [Act.put, List.setIfInBounds_toArray, List.set_cons_succ, List.set_cons_zero]
      rfl
    refine RS.go1g (v := ?_) (a' := ?_) (by kernel_rfl) ?_ ?_ ?_
    rotate_left 2
    · intro K wx hS hK
      have d := E6.out
      go_simp
      exact hK _ hS
    · simp only [Act.put, List.setIfInBounds_toArray, List.set_cons_succ, List.set_cons_zero]
      rfl
    refine RS.go1g (v := ?_) (a' := ?_) (by kernel_rfl) ?_ ?_ ?_
    rotate_left 2
    · intro K wx hS hK
      have d := E7.out
      go_simp
      exact hK _ hS
    · simp only [Act.put, List.setIfInBounds_toArray, List.set_cons_succ, List.set_cons_zero]
      rfl
    refine RS.go1g (v := ?_) (a' := ?_) (by kernel_rfl) ?_ ?_ ?_
    rotate_left 2
    · intro K wx hS hK
      refine ld32 rfl rfl (rng2 hS.y hL.out HG3.out) ?_
      exact hK _ hS
    · simp only [Act.put, List.setIfInBounds_toArray, List.set_cons_succ, List.set_cons_zero]
      rfl
    refine RS.go1g (v := ?_) (a' := ?_) (by kernel_rfl) ?_ ?_ ?_
    rotate_left 2
    · intro K wx hS hK
      have e1 := eq32 G2 G3 wx
      rw [HS.out] at e1
      have e2 := eq_guard32 .eql (.tmp 72) (.tmp 78) G2 G3 wx
      go_simp
      exact hK _ hS
    · simp only [Act.put, List.setIfInBounds_toArray, List.set_cons_succ, List.set_cons_zero]
      rfl
    refine RS.go1 (v := ?_) (a' := ?_) rfl ?_ ?_ ?_
    rotate_left 2
    · intro K wx hS hK
      go_simp
      exact hK _ hS
    · simp only [Act.put, List.setIfInBounds_toArray, List.set_cons_succ, List.set_cons_zero]
      rfl
    refine RS.go1 (v := ?_) (a' := ?_) rfl ?_ ?_ ?_
    rotate_left 2
    · intro K wx hS hK
      go_simp
      exact hK _ hS
    · simp only [Act.put, List.setIfInBounds_toArray, List.set_cons_succ, List.set_cons_zero]
      rfl
    refine RS.go_end ?_
    intro w12 m12
    have HB : Hid (Below w.heap.size w w12) := m12.b
    clear m8 m12
    go_wp2_with fail
    go_ret
    exact ⟨rfl, HB.out⟩
  · have D0 : Hid (decide ((0 : Int) < (ps.length : Int)) = false) := decide_eq_false (by omega)
    have D9 : Hid (decide (0 < ps.length) = false) := decide_eq_false h0
    clear h0
    go_upto_region 4 with fail
    refine RS.wp_region_one (PW w ps qs (.slice ap ps.length cp) (.slice aq qs.length cq) O1 (.slice aa al ca)) (by kernel_rfl) (by kernel_rfl) (PW_below m3 (Below.refl _ _).drew) ?_
    dsimp only [List.toList_toArray]
    refine RS.go1 (v := ?_) (a' := ?_) rfl ?_ ?_ ?_
    rotate_left 2
    · intro K wx hS hK
      go_simp
      exact hK _ hS
    · simp only [Act.put, List.setIfInBounds_toArray, List.set_cons_succ, List.set_cons_zero]
      rfl
    refine RS.go1 (v := ?_) (a' := ?_) rfl ?_ ?_ ?_
    rotate_left 2
    · intro K wx hS hK
      go_simp
      exact hK _ hS
    · simp only [Act.put, List.setIfInBounds_toArray, List.set_cons_succ, List.set_cons_zero]
      rfl
    refine RS.go1 (v := ?_) (a' := ?_) rfl ?_ ?_ ?_
    rotate_left 2
    · intro K wx hS hK
      go_simp
      exact hK _ hS
    · simp only [Act.put, List.setIfInBounds_toArray, List.set_cons_succ, List.set_cons_zero]
      rfl
    refine RS.go1 (v := ?_) (a' := ?_) rfl ?_ ?_ ?_
    rotate_left 2
    · intro K wx hS hK
      go_simp
      exact hK _ hS
    · simp only [Act.put, List.setIfInBounds_toArray, List.set_cons_succ, List.set_cons_zero]
      rfl
    refine RS.go1 (v := ?_) (a' := ?_) rfl ?_ ?_ ?_
    rotate_left 2
    · intro K wx hS hK
      go_simp
      exact hK _ hS
    · simp only [Act.put, List.setIfInBounds_toArray, List.set_cons_succ, List.set_cons_zero]
      rfl
    refine RS.go1 (v := ?_) (a' := ?_) rfl ?_ ?_ ?_
    rotate_left 2
    · intro K wx hS hK
      go_simp
      exact hK _ hS
    · simp only [Act.put, List.setIfInBounds_toArray, List.set_cons_succ, List.set_cons_zero]
      rfl
    refine RS.go1g (v := ?_) (a' := ?_) (by kernel_rfl) ?_ ?_ ?_
    rotate_left 2
    · intro K wx hS hK
      go_simp
      exact hK _ hS
    · simp only [Act.put, List.setIfInBounds_toArray, List.set_cons_succ, List.set_cons_zero]
      rfl
    refine RS.go1g (v := ?_) (a' := ?_) (by kernel_rfl) ?_ ?_ ?_
    rotate_left 2
    · intro K wx hS hK
      go_simp
      exact hK _ hS
    · simp only [Act.put, List.setIfInBounds_toArray, List.set_cons_succ, List.set_cons_zero]
      rfl
    refine RS.go1g (v := ?_) (a' := ?_) (by kernel_rfl) ?_ ?_ ?_
    rotate_left 2
    · intro K wx hS hK
      have d := D0.out
      have d2 := D9.out
      go_simp
      exact hK _ hS
    · simp only [Act.put, List.setIfInBounds_toArray, List.set_cons_succ, List.set_cons_zero]
      rfl
    refine RS.go1g (v := ?_) (a' := ?_) (by kernel_rfl) ?_ ?_ ?_
    rotate_left 2
    · intro K wx hS hK
      go_simp
      exact hK _ hS
    · simp only [Act.put, List.setIfInBounds_toArray, List.set_cons_succ, List.set_cons_zero]
      rfl
    refine RS.go0 (a' := ?_) (by kernel_rfl) ?_ ?_
    rotate_left 1
    · simp only [Act.put, List.setIfInBounds_toArray, List.set_cons_succ, List.set_cons_zero]
      rfl
    refine RS.go0 (a' := ?_) (by kernel_rfl) ?_ ?_
    rotate_left 1
    · simp only [Act.put, List.setIfInBounds_toArray, List.set_cons_succ, List.set_cons_zero]
      rfl
    refine RS.go0 (a' := ?_) (by kernel_rfl) ?_ ?_
    rotate_left 1
    · simp only [Act.put, List.setIfInBounds_toArray, List.set_cons_succ, List.set_cons_zero]
      rfl
    refine RS.go0 (a' := ?_) (by kernel_rfl) ?_ ?_
    rotate_left 1
    · simp only [Act.put, List.setIfInBounds_toArray, List.set_cons_succ, List.set_cons_zero]
      rfl
    refine RS.go0 (a' := ?_) (by kernel_rfl) ?_ ?_
    rotate_left 1
    · simp only [Act.put, List.setIfInBounds_toArray, List.set_cons_succ, List.set_cons_zero]
      rfl
    refine RS.go0 (a' := ?_) (by kernel_rfl) ?_ ?_
    rotate_left 1
    · simp only [Act.put, List.setIfInBounds_toArray, List.set_cons_succ, List.set_cons_zero]
      rfl
    refine RS.go0 (a' := ?_) (by kernel_rfl) ?_ ?_
    rotate_left 1
    · simp only [Act.put, List.setIfInBounds_toArray, List.set_cons_succ, List.set_cons_zero]
      rfl
    refine RS.go0 (a' := ?_) (by kernel_rfl) ?_ ?_
    rotate_left 1
    · simp only [Act.put, List.setIfInBounds_toArray, List.set_cons_succ, List.set_cons_zero]
      rfl
    refine RS.go0 (a' := ?_) (by kernel_rfl) ?_ ?_
    rotate_left 1
    · simp only [Act.put, List.setIfInBounds_toArray, List.set_cons_succ, List.set_cons_zero]
      rfl
    refine RS.go1g (v := ?_) (a' := ?_) (by kernel_rfl) ?_ ?_ ?_
    rotate_left 2
    · intro K wx hS hK
      go_simp
      exact hK _ hS
    · simp only [Act.put, List.setIfInBounds_toArray, List.set_cons_succ, List.set_cons_zero]
      rfl
    refine RS.go1 (v := ?_) (a' := ?_) rfl ?_ ?_ ?_
    rotate_left 2
    · intro K wx hS hK
      go_simp
      exact hK _ hS
    · simp only [Act.put, List.setIfInBounds_toArray, List.set_cons_succ, List.set_cons_zero]
      rfl
    refine RS.go_end ?_
    intro w4 m4
    clear m3
    obtain ⟨qh, hqh, vqh⟩ := ls_heads m4.q
    obtain ⟨ph, hph, vph⟩ := ls_heads m4.p
    have KCl : Hid (Calls Try.prog 11 #[(.slice aq qs.length cq)] w4 fun e w' => ∃ v', e = .returned v' ∧ w'.ownsRow w4.heap.size 30 1 v' qh.length qh ∧ Below w4.heap.size w4 w') := clone_any qh _ w4 (by rw [hqh.l]; have := B2.out; omega) (Hds_one' hqh) vqh
    go_wp2_with fail
    refine KCl.out.mono ?_
    rintro e w5 ⟨v37, rfl, o5, b5⟩
    clear KCl
    have ba : Below w5.heap.size w5 (w5.alloc (.cells #[(.slice aa al ca)] 30)) := (Below.refl _ _).alloc (Nat.le_refl _) _
    have h6 := heap_alloc_new w5 (.cells #[(.slice aa al ca)] 30)
    have v39 : Vl [(.slice aa al ca)] (.slice (some ⟨w5.heap.size, 0, none⟩) 1 1) (w5.alloc (.cells #[(.slice aa al ca)] 30)) := ⟨_, 1, rfl, fun _ => ⟨w5.heap.size, 0, rfl, Pk.lt_of_heap h6, fun j hj => by
      have e : j = 0 := by simp at hj; omega
      subst e
      simp only [World.cell?, h6]
      rfl⟩⟩
    obtain ⟨v40, w7, hap, o7, b7⟩ := appv_r 22 (Pk.ownb o5 ba) v39 (fun u hu => by rw [List.mem_singleton.1 hu]; rfl) (Nat.le_trans b5.size ba.size) (by rw [hqh.l]; have := B2.out; simp; omega)
    have b47 : Below w4.heap.size w4 w7 := (b5.trans (ba.mono b5.size)).trans b7
    clear v39 h6 ba o5 b5 b7
    have m7 := PW_below m4 b47
    have L40 : Ls (qs ++ [ps.flatten]) v40 w7 := own_ls o7 (Hds_app (Hds_below hqh b47) (Hds_one m7.a))
    have hq7 := Hds_below hqh b47
    have hp7 := Hds_below hph b47
    have vq7 := Vl_below vqh b47
    have vp7 := Vl_below vph b47
    clear o7 b47 m4 hqh hph vqh vph
    obtain ⟨M1, eM⟩ : ∃ M1, M1 = (qs ++ [ps.flatten]).length := ⟨_, rfl⟩
    have EM : Hid (M1 = (qs ++ [ps.flatten]).length) := eM
    clear eM
    go_wp2_with (at_builtin; refine wpList_app rfl rfl rfl rfl hap ?_)
    clear hap
    refine (KE.out (qs ++ [ps.flatten]) M1 v40 w7 EM.out (by rw [flat_q, List.length_append]; have := B1.out; omega) (by rw [List.length_append]; have := B2.out; simp; omega) L40).mono ?_
    rintro e w8 ⟨O2, rfl, x8, b8⟩
    clear L40
    have m8 := PW_below m7 b8
    have x8' := Vb_mono x8 m7.b.size
    have hq8 := Hds_below hq7 b8
    have hp8 := Hds_below hp7 b8
    have vq8 := Vl_below vq7 b8
    have vp8 := Vl_below vp7 b8
    clear m7 x8 b8 hq7 hp7 vq7 vp7
    have H3 := three w8 (.slice aq qs.length cq) (.slice ap ps.length cp) qh ph vq8 vp8 _ rfl
    go_wp2_with fail
    generalize ((w8.alloc (.cells #[] 5)).alloc (.cells #[.slice (some ⟨w8.heap.size, 0, none⟩) 0 0] 30)).alloc (.cells #[(.slice aq qs.length cq), (.slice ap ps.length cp), .slice (some ⟨w8.heap.size + 1, 0, none⟩) 1 1] 22) = W9 at H3 ⊢
    obtain ⟨b9, vs9, sn9⟩ := H3
    generalize (.slice (some ⟨w8.heap.size, 0, none⟩) 0 0 : Value) = v44 at *
    have hq9 := Hds_below hq8 b9
    have hp9 := Hds_below hp8 b9
    have b98 := m8.b.trans (b9.mono m8.b.size)
    have x9 := Vb_below x8' b9
    clear hq8 hp8 vq8 vp8 x8' m8 b9
    have hl3 : ([qh, ph, [v44]] : List (List Value)).flatten = qh ++ (ph ++ [v44]) := by simp
    refine (concat_r [qh, ph, [v44]] _ W9 (by show _ ≤ _; rw [hl3, List.length_append, List.length_append, hq9.l, hp9.l]; have := B2.out; simp; omega) (by show 3 ≤ 1048576; decide) (fun xs hxs u hu => by
      simp only [List.mem_cons, List.not_mem_nil, or_false] at hxs
      rcases hxs with rfl | rfl | rfl
      · exact Hds_one' hq9 u hu
      · exact Hds_one' hp9 u hu
      · exact Hds_one' (Hds_one sn9) u hu) vs9).mono ?_
    rintro e w10 ⟨v47, rfl, o10, b10⟩
    rw [hl3] at o10
    have L47 : Ls (qs ++ (ps ++ [[]])) v47 w10 := own_ls o10 (Hds_below (Hds_app hq9 (Hds_app hp9 (Hds_one sn9))) b10)
    have b11 := b98.trans (b10.mono b98.size)
    have x10 := Vb_below x9 b10
    clear o10 hl3 hq9 hp9 sn9 vs9 x9 b10 b98
    obtain ⟨L3, eL⟩ : ∃ L3, L3 = (qs ++ (ps ++ [[]])).length := ⟨_, rfl⟩
    have EL : Hid (L3 = (qs ++ (ps ++ [[]])).length) := eL
    clear eL
    go_wp2_with fail
    refine (KE.out (qs ++ (ps ++ [[]])) L3 v47 w10 EL.out (by rw [flat_r, List.length_append]; have := B1.out; omega) (by rw [List.length_append, List.length_append]; have := B2.out; simp; omega) L47).mono ?_
    rintro e w11 ⟨O3, rfl, y11, b12⟩
    have hM1 : M1 = qs.length + 1 := by rw [EM.out, List.length_append]; rfl
    have hL3 : L3 = qs.length + ps.length + 1 := by rw [EL.out, List.length_append, List.length_append, List.length_singleton]; omega
    have m8 : QW w O2 O3 M1 L3 (HF (qs ++ [ps.flatten]) (qs ++ [ps.flatten]).length) (HF (qs ++ (ps ++ [[]])) (qs ++ (ps ++ [[]])).length) w11 := ⟨b11.trans (b12.mono b11.size), Vb_below x10 b12, Vb_mono y11 b11.size⟩
    have E1 : Hid (IntKind.i64.wrap ((qs.length : Int) + 1) = (M1 : Int)) := by show _ = _; have := B2.out; rw [IntKind.wrap_i64]; omega
    obtain ⟨sm, hsm⟩ : ∃ sm, sm = qs.length + ps.length := ⟨_, rfl⟩
    have E2 : Hid (IntKind.i64.wrap ((qs.length : Int) + (ps.length : Int)) = (sm : Int)) := by show _ = _; have := B2.out; rw [IntKind.wrap_i64]; omega
    have E3 : Hid (IntKind.i64.wrap ((sm : Int) + 1) = (L3 : Int)) := by show _ = _; have := B2.out; rw [IntKind.wrap_i64]; omega
    obtain ⟨k2, hk2⟩ : ∃ k2, k2 = qs.length := ⟨_, rfl⟩
    have E4 : Hid (IntKind.i64.wrap ((M1 : Int) - 1) = (k2 : Int)) := by show _ = _; have := B2.out; rw [IntKind.wrap_i64]; omega
    have E5 : Hid ((k2 : Int) < (M1 : Int)) := by show _ < _; omega
    have E6 : Hid (IntKind.i64.wrap ((L3 : Int) - 1) = (sm : Int)) := by show _ = _; have := B2.out; rw [IntKind.wrap_i64]; omega
    have E7 : Hid ((sm : Int) < (L3 : Int)) := by show _ < _; omega
    have hM : Hid (k2 < M1) := by show _ < _; omega
    have hL : Hid (sm < L3) := by show _ < _; omega
    obtain ⟨G2, eG2⟩ : ∃ G2 : Nat → Int, G2 = fun o => HF (qs ++ [ps.flatten]) (qs ++ [ps.flatten]).length (32 * k2 + o) := ⟨_, rfl⟩
    obtain ⟨G3, eG3⟩ : ∃ G3 : Nat → Int, G3 = fun o => HF (qs ++ (ps ++ [[]])) (qs ++ (ps ++ [[]])).length (32 * sm + o) := ⟨_, rfl⟩
    have HG2 : Hid (G2 = fun o => HF (qs ++ [ps.flatten]) (qs ++ [ps.flatten]).length (32 * k2 + o)) := eG2
    have HG3 : Hid (G3 = fun o => HF (qs ++ (ps ++ [[]])) (qs ++ (ps ++ [[]])).length (32 * sm + o)) := eG3
    have HS : Hid (same 32 G2 G3 = true) := (same_iff 32 _ _).2 fun o ho => by
      rw [eG2, eG3]
      dsimp only
      rw [HF_last _ k2 o ho (by rw [← EM.out]; omega), HF_last _ sm o ho (by rw [← EL.out]; omega), flat_q, flat_r]
    clear L47 b11 x10 y11 b12 eG2 eG3 hk2 hsm hM1 hL3 KE
    generalize HF (qs ++ [ps.flatten]) (qs ++ [ps.flatten]).length = F2 at *
    generalize HF (qs ++ (ps ++ [[]])) (qs ++ (ps ++ [[]])).length = F3 at *
    clear EM EL
    go_upto_region 8 with fail
    refine RS.wp_region_one (QW w O2 O3 M1 L3 F2 F3) (by kernel_rfl) (by kernel_rfl) (QW_below m8 (Below.refl _ _).drew) ?_
    dsimp only [List.toList_toArray]
    refine RS.go1 (v := ?_) (a' := ?_) rfl ?_ ?_ ?_
    rotate_left 2
    · intro K wx hS hK
      go_simp
      exact hK _ hS
    · simp only [Act.put, List.setIfInBounds_toArray, List.set_cons_succ, List.set_cons_zero]
      rfl
    refine RS.go1 (v := ?_) (a' := ?_) rfl ?_ ?_ ?_
    rotate_left 2
    · intro K wx hS hK
      go_simp
      exact hK _ hS
    · simp only [Act.put, List.setIfInBounds_toArray, List.set_cons_succ, List.set_cons_zero]
      rfl
    refine RS.go1 (v := ?_) (a' := ?_) rfl ?_ ?_ ?_
    rotate_left 2
    · intro K wx hS hK
      go_simp
      exact hK _ hS
    · simp only [Act.put, List.setIfInBounds_toArray, List.set_cons_succ, List.set_cons_zero]
      rfl
    refine RS.go1 (v := ?_) (a' := ?_) rfl ?_ ?_ ?_
    rotate_left 2
    · intro K wx hS hK
      go_simp
      exact hK _ hS
    · simp only [Act.put, List.setIfInBounds_toArray, List.set_cons_succ, List.set_cons_zero]
      rfl
    refine RS.go1 (v := ?_) (a' := ?_) rfl ?_ ?_ ?_
    rotate_left 2
    · intro K wx hS hK
      have d := E1.out
      go_simp
      exact hK _ hS
    · simp only [Act.put, List.setIfInBounds_toArray, List.set_cons_succ, List.set_cons_zero]
      rfl
    refine RS.go1 (v := ?_) (a' := ?_) rfl ?_ ?_ ?_
    rotate_left 2
    · intro K wx hS hK
      go_simp
      exact hK _ hS
    · simp only [Act.put, List.setIfInBounds_toArray, List.set_cons_succ, List.set_cons_zero]
      rfl
    refine RS.go1 (v := ?_) (a' := ?_) rfl ?_ ?_ ?_
    rotate_left 2
    · intro K wx hS hK
      go_simp
      exact hK _ hS
    · simp only [Act.put, List.setIfInBounds_toArray, List.set_cons_succ, List.set_cons_zero]
      rfl
    refine RS.go1g (v := ?_) (a' := ?_) (by kernel_rfl) ?_ ?_ ?_
    rotate_left 2
    · intro K wx hS hK
      go_simp
      exact hK _ hS
    · simp only [Act.put, List.setIfInBounds_toArray, List.set_cons_succ, List.set_cons_zero]
      rfl
    refine RS.go1g (v := ?_) (a' := ?_) (by kernel_rfl) ?_ ?_ ?_
    rotate_left 2
    · intro K wx hS hK
      go_simp
      exact hK _ hS
    · simp only [Act.put, List.setIfInBounds_toArray, List.set_cons_succ, List.set_cons_zero]
      rfl
    refine RS.go1g (v := ?_) (a' := ?_) (by kernel_rfl) ?_ ?_ ?_
    rotate_left 2
    · intro K wx hS hK
      go_simp
      exact hK _ hS
    · simp only [Act.put, List.setIfInBounds_toArray, List.set_cons_succ, List.set_cons_zero]
      rfl
    refine RS.go1g (v := ?_) (a' := ?_) (by kernel_rfl) ?_ ?_ ?_
    rotate_left 2
    · intro K wx hS hK
      go_simp
      exact hK _ hS
    · simp only [Act.put, List.setIfInBounds_toArray, List.set_cons_succ, List.set_cons_zero]
      rfl
    refine RS.go1g (v := ?_) (a' := ?_) (by kernel_rfl) ?_ ?_ ?_
    rotate_left 2
    · intro K wx hS hK
      go_simp
      exact hK _ hS
    · simp only [Act.put, List.setIfInBounds_toArray, List.set_cons_succ, List.set_cons_zero]
      rfl
    refine RS.go1g (v := ?_) (a' := ?_) (by kernel_rfl) ?_ ?_ ?_
    rotate_left 2
    · intro K wx hS hK
      go_simp
      exact hK _ hS
    · simp only [Act.put, List.setIfInBounds_toArray, List.set_cons_succ, List.set_cons_zero]
      rfl
    refine RS.go1g (v := ?_) (a' := ?_) (by kernel_rfl) ?_ ?_ ?_
    rotate_left 2
    · intro K wx hS hK
      have d := E2.out
      go_simp
      exact hK _ hS
    · simp only [Act.put, List.setIfInBounds_toArray, List.set_cons_succ, List.set_cons_zero]
      rfl
    refine RS.go1g (v := ?_) (a' := ?_) (by kernel_rfl) ?_ ?_ ?_
    rotate_left 2
    · intro K wx hS hK
      have d := E3.out
      go_simp
      exact hK _ hS
    · simp only [Act.put, List.setIfInBounds_toArray, List.set_cons_succ, List.set_cons_zero]
      rfl
    refine RS.go1g (v := ?_) (a' := ?_) (by kernel_rfl) ?_ ?_ ?_
    rotate_left 2
    · intro K wx hS hK
      go_simp
      exact hK _ hS
    · simp only [Act.put, List.setIfInBounds_toArray, List.set_cons_succ, List.set_cons_zero]
      rfl
    refine RS.go1 (v := ?_) (a' := ?_) rfl ?_ ?_ ?_
    rotate_left 2
    · intro K wx hS hK
      go_simp
      exact hK _ hS
    · simp only [Act.put, List.setIfInBounds_toArray, List.set_cons_succ, List.set_cons_zero]
      rfl
    refine RS.go1 (v := ?_) (a' := ?_) rfl ?_ ?_ ?_
    rotate_left 2
    · intro K wx hS hK
      go_simp
      exact hK _ hS
    · simp only [Act.put, List.setIfInBounds_toArray, List.set_cons_succ, List.set_cons_zero]
      rfl
    refine RS.go1g (v := ?_) (a' := ?_) (by kernel_rfl) ?_ ?_ ?_
    rotate_left 2
    · intro K wx hS hK
      go_simp
      exact hK _ hS
    · simp only [Act.put, List.setIfInBounds_toArray, List.set_cons_succ, List.set_cons_zero]
      rfl
    refine RS.go1g (v := ?_) (a' := ?_) (by kernel_rfl) ?_ ?_ ?_
    rotate_left 2
    · intro K wx hS hK
      go_simp
      exact hK _ hS
    · simp only [Act.put, List.setIfInBounds_toArray, List.set_cons_succ, List.set_cons_zero]
      rfl
    refine RS.go1g (v := ?_) (a' := ?_) (by kernel_rfl) ?_ ?_ ?_
    rotate_left 2
    · intro K wx hS hK
      go_simp
      exact hK _ hS
    · simp only [Act.put, List.setIfInBounds_toArray, List.set_cons_succ, List.set_cons_zero]
      rfl
    refine RS.go1g (v := ?_) (a' := ?_) (by kernel_rfl) ?_ ?_ ?_
    rotate_left 2
    · intro K wx hS hK
      have d := E4.out
      go_simp
      exact hK _ hS
    · simp only [Act.put, List.setIfInBounds_toArray, List.set_cons_succ, List.set_cons_zero]
      rfl
    refine RS.go1g (v := ?_) (a' := ?_) (by kernel_rfl) ?_ ?_ ?_
    rotate_left 2
    · intro K wx hS hK
      have d := E5.out
      go_simp
      exact hK _ hS
    · simp only [Act.put, List.setIfInBounds_toArray, List.set_cons_succ, List.set_cons_zero]
      rfl
    refine RS.go1g (v := ?_) (a' := ?_) (by kernel_rfl) ?_ ?_ ?_
    rotate_left 2
    · intro K wx hS hK
      refine ld32 rfl rfl (rng2 hS.x hM.out HG2.out) ?_
      exact hK _ hS
    · simp only [Act.put, List.setIfInBounds_toArray, List.set_cons_succ, List.set_cons_zero]
      rfl
    refine RS.go1g (v := ?_) (a' := ?_) (by kernel_rfl) ?_ ?_ ?_
    rotate_left 2
    · intro K wx hS hK
      go_simp
      exact hK _ hS
    · simp only [Act.put, List.setIfInBounds_toArray, List.set_cons_succ, List.set_cons_zero]
      rfl
    refine RS.go1g (v := ?_) (a' := ?_) (by kernel_rfl) ?_ ?_ ?_
    rotate_left 2
    · intro K wx hS hK
      go_simp
      exact hK _ hS
    · simp only [Act.put, List.setIfInBounds_toArray, List.set_cons_succ, List.set_cons_zero]
      rfl
    refine RS.go1g (v := ?_) (a' := ?_) (by kernel_rfl) ?_ ?_ ?_
    rotate_left 2
    · intro K wx hS hK
      go_simp
      exact hK _ hS
    · simp only [Act.put, List.setIfInBounds_toArray, List.set_cons_succ, List.set_cons_zero]
      rfl
    refine RS.go1g (v := ?_) (a' := ?_) (by kernel_rfl) ?_ ?_ ?_
    rotate_left 2
    · intro K wx hS hK
      have d := E6.out
      go_simp
      exact hK _ hS
    · simp only [Act.put, List.setIfInBounds_toArray, List.set_cons_succ, List.set_cons_zero]
      rfl
    refine RS.go1g (v := ?_) (a' := ?_) (by kernel_rfl) ?_ ?_ ?_
    rotate_left 2
    · intro K wx hS hK
      have d := E7.out
      go_simp
      exact hK _ hS
    · simp only [Act.put, List.setIfInBounds_toArray, List.set_cons_succ, List.set_cons_zero]
      rfl
    refine RS.go1g (v := ?_) (a' := ?_) (by kernel_rfl) ?_ ?_ ?_
    rotate_left 2
    · intro K wx hS hK
      refine ld32 rfl rfl (rng2 hS.y hL.out HG3.out) ?_
      exact hK _ hS
    · simp only [Act.put, List.setIfInBounds_toArray, List.set_cons_succ, List.set_cons_zero]
      rfl
    refine RS.go1g (v := ?_) (a' := ?_) (by kernel_rfl) ?_ ?_ ?_
    rotate_left 2
    · intro K wx hS hK
      have e1 := eq32 G2 G3 wx
      rw [HS.out] at e1
      have e2 := eq_guard32 .eql (.tmp 72) (.tmp 78) G2 G3 wx
      go_simp
      exact hK _ hS
    · simp only [Act.put, List.setIfInBounds_toArray, List.set_cons_succ, List.set_cons_zero]
      rfl
    refine RS.go1 (v := ?_) (a' := ?_) rfl ?_ ?_ ?_
    rotate_left 2
    · intro K wx hS hK
      go_simp
      exact hK _ hS
    · simp only [Act.put, List.setIfInBounds_toArray, List.set_cons_succ, List.set_cons_zero]
      rfl
    refine RS.go1 (v := ?_) (a' := ?_) rfl ?_ ?_ ?_
    rotate_left 2
    · intro K wx hS hK
      go_simp
      exact hK _ hS
    · simp only [Act.put, List.setIfInBounds_toArray, List.set_cons_succ, List.set_cons_zero]
      rfl
    refine RS.go_end ?_
    intro w12 m12
    have HB : Hid (Below w.heap.size w w12) := m12.b
    clear m8 m12
    go_wp2_with fail
    go_ret
    exact ⟨rfl, HB.out⟩
end Sp
end Go.Proofs.Ytfiighfecodjlaa
/- Bytes that came in. -/
namespace Go.Proofs.Ytfiighfecodjlaa
namespace Sp
open Go.ChangeShapes Go.WideShapes Go.ChangeAt Go.RowKit Go.Joins
theorem ownK : ownKnob Try.prog.godebug = none := by kernel_rfl
theorem laidOutK : laidOutB Try.prog = true := by kernel_rfl
theorem cellsU8 : Try.prog.cellsOf 5 = 1 := by kernel_rfl
theorem bytesU8 : Try.prog.bytesOf 5 = 1 := by kernel_rfl
/-- Numbers as bytes. -/
def ub (zs : List Int) : List UInt8 := zs.map fun z => UInt8.ofNat z.toNat
theorem ub_length (zs : List Int) : (ub zs).length = zs.length := by simp [ub]
theorem ub_bz (zs : List Int) (hz : ∀ z ∈ zs, 0 ≤ z ∧ z < 256) (j : Nat) (h : j < zs.length) : bz (ub zs) j = zs.getD j 0 := by
  have hm := hz zs[j] (List.getElem_mem h)
  have h2 : j < (ub zs).length := by rw [ub_length]; exact h
  unfold bz
  rw [List.getD_eq_getElem?_getD, List.getD_eq_getElem?_getD, List.getElem?_eq_getElem h2, List.getElem?_eq_getElem h]
  simp only [Option.getD_some, ub, List.getElem_map, UInt8.toNat_ofNat']
  omega
theorem open_bytes {H : Type} {enc : TypeId × Value → H} {W : World} {r : Reach} {b0 : Nat} {v : Value} {d : DataW H} {p : List MemPlace}
    (hv : Value.okWide Try.prog W r b0 30 v) (h : DataW.Trod enc Try.prog W 0 (fun _ => true) true 30 v d p) :
    ∃ (l : List UInt8) (ao : Option Addr) (cap : Nat), v = .slice ao l.length cap ∧ l.length ≤ cap ∧ Vw l ao W ∧ (l = [] ∨ ∃ elems spare, d = .slice elems spare ∧ elems.length = l.length) := by
  obtain ⟨a0, len, cap, rfl⟩ := okWide_slice Try.underlying30 hv
  obtain ⟨fuel, hf⟩ := h
  rcases open_ints Try.underlying30 Try.underlying5 cellsU8 hf with ⟨hcs, hx⟩ | ⟨a, len', cap', zs, hcs, _, hl, hm, hz, hx, hcell, hwz⟩
  · simp [Value.cells] at hcs
    obtain ⟨rfl, rfl, rfl⟩ := hcs
    exact ⟨[], none, 0, rfl, Nat.le_refl _, Vw_nil _ _, .inl rfl⟩
  · simp [Value.cells] at hcs
    obtain ⟨rfl, rfl, rfl⟩ := hcs
    simp only [if_true] at hz
    have hb : ∀ z ∈ zs, 0 ≤ z ∧ z < 256 := fun z hz' => by have := bounds_u8 (hwz z hz'); omega
    have hb' : ∀ z ∈ zs.take len, 0 ≤ z ∧ z < 256 := fun z hz' => hb z (List.mem_of_mem_take hz')
    have hlt : (ub (zs.take len)).length = len := by rw [ub_length, List.length_take]; omega
    simp only [Prod.mk.injEq] at hx
    refine ⟨ub (zs.take len), some a, cap, by rw [hlt], by rw [hlt]; exact hl, ?_, .inr ⟨_, _, hx.1, by simp [lits, hlt]; omega⟩⟩
    intro h0
    rw [hlt] at h0
    obtain ⟨b, off, rfl, hc⟩ := ints_at hcell (by omega)
    refine ⟨b, off, rfl, ?_, fun j hj => ?_⟩
    · exact World.block_lt_of_cell? W ⟨b, off + 0, none⟩ (hc 0 (by omega))
    · rw [hlt] at hj
      rw [hc j (by omega), ub_bz _ hb' j (by rw [List.length_take]; omega)]
      simp [List.getD_eq_getElem?_getD, hj]
end Sp
end Go.Proofs.Ytfiighfecodjlaa
/- Texts that came in. -/
namespace Go.Proofs.Ytfiighfecodjlaa
namespace Sp
open Go.ChangeShapes Go.WideShapes Go.ChangeAt Go.RowKit Go.Joins Go.Deep
theorem cellsBs : Try.prog.cellsOf 30 = 1 := by kernel_rfl
theorem blk_one {H : Type} (d : DataW H) : 1 ≤ Rows.uptoBulk d := by
  unfold Rows.uptoBulk
  split <;> omega
theorem blk_len {H : Type} : ∀ l : List (DataW H), l.length ≤ Rows.uptoBulkAll l
  | [] => Nat.zero_le _
  | d :: r => by
    have h1 := blk_one d
    have h2 := blk_len r
    rw [Rows.uptoBulkAll, List.length_cons]
    omega
theorem blk_sum {H : Type} (f : Nat → DataW H) (g : Nat → List UInt8) (hf : ∀ r, (g r).length ≤ Rows.uptoBulk (f r)) : ∀ l : List Nat, ((l.map g).flatten).length ≤ Rows.uptoBulkAll (l.map f)
  | [] => Nat.zero_le _
  | r :: l => by
    have h1 := hf r
    have h2 := blk_sum f g hf l
    rw [List.map_cons, List.map_cons, List.flatten_cons, List.length_append, Rows.uptoBulkAll]
    omega
theorem row_len {H : Type} (A : Option Addr) (L C : Nat) (zs : List Int) (hl : zs.length = C) (hL : L ≤ C) (hA : A = none → C = 0) : (ub (zs.take L)).length ≤ Rows.uptoBulk (intRow .u8 A L zs : DataW H) := by
  rw [ub_length, List.length_take]
  cases A with
  | none => have := hA rfl; omega
  | some a =>
    have h := blk_len (lits (H := H) .u8 (zs.take L))
    have e : (lits (H := H) .u8 (zs.take L)).length = (zs.take L).length := by simp [lits]
    rw [e, List.length_take] at h
    show _ ≤ Rows.uptoBulk (.slice (lits .u8 (zs.take L)) (lits .u8 (zs.drop L)))
    rw [Rows.uptoBulk]
    omega
theorem open_texts {H : Type} {enc : TypeId × Value → H} {W : World} {r : Reach} {b0 : Nat} {v : Value} {d : DataW H} {p : List MemPlace}
    (hv : Value.okWide Try.prog W r b0 22 v) (h : DataW.Trod enc Try.prog W 0 (fun _ => true) true 22 v d p) :
    ∃ ps : List (List UInt8), Ls ps v W ∧ ps.length + 1 ≤ Rows.uptoBulk d ∧ ps.flatten.length ≤ Rows.uptoBulk d := by
  obtain ⟨a0, len, cap, rfl⟩ := okWide_slice Try.underlying22 hv
  obtain ⟨fuel, hf⟩ := h
  rcases open_int_rows Try.underlying22 Try.underlying30 Try.underlying5 cellsBs cellsU8 hf with ⟨hcs, hx⟩ | ⟨a, len', cap', A, L, C, Z, hcs, _, hl, hm, hx, hcell⟩
  · simp [Value.cells] at hcs
    obtain ⟨rfl, rfl, rfl⟩ := hcs
    exact ⟨[], ⟨none, 0, rfl, fun h => absurd h (by decide)⟩, blk_one d, Nat.zero_le _⟩
  · simp [Value.cells] at hcs
    obtain ⟨rfl, rfl, rfl⟩ := hcs
    simp only [Prod.mk.injEq] at hx
    have hpl : ((List.range len).map fun r => ub ((Z r).take (L r))).length = len := by simp
    have hb : Rows.uptoBulk d = Rows.uptoBulkAll ((List.range len).map fun r => (intRow .u8 (A r) (L r) (Z r) : DataW H)) + Rows.uptoBulkAll ((List.range (cap - len)).map fun j => (intRow .u8 (A (len + j)) (L (len + j)) (Z (len + j)) : DataW H)) + 1 := by rw [hx.1, Rows.uptoBulk]
    refine ⟨(List.range len).map fun r => ub ((Z r).take (L r)), ⟨some a, cap, by rw [hpl], fun h0 => ?_⟩, ?_, ?_⟩
    · rw [hpl] at h0
      obtain ⟨b, off, spot⟩ := a
      have hspot : spot = none := by simpa [Addr.add] using World.cell?_spot (hcell 0 (by omega)).1
      subst hspot
      refine ⟨b, off, rfl, World.block_lt_of_cell? W _ (by have := (hcell 0 (by omega)).1; simpa [Addr.add] using this), fun i hi => ?_⟩
      rw [hpl] at hi
      obtain ⟨q1, q2, q3, q4, q5, q6, q7⟩ := hcell i (by omega)
      rw [Go.WideShapes.add_plain] at q1
      refine ⟨_, q1, ?_⟩
      have e : (((List.range len).map fun r => ub ((Z r).take (L r))).getD i []) = ub ((Z i).take (L i)) := by simp [hi]
      rw [e]
      have hlt : (ub ((Z i).take (L i))).length = L i := by rw [ub_length, List.length_take]; omega
      have hb1 : ∀ z ∈ Z i, 0 ≤ z ∧ z < 256 := fun z hz' => by have := bounds_u8 (q5 z hz'); omega
      have hb2 : ∀ z ∈ (Z i).take (L i), 0 ≤ z ∧ z < 256 := fun z hz' => hb1 z (List.mem_of_mem_take hz')
      refine ⟨A i, C i, by rw [hlt], by rw [hlt]; exact q2, fun h1 => ?_⟩
      rw [hlt] at h1
      cases hA : A i with
      | none => have := q6 hA; omega
      | some a' =>
        obtain ⟨_, hc⟩ := q7 a' hA
        obtain ⟨b', off', rfl, hc'⟩ := ints_at (zs := Z i) (fun j hj => hc j (by omega)) (by omega)
        refine ⟨b', off', rfl, World.block_lt_of_cell? W ⟨b', off' + 0, none⟩ (hc' 0 (by omega)), fun j hj => ?_⟩
        rw [hlt] at hj
        rw [hc' j (by omega), ub_bz _ hb2 j (by rw [List.length_take]; omega)]
        simp [List.getD_eq_getElem?_getD, hj]
    · have := blk_len ((List.range len).map fun r => (intRow .u8 (A r) (L r) (Z r) : DataW H))
      rw [hpl, hb]
      simp at this
      omega
    · have hs := blk_sum (fun r => (if r < cap then intRow .u8 (A r) (L r) (Z r) else .nil : DataW H)) (fun r => if r < cap then ub ((Z r).take (L r)) else []) (fun r => by
        by_cases hr : r < cap
        · obtain ⟨q1, q2, q3, q4, q5, q6, q7⟩ := hcell r hr
          rw [if_pos hr, if_pos hr]
          exact row_len (A r) (L r) (C r) (Z r) q4 q2 q6
        · rw [if_neg hr, if_neg hr]
          exact Nat.zero_le _) (List.range len)
      have e1 : ((List.range len).map fun r => if r < cap then ub ((Z r).take (L r)) else []) = (List.range len).map fun r => ub ((Z r).take (L r)) := List.map_congr_left (fun r hr => by rw [if_pos (by have := List.mem_range.1 hr; omega)])
      have e2 : ((List.range len).map fun r => (if r < cap then intRow .u8 (A r) (L r) (Z r) else .nil : DataW H)) = (List.range len).map fun r => (intRow .u8 (A r) (L r) (Z r) : DataW H) := List.map_congr_left (fun r hr => by rw [if_pos (by have := List.mem_range.1 hr; omega)])
      rw [e1, e2] at hs
      rw [hb]
      omega
end Sp
end Go.Proofs.Ytfiighfecodjlaa
