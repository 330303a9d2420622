/- journal: Mark, Keep, undo. -/
import Derived.Test.YtengpjalkiibiaaPackA
import Derived.RangeFuncNested
import Derived.RangeFuncBound
import Derived.RangeFuncCalls
import Derived.RangeFuncLeaves
import Derived.RangeFuncBox
import Derived.Shelf.Abstract
import Derived.Shelf.RegionOpen
import Derived.WalkKit
import Derived.OwnWalkIn
import Derived.TacticsInMore
import Derived.LoopNIn
import Derived.LoopIn
import Derived.Below
import Derived.Test.YtengpjalkiibiaaRows
import Derived.Shelf.Spec.BitsCarry
import Derived.WalkSpells
import Derived.WalkLawsBesides
import Derived.Deep.RegionHeld3
import Derived.Deep.DrawnRows
import Derived.Deep.DeepFit
import Derived.Handy
import Derived.BigQuiet
import Derived.Deep.QuietTactic
import Derived.Deep.AppendLies
import Derived.Deep.RegionWith
import Derived.BigRegion
import Derived.Lib.BitFns
import Derived.Deep.CutBlock
import Derived.Deep.DeepCutAuto
import Derived.ChangeKeysEq
namespace Go.Proofs.Ytengpjalkiibiaa
namespace Jn
variable {X : Nat → Prop}
open Go.RowKit Go.Maps RI RH
theorem upv_ap {P : Program} {K : Value → World → Prop} {a : Act} {o : Oper} {s x : Operand} {t : TypeId} {v v2 v' : Value} {w w' : World} (ho : o.op = .call { callee := .builtin .append, args := #[s, x], argTypes := #[t, t] }) (hs : a.eval s = v) (hx : a.eval x = v2)
    (hr : (Builtin.append_ #[t, t] o.type #[v, v2]).run P w = .ok v' w') (hK : K v' w') : RS.upv P K ((execOp a.eval o).run P w) := by
  unfold execOp
  simp only [ho, resolve, invoke, builtin, Sem.run_bind, Sem.run_pure, Result.andThen_ok, List.map_toArray, List.map_cons, List.map_nil, hs, hx, hr]
  exact hK
theorem uU_o (U : Nat → Value) {i j : Nat} (x : Value) (h : j ≠ i) : updU U i x j = U j := by unfold updU; rw [if_neg h]
theorem uU_s (U : Nat → Value) (i : Nat) (x : Value) : updU U i x i = x := by simp [updU]
theorem cms_one (m : Nat) (ms : List Nat) : cms (m :: ms).reverse = cms ms.reverse ++ [.int .i64 (m : Int)] := by simp [cms]
/-- What holds while a mark is laid: operation 10 lays it, 11 appends it. -/
structure M7 (B m : Nat) (ms : List Nat) (mv : Value) (w0 : World) (d : Nat → Bool) (U : Nat → Value) (wx : World) : Prop where
  g : w0.grownBy wx mv.ownBlock
  r : d 11 = false → wx.ownsRow B 3 1 mv ms.length (cms ms.reverse)
  p10 : d 10 = true → d 11 = false → ∃ g, U 10 = .slice (some ⟨g, 0, none⟩) 1 1 ∧ wx.cell? ⟨g, 0, none⟩ = some (.int .i64 (m : Int))
  p11 : d 11 = true → wx.ownsRow B 3 1 (U 11) (m :: ms).length (cms (m :: ms).reverse) ∧ ∀ g, (U 11).ownBlock = some g → mv.ownBlock = some g ∨ w0.heap.size ≤ g
  q : d 11 = true → d 10 = true
variable {B m : Nat} {ms : List Nat} {mv : Value} {w0 : World} {d : Nat → Bool} {U : Nat → Value} {wx : World}
theorem M7.keep {i : Nat} (hi : i ≠ 10 ∧ i ≠ 11) (h : M7 B m ms mv w0 d U wx) : M7 B m ms mv w0 (don d i) U wx := by
  have e0 : don d i 10 = d 10 := don_other _ _ _ (fun e => hi.1 e.symm)
  have e3 : don d i 11 = d 11 := don_other _ _ _ (fun e => hi.2 e.symm)
  exact ⟨h.g, by rw [e3]; exact h.r, by rw [e0, e3]; exact h.p10, by rw [e3]; exact h.p11, by rw [e0, e3]; exact h.q⟩
theorem M7.step10 (h : M7 B m ms mv w0 d U wx) (h0 : d 10 = false) : M7 B m ms mv w0 (don d 10) (updU U 10 (.slice (some ⟨wx.heap.size, 0, none⟩) 1 1)) (wx.alloc (.cells #[.int .i64 (m : Int)] 3)) := by
  have h1 : d 11 = false := by
    cases h1 : d 11
    · rfl
    · rw [h.q h1] at h0; cases h0
  have e3 : don d 10 11 = false := by rw [don_other _ _ _ (by decide)]; exact h1
  have hn := heap_alloc_new wx (.cells #[.int .i64 (m : Int)] 3)
  exact ⟨h.g.trans (World.grownBy_alloc _ _ _), fun _ => own_n (h.r h1) (World.grownBy_alloc _ _ none), fun _ _ => ⟨wx.heap.size, uU_s _ _ _, by simp only [World.cell?, hn]; rfl⟩, fun k => by rw [e3] at k; (cases k), fun k => by rw [e3] at k; (cases k)⟩
theorem M7.step11 (ty : TypeId) (h : M7 B m ms mv w0 d U wx) (h0 : d 10 = true) (h1 : d 11 = false) (hz : ms.length ≤ 1048576) (hB : B ≤ w0.heap.size) :
    ∃ v' w', (Builtin.append_ #[60, 60] ty #[mv, U 10]).run Try.prog wx = .ok v' w' ∧ M7 B m ms mv w0 (don d 11) (updU U 11 v') w' := by
  obtain ⟨i0, hi, hz0, hz1, hz2⟩ := info_parts infoI
  obtain ⟨g, g1, g3⟩ := h.p10 h0 h1
  have ho := h.r h1
  obtain ⟨G, cap', w', hr, h7', hgr, hG, _⟩ := run_append_lies (P := Try.prog) wx 60 ty B 3 i0 (.int .i64 0) 1 8 Try.underlying60 hi hz0 hz1 hz2 rfl (by decide) mv ms.length (cms ms.reverse) ho ⟨g, 0, none⟩ 1 1 [.int .i64 (m : Int)] rfl (fun j u hj => by
    match j, hj with
    | 0, hj => simp at hj; rw [← hj, Go.WideShapes.add_plain]; exact g3
    | n + 1, hj => simp at hj) (fun u hu => by rw [List.mem_singleton.1 hu]; rfl) (by decide) (by unfold maxLen; omega) (by omega) (Nat.le_trans hB h.g.size) _ rfl
  have e10 : don d 11 10 = d 10 := don_other _ _ _ (by decide)
  have e11 : don d 11 11 = true := don_same _ _
  rw [← g1] at hr
  refine ⟨_, w', hr, h.g.trans hgr, fun k => ?_, fun _ k => ?_, fun _ => ?_, fun _ => ?_⟩
  · rw [e11] at k; cases k
  · rw [e11] at k; cases k
  · rw [uU_s]
    refine ⟨by rw [cms_one]; exact h7', fun g' e => ?_⟩
    have e : G = g' := by simpa [Value.ownBlock] using e
    subst e
    rcases hG with hG | hG
    · exact .inl hG
    · exact .inr (by rw [hG]; exact h.g.size)
  · rw [e10]; exact h0
set_option maxHeartbeats 2000000 in
set_option maxRecDepth 100000 in
theorem mark_any (B gj gm N : Nat) (t : Fn) (p : Ps) (ms : List Nat) (pv mv : Value) (w : World) (h : JS X B gj gm N t p ms pv mv w) (hz : ms.length ≤ 1048576) :
    Calls Try.prog 27 #[.pointer (some ⟨gj, 0, none⟩)] w fun e w' => e = .returned (.tuple #[]) ∧ ∃ mv', JS X B gj gm N t p (p.length :: ms) pv mv' w' ∧ Kj X B gj gm w w' := by
  obtain ⟨a1, k1, rfl⟩ := own_form h.pw
  obtain ⟨a2, k2, rfl⟩ := own_form h.mw
  have H : Hid (JS X B gj gm N t p ms (.slice a1 p.length k1) (.slice a2 ms.length k2) w) := h
  have HZ : Hid (ms.length ≤ 1048576) := hz
  have HB : Hid (B ≤ w.heap.size) := h.hi
  have HC : Hid (∀ wx, w.grownBy wx (Value.ownBlock (.slice a2 ms.length k2)) → wx.cell? ⟨gj, 1, none⟩ = some (.slice a1 p.length k1) ∧ wx.cell? ⟨gj, 2, none⟩ = some (.slice a2 ms.length k2) ∧ wx.frozen? ⟨gj, 2, none⟩ = false) := fun wx hg => by
    have hb := hg.block gj (Nat.lt_of_lt_of_le h.lj h.hi) (mw_ne h)
    exact ⟨(World.cell?_of_block (a := ⟨gj, 1, none⟩) hb).trans h.c1, (World.cell?_of_block (a := ⟨gj, 2, none⟩) hb).trans h.c2, (World.frozen?_of_block (a := ⟨gj, 2, none⟩) hb).trans (h.f 2)⟩
  have M0 : M7 B p.length ms (.slice a2 ms.length k2) w (fun _ => false) (fun _ => undef) w.drew := ⟨gb_of_below (Below.refl _ _).drew _, fun _ => h.mw, fun k => (by cases k), fun k => (by cases k), fun k => (by cases k)⟩
  clear h hz
  obtain ⟨np, hnp⟩ : ∃ np, np = p.length := ⟨_, rfl⟩
  obtain ⟨nm, hnm⟩ : ∃ nm, nm = ms.length := ⟨_, rfl⟩
  go_enter Try.func27, Try.ntmps27
  go_upto_region 0 with fail
  refine RH.wp_region_genI (M7 B p.length ms (.slice a2 ms.length k2) w) [0, 0, 0, 0, 0, 0, 0, 0, 0, 0, 1, 1, 2, 2, 2] (by kernel_rfl) (by kernel_rfl) (M0) ?_
  dsimp only [List.toList_toArray]
  refine RH.goD (v := ?_) (f' := ?_) rfl ?_ ?_ ?_
  rotate_left 2
  · intro U K d wx hI hmay hK
    go_simp
    exact hK _ (M7.keep (by decide) hI)
  · intro U
    simp only [Act.put, List.setIfInBounds_toArray, List.set_cons_succ, List.set_cons_zero]
    rfl
  refine RH.goD (v := ?_) (f' := ?_) rfl ?_ ?_ ?_
  rotate_left 2
  · intro U K d wx hI hmay hK
    go_simp
    exact hK _ (M7.keep (by decide) hI)
  · intro U
    simp only [Act.put, List.setIfInBounds_toArray, List.set_cons_succ, List.set_cons_zero]
    rfl
  refine RH.goD (v := ?_) (f' := ?_) rfl ?_ ?_ ?_
  rotate_left 2
  · intro U K d wx hI hmay hK
    go_simp
    exact hK _ (M7.keep (by decide) hI)
  · intro U
    simp only [Act.put, List.setIfInBounds_toArray, List.set_cons_succ, List.set_cons_zero]
    rfl
  refine RH.goD (v := ?_) (f' := ?_) rfl ?_ ?_ ?_
  rotate_left 2
  · intro U K d wx hI hmay hK
    go_simp
    exact hK _ (M7.keep (by decide) hI)
  · intro U
    simp only [Act.put, List.setIfInBounds_toArray, List.set_cons_succ, List.set_cons_zero]
    rfl
  refine RH.goD (v := ?_) (f' := ?_) rfl ?_ ?_ ?_
  rotate_left 2
  · intro U K d wx hI hmay hK
    obtain ⟨c1, c2, _⟩ := HC.out wx hI.g
    go_simp
    exact hK _ (M7.keep (by decide) hI)
  · intro U
    simp only [Act.put, List.setIfInBounds_toArray, List.set_cons_succ, List.set_cons_zero]
    rfl
  refine RH.goD (v := ?_) (f' := ?_) rfl ?_ ?_ ?_
  rotate_left 2
  · intro U K d wx hI hmay hK
    go_simp
    exact hK _ (M7.keep (by decide) hI)
  · intro U
    simp only [Act.put, List.setIfInBounds_toArray, List.set_cons_succ, List.set_cons_zero]
    rfl
  refine RH.goD (v := ?_) (f' := ?_) rfl ?_ ?_ ?_
  rotate_left 2
  · intro U K d wx hI hmay hK
    go_simp
    exact hK _ (M7.keep (by decide) hI)
  · intro U
    simp only [Act.put, List.setIfInBounds_toArray, List.set_cons_succ, List.set_cons_zero]
    rfl
  refine RH.goD (v := ?_) (f' := ?_) rfl ?_ ?_ ?_
  rotate_left 2
  · intro U K d wx hI hmay hK
    go_simp
    exact hK _ (M7.keep (by decide) hI)
  · intro U
    simp only [Act.put, List.setIfInBounds_toArray, List.set_cons_succ, List.set_cons_zero]
    rfl
  refine RH.goD (v := ?_) (f' := ?_) rfl ?_ ?_ ?_
  rotate_left 2
  · intro U K d wx hI hmay hK
    obtain ⟨c1, c2, _⟩ := HC.out wx hI.g
    go_simp
    exact hK _ (M7.keep (by decide) hI)
  · intro U
    simp only [Act.put, List.setIfInBounds_toArray, List.set_cons_succ, List.set_cons_zero]
    rfl
  refine RH.goD (v := ?_) (f' := ?_) rfl ?_ ?_ ?_
  rotate_left 2
  · intro U K d wx hI hmay hK
    go_simp
    exact hK _ (M7.keep (by decide) hI)
  · intro U
    simp only [Act.put, List.setIfInBounds_toArray, List.set_cons_succ, List.set_cons_zero]
    rfl
  refine RH.goN (f' := ?_) rfl ?_ ?_ ?_
  rotate_left 1
  · intro U K d wx hI hmay hK
    have h1 := hmay.1
    go_simp
    exact hK _ _ (hI.step10 h1)
  · intro U
    simp only [Act.put, List.setIfInBounds_toArray, List.set_cons_succ, List.set_cons_zero]
    rfl
  refine RH.goN (f' := ?_) rfl ?_ ?_ ?_
  rotate_left 1
  · intro U K d wx hI hmay hK
    have h1 := hmay.1
    have hd := hmay.2 _ rfl
    simp [Region.binds] at hd
    obtain ⟨v', w', hr, hI'⟩ := M7.step11 60 hI (by simp [hd]) h1 HZ.out HB.out
    exact upv_ap rfl rfl rfl hr (hK _ _ hI')
  · intro U
    simp only [Act.put, List.setIfInBounds_toArray, List.set_cons_succ, List.set_cons_zero]
    rfl
  refine RH.goT ?_
  refine RH.goT ?_
  refine RH.goT ?_
  refine RH.go_end ?_
  intro d U w9 hI hall
  simp +decide only [RH.tl, if_true, if_false]
  obtain ⟨r11, n11⟩ := hI.p11 (hall 11 (by decide))
  have HM : Hid (w9.ownsRow B 3 1 (U 11) (p.length :: ms).length (cms (p.length :: ms).reverse) ∧ (∀ g, (U 11).ownBlock = some g → (Value.slice a2 ms.length k2).ownBlock = some g ∨ w.heap.size ≤ g) ∧ w.grownBy w9 (Value.slice a2 ms.length k2).ownBlock) := ⟨r11, n11, hI.g⟩
  obtain ⟨a3, k3, e3⟩ := own_form r11
  obtain ⟨_, c2, f2⟩ := HC.out w9 hI.g
  clear r11 n11 hI hall M0 HC
  rw [e3] at HM ⊢
  go_wp2
  obtain ⟨r1, r2⟩ := H.out.marks HM.out.2.2 HM.out.1 HM.out.2.1
  go_end0
  exact ⟨rfl, _, r1, r2⟩
theorem gb_refl (w : World) (r : Option Nat) : w.grownBy w r := ⟨rfl, rfl, rfl, Nat.le_refl _, fun _ _ _ => rfl⟩
set_option maxRecDepth 100000 in
theorem keep_none (B gj gm N : Nat) (t : Fn) (p : Ps) (pv mv : Value) (w : World) (h : JS X B gj gm N t p [] pv mv w) :
    Calls Try.prog 30 #[.pointer (some ⟨gj, 0, none⟩)] w fun e w' => e = .returned (.bool false) ∧ w' = w := by
  obtain ⟨a2, k2, rfl⟩ := own_form h.mw
  have c2 := h.c2
  clear h
  go_enter Try.func30, Try.ntmps30
  go_wp2
  go_ret
  exact ⟨rfl, rfl⟩
theorem cut_marks {B gj gm N m : Nat} {t : Fn} {p : Ps} {ms : List Nat} {pv : Value} {a2 : Option Addr} {k2 : Nat} {w : World} (h : JS X B gj gm N t p (m :: ms) pv (.slice a2 (m :: ms).length k2) w) : JS X B gj gm N t p ms pv (.slice a2 ms.length k2) (w.setCell ⟨gj, 2, none⟩ (.slice a2 ms.length k2)) ∧ Kj X B gj gm w (w.setCell ⟨gj, 2, none⟩ (.slice a2 ms.length k2)) := by
  have h1 := own_cut h.mw ms.length (by simp)
  have e : (cms (m :: ms).reverse).take (ms.length * 1) = cms ms.reverse := by
    rw [cms_one, List.take_left' (by rw [cms_len, List.length_reverse, Nat.mul_one])]
  rw [e] at h1
  exact h.marks (gb_refl _ _) h1 (fun g eg => .inl (by cases a2 <;> exact eg))
theorem cap_le {B e s n cap : Nat} {ao : Option Addr} {xs : List Value} {w : World} (h : w.ownsRow B e s (.slice ao n cap) n xs) : n ≤ cap ∧ n ≤ 9223372036854775807 := by
  rcases h.2 with ⟨_, h1⟩ | ⟨g, cap', cur, h1, _, _, h2, h3, _⟩
  · omega
  · injection h1 with _ _ h1
    unfold maxLen at h3
    omega
set_option maxHeartbeats 2000000 in
set_option maxRecDepth 100000 in
theorem keep_one (B gj gm N m : Nat) (t : Fn) (p : Ps) (pv mv : Value) (w : World) (h : JS X B gj gm N t p (m :: []) pv mv w) :
    Calls Try.prog 30 #[.pointer (some ⟨gj, 0, none⟩)] w fun e w' => e = .returned (.bool true) ∧ ∃ pv' mv', JS X B gj gm N t [] ([]) pv' mv' w' ∧ Kj X B gj gm w w' := by
  obtain ⟨a2, k2, rfl⟩ := own_form h.mw
  obtain ⟨k3, k4⟩ := cap_le h.mw
  have c2 := h.c2
  have hL : RG.Lasts (fun wx => JS X B gj gm N t p (m :: []) pv (.slice a2 (m :: []).length k2) wx ∧ Kj X B gj gm w wx) (fun _ _ _ => True) := ⟨fun _ _ h hb => ⟨h.1.below hb, Kj_trans h.2 (Kj_below hb h.1.hi h.1.hx)⟩, fun _ _ _ _ _ _ => trivial⟩
  have HC : Hid (∀ wx, JS X B gj gm N t p (m :: []) pv (.slice a2 (m :: []).length k2) wx → JS X B gj gm N t p ([]) pv (.slice a2 ([]).length k2) (wx.setCell ⟨gj, 2, none⟩ (.slice a2 ([]).length k2)) ∧ Kj X B gj gm wx (wx.setCell ⟨gj, 2, none⟩ (.slice a2 ([]).length k2))) := fun wx h => cut_marks h
  have H : Hid (JS X B gj gm N t p (m :: []) pv (.slice a2 (m :: []).length k2) w) := h
  have HE : Hid ((m :: []).length = ([]).length + 1) := rfl
  obtain ⟨n, hn⟩ : ∃ n, n = ([]).length := ⟨_, rfl⟩
  rw [HE.out, ← hn] at c2 hL HC H k3 k4
  have HN : Hid (n = ([]).length) := hn
  clear hn h
  have t0 : (((n + 1 : Nat) : Int) == 0) = false := by rw [beq_eq_false_iff_ne]; omega
  have t1 : decide (((n + 1 : Nat) : Int) = 0) = false := decide_eq_false (by omega)
  have t2 : ((n : Int) + 1 == 0) = false := by rw [beq_eq_false_iff_ne]; omega
  have t3 : decide ((n : Int) + 1 = 0) = false := decide_eq_false (by omega)
  have t4 : ¬ ((n : Int) + 1 = 0) := by omega
  have HW : Hid (IntKind.i64.wrap (((n + 1 : Nat) : Int) - 1) = (n : Int) ∧ IntKind.i64.wrap ((n : Int) + 1 - 1) = (n : Int) ∧ IntKind.i64.wrap (n : Int) = (n : Int) ∧ wrap64 (n : Int) = (n : Int)) := by
    refine ⟨?_, ?_, ?_, ?_⟩ <;> first | (rw [IntKind.wrap_i64]; omega) | (unfold wrap64; omega)
  have HL : Hid (n ≤ k2) := by show _ ≤ _; omega
  clear k3 k4
  go_enter Try.func30, Try.ntmps30
  go_upto_region 3 with fail
  clear t0 t1 t2 t3 t4 c2
  refine RG.wp_region_gen (fun wx => JS X B gj gm N t p (m :: []) pv (.slice a2 (n + 1) k2) wx ∧ Kj X B gj gm w wx) (fun _ _ _ => True) (fun _ _ => True) [0, 0, 0, 0, 0, 0, 0, 0, 0, 0, 0, 0, 0, 0, 2] (by kernel_rfl) (by kernel_rfl) (⟨H.out.below (Below.refl _ _).drew, Kj_below (Below.refl _ _).drew H.out.hi H.out.hx⟩) ?_
  dsimp only [List.toList_toArray]
  refine RG.go1 (v := ?_) (a' := ?_) hL (by decide) rfl ?_ ?_ ?_
  rotate_left 2
  · intro K wx hS hK
    go_simp
    exact hK _ (Below.refl _ _)
  · simp only [Act.put, List.setIfInBounds_toArray, List.set_cons_succ, List.set_cons_zero]
    rfl
  refine RG.go1 (v := ?_) (a' := ?_) hL (by decide) rfl ?_ ?_ ?_
  rotate_left 2
  · intro K wx hS hK
    go_simp
    exact hK _ (Below.refl _ _)
  · simp only [Act.put, List.setIfInBounds_toArray, List.set_cons_succ, List.set_cons_zero]
    rfl
  refine RG.go1 (v := ?_) (a' := ?_) hL (by decide) rfl ?_ ?_ ?_
  rotate_left 2
  · intro K wx hS hK
    go_simp
    exact hK _ (Below.refl _ _)
  · simp only [Act.put, List.setIfInBounds_toArray, List.set_cons_succ, List.set_cons_zero]
    rfl
  refine RG.go1 (v := ?_) (a' := ?_) hL (by decide) rfl ?_ ?_ ?_
  rotate_left 2
  · intro K wx hS hK
    go_simp
    exact hK _ (Below.refl _ _)
  · simp only [Act.put, List.setIfInBounds_toArray, List.set_cons_succ, List.set_cons_zero]
    rfl
  refine RG.go1 (v := ?_) (a' := ?_) hL (by decide) rfl ?_ ?_ ?_
  rotate_left 2
  · intro K wx hS hK
    have c2 := hS.1.c2
    go_simp
    exact hK _ (Below.refl _ _)
  · simp only [Act.put, List.setIfInBounds_toArray, List.set_cons_succ, List.set_cons_zero]
    rfl
  refine RG.go1 (v := ?_) (a' := ?_) hL (by decide) rfl ?_ ?_ ?_
  rotate_left 2
  · intro K wx hS hK
    go_simp
    exact hK _ (Below.refl _ _)
  · simp only [Act.put, List.setIfInBounds_toArray, List.set_cons_succ, List.set_cons_zero]
    rfl
  refine RG.go1 (v := ?_) (a' := ?_) hL (by decide) rfl ?_ ?_ ?_
  rotate_left 2
  · intro K wx hS hK
    go_simp
    exact hK _ (Below.refl _ _)
  · simp only [Act.put, List.setIfInBounds_toArray, List.set_cons_succ, List.set_cons_zero]
    rfl
  refine RG.go1 (v := ?_) (a' := ?_) hL (by decide) rfl ?_ ?_ ?_
  rotate_left 2
  · intro K wx hS hK
    go_simp
    exact hK _ (Below.refl _ _)
  · simp only [Act.put, List.setIfInBounds_toArray, List.set_cons_succ, List.set_cons_zero]
    rfl
  refine RG.go1 (v := ?_) (a' := ?_) hL (by decide) rfl ?_ ?_ ?_
  rotate_left 2
  · intro K wx hS hK
    have c2 := hS.1.c2
    go_simp
    exact hK _ (Below.refl _ _)
  · simp only [Act.put, List.setIfInBounds_toArray, List.set_cons_succ, List.set_cons_zero]
    rfl
  refine RG.go1 (v := ?_) (a' := ?_) hL (by decide) rfl ?_ ?_ ?_
  rotate_left 2
  · intro K wx hS hK
    go_simp
    exact hK _ (Below.refl _ _)
  · simp only [Act.put, List.setIfInBounds_toArray, List.set_cons_succ, List.set_cons_zero]
    rfl
  refine RG.go1 (v := ?_) (a' := ?_) hL (by decide) rfl ?_ ?_ ?_
  rotate_left 2
  · intro K wx hS hK
    go_simp
    first | rw [HW.out.1] | rw [HW.out.2.1] | rw [HW.out.2.2.1] | rw [HW.out.2.2.2]
    exact hK _ (Below.refl _ _)
  · simp only [Act.put, List.setIfInBounds_toArray, List.set_cons_succ, List.set_cons_zero]
    rfl
  refine RG.go1 (v := ?_) (a' := ?_) hL (by decide) rfl ?_ ?_ ?_
  rotate_left 2
  · intro K wx hS hK
    have h0 : (0 : Int) ≤ (n : Int) := by omega
    have h1 : n ≤ k2 := HL.out
    have h2 : (n : Int) ≤ (k2 : Int) := by omega
    go_simp
    exact hK _ (Below.refl _ _)
  · simp only [Act.put, List.setIfInBounds_toArray, List.set_cons_succ, List.set_cons_zero]
    rfl
  refine RG.go1 (v := ?_) (a' := ?_) hL (by decide) rfl ?_ ?_ ?_
  rotate_left 2
  · intro K wx hS hK
    go_simp
    exact hK _ (Below.refl _ _)
  · simp only [Act.put, List.setIfInBounds_toArray, List.set_cons_succ, List.set_cons_zero]
    rfl
  refine RG.go1 (v := ?_) (a' := ?_) hL (by decide) rfl ?_ ?_ ?_
  rotate_left 2
  · intro K wx hS hK
    go_simp
    exact hK _ (Below.refl _ _)
  · simp only [Act.put, List.setIfInBounds_toArray, List.set_cons_succ, List.set_cons_zero]
    rfl
  refine RG.goT ?_
  refine RG.go_end ?_
  intro U w9 m9 y9 x9
  simp +decide (maxSteps := 1000000) only [RG.tl, RG.putN, ↓reduceIte]
  clear y9 x9 hL
  obtain ⟨j9, q9⟩ := m9
  have c2 := j9.c2
  have f2 := j9.f 2
  obtain ⟨r1, r2⟩ := HC.out w9 j9
  have R : Hid (JS X B gj gm N t p ([]) pv (.slice a2 n k2) (w9.setCell ⟨gj, 2, none⟩ (.slice a2 n k2)) ∧ Kj X B gj gm w (w9.setCell ⟨gj, 2, none⟩ (.slice a2 n k2))) := ⟨r1, Kj_trans q9 r2⟩
  clear r1 r2 j9 q9 HC H HW HL
  go_upto_region 4 with fail
  clear c2 f2
  generalize w9.setCell ⟨gj, 2, none⟩ (.slice a2 n k2) = W4 at R ⊢
  have c2 := R.out.1.c2
  obtain rfl : n = 0 := HN.out
  have c1 := R.out.1.c1
  have f1 := R.out.1.f 1
  obtain ⟨a1, k1, e1⟩ := own_form R.out.1.pw
  rw [e1] at c1
  go_wp2
  obtain ⟨r1, r2⟩ := R.out.1.past (p' := []) (d := 0) (pv' := .slice none 0 0) (gb_refl _ _) ⟨rfl, .inl ⟨rfl, rfl⟩⟩ (fun g e => by cases e) (Nat.zero_le _)
  go_ret
  exact ⟨rfl, _, _, r1, Kj_trans R.out.2 r2⟩
set_option maxHeartbeats 2000000 in
set_option maxRecDepth 100000 in
theorem keep_more (B gj gm N m : Nat) (t : Fn) (p : Ps) (m2 : Nat) (ms : List Nat) (pv mv : Value) (w : World) (h : JS X B gj gm N t p (m :: m2 :: ms) pv mv w) :
    Calls Try.prog 30 #[.pointer (some ⟨gj, 0, none⟩)] w fun e w' => e = .returned (.bool true) ∧ ∃ pv' mv', JS X B gj gm N t p (m2 :: ms) pv' mv' w' ∧ Kj X B gj gm w w' := by
  obtain ⟨a2, k2, rfl⟩ := own_form h.mw
  obtain ⟨k3, k4⟩ := cap_le h.mw
  have c2 := h.c2
  have hL : RG.Lasts (fun wx => JS X B gj gm N t p (m :: m2 :: ms) pv (.slice a2 (m :: m2 :: ms).length k2) wx ∧ Kj X B gj gm w wx) (fun _ _ _ => True) := ⟨fun _ _ h hb => ⟨h.1.below hb, Kj_trans h.2 (Kj_below hb h.1.hi h.1.hx)⟩, fun _ _ _ _ _ _ => trivial⟩
  have HC : Hid (∀ wx, JS X B gj gm N t p (m :: m2 :: ms) pv (.slice a2 (m :: m2 :: ms).length k2) wx → JS X B gj gm N t p (m2 :: ms) pv (.slice a2 (m2 :: ms).length k2) (wx.setCell ⟨gj, 2, none⟩ (.slice a2 (m2 :: ms).length k2)) ∧ Kj X B gj gm wx (wx.setCell ⟨gj, 2, none⟩ (.slice a2 (m2 :: ms).length k2))) := fun wx h => cut_marks h
  have H : Hid (JS X B gj gm N t p (m :: m2 :: ms) pv (.slice a2 (m :: m2 :: ms).length k2) w) := h
  have HE : Hid ((m :: m2 :: ms).length = (m2 :: ms).length + 1) := rfl
  obtain ⟨n, hn⟩ : ∃ n, n = (m2 :: ms).length := ⟨_, rfl⟩
  rw [HE.out, ← hn] at c2 hL HC H k3 k4
  have HN : Hid (n = (m2 :: ms).length) := hn
  clear hn h
  have t0 : (((n + 1 : Nat) : Int) == 0) = false := by rw [beq_eq_false_iff_ne]; omega
  have t1 : decide (((n + 1 : Nat) : Int) = 0) = false := decide_eq_false (by omega)
  have t2 : ((n : Int) + 1 == 0) = false := by rw [beq_eq_false_iff_ne]; omega
  have t3 : decide ((n : Int) + 1 = 0) = false := decide_eq_false (by omega)
  have t4 : ¬ ((n : Int) + 1 = 0) := by omega
  have HW : Hid (IntKind.i64.wrap (((n + 1 : Nat) : Int) - 1) = (n : Int) ∧ IntKind.i64.wrap ((n : Int) + 1 - 1) = (n : Int) ∧ IntKind.i64.wrap (n : Int) = (n : Int) ∧ wrap64 (n : Int) = (n : Int)) := by
    refine ⟨?_, ?_, ?_, ?_⟩ <;> first | (rw [IntKind.wrap_i64]; omega) | (unfold wrap64; omega)
  have HL : Hid (n ≤ k2) := by show _ ≤ _; omega
  clear k3 k4
  go_enter Try.func30, Try.ntmps30
  go_upto_region 3 with fail
  clear t0 t1 t2 t3 t4 c2
  refine RG.wp_region_gen (fun wx => JS X B gj gm N t p (m :: m2 :: ms) pv (.slice a2 (n + 1) k2) wx ∧ Kj X B gj gm w wx) (fun _ _ _ => True) (fun _ _ => True) [0, 0, 0, 0, 0, 0, 0, 0, 0, 0, 0, 0, 0, 0, 2] (by kernel_rfl) (by kernel_rfl) (⟨H.out.below (Below.refl _ _).drew, Kj_below (Below.refl _ _).drew H.out.hi H.out.hx⟩) ?_
  dsimp only [List.toList_toArray]
  refine RG.go1 (v := ?_) (a' := ?_) hL (by decide) rfl ?_ ?_ ?_
  rotate_left 2
  · intro K wx hS hK
    go_simp
    exact hK _ (Below.refl _ _)
  · simp only [Act.put, List.setIfInBounds_toArray, List.set_cons_succ, List.set_cons_zero]
    rfl
  refine RG.go1 (v := ?_) (a' := ?_) hL (by decide) rfl ?_ ?_ ?_
  rotate_left 2
  · intro K wx hS hK
    go_simp
    exact hK _ (Below.refl _ _)
  · simp only [Act.put, List.setIfInBounds_toArray, List.set_cons_succ, List.set_cons_zero]
    rfl
  refine RG.go1 (v := ?_) (a' := ?_) hL (by decide) rfl ?_ ?_ ?_
  rotate_left 2
  · intro K wx hS hK
    go_simp
    exact hK _ (Below.refl _ _)
  · simp only [Act.put, List.setIfInBounds_toArray, List.set_cons_succ, List.set_cons_zero]
    rfl
  refine RG.go1 (v := ?_) (a' := ?_) hL (by decide) rfl ?_ ?_ ?_
  rotate_left 2
  · intro K wx hS hK
    go_simp
    exact hK _ (Below.refl _ _)
  · simp only [Act.put, List.setIfInBounds_toArray, List.set_cons_succ, List.set_cons_zero]
    rfl
  refine RG.go1 (v := ?_) (a' := ?_) hL (by decide) rfl ?_ ?_ ?_
  rotate_left 2
  · intro K wx hS hK
    have c2 := hS.1.c2
    go_simp
    exact hK _ (Below.refl _ _)
  · simp only [Act.put, List.setIfInBounds_toArray, List.set_cons_succ, List.set_cons_zero]
    rfl
  refine RG.go1 (v := ?_) (a' := ?_) hL (by decide) rfl ?_ ?_ ?_
  rotate_left 2
  · intro K wx hS hK
    go_simp
    exact hK _ (Below.refl _ _)
  · simp only [Act.put, List.setIfInBounds_toArray, List.set_cons_succ, List.set_cons_zero]
    rfl
  refine RG.go1 (v := ?_) (a' := ?_) hL (by decide) rfl ?_ ?_ ?_
  rotate_left 2
  · intro K wx hS hK
    go_simp
    exact hK _ (Below.refl _ _)
  · simp only [Act.put, List.setIfInBounds_toArray, List.set_cons_succ, List.set_cons_zero]
    rfl
  refine RG.go1 (v := ?_) (a' := ?_) hL (by decide) rfl ?_ ?_ ?_
  rotate_left 2
  · intro K wx hS hK
    go_simp
    exact hK _ (Below.refl _ _)
  · simp only [Act.put, List.setIfInBounds_toArray, List.set_cons_succ, List.set_cons_zero]
    rfl
  refine RG.go1 (v := ?_) (a' := ?_) hL (by decide) rfl ?_ ?_ ?_
  rotate_left 2
  · intro K wx hS hK
    have c2 := hS.1.c2
    go_simp
    exact hK _ (Below.refl _ _)
  · simp only [Act.put, List.setIfInBounds_toArray, List.set_cons_succ, List.set_cons_zero]
    rfl
  refine RG.go1 (v := ?_) (a' := ?_) hL (by decide) rfl ?_ ?_ ?_
  rotate_left 2
  · intro K wx hS hK
    go_simp
    exact hK _ (Below.refl _ _)
  · simp only [Act.put, List.setIfInBounds_toArray, List.set_cons_succ, List.set_cons_zero]
    rfl
  refine RG.go1 (v := ?_) (a' := ?_) hL (by decide) rfl ?_ ?_ ?_
  rotate_left 2
  · intro K wx hS hK
    go_simp
    first | rw [HW.out.1] | rw [HW.out.2.1] | rw [HW.out.2.2.1] | rw [HW.out.2.2.2]
    exact hK _ (Below.refl _ _)
  · simp only [Act.put, List.setIfInBounds_toArray, List.set_cons_succ, List.set_cons_zero]
    rfl
  refine RG.go1 (v := ?_) (a' := ?_) hL (by decide) rfl ?_ ?_ ?_
  rotate_left 2
  · intro K wx hS hK
    have h0 : (0 : Int) ≤ (n : Int) := by omega
    have h1 : n ≤ k2 := HL.out
    have h2 : (n : Int) ≤ (k2 : Int) := by omega
    go_simp
    exact hK _ (Below.refl _ _)
  · simp only [Act.put, List.setIfInBounds_toArray, List.set_cons_succ, List.set_cons_zero]
    rfl
  refine RG.go1 (v := ?_) (a' := ?_) hL (by decide) rfl ?_ ?_ ?_
  rotate_left 2
  · intro K wx hS hK
    go_simp
    exact hK _ (Below.refl _ _)
  · simp only [Act.put, List.setIfInBounds_toArray, List.set_cons_succ, List.set_cons_zero]
    rfl
  refine RG.go1 (v := ?_) (a' := ?_) hL (by decide) rfl ?_ ?_ ?_
  rotate_left 2
  · intro K wx hS hK
    go_simp
    exact hK _ (Below.refl _ _)
  · simp only [Act.put, List.setIfInBounds_toArray, List.set_cons_succ, List.set_cons_zero]
    rfl
  refine RG.goT ?_
  refine RG.go_end ?_
  intro U w9 m9 y9 x9
  simp +decide (maxSteps := 1000000) only [RG.tl, RG.putN, ↓reduceIte]
  clear y9 x9 hL
  obtain ⟨j9, q9⟩ := m9
  have c2 := j9.c2
  have f2 := j9.f 2
  obtain ⟨r1, r2⟩ := HC.out w9 j9
  have R : Hid (JS X B gj gm N t p (m2 :: ms) pv (.slice a2 n k2) (w9.setCell ⟨gj, 2, none⟩ (.slice a2 n k2)) ∧ Kj X B gj gm w (w9.setCell ⟨gj, 2, none⟩ (.slice a2 n k2))) := ⟨r1, Kj_trans q9 r2⟩
  clear r1 r2 j9 q9 HC H HW HL
  go_upto_region 4 with fail
  clear c2 f2
  generalize w9.setCell ⟨gj, 2, none⟩ (.slice a2 n k2) = W4 at R ⊢
  have c2 := R.out.1.c2
  obtain ⟨n', rfl⟩ : ∃ n', n = n' + 1 := ⟨ms.length, HN.out⟩
  have t2 : ((n' : Int) + 1 == 0) = false := by rw [beq_eq_false_iff_ne]; omega
  have t3 : decide ((n' : Int) + 1 = 0) = false := decide_eq_false (by omega)
  have t4 : ¬ ((n' : Int) + 1 = 0) := by omega
  go_wp2
  have R2 := R.out
  go_ret
  exact ⟨rfl, _, _, R2.1, R2.2⟩
set_option maxHeartbeats 2000000 in
set_option maxRecDepth 100000 in
theorem undo_yes (B gj gm N k v : Nat) (t : Fn) (p : Ps) (ms : List Nat) (pv mv : Value) (w : World) (h : JS X B gj gm N t p ms pv mv w) (hk : k < 18446744073709551616) (hv : v < 18446744073709551616) (h0 : v ≠ 0) (hN : N ≤ 4194303) :
    Calls Try.prog 41 #[.pointer (some ⟨gj, 0, none⟩), .agg #[.int .u64 (k : Int), .int .u64 (v : Int), .bool true]] w fun e w' => e = .returned (.tuple #[]) ∧ JS X B gj gm (N + 1) (upd t k v) p ms pv mv w' ∧ Kj X B gj gm w w' ∧ w.grownBy w' (some gm) := by
  have hkey := keyU hk
  have HF : Hid ((Lit.int .u64 (v : Int)).wf = true) := wfU hv
  have HP : Hid (∀ D, Mp D t → IsMap D → Mp (D.put (ky k) (.lit (.int .u64 (v : Int)))) (upd t k v)) := fun D h hm => Mp_put h hm hk hv h0
  clear hv h0
  have hB1 : Below w.heap.size w (w.alloc (.cells #[.int .u64 (k : Int), .int .u64 (v : Int), .bool true] 79 (0, 0))) := (Below.refl _ _).alloc (Nat.le_refl _) _
  have HJ : Hid (∀ wx, Below w.heap.size w wx → JS X B gj gm N t p ms pv mv wx ∧ Kj X B gj gm w wx) := fun wx hb => ⟨h.below hb, Kj_below hb h.hi h.hx⟩
  clear h hk
  go_enter Try.func41, Try.ntmps41
  go_upto_region 2 with fail
  have hx := heap_alloc_new w (.cells #[.int .u64 (k : Int), .int .u64 (v : Int), .bool true] 79 (0, 0))
  have x0 : (w.alloc (.cells #[.int .u64 (k : Int), .int .u64 (v : Int), .bool true] 79 (0, 0))).cell? ⟨w.heap.size, 0, none⟩ = some (.int .u64 (k : Int)) := by simp only [World.cell?, hx]; rfl
  have x1 : (w.alloc (.cells #[.int .u64 (k : Int), .int .u64 (v : Int), .bool true] 79 (0, 0))).cell? ⟨w.heap.size, 1, none⟩ = some (.int .u64 (v : Int)) := by simp only [World.cell?, hx]; rfl
  have xs : w.heap.size < (w.alloc (.cells #[.int .u64 (k : Int), .int .u64 (v : Int), .bool true] 79 (0, 0))).heap.size := by simp
  clear hx
  generalize w.alloc (.cells #[.int .u64 (k : Int), .int .u64 (v : Int), .bool true] 79 (0, 0)) = W1 at hB1 x0 x1 xs ⊢
  have X0 : Hid _ := x0
  have X1 : Hid _ := x1
  have XS : Hid (w.heap.size < W1.heap.size) := xs
  have HB : Hid (Below w.heap.size w W1) := hB1
  clear x0 x1 xs hB1
  have hL : RG.Lasts (fun wx => Below W1.heap.size W1 wx) (fun _ _ _ => True) := ⟨fun _ _ h hb => h.trans (hb.mono h.size), fun _ _ _ _ _ _ => trivial⟩
  refine RG.wp_region_gen (fun wx => Below W1.heap.size W1 wx) (fun _ _ _ => True) (fun _ _ => True) [0, 0, 0, 0, 0, 0, 0, 0, 2] (by kernel_rfl) (by kernel_rfl) ((Below.refl _ _).drew) ?_
  dsimp only [List.toList_toArray]
  refine RG.go1 (v := ?_) (a' := ?_) hL (by decide) rfl ?_ ?_ ?_
  rotate_left 2
  · intro K wx hS hK
    go_simp
    exact hK _ (Below.refl _ _)
  · simp only [Act.put, List.setIfInBounds_toArray, List.set_cons_succ, List.set_cons_zero]
    rfl
  refine RG.go1 (v := ?_) (a' := ?_) hL (by decide) rfl ?_ ?_ ?_
  rotate_left 2
  · intro K wx hS hK
    go_simp
    exact hK _ (Below.refl _ _)
  · simp only [Act.put, List.setIfInBounds_toArray, List.set_cons_succ, List.set_cons_zero]
    rfl
  refine RG.go1 (v := ?_) (a' := ?_) hL (by decide) rfl ?_ ?_ ?_
  rotate_left 2
  · intro K wx hS hK
    go_simp
    exact hK _ (Below.refl _ _)
  · simp only [Act.put, List.setIfInBounds_toArray, List.set_cons_succ, List.set_cons_zero]
    rfl
  refine RG.go1 (v := ?_) (a' := ?_) hL (by decide) rfl ?_ ?_ ?_
  rotate_left 2
  · intro K wx hS hK
    have c0 := (HJ.out wx (HB.out.trans (hS.mono HB.out.size))).1.c0
    go_simp
    exact hK _ (Below.refl _ _)
  · simp only [Act.put, List.setIfInBounds_toArray, List.set_cons_succ, List.set_cons_zero]
    rfl
  refine RG.go1 (v := ?_) (a' := ?_) hL (by decide) rfl ?_ ?_ ?_
  rotate_left 2
  · intro K wx hS hK
    go_simp
    exact hK _ (Below.refl _ _)
  · simp only [Act.put, List.setIfInBounds_toArray, List.set_cons_succ, List.set_cons_zero]
    rfl
  refine RG.go1 (v := ?_) (a' := ?_) hL (by decide) rfl ?_ ?_ ?_
  rotate_left 2
  · intro K wx hS hK
    have x0 := (hS.cell (p := ⟨w.heap.size, 0, none⟩) XS.out).trans X0.out
    go_simp
    exact hK _ (Below.refl _ _)
  · simp only [Act.put, List.setIfInBounds_toArray, List.set_cons_succ, List.set_cons_zero]
    rfl
  refine RG.go1 (v := ?_) (a' := ?_) hL (by decide) rfl ?_ ?_ ?_
  rotate_left 2
  · intro K wx hS hK
    go_simp
    exact hK _ (Below.refl _ _)
  · simp only [Act.put, List.setIfInBounds_toArray, List.set_cons_succ, List.set_cons_zero]
    rfl
  refine RG.go1 (v := ?_) (a' := ?_) hL (by decide) rfl ?_ ?_ ?_
  rotate_left 2
  · intro K wx hS hK
    have x1 := (hS.cell (p := ⟨w.heap.size, 1, none⟩) XS.out).trans X1.out
    go_simp
    exact hK _ (Below.refl _ _)
  · simp only [Act.put, List.setIfInBounds_toArray, List.set_cons_succ, List.set_cons_zero]
    rfl
  refine RG.goT ?_
  refine RG.go_end ?_
  intro U w9 m9 y9 x9
  simp +decide (maxSteps := 1000000) only [RG.tl, RG.putN, ↓reduceIte]
  clear y9 x9 hL X0 X1 XS
  obtain ⟨j9, q9⟩ := HJ.out w9 (HB.out.trans (m9.mono HB.out.size))
  obtain ⟨D, n, h1, h2, h3⟩ := j9.mp
  have HD : Hid (n + p.length ≤ N ∧ Mp D t) := ⟨h2, h3⟩
  have R : Hid (JS X B gj gm N t p ms pv mv w9 ∧ Kj X B gj gm w w9 ∧ w.grownBy w9 (some gm)) := ⟨j9, q9, gb_of_below (HB.out.trans (m9.mono HB.out.size)) _⟩
  have hn : n < maxLen := by unfold maxLen; omega
  clear j9 q9 h2 h3 m9 HB HJ
  refine wpList_mapUpdate_in _ rfl _ _ _ 48 rfl 29 29 lawU Try.underlying48 _ gm n D rfl h1 hn _ _ _ rfl rfl hkey _ [] (plainElem_int Try.underlying29 HF.out) ?_
  intro w2 hown hturn
  obtain ⟨r1, r2⟩ := turned (d := 1) (t' := upd t k v) R.out.1 hturn.grown ⟨_, _, hown, by have := HD.out.1; omega, HP.out _ HD.out.2 h1.isMap⟩
  go_wp2
  exact bodyPost_ret (results_none rfl _ _ _) rfl ⟨rfl, r1, Kj_trans R.out.2.1 r2, R.out.2.2.trans hturn.grown⟩
set_option maxHeartbeats 2000000 in
set_option maxRecDepth 100000 in
theorem undo_no (B gj gm N k : Nat) (t : Fn) (p : Ps) (ms : List Nat) (pv mv : Value) (w : World) (h : JS X B gj gm N t p ms pv mv w) (hk : k < 18446744073709551616) (hN : N ≤ 4194303) :
    Calls Try.prog 41 #[.pointer (some ⟨gj, 0, none⟩), .agg #[.int .u64 (k : Int), .int .u64 (0), .bool false]] w fun e w' => e = .returned (.tuple #[]) ∧ JS X B gj gm (N + 1) (upd t k 0) p ms pv mv w' ∧ Kj X B gj gm w w' ∧ w.grownBy w' (some gm) := by
  have hkey := keyU hk
  have HP : Hid (∀ D, Mp D t → Mp (D.del (ky k)) (upd t k 0)) := fun D h => Mp_del h hk
  have hB1 : Below w.heap.size w (w.alloc (.cells #[.int .u64 (k : Int), .int .u64 (0), .bool false] 79 (0, 0))) := (Below.refl _ _).alloc (Nat.le_refl _) _
  have HJ : Hid (∀ wx, Below w.heap.size w wx → JS X B gj gm N t p ms pv mv wx ∧ Kj X B gj gm w wx) := fun wx hb => ⟨h.below hb, Kj_below hb h.hi h.hx⟩
  clear h hk
  go_enter Try.func41, Try.ntmps41
  go_upto_region 3 with fail
  have hx := heap_alloc_new w (.cells #[.int .u64 (k : Int), .int .u64 (0), .bool false] 79 (0, 0))
  have x0 : (w.alloc (.cells #[.int .u64 (k : Int), .int .u64 (0), .bool false] 79 (0, 0))).cell? ⟨w.heap.size, 0, none⟩ = some (.int .u64 (k : Int)) := by simp only [World.cell?, hx]; rfl
  have x1 : (w.alloc (.cells #[.int .u64 (k : Int), .int .u64 (0), .bool false] 79 (0, 0))).cell? ⟨w.heap.size, 1, none⟩ = some (.int .u64 (0)) := by simp only [World.cell?, hx]; rfl
  have xs : w.heap.size < (w.alloc (.cells #[.int .u64 (k : Int), .int .u64 (0), .bool false] 79 (0, 0))).heap.size := by simp
  clear hx
  generalize w.alloc (.cells #[.int .u64 (k : Int), .int .u64 (0), .bool false] 79 (0, 0)) = W1 at hB1 x0 x1 xs ⊢
  have X0 : Hid _ := x0
  have X1 : Hid _ := x1
  have XS : Hid (w.heap.size < W1.heap.size) := xs
  have HB : Hid (Below w.heap.size w W1) := hB1
  clear x0 x1 xs hB1
  have hL : RG.Lasts (fun wx => Below W1.heap.size W1 wx) (fun _ _ _ => True) := ⟨fun _ _ h hb => h.trans (hb.mono h.size), fun _ _ _ _ _ _ => trivial⟩
  refine RG.wp_region_gen (fun wx => Below W1.heap.size W1 wx) (fun _ _ _ => True) (fun _ _ => True) [0, 0, 0, 0, 0, 0, 2] (by kernel_rfl) (by kernel_rfl) ((Below.refl _ _).drew) ?_
  dsimp only [List.toList_toArray]
  refine RG.go1 (v := ?_) (a' := ?_) hL (by decide) rfl ?_ ?_ ?_
  rotate_left 2
  · intro K wx hS hK
    go_simp
    exact hK _ (Below.refl _ _)
  · simp only [Act.put, List.setIfInBounds_toArray, List.set_cons_succ, List.set_cons_zero]
    rfl
  refine RG.go1 (v := ?_) (a' := ?_) hL (by decide) rfl ?_ ?_ ?_
  rotate_left 2
  · intro K wx hS hK
    go_simp
    exact hK _ (Below.refl _ _)
  · simp only [Act.put, List.setIfInBounds_toArray, List.set_cons_succ, List.set_cons_zero]
    rfl
  refine RG.go1 (v := ?_) (a' := ?_) hL (by decide) rfl ?_ ?_ ?_
  rotate_left 2
  · intro K wx hS hK
    go_simp
    exact hK _ (Below.refl _ _)
  · simp only [Act.put, List.setIfInBounds_toArray, List.set_cons_succ, List.set_cons_zero]
    rfl
  refine RG.go1 (v := ?_) (a' := ?_) hL (by decide) rfl ?_ ?_ ?_
  rotate_left 2
  · intro K wx hS hK
    have c0 := (HJ.out wx (HB.out.trans (hS.mono HB.out.size))).1.c0
    go_simp
    exact hK _ (Below.refl _ _)
  · simp only [Act.put, List.setIfInBounds_toArray, List.set_cons_succ, List.set_cons_zero]
    rfl
  refine RG.go1 (v := ?_) (a' := ?_) hL (by decide) rfl ?_ ?_ ?_
  rotate_left 2
  · intro K wx hS hK
    go_simp
    exact hK _ (Below.refl _ _)
  · simp only [Act.put, List.setIfInBounds_toArray, List.set_cons_succ, List.set_cons_zero]
    rfl
  refine RG.go1 (v := ?_) (a' := ?_) hL (by decide) rfl ?_ ?_ ?_
  rotate_left 2
  · intro K wx hS hK
    have x0 := (hS.cell (p := ⟨w.heap.size, 0, none⟩) XS.out).trans X0.out
    go_simp
    exact hK _ (Below.refl _ _)
  · simp only [Act.put, List.setIfInBounds_toArray, List.set_cons_succ, List.set_cons_zero]
    rfl
  refine RG.goT ?_
  refine RG.go_end ?_
  intro U w9 m9 y9 x9
  simp +decide (maxSteps := 1000000) only [RG.tl, RG.putN, ↓reduceIte]
  clear y9 x9 hL X0 X1 XS
  obtain ⟨j9, q9⟩ := HJ.out w9 (HB.out.trans (m9.mono HB.out.size))
  obtain ⟨D, n, h1, h2, h3⟩ := j9.mp
  have HD : Hid (n + p.length ≤ N ∧ Mp D t) := ⟨h2, h3⟩
  have R : Hid (JS X B gj gm N t p ms pv mv w9 ∧ Kj X B gj gm w w9 ∧ w.grownBy w9 (some gm)) := ⟨j9, q9, gb_of_below (HB.out.trans (m9.mono HB.out.size)) _⟩
  have hn : n < maxLen := by unfold maxLen; omega
  clear j9 q9 h2 h3 m9 HB HJ
  refine wpList_delete_own _ rfl _ _ 48 29 rfl 29 lawU Try.underlying48 _ gm n D rfl h1 _ _ rfl hkey ?_
  intro w2 hown hturn
  obtain ⟨r1, r2⟩ := turned (d := 1) (t' := upd t k 0) R.out.1 hturn.grown ⟨_, _, hown, by have := HD.out.1; omega, HP.out _ HD.out.2⟩
  go_wp2
  go_end0
  exact ⟨rfl, r1, Kj_trans R.out.2.1 r2, R.out.2.2.trans hturn.grown⟩
/-- A change, as a value. -/
def cv (c : Nat × Nat) : Value := .agg #[.int .u64 (c.1 : Int), .int .u64 (c.2 : Int), .bool (decide (c.2 ≠ 0))]
theorem undo_any (B gj gm N : Nat) (c : Nat × Nat) (t : Fn) (p : Ps) (ms : List Nat) (pv mv : Value) (w : World) (h : JS X B gj gm N t p ms pv mv w) (hk : c.1 < 18446744073709551616) (hv : c.2 < 18446744073709551616) (hN : N ≤ 4194303) :
    Calls Try.prog 41 #[.pointer (some ⟨gj, 0, none⟩), cv c] w fun e w' => e = .returned (.tuple #[]) ∧ JS X B gj gm (N + 1) (und c t) p ms pv mv w' ∧ Kj X B gj gm w w' ∧ w.grownBy w' (some gm) := by
  obtain ⟨k, v⟩ := c
  by_cases h0 : v = 0
  · subst h0
    exact undo_no B gj gm N k t p ms pv mv w h hk hN
  · have := undo_yes B gj gm N k v t p ms pv mv w h hk hv h0 hN
    unfold cv und
    rw [decide_eq_true (show (k, v).2 ≠ 0 from h0)]
    exact this
end Jn
end Go.Proofs.Ytengpjalkiibiaa
/- journal: slices.Backward of changes. -/
namespace Go.Proofs.Ytengpjalkiibiaa
namespace Jn
open Go.RowKit Go.Shelf
attribute [local go_sem] Oper.semAt_some
/-- What has come when k rounds are over. -/
def upto {α : Type} (f : Nat → α) (k : Nat) : List α := (List.range k).map f
theorem upto_succ {α : Type} (f : Nat → α) (k : Nat) : upto f (k + 1) = upto f k ++ [f k] := by simp [upto, List.range_succ]
theorem upto_length {α : Type} (f : Nat → α) (k : Nat) : (upto f k).length = k := by simp [upto]
/-- Two blocks are kept. -/
def Kp2 (Bs b : Nat) (W W' : World) : Prop := ∀ o, W'.cell? ⟨Bs, o, none⟩ = W.cell? ⟨Bs, o, none⟩ ∧ W'.cell? ⟨b, o, none⟩ = W.cell? ⟨b, o, none⟩
theorem Kp2_t {Bs b : Nat} {A B C : World} (h : Kp2 Bs b A B) (k : Kp2 Bs b B C) : Kp2 Bs b A C := fun o => ⟨(k o).1.trans (h o).1, (k o).2.trans (h o).2⟩
theorem bwd_wrap (a : Nat) (h : a ≤ 4194304) : Hid (wrap64 ((a : Int) - 1) = (a : Int) - 1) := by
  show _ = _
  unfold wrap64; omega
/-- Places from the last one on. -/
def dn (n : Nat) (k : Nat) : Nat := n - 1 - k
theorem upto_dn (n : Nat) : upto (dn n) n = (List.range n).reverse := by
  apply List.ext_getElem
  · simp [upto]
  · intro i h1 h2
    simp [upto, dn]
def c00 : Nat × Nat := (0, 0)
/-- A row of changes is there. -/
def Ch (q : Ps) (b off : Nat) (W : World) : Prop := ∀ j, j < q.length → W.cell? ⟨b, off + j * 3, none⟩ = some (.int .u64 ((q.getD j c00).1 : Int)) ∧ W.cell? ⟨b, off + j * 3 + 1, none⟩ = some (.int .u64 ((q.getD j c00).2 : Int)) ∧ W.cell? ⟨b, off + j * 3 + 2, none⟩ = some (.bool (decide ((q.getD j c00).2 ≠ 0)))
set_option maxRecDepth 100000 in
set_option maxHeartbeats 2000000 in
theorem bwc1_in (F : Fence) (n : Nat) (hf : F.fn 48) (hro : F.round = none) (hn : 1 ≤ n) (l Bs b off cap : Nat) (q : Ps) (hreach : q.length ≤ 4194304) (J Jx : List (Fin q.length) → World → Prop)
    (hY : ∀ pre (x : Fin q.length) W, J pre W → pre.length < q.length → YieldAt F (n - 1) Try.prog l #[.int .i64 (x.1 : Int), cv (q.getD x.1 c00)] W fun e W' =>
      (e = .returned (.bool true) ∧ J (pre ++ [x]) W' ∧ Kp2 Bs b W W') ∨ (e = .returned (.bool false) ∧ Jx (pre ++ [x]) W'))
    (W : World) (hBs : W.cell? ⟨Bs, 0, none⟩ = some (.slice (some ⟨b, off, none⟩) q.length cap))
    (hc : Ch q b off W) (h0 : J [] W) :
    CallsIn F n Try.prog 48 #[.func (.yield l) #[] #[], .pointer (some ⟨Bs, 0, none⟩)] W fun e W' => (∃ v, e = .returned v) ∧
      ((∃ ys : List (Fin q.length), ys.map (·.1) = upto (dn q.length) q.length ∧ J ys W') ∨ (∃ pre, Jx pre W')) := by
  refine callsIn_of_wp Try.func48 rfl hf ?_ hro
  simp only [Try.ntmps48, List.size_toArray, List.length_cons, List.length_nil, Nat.reduceAdd, Nat.reduceSub, Array.replicate_succ, Array.replicate_zero, List.push_toArray, List.append_toArray, List.nil_append, List.cons_append]
  have hw0 := (bwd_wrap q.length hreach).out
  gi_wp2
  clear hw0
  gi_loopw [3] (fun i wr => ∃ k : Nat, k ≤ q.length ∧ i = .int .i64 ((q.length - k : Nat) - 1 : Int) ∧ (∃ pre : List (Fin q.length), pre.map (·.1) = upto (dn q.length) k ∧ J pre wr) ∧ Kp2 Bs b W wr)
    (fun i _ => (intOf i + 1).toNat)
  case atStart => exact ⟨0, Nat.zero_le _, by simp, ⟨[], rfl, h0⟩, fun o => ⟨rfl, rfl⟩⟩
  case round =>
    obtain ⟨k, hk, rfl, ⟨pre, hpre, hJs⟩, hkp⟩ := hrel
    have hBs' : wr.cell? ⟨Bs, 0, none⟩ = some (.slice (some ⟨b, off, none⟩) q.length cap) := (hkp 0).1.trans hBs
    by_cases hlt : k < q.length
    · obtain ⟨j, hj⟩ : ∃ j, q.length - k = j + 1 := ⟨q.length - k - 1, by omega⟩
      have ei : (((q.length - k : Nat) : Int) - 1) = (j : Int) := by omega
      have HJ : Hid (q.length - k = j + 1) := hj
      have hjn : j < q.length := by omega
      have hjl : (j : Int) < (q.length : Int) := by omega
      have hj0 : (0 : Int) ≤ (j : Int) := by omega
      have hjd : decide ((0 : Int) ≤ (j : Int)) = true := decide_eq_true hj0
      have hpl : pre.length = k := by rw [← List.length_map (f := (·.1)), hpre, upto_length]
      have HB : Hid ((pre ++ [(⟨j, hjn⟩ : Fin q.length)]).map (·.1) = upto (dn q.length) (k + 1)) := by
        show _ = _
        rw [List.map_append, hpre, upto_succ]
        congr 1
        show [j] = [dn q.length k]
        unfold dn
        congr 1
        omega
      have Y := hY _ (⟨j, hjn⟩ : Fin q.length) wr hJs (by omega)
      obtain ⟨c0, c1, c2⟩ := hc j hjn
      have x0 := ((hkp (off + j * 3)).2.trans c0)
      have x1 := ((hkp (off + j * 3 + 1)).2.trans c1)
      have x2 := ((hkp (off + j * 3 + 2)).2.trans c2)
      dsimp only at Y
      unfold cv at Y
      obtain ⟨n1, en1⟩ : ∃ n1, n1 = (q.getD j c00).1 := ⟨_, rfl⟩
      obtain ⟨n2, en2⟩ : ∃ n2, n2 = (q.getD j c00).2 := ⟨_, rfl⟩
      rw [← en1] at x0 Y
      rw [← en2] at x1 x2 Y
      generalize decide (n2 ≠ 0) = bb at x2 Y
      clear en1 en2
      obtain ⟨fn, tmps, assign, body, hy, hR⟩ := Y
      have hw := (bwd_wrap j (by omega)).out
      rw [ei]
      have HPL : Hid (pre.length = k) := hpl
      clear hj ei hpre hpl c0 c1 c2
      gi_wp2
      refine hR.mono ?_
      rintro e W3 (⟨rfl, hJ3, hk3⟩ | ⟨rfl, hJx3⟩)
      · gi_wp2
        go_roundw
        case rel => exact ⟨k + 1, hlt, by have := HJ.out; first | rfl | (congr 1; omega) | (rw [hw]; congr 1; omega), ⟨_, HB.out, hJ3⟩, Kp2_t hkp hk3⟩
        case measure => simp [intOf] <;> omega
      · gi_wp2
        refine bodyPost_ret (results_none rfl _ _ _) rfl ?_
        exact ⟨⟨_, rfl⟩, .inr ⟨_, hJx3⟩⟩
    · obtain rfl : k = q.length := by omega
      have ei : (((q.length - q.length : Nat) : Int) - 1) = -1 := by omega
      rw [ei]
      gi_wp2
      go_end0
      exact ⟨⟨_, rfl⟩, .inl ⟨_, hpre, hJs⟩⟩
set_option maxRecDepth 100000 in
set_option maxHeartbeats 1000000 in
theorem bwc1_nil_in (F : Fence) (n : Nat) (hf : F.fn 48) (hro : F.round = none) (l Bs : Nat) (a : Option Addr) (cap : Nat) {α : Type} (J : List α → World → Prop) (W : World) (hBs : W.cell? ⟨Bs, 0, none⟩ = some (.slice a 0 cap)) (h0 : J [] W) :
    CallsIn F n Try.prog 48 #[.func (.yield l) #[] #[], .pointer (some ⟨Bs, 0, none⟩)] W fun e W' => (∃ v, e = .returned v) ∧ J [] W' := by
  refine callsIn_of_wp Try.func48 rfl hf ?_ hro
  simp only [Try.ntmps48, List.size_toArray, List.length_cons, List.length_nil, Nat.reduceAdd, Nat.reduceSub, Array.replicate_succ, Array.replicate_zero, List.push_toArray, List.append_toArray, List.nil_append, List.cons_append]
  gi_wp2
  gi_loopw [3] (fun i wr => i = .int .i64 (-1) ∧ J [] wr) (fun _ _ => 0)
  case atStart => exact ⟨rfl, h0⟩
  case round =>
    obtain ⟨rfl, hJs⟩ := hrel
    gi_wp2
    go_end0
    exact ⟨⟨_, rfl⟩, hJs⟩
set_option maxHeartbeats 1000000 in
theorem bwc_in (F : Fence) (n : Nat) (hf : F.fn 40) (hro : F.round = none) (a : Option Addr) (len cap : Nat) (w : World) :
    CallsIn F n Try.prog 40 #[.slice a len cap] w fun e w' => e = .returned (.func (.func 48) #[] #[.pointer (some ⟨w.heap.size, 0, none⟩)]) ∧ w' = w.alloc (.cells #[.slice a len cap] 59) := by
  refine callsIn_of_wp Try.func40 rfl hf ?_ hro
  simp only [Try.ntmps40, List.size_toArray, List.length_cons, List.length_nil, Nat.reduceAdd, Nat.reduceSub, Array.replicate_succ, Array.replicate_zero, List.push_toArray, List.append_toArray, List.nil_append, List.cons_append]
  gi_wp2
  go_ret
  exact ⟨rfl, rfl⟩
/-- The changes come from the last one on; two blocks are kept between rounds. -/
theorem bwc_stops (F : Fence) (n : Nat) (hf : F.fn 48) (hro : F.round = none) (hn : 1 ≤ n) (Bs b cap : Nat) (ao : Option Addr) (q : Ps) (hreach : q.length ≤ 4194304) (w : World) (hBs : Bs < w.heap.size)
    (hc : w.cell? ⟨Bs, 0, none⟩ = some (.slice ao q.length cap)) (hb : 0 < q.length → ∃ off, ao = some ⟨b, off, none⟩ ∧ b < w.heap.size ∧ Ch q b off w) :
    SeqStopsK F n Try.prog 48 #[.pointer (some ⟨Bs, 0, none⟩)] (fun x : Fin q.length => #[Value.int .i64 (x.1 : Int), cv (q.getD x.1 c00)]) (Kp2 Bs b) (fun ys => ys.map (·.1) = (List.range q.length).reverse) (fun _ => True) q.length w := fun l J Jx W hW _ _ hY h0 => by
  have hc' := (hW.cell (p := ⟨Bs, 0, none⟩) hBs).trans hc
  by_cases h1 : 0 < q.length
  · obtain ⟨off, rfl, hg, hcs⟩ := hb h1
    refine (bwc1_in F n hf hro hn l Bs b off cap q hreach J Jx hY W hc' (fun j hj => ⟨(hW.cell (p := ⟨b, off + j * 3, none⟩) hg).trans (hcs j hj).1, (hW.cell (p := ⟨b, off + j * 3 + 1, none⟩) hg).trans (hcs j hj).2.1, (hW.cell (p := ⟨b, off + j * 3 + 2, none⟩) hg).trans (hcs j hj).2.2⟩) h0).mono ?_
    rintro e W' ⟨he, ⟨ys, hy, hj⟩ | ⟨pre, hj⟩⟩
    · exact ⟨he, .inl ⟨_, hy.trans (upto_dn _), hj⟩⟩
    · exact ⟨he, .inr ⟨_, trivial, hj⟩⟩
  · have e : q = [] := List.length_eq_zero_iff.1 (by omega)
    subst e
    exact (bwc1_nil_in F n hf hro l Bs ao cap J W hc' h0).mono fun e W' ⟨he, hj⟩ => ⟨he, .inl ⟨[], rfl, hj⟩⟩
end Jn
end Go.Proofs.Ytengpjalkiibiaa
/- Plain arithmetic on words of four parts: sums and differences. No program is named here. -/
namespace Go.Proofs.Ytengpjalkiibiaa

/-- Part i of n: 64 bits. -/
def dg (n i : Nat) : Int := ((n / 2 ^ (64 * i) % 18446744073709551616 : Nat) : Int)
/-- n, rest 2^256, as a word. -/
def Wd (n : Nat) : Value := .agg #[.int .u64 (dg n 0), .int .u64 (dg n 1), .int .u64 (dg n 2), .int .u64 (dg n 3)]
theorem dg_nn (n i : Nat) : 0 ≤ dg n i := Int.natCast_nonneg _
theorem dg_lt (n i : Nat) : dg n i < 18446744073709551616 := by
  unfold dg
  have : n / 2 ^ (64 * i) % 18446744073709551616 < 18446744073709551616 := Nat.mod_lt _ (by decide)
  omega
theorem dg0 (n : Nat) : dg n 0 = (n : Int) % 18446744073709551616 := by unfold dg; simp
theorem dg1 (n : Nat) : dg n 1 = (n : Int) / 18446744073709551616 % 18446744073709551616 := by unfold dg; simp
theorem dg2 (n : Nat) : dg n 2 = (n : Int) / 340282366920938463463374607431768211456 % 18446744073709551616 := by unfold dg; simp
theorem dg3 (n : Nat) : dg n 3 = (n : Int) / 6277101735386680763835789423207666416102355444464034512896 % 18446744073709551616 := by unfold dg; simp
/-- The carry, and the part that is left, of a sum of two parts. -/
def cy (x y c : Int) : Int := (x + y + c) / 18446744073709551616
def sm (x y c : Int) : Int := (x + y + c) % 18446744073709551616
theorem cy_nn (x y c : Int) (hx : 0 ≤ x) (hy : 0 ≤ y) (hc : 0 ≤ c) : 0 ≤ cy x y c := by unfold cy; omega
theorem cy_le (x y c : Int) (hx' : x < 18446744073709551616) (hy' : y < 18446744073709551616) (hc' : c ≤ 1) : cy x y c ≤ 1 := by unfold cy; omega
theorem s0 (a b : Nat) : sm (dg a 0) (dg b 0) 0 = dg (a + b) 0 := by simp only [sm, dg0]; omega
theorem s1 (a b : Nat) : sm (dg a 1) (dg b 1) (cy (dg a 0) (dg b 0) 0) = dg (a + b) 1 := by simp only [sm, cy, dg0, dg1]; omega
theorem c1 (a b : Nat) : cy (dg a 1) (dg b 1) (cy (dg a 0) (dg b 0) 0) = (a % 340282366920938463463374607431768211456 + b % 340282366920938463463374607431768211456 : Nat) / 340282366920938463463374607431768211456 := by simp only [cy, dg0, dg1]; omega
theorem s2 (a b : Nat) : sm (dg a 2) (dg b 2) (cy (dg a 1) (dg b 1) (cy (dg a 0) (dg b 0) 0)) = dg (a + b) 2 := by rw [c1]; simp only [sm, dg2]; omega
theorem c2 (a b : Nat) : cy (dg a 2) (dg b 2) (cy (dg a 1) (dg b 1) (cy (dg a 0) (dg b 0) 0)) = (a % 6277101735386680763835789423207666416102355444464034512896 + b % 6277101735386680763835789423207666416102355444464034512896 : Nat) / 6277101735386680763835789423207666416102355444464034512896 := by rw [c1]; simp only [cy, dg2]; omega
theorem s3 (a b : Nat) : sm (dg a 3) (dg b 3) (cy (dg a 2) (dg b 2) (cy (dg a 1) (dg b 1) (cy (dg a 0) (dg b 0) 0))) = dg (a + b) 3 := by rw [c2]; simp only [sm, dg3]; omega
theorem c3 (a b : Nat) (ha : a < 2 ^ 256) (hb : b < 2 ^ 256) : cy (dg a 3) (dg b 3) (cy (dg a 2) (dg b 2) (cy (dg a 1) (dg b 1) (cy (dg a 0) (dg b 0) 0))) = ((a + b) / 2 ^ 256 : Nat) := by rw [c2]; simp only [cy, dg3]; omega
/-- The borrow, and the part that is left, of a difference of two parts. -/
def bo (x y c : Int) : Int := if x < y + c then 1 else 0
def df (x y c : Int) : Int := (x - y - c) % 18446744073709551616
theorem bo_nn (x y c : Int) : 0 ≤ bo x y c := by unfold bo; split <;> decide
theorem bo_le (x y c : Int) : bo x y c ≤ 1 := by unfold bo; split <;> decide
theorem d0 (a b : Nat) (hb : b < 2 ^ 256) : df (dg a 0) (dg b 0) 0 = dg (a + 2 ^ 256 - b) 0 := by simp only [df, dg0]; omega
theorem d1 (a b : Nat) (hb : b < 2 ^ 256) : df (dg a 1) (dg b 1) (bo (dg a 0) (dg b 0) 0) = dg (a + 2 ^ 256 - b) 1 := by simp only [df, bo, dg0, dg1]; split <;> omega
theorem b1 (a b : Nat) : bo (dg a 1) (dg b 1) (bo (dg a 0) (dg b 0) 0) = bo ((a % 340282366920938463463374607431768211456 : Nat) : Int) ((b % 340282366920938463463374607431768211456 : Nat) : Int) 0 := by simp only [bo, dg0, dg1]; split <;> split <;> split <;> omega
theorem d2 (a b : Nat) (hb : b < 2 ^ 256) : df (dg a 2) (dg b 2) (bo (dg a 1) (dg b 1) (bo (dg a 0) (dg b 0) 0)) = dg (a + 2 ^ 256 - b) 2 := by rw [b1]; simp only [df, bo, dg2]; split <;> omega
theorem b2 (a b : Nat) : bo (dg a 2) (dg b 2) (bo (dg a 1) (dg b 1) (bo (dg a 0) (dg b 0) 0)) = bo ((a % 6277101735386680763835789423207666416102355444464034512896 : Nat) : Int) ((b % 6277101735386680763835789423207666416102355444464034512896 : Nat) : Int) 0 := by rw [b1]; simp only [bo, dg2]; split <;> split <;> split <;> omega
theorem d3 (a b : Nat) (hb : b < 2 ^ 256) : df (dg a 3) (dg b 3) (bo (dg a 2) (dg b 2) (bo (dg a 1) (dg b 1) (bo (dg a 0) (dg b 0) 0))) = dg (a + 2 ^ 256 - b) 3 := by rw [b2]; simp only [df, bo, dg3]; split <;> omega
theorem tup2 {a b : Value} {a' b' : Value} (h : a = a') (k : b = b') : Ending.returned (.tuple #[a, b]) = .returned (.tuple #[a', b']) := by rw [h, k]
theorem wd_of {n : Nat} {p q r s : Int} (h0 : p = dg n 0) (h1 : q = dg n 1) (h2 : r = dg n 2) (h3 : s = dg n 3) : Value.agg #[.int .u64 p, .int .u64 q, .int .u64 r, .int .u64 s] = Wd n := by rw [h0, h1, h2, h3]; rfl
theorem int_of {k : IntKind} {p q : Int} (h : p = q) : Value.int k p = .int k q := by rw [h]
end Go.Proofs.Ytengpjalkiibiaa
/- Plain arithmetic of a product of parts, row by row. -/
namespace Go.Proofs.Ytengpjalkiibiaa
open Go.RowKit
/-- x is a part: 64 bits. -/
def U (x : Int) : Prop := 0 ≤ x ∧ x < 18446744073709551616
theorem U_dg (n i : Nat) : U (dg n i) := ⟨dg_nn n i, dg_lt n i⟩
theorem U_zero : U 0 := by unfold U; decide
/-- The number of eight parts. -/
def val8 (F : Nat → Int) : Int := F 0 + F 1 * 18446744073709551616 + F 2 * 340282366920938463463374607431768211456 + F 3 * 6277101735386680763835789423207666416102355444464034512896 + F 4 * 115792089237316195423570985008687907853269984665640564039457584007913129639936 + F 5 * 2135987035920910082395021706169552114602704522356652769947041607822219725780640550022962086936576 + F 6 * 39402006196394479212279040100143613805079739270465446667948293404245721771497210611414266254884915640806627990306816 + F 7 * 726838724295606890549323807888004534353641360687318060281490199180639288113397923326191050713763565560762521606266177933534601628614656
/-- F with v at place k. -/
def upd (F : Nat → Int) (k : Nat) (v : Int) : Nat → Int := fun o => if o = k then v else F o
theorem upd_U {F : Nat → Int} {k : Nat} {v : Int} (h : ∀ o, U (F o)) (hv : U v) : ∀ o, U (upd F k v o) := fun o => by
  unfold upd; split <;> first | exact hv | exact h o
/-- 2^(64 k). -/
def Mp (k : Nat) : Int := ((2 ^ (64 * k) : Nat) : Int)
theorem Mp_add (i j : Nat) : Mp (i + j) = Mp j * Mp i := by
  unfold Mp; rw [← Int.natCast_mul, Nat.mul_add, Nat.pow_add, Nat.mul_comm]
theorem Mp_succ (k : Nat) : Mp (k + 1) = 18446744073709551616 * Mp k := by
  rw [Nat.add_comm, Mp_add]; unfold Mp; rw [Int.mul_comm]; rfl
theorem Mp0 : Mp 0 = 1 := by unfold Mp; simp
theorem Mp1 : Mp 1 = 18446744073709551616 := by unfold Mp; simp
theorem Mp2 : Mp 2 = 340282366920938463463374607431768211456 := by unfold Mp; simp
theorem Mp3 : Mp 3 = 6277101735386680763835789423207666416102355444464034512896 := by unfold Mp; simp
theorem Mp4 : Mp 4 = 115792089237316195423570985008687907853269984665640564039457584007913129639936 := by unfold Mp; simp
theorem Mp5 : Mp 5 = 2135987035920910082395021706169552114602704522356652769947041607822219725780640550022962086936576 := by rw [Mp_succ, Mp4]; rfl
theorem Mp6 : Mp 6 = 39402006196394479212279040100143613805079739270465446667948293404245721771497210611414266254884915640806627990306816 := by rw [Mp_succ, Mp5]; rfl
theorem Mp7 : Mp 7 = 726838724295606890549323807888004534353641360687318060281490199180639288113397923326191050713763565560762521606266177933534601628614656 := by rw [Mp_succ, Mp6]; rfl
theorem val8_upd (F : Nat → Int) (k : Nat) (v : Int) (hk : k < 8) : val8 (upd F k v) = val8 F + (v - F k) * Mp k := by
  have h : k = 0 ∨ k = 1 ∨ k = 2 ∨ k = 3 ∨ k = 4 ∨ k = 5 ∨ k = 6 ∨ k = 7 := by omega
  rcases h with rfl | rfl | rfl | rfl | rfl | rfl | rfl | rfl
  · rw [Mp0]; simp [val8, upd]; omega
  · rw [Mp1]; simp [val8, upd]; omega
  · rw [Mp2]; simp [val8, upd]; omega
  · rw [Mp3]; simp [val8, upd]; omega
  · rw [Mp4]; simp [val8, upd]; omega
  · rw [Mp5]; simp [val8, upd]; omega
  · rw [Mp6]; simp [val8, upd]; omega
  · rw [Mp7]; simp [val8, upd]; omega
/-- n, rest 2^(64 k). -/
def lowp (n k : Nat) : Int := ((n % 2 ^ (64 * k) : Nat) : Int)
theorem lowp_succ (n k : Nat) : lowp n (k + 1) = lowp n k + dg n k * Mp k := by
  unfold lowp dg Mp
  rw [← Int.natCast_mul, ← Int.natCast_add, Nat.mul_add, Nat.pow_add, Nat.mod_mul, Nat.mul_comm (2 ^ (64 * k))]
theorem lowp_zero (n : Nat) : lowp n 0 = 0 := by unfold lowp; simp [Nat.mod_one]
theorem lowp_four (n : Nat) (h : n < 2 ^ 256) : lowp n 4 = n := by
  unfold lowp; rw [show 64 * 4 = 256 by decide, Nat.mod_eq_of_lt h]
/-- What stands in the product behind j parts of row i. -/
def PI (a b i j : Nat) (F : Nat → Int) (c : Int) : Prop := (∀ o, U (F o)) ∧ U c ∧ (∀ o, i + 4 ≤ o → F o = 0) ∧ val8 F + c * Mp (i + j) = lowp a i * b + dg a i * lowp b j * Mp i
theorem PI_step {a b i j : Nat} {F : Nat → Int} {c h l : Int} (H : PI a b i j F c) (hi : i < 4) (hj : j < 4) (uh : U h) (ul : U l) (e : h * 18446744073709551616 + l = dg a i * dg b j + F (i + j) + c) : PI a b i (j + 1) (upd F (i + j) l) h := by
  obtain ⟨h1, _, h3, h4⟩ := H
  refine ⟨upd_U h1 ul, uh, fun o ho => ?_, ?_⟩
  · unfold upd; rw [if_neg (by omega)]; exact h3 o ho
  · rw [val8_upd F (i + j) l (by omega), show i + (j + 1) = (i + j) + 1 by omega, Mp_succ, lowp_succ]
    have e3 := Mp_add i j
    grind
theorem PI_row {a b i : Nat} {F : Nat → Int} {c : Int} (H : PI a b i 4 F c) (hb : b < 2 ^ 256) (hi : i < 4) : PI a b (i + 1) 0 (upd F (i + 4) c) 0 := by
  obtain ⟨h1, h2, h3, h4⟩ := H
  refine ⟨upd_U h1 h2, U_zero, fun o ho => ?_, ?_⟩
  · unfold upd; rw [if_neg (by omega)]; exact h3 o (by omega)
  · rw [val8_upd F (i + 4) c (by omega), h3 (i + 4) (by omega), lowp_zero, lowp_succ]
    rw [lowp_four b hb] at h4
    grind
theorem PI_start (a b : Nat) : PI a b 0 0 (fun _ => 0) 0 := ⟨fun _ => U_zero, U_zero, fun _ _ => rfl, by simp [val8, lowp_zero]⟩
theorem dg4 (n : Nat) : dg n 4 = (n : Int) / 115792089237316195423570985008687907853269984665640564039457584007913129639936 % 18446744073709551616 := by unfold dg; simp
theorem pow5 : (2 : Nat) ^ (64 * 5) = 2135987035920910082395021706169552114602704522356652769947041607822219725780640550022962086936576 := by
  have := Mp5
  unfold Mp at this
  exact Int.ofNat.inj this
theorem dg5 (n : Nat) : dg n 5 = (n : Int) / 2135987035920910082395021706169552114602704522356652769947041607822219725780640550022962086936576 % 18446744073709551616 := by unfold dg; rw [pow5]; simp
theorem pow6 : (2 : Nat) ^ (64 * 6) = 39402006196394479212279040100143613805079739270465446667948293404245721771497210611414266254884915640806627990306816 := by
  have := Mp6
  unfold Mp at this
  exact Int.ofNat.inj this
theorem dg6 (n : Nat) : dg n 6 = (n : Int) / 39402006196394479212279040100143613805079739270465446667948293404245721771497210611414266254884915640806627990306816 % 18446744073709551616 := by unfold dg; rw [pow6]; simp
theorem pow7 : (2 : Nat) ^ (64 * 7) = 726838724295606890549323807888004534353641360687318060281490199180639288113397923326191050713763565560762521606266177933534601628614656 := by
  have := Mp7
  unfold Mp at this
  exact Int.ofNat.inj this
theorem dg7 (n : Nat) : dg n 7 = (n : Int) / 726838724295606890549323807888004534353641360687318060281490199180639288113397923326191050713763565560762521606266177933534601628614656 % 18446744073709551616 := by unfold dg; rw [pow7]; simp
theorem val8_dg (n : Nat) (F : Nat → Int) (hU : ∀ o, U (F o)) (h : val8 F = n) : ∀ k, k < 8 → F k = dg n k := by
  have u0 := hU 0; have u1 := hU 1; have u2 := hU 2; have u3 := hU 3; have u4 := hU 4; have u5 := hU 5; have u6 := hU 6; have u7 := hU 7
  unfold U at u0 u1 u2 u3 u4 u5 u6 u7
  unfold val8 at h
  intro k hk
  have hk' : k = 0 ∨ k = 1 ∨ k = 2 ∨ k = 3 ∨ k = 4 ∨ k = 5 ∨ k = 6 ∨ k = 7 := by omega
  rcases hk' with rfl | rfl | rfl | rfl | rfl | rfl | rfl | rfl
  · rw [dg0]; omega
  · rw [dg1]; omega
  · rw [dg2]; omega
  · rw [dg3]; omega
  · rw [dg4]; omega
  · rw [dg5]; omega
  · rw [dg6]; omega
  · rw [dg7]; omega
theorem PI_end {a b : Nat} {F : Nat → Int} (H : PI a b 4 0 F 0) (ha : a < 2 ^ 256) : ∀ k, k < 8 → F k = dg (a * b) k := by
  refine val8_dg _ F H.1 ?_
  have h := H.2.2.2
  rw [lowp_zero, lowp_four a ha] at h
  rw [Int.natCast_mul]
  grind
end Go.Proofs.Ytengpjalkiibiaa
/- Plain arithmetic of one step of a division of parts by halves. -/
namespace Go.Proofs.Ytengpjalkiibiaa
/-- What the divisor and the two parts are. -/
def DI (hi lo y : Int) : Prop := 9223372036854775808 ≤ y ∧ y < 18446744073709551616 ∧ 0 ≤ lo ∧ lo < 18446744073709551616 ∧ 0 ≤ hi ∧ hi < y
/-- One step: u and the half d by y: q is no less than the quotient, r is what q leaves of u by y's upper half. -/
def QI (u d y q r : Int) : Prop := 0 ≤ r ∧ q * (y / 4294967296) + r = u ∧ (u * 4294967296 + d) / y ≤ q
/-- What a step is about. -/
def SI (u d y : Int) : Prop := 9223372036854775808 ≤ y ∧ y < 18446744073709551616 ∧ 0 ≤ u ∧ u < y ∧ 0 ≤ d ∧ d < 4294967296
theorem quo_lt {u d y : Int} (h : SI u d y) : (u * 4294967296 + d) / y < 4294967296 ∧ 0 ≤ (u * 4294967296 + d) / y := by
  obtain ⟨h1, h2, h3, h4, h5, h6⟩ := h
  refine ⟨Int.ediv_lt_of_lt_mul (by omega) ?_, Int.ediv_nonneg (by omega) (by omega)⟩
  omega
theorem quo_le {u d y q : Int} (h : SI u d y) (hq : q * y ≤ u * 4294967296 + d) : q ≤ (u * 4294967296 + d) / y := (Int.le_ediv_iff_mul_le (by have := h.1; omega)).2 hq
theorem quo_gt {u d y q : Int} (h : SI u d y) (hq : u * 4294967296 + d < q * y) : (u * 4294967296 + d) / y < q := Int.ediv_lt_of_lt_mul (by have := h.1; omega) hq
theorem split_y (y q : Int) : q * y = q * (y / 4294967296) * 4294967296 + q * (y % 4294967296) := by
  have h := Int.mul_ediv_add_emod y 4294967296
  have : q * (4294967296 * (y / 4294967296) + y % 4294967296) = q * y := by rw [h]
  rw [← this]
  grind
theorem QI_start {u d y : Int} (h : SI u d y) : QI u d y (u / (y / 4294967296)) (u % (y / 4294967296)) ∧ u % (y / 4294967296) < 4294967296 := by
  obtain ⟨h1, h2, h3, h4, h5, h6⟩ := h
  have hv : 2147483648 ≤ y / 4294967296 := by omega
  have hv' : y / 4294967296 < 4294967296 := by omega
  have e := Int.mul_ediv_add_emod u (y / 4294967296)
  have r0 := Int.emod_nonneg u (show y / 4294967296 ≠ 0 by omega)
  have r1 := Int.emod_lt_of_pos u (show 0 < y / 4294967296 by omega)
  refine ⟨⟨r0, by rw [Int.mul_comm]; exact e, ?_⟩, by omega⟩
  have hs := split_y y (u / (y / 4294967296) + 1)
  have hq : (u * 4294967296 + d) / y < u / (y / 4294967296) + 1 := by
    refine quo_gt ⟨h1, h2, h3, h4, h5, h6⟩ ?_
    rw [hs]
    have h0 : 0 ≤ (u / (y / 4294967296) + 1) * (y % 4294967296) := Int.mul_nonneg (by have := Int.ediv_nonneg h3 (show 0 ≤ y / 4294967296 by omega); omega) (by omega)
    have e2 : (u / (y / 4294967296) + 1) * (y / 4294967296) = y / 4294967296 * (u / (y / 4294967296)) + y / 4294967296 := by grind
    rw [e2]
    omega
  omega
theorem QI_big {u d y q r : Int} (h : SI u d y) (hq : QI u d y q r) (hc : 4294967296 ≤ q ∨ 4294967296 * r + d < q * (y % 4294967296)) : QI u d y (q - 1) (r + y / 4294967296) ∧ 1 ≤ q := by
  obtain ⟨r0, e, hT⟩ := hq
  have hl := quo_lt h
  have hv : 0 ≤ y / 4294967296 := by have := h.1; omega
  have key : (u * 4294967296 + d) / y < q := by
    rcases hc with hc | hc
    · omega
    · refine quo_gt h ?_
      rw [split_y y q]
      generalize q * (y / 4294967296) = m at *
      generalize q * (y % 4294967296) = n at *
      omega
  refine ⟨⟨by omega, ?_, by omega⟩, by omega⟩
  rw [Int.sub_mul]
  omega
theorem QI_done {u d y q r : Int} (h : SI u d y) (hq : QI u d y q r) (hc : q * (y % 4294967296) ≤ 4294967296 * r + d) : q = (u * 4294967296 + d) / y := by
  obtain ⟨r0, e, hT⟩ := hq
  have := quo_le (q := q) h (by
    rw [split_y y q]
    generalize q * (y / 4294967296) = m at *
    generalize q * (y % 4294967296) = n at *
    omega)
  omega
theorem QI_break {u d y q r : Int} (h : SI u d y) (hq : QI u d y q r) (hr : 4294967296 ≤ r) : q = (u * 4294967296 + d) / y := by
  obtain ⟨r0, e, hT⟩ := hq
  have hl := quo_lt h
  obtain ⟨h1, h2, h3, h4, h5, h6⟩ := h
  have hv : 2147483648 ≤ y / 4294967296 := by omega
  have hq1 : q ≤ 4294967295 := by
    apply Int.not_lt.1
    intro hlt
    have := Int.mul_le_mul_of_nonneg_right (show (4294967296 : Int) ≤ q by omega) (show 0 ≤ y / 4294967296 by omega)
    omega
  have hq0 : q * (y % 4294967296) ≤ 4294967295 * 4294967295 := Int.mul_le_mul hq1 (by omega) (by omega) (by omega)
  have := quo_le (q := q) ⟨h1, h2, h3, h4, h5, h6⟩ (by
    rw [split_y y q]
    generalize q * (y / 4294967296) = m at *
    generalize q * (y % 4294967296) = n at *
    omega)
  omega
theorem quo_rest {N Q R y : Int} (hy : 0 < y) (h : N = Q * y + R) (h0 : 0 ≤ R) (h1 : R < y) : N / y = Q ∧ N % y = R := (Int.ediv_emod_unique hy).2 ⟨by rw [h, Int.mul_comm]; omega, h0, h1⟩
end Go.Proofs.Ytengpjalkiibiaa
/- Plain arithmetic of rows of parts: what a row of k parts from place j on comes to. -/
namespace Go.Proofs.Ytengpjalkiibiaa
/-- The number of k parts of F from place j on. -/
def vr (F : Nat → Int) (j : Nat) : Nat → Int
  | 0 => 0
  | k + 1 => vr F j k + F (j + k) * Mp k
theorem vr_congr {F G : Nat → Int} {j : Nat} : ∀ {k : Nat}, (∀ i, i < k → F (j + i) = G (j + i)) → vr F j k = vr G j k
  | 0, _ => rfl
  | k + 1, h => by rw [vr, vr, vr_congr (fun i hi => h i (by omega)), h k (by omega)]
theorem vr_upd {F : Nat → Int} {j k : Nat} {v : Int} : vr (upd F (j + k) v) j (k + 1) = vr F j k + v * Mp k := by
  rw [vr, vr_congr (G := F) (fun i hi => by unfold upd; rw [if_neg (by omega)])]
  unfold upd
  rw [if_pos rfl]
theorem Mp_pos (k : Nat) : 0 < Mp k := by
  unfold Mp
  have := Nat.two_pow_pos (64 * k)
  omega
theorem vr_bound {F : Nat → Int} (h : ∀ o, U (F o)) (j : Nat) : ∀ k, 0 ≤ vr F j k ∧ vr F j k < Mp k
  | 0 => by simp [vr, Mp]
  | k + 1 => by
    obtain ⟨h0, h1⟩ := vr_bound h j k
    obtain ⟨u0, u1⟩ := h (j + k)
    rw [vr, Mp_succ]
    have hp := Mp_pos k
    have a := Int.mul_nonneg u0 (Int.le_of_lt hp)
    have b := Int.mul_le_mul_of_nonneg_right (show F (j + k) ≤ 18446744073709551615 by omega) (Int.le_of_lt hp)
    generalize F (j + k) * Mp k = m at *
    omega
/-- Behind i rounds of a sum: what stands from j on, and what is carried over. -/
def AI (F b : Nat → Int) (j i : Nat) (G : Nat → Int) (c : Int) : Prop := (∀ o, U (G o)) ∧ (c = 0 ∨ c = 1) ∧ (∀ o, o < j ∨ j + i ≤ o → G o = F o) ∧ vr G j i + c * Mp i = vr F j i + vr b 0 i
theorem AI_start {F b : Nat → Int} {j : Nat} (h : ∀ o, U (F o)) : AI F b j 0 F 0 := ⟨h, .inl rfl, fun _ _ => rfl, by simp [vr]⟩
theorem sm_U (x y c : Int) : U (sm x y c) := by unfold U sm; omega
theorem sm_cy (x y c : Int) : cy x y c * 18446744073709551616 + sm x y c = x + y + c := by unfold cy sm; omega
theorem cy_01 {x y c : Int} (hx : U x) (hy : U y) (hc : c = 0 ∨ c = 1) : cy x y c = 0 ∨ cy x y c = 1 := by
  unfold U at hx hy; unfold cy; omega
theorem AI_step {F b G : Nat → Int} {j i : Nat} {c y : Int} (H : AI F b j i G c) (hb : U y) (hy : y = b i) : AI F b j (i + 1) (upd G (j + i) (sm (G (j + i)) y c)) (cy (G (j + i)) y c) := by
  obtain ⟨h1, h2, h3, h4⟩ := H
  refine ⟨upd_U h1 (sm_U _ _ _), cy_01 (h1 _) hb h2, fun o ho => ?_, ?_⟩
  · unfold upd; rw [if_neg (by omega)]; exact h3 o (by omega)
  · rw [vr_upd, vr, vr, Mp_succ]
    have e := sm_cy (G (j + i)) y c
    have e2 := h3 (j + i) (by omega)
    rw [Nat.zero_add, ← hy]
    grind
theorem AI_last {F b G : Nat → Int} {j n : Nat} {c : Int} (H : AI F b j n G c) : (∀ o, U (upd G (j + n) (sm (G (j + n)) 0 c) o)) ∧ (cy (G (j + n)) 0 c = 0 ∨ cy (G (j + n)) 0 c = 1) ∧ (∀ o, o < j ∨ j + n < o → upd G (j + n) (sm (G (j + n)) 0 c) o = F o) ∧ vr (upd G (j + n) (sm (G (j + n)) 0 c)) j (n + 1) + cy (G (j + n)) 0 c * Mp (n + 1) = vr F j (n + 1) + vr b 0 n := by
  obtain ⟨h1, h2, h3, h4⟩ := H
  refine ⟨upd_U h1 (sm_U _ _ _), cy_01 (h1 _) U_zero h2, fun o ho => ?_, ?_⟩
  · unfold upd; rw [if_neg (by omega)]; exact h3 o (by omega)
  · rw [vr_upd, vr, Mp_succ]
    have e := sm_cy (G (j + n)) 0 c
    have e2 := h3 (j + n) (by omega)
    grind
/-- Behind i rounds of taking t times b off: what stands from j on, what is carried over, what is borrowed. -/
def TI (F b : Nat → Int) (t : Int) (j i : Nat) (G : Nat → Int) (c d : Int) : Prop := (∀ o, U (G o)) ∧ U c ∧ (d = 0 ∨ d = 1) ∧ (∀ o, o < j ∨ j + i ≤ o → G o = F o) ∧ vr G j i = vr F j i - t * vr b 0 i + (c + d) * Mp i
theorem TI_start {F b : Nat → Int} {t : Int} {j : Nat} (h : ∀ o, U (F o)) : TI F b t j 0 F 0 0 := ⟨h, U_zero, .inl rfl, fun _ _ => rfl, by simp [vr]⟩
theorem df_U (x y c : Int) : U (df x y c) := by unfold U df; omega
theorem df_bo {x y c : Int} (hx : U x) (hy : U y) (hc : c = 0 ∨ c = 1) : df x y c = x - y - c + bo x y c * 18446744073709551616 := by
  unfold U at hx hy; unfold df bo; split <;> omega
theorem bo_01 (x y c : Int) : bo x y c = 0 ∨ bo x y c = 1 := by unfold bo; split <;> simp
theorem TI_step {F b G : Nat → Int} {t : Int} {j i : Nat} {c d h l y : Int} (H : TI F b t j i G c d) (uh : U h) (ul : U l) (hy : y = b i) (e : h * 18446744073709551616 + l = t * y + c + 0) : TI F b t j (i + 1) (upd G (j + i) (df (G (j + i)) l d)) h (bo (G (j + i)) l d) := by
  obtain ⟨h1, h2, h3, h4, h5⟩ := H
  refine ⟨upd_U h1 (df_U _ _ _), uh, bo_01 _ _ _, fun o ho => ?_, ?_⟩
  · unfold upd; rw [if_neg (by omega)]; exact h4 o (by omega)
  · rw [vr_upd, vr, vr, Mp_succ]
    have e1 := df_bo (h1 (j + i)) ul h3
    have e2 := h4 (j + i) (by omega)
    rw [Nat.zero_add, ← hy]
    grind
/-- The last round: nothing more is to be taken off but what is carried over. -/
def LI (F b : Nat → Int) (j n : Nat) (t : Int) (G : Nat → Int) (d : Int) : Prop := (∀ o, U (G o)) ∧ (d = 0 ∨ d = 1) ∧ (∀ o, o < j ∨ j + n < o → G o = F o) ∧ vr G j (n + 1) - d * Mp (n + 1) = vr F j (n + 1) - t * vr b 0 n
theorem TI_last {F b G : Nat → Int} {t : Int} {j n : Nat} {c d : Int} (H : TI F b t j n G c d) : LI F b j n t (upd G (j + n) (df (G (j + n)) c d)) (bo (G (j + n)) c d) := by
  obtain ⟨h1, h2, h3, h4, h5⟩ := H
  refine ⟨upd_U h1 (df_U _ _ _), bo_01 _ _ _, fun o ho => ?_, ?_⟩
  · unfold upd; rw [if_neg (by omega)]; exact h4 o (by omega)
  · rw [vr_upd, vr, Mp_succ]
    have e1 := df_bo (h1 (j + n)) h2 h3
    have e2 := h4 (j + n) (by omega)
    grind
/-- One time less: b is put back. -/
theorem LI_back {F b G G' : Nat → Int} {t c : Int} {j n : Nat} (H : LI F b j n t G 1) (hU : ∀ o, U (G' o)) (hc : c = 0 ∨ c = 1) (ho : ∀ o, o < j ∨ j + n < o → G' o = G o) (e : vr G' j (n + 1) + c * Mp (n + 1) = vr G j (n + 1) + vr b 0 n) : LI F b j n (t - 1) G' (1 - c) := by
  obtain ⟨h1, h2, h3, h4⟩ := H
  refine ⟨hU, by omega, fun o h => (ho o h).trans (h3 o h), ?_⟩
  grind
end Go.Proofs.Ytengpjalkiibiaa
/- Plain arithmetic of rows: a row is parted; its parts are those of the number that it comes to. -/
namespace Go.Proofs.Ytengpjalkiibiaa
theorem vr_split (F : Nat → Int) (j a : Nat) : ∀ b, vr F j (a + b) = vr F j a + Mp a * vr F (j + a) b
  | 0 => by simp [vr]
  | b + 1 => by
    rw [← Nat.add_assoc, vr, vr_split F j a b, vr, Mp_add, Nat.add_assoc]
    grind
theorem vr_low (n : Nat) : ∀ k, vr (dg n) 0 k = lowp n k
  | 0 => by rw [vr, lowp_zero]
  | k + 1 => by rw [vr, vr_low n k, lowp_succ, Nat.zero_add]
/-- A row's parts are those of the number that it comes to. -/
theorem vr_dg {G : Nat → Int} (hU : ∀ o, U (G o)) {K N : Nat} (h : vr G 0 K = N) (k : Nat) (hk : k < K) : G k = dg N k := by
  obtain ⟨m, rfl⟩ : ∃ m, K = k + (1 + m) := ⟨K - k - 1, by omega⟩
  rw [vr_split, vr_split] at h
  have h1 := vr_bound hU 0 k
  have hp := Mp_pos k
  have h2 := (vr_bound hU (0 + k + 1) m).1
  have e1 : vr G (0 + k) 1 = G k := by simp [vr, Mp]
  have e2 : Mp 1 = 18446744073709551616 := Mp1
  rw [e1, e2] at h
  have hu := hU k
  unfold U at hu
  have q : (N : Int) / Mp k = G k + 18446744073709551616 * vr G (0 + k + 1) m := by
    rw [← h]
    rw [Int.add_mul_ediv_left _ _ (by omega), Int.ediv_eq_zero_of_lt h1.1 h1.2, Int.zero_add]
  have e3 : dg N k = (N : Int) / Mp k % 18446744073709551616 := by
    unfold dg Mp; rw [Int.natCast_emod, Int.natCast_ediv]; rfl
  rw [e3, q]
  generalize vr G (0 + k + 1) m = z at *
  omega
/-- Behind i rounds of moving up by p: what stands, and what is carried over. -/
def UI (F : Nat → Int) (p : Int) (i : Nat) (G : Nat → Int) (c : Int) : Prop := (∀ o, U (G o)) ∧ U c ∧ vr G 0 i + c * Mp i = vr F 0 i * p
theorem UI_start (F : Nat → Int) (p : Int) : UI F p 0 (fun _ => 0) 0 := ⟨fun _ => U_zero, U_zero, by simp [vr]⟩
theorem UI_step {F G : Nat → Int} {p c h l : Int} {i : Nat} (H : UI F p i G c) (uh : U h) (ul : U l) (e : h * 18446744073709551616 + l = F i * p + c + 0) : UI F p (i + 1) (upd G i l) h := by
  obtain ⟨h1, h2, h3⟩ := H
  refine ⟨upd_U h1 ul, uh, ?_⟩
  have := vr_upd (F := G) (j := 0) (k := i) (v := l)
  rw [Nat.zero_add] at this
  rw [this, vr, Mp_succ, Nat.zero_add]
  grind
theorem UI_last {F G : Nat → Int} {p c : Int} {i : Nat} (H : UI F p i G c) : (∀ o, U (upd G i c o)) ∧ vr (upd G i c) 0 (i + 1) = vr F 0 i * p := by
  obtain ⟨h1, h2, h3⟩ := H
  have := vr_upd (F := G) (j := 0) (k := i) (v := c)
  rw [Nat.zero_add] at this
  exact ⟨upd_U h1 h2, by rw [this]; exact h3⟩
theorem pow_U (s : Nat) (h : s < 64) : U ((2 : Int) ^ s) := by
  have h1 : (2 : Nat) ^ s < 2 ^ 64 := Nat.pow_lt_pow_right (by decide) h
  have h2 : ((2 ^ s : Nat) : Int) = (2 : Int) ^ s := by simp
  unfold U
  rw [← h2]
  generalize (2 : Nat) ^ s = z at *
  omega
end Go.Proofs.Ytengpjalkiibiaa
/- The two carrying calls of math/bits at this program. -/
namespace Go.Proofs.Ytengpjalkiibiaa
open Go.RowKit Go.Shelf


end Go.Proofs.Ytengpjalkiibiaa
/- word.multiplyAdd: x times y + c + d, in two parts. -/
namespace Go.Proofs.Ytengpjalkiibiaa
open Go.RowKit Go.Shelf
theorem sm_nn (x y c : Int) : 0 ≤ sm x y c := by unfold sm; omega
theorem prod_le (x y : Nat) (hx : x < 18446744073709551616) (hy : y < 18446744073709551616) : x * y ≤ 18446744073709551615 * 18446744073709551615 := Nat.mul_le_mul (by omega) (by omega)
theorem muladd_hi (x y c d h l : Nat) (hx : x < 18446744073709551616) (hy : y < 18446744073709551616) (hc : c < 18446744073709551616) (hd : d < 18446744073709551616) (hh : h = x * y / 18446744073709551616) (hl : l = x * y % 18446744073709551616) :
    IntKind.u64.wrap (IntKind.u64.wrap ((h : Int) + cy l c 0) + cy (sm l c 0) d 0) = (((x * y + c + d) / 18446744073709551616 : Nat) : Int) := by
  have := prod_le x y hx hy
  rw [IntKind.wrap_u64, IntKind.wrap_u64]
  unfold cy sm
  generalize x * y = n at *
  omega
theorem muladd_lo (x y c d l : Nat) (hl : l = x * y % 18446744073709551616) : sm (sm l c 0) d 0 = (((x * y + c + d) % 18446744073709551616 : Nat) : Int) := by
  unfold sm
  generalize x * y = n at *
  omega
end Go.Proofs.Ytengpjalkiibiaa
/- word.sum and word.Add: the sum of two words, rest 2^256, and what is carried over. -/
namespace Go.Proofs.Ytengpjalkiibiaa
open Go.RowKit Go.Shelf
attribute [local go_sem ↓] Go.wp_at_zero Go.wp_at_succ

end Go.Proofs.Ytengpjalkiibiaa
/- word.Add: the sum of two words, rest 2^256. -/
namespace Go.Proofs.Ytengpjalkiibiaa
open Go.RowKit Go.Shelf
theorem bcell {W w1 : World} (hb : Below W.heap.size W w1) : (∀ b o, b < W.heap.size → w1.cell? ⟨b, o, none⟩ = W.cell? ⟨b, o, none⟩) ∧ (∀ b o, b < W.heap.size → w1.frozen? ⟨b, o, none⟩ = W.frozen? ⟨b, o, none⟩) :=
  ⟨fun b o h => hb.cell (p := ⟨b, o, none⟩) h, fun b o h => hb.frozen (p := ⟨b, o, none⟩) h⟩
end Go.Proofs.Ytengpjalkiibiaa
/- (word.wide).low: the least four parts of eight. -/
namespace Go.Proofs.Ytengpjalkiibiaa
open Go.RowKit Go.Shelf
/-- n, rest 2^512, as eight parts. -/
def Wi (n : Nat) : Value := .agg #[.int .u64 (dg n 0), .int .u64 (dg n 1), .int .u64 (dg n 2), .int .u64 (dg n 3), .int .u64 (dg n 4), .int .u64 (dg n 5), .int .u64 (dg n 6), .int .u64 (dg n 7)]
end Go.Proofs.Ytengpjalkiibiaa
/- lampbearerref.WBytes: the 32 bytes of a word, the greatest first. -/
namespace Go.Proofs.Ytengpjalkiibiaa
open Go.RowKit Go.Shelf
/-- Byte j of n, the greatest first. -/
def bt (n j : Nat) : Int := ((n / 2 ^ (8 * (31 - j)) % 256 : Nat) : Int)
def BL (n k : Nat) : List Value := (List.range k).map fun j => .int .u8 (bt n j)
theorem BL_succ (n k : Nat) : BL n (k + 1) = BL n k ++ [.int .u8 (bt n k)] := by simp [BL, List.range_succ]
theorem BL_len (n k : Nat) : (BL n k).length = k := by simp [BL]
theorem bt_dg (a j m : Nat) (hj : j < 4) (hm : m < 8) : dg a (3 - j) / 2 ^ (56 - 8 * m) % 256 = bt a (8 * j + m) := by
  have hj' : j = 0 ∨ j = 1 ∨ j = 2 ∨ j = 3 := by omega
  have hm' : m = 0 ∨ m = 1 ∨ m = 2 ∨ m = 3 ∨ m = 4 ∨ m = 5 ∨ m = 6 ∨ m = 7 := by omega
  rcases hj' with rfl | rfl | rfl | rfl <;> rcases hm' with rfl | rfl | rfl | rfl | rfl | rfl | rfl | rfl <;> simp [dg, bt] <;> omega
theorem Try.info5 : (Try.prog.info? 5).map (fun i => (i.zero, i.size, i.bytes)) = some (some (.int .u8 0), 1, 1) := by kernel_rfl
end Go.Proofs.Ytengpjalkiibiaa
/- lampbearerref.WRead: the word of the last 32 bytes. -/
namespace Go.Proofs.Ytengpjalkiibiaa
open Go.RowKit Go.Shelf
/-- The number of k bytes of f, from place s on, the greatest first. -/
def rv (f : Nat → Nat) (s : Nat) : Nat → Nat
  | 0 => 0
  | k + 1 => rv f s k * 256 + f (s + k)
theorem rv_lt (f : Nat → Nat) (hf : ∀ j, f j < 256) (s : Nat) : ∀ k, rv f s k < 256 ^ k
  | 0 => by simp [rv]
  | k + 1 => by
    have := rv_lt f hf s k
    have := hf (s + k)
    rw [rv, Nat.pow_succ]
    omega
theorem wrap64u (n : Int) (h0 : 0 ≤ n) (h1 : n < 18446744073709551616) : IntKind.u64.wrap n = n := by rw [IntKind.wrap_u64]; omega
/-- A part moved up by a byte, with a byte behind it. -/
theorem or_byte (d x : Int) (hx : 0 ≤ x) (hx' : x < 256) : bits .or .u64 (IntKind.u64.wrap (d * 256)) x = d * 256 % 18446744073709551616 + x := by
  rw [IntKind.wrap_u64]
  exact bits_join .u64 64 (by decide) (fun n h0 h1 => wrap64u n h0 (by simpa using h1)) 8 _ _ (by omega) (by omega) (by omega) hx (by simpa using hx') (by omega)
theorem step0 (n x : Nat) (hx : x < 256) : bits .or .u64 (IntKind.u64.wrap (dg n 0 * 256)) (IntKind.u64.wrap (x : Int)) = dg (n * 256 + x) 0 := by
  rw [wrap64u (x : Int) (by omega) (by omega), or_byte _ _ (by omega) (by omega)]; simp only [dg0]; omega
theorem step1 (n x : Nat) (hx : x < 256) : bits .or .u64 (IntKind.u64.wrap (dg n 1 * 256)) (dg n 0 / 72057594037927936) = dg (n * 256 + x) 1 := by
  have := dg_nn n 0; have := dg_lt n 0
  rw [or_byte _ _ (by omega) (by omega)]; simp only [dg0, dg1]; omega
theorem step2 (n x : Nat) (hx : x < 256) : bits .or .u64 (IntKind.u64.wrap (dg n 2 * 256)) (dg n 1 / 72057594037927936) = dg (n * 256 + x) 2 := by
  have := dg_nn n 1; have := dg_lt n 1
  rw [or_byte _ _ (by omega) (by omega)]; simp only [dg1, dg2]; omega
theorem step3 (n x : Nat) (hx : x < 256) : bits .or .u64 (IntKind.u64.wrap (dg n 3 * 256)) (dg n 2 / 72057594037927936) = dg (n * 256 + x) 3 := by
  have := dg_nn n 2; have := dg_lt n 2
  rw [or_byte _ _ (by omega) (by omega)]; simp only [dg2, dg3]; omega
/-- The bytes of a word, read again. -/
theorem rv_bt (a : Nat) (ha : a < 2 ^ 256) : ∀ k, k ≤ 32 → rv (fun j => a / 2 ^ (8 * (31 - j)) % 256) 0 k = a / 2 ^ (8 * (32 - k))
  | 0, _ => by
    simp only [rv]
    rw [Nat.div_eq_of_lt (by simpa using ha)]
  | k + 1, hk => by
    rw [rv, rv_bt a ha k (by omega), Nat.zero_add, show 8 * (32 - k) = 8 * (32 - (k + 1)) + 8 by omega, Nat.pow_add, ← Nat.div_div_eq_div_mul, show 31 - k = 32 - (k + 1) by omega]
    omega
end Go.Proofs.Ytengpjalkiibiaa
/- Plain arithmetic on the bytes of words: a sum and a difference, byte by byte. -/
namespace Go.Proofs.Ytengpjalkiibiaa
open Go.RowKit
theorem bt_nn (a j : Nat) : 0 ≤ bt a j := Int.natCast_nonneg _
theorem bt_le (a j : Nat) : bt a j ≤ 255 := by
  unfold bt
  have : a / 2 ^ (8 * (31 - j)) % 256 < 256 := Nat.mod_lt _ (by decide)
  omega
/-- What is carried over out of the bytes from place k on. -/
def cb (a b k : Nat) : Int := (((a % 2 ^ (8 * (32 - k)) + b % 2 ^ (8 * (32 - k))) / 2 ^ (8 * (32 - k)) : Nat) : Int)
/-- What is borrowed by the bytes from place k on. -/
def bb (a b k : Nat) : Int := if a % 2 ^ (8 * (32 - k)) < b % 2 ^ (8 * (32 - k)) then 1 else 0
theorem cb_nn (a b k : Nat) : 0 ≤ cb a b k := Int.natCast_nonneg _
theorem cb_le (a b k : Nat) : cb a b k ≤ 1 := by
  unfold cb
  have h : 0 < 2 ^ (8 * (32 - k)) := Nat.two_pow_pos _
  have h1 := Nat.mod_lt a h
  have h2 := Nat.mod_lt b h
  have : (a % 2 ^ (8 * (32 - k)) + b % 2 ^ (8 * (32 - k))) / 2 ^ (8 * (32 - k)) < 2 := (Nat.div_lt_iff_lt_mul h).2 (by omega)
  omega
theorem bb_nn (a b k : Nat) : 0 ≤ bb a b k := by unfold bb; split <;> decide
theorem bb_le (a b k : Nat) : bb a b k ≤ 1 := by unfold bb; split <;> decide
theorem add_div_split (a b X : Nat) (hX : 0 < X) : (a + b) / X = a / X + b / X + (a % X + b % X) / X := by
  have ha := Nat.div_add_mod a X
  have hb := Nat.div_add_mod b X
  have : a + b = (a % X + b % X) + X * (a / X + b / X) := by rw [Nat.mul_add]; omega
  rw [this, Nat.add_mul_div_left _ _ hX]; omega
theorem byte_sum (a b X : Nat) (hX : 0 < X) : (a / X % 256 + b / X % 256 + (a % X + b % X) / X) % 256 = (a + b) / X % 256 := by
  rw [add_div_split a b X hX]; omega
theorem byte_carry (a b X : Nat) (hX : 0 < X) : (a / X % 256 + b / X % 256 + (a % X + b % X) / X) / 256 = (a % (X * 256) + b % (X * 256)) / (X * 256) := by
  rw [Nat.mod_mul, Nat.mod_mul, ← Nat.div_div_eq_div_mul]
  have : a % X + X * (a / X % 256) + (b % X + X * (b / X % 256)) = (a % X + b % X) + X * (a / X % 256 + b / X % 256) := by rw [Nat.mul_add]; omega
  rw [this, Nat.add_mul_div_left _ _ hX]; congr 1; omega
theorem add_byte (a b p : Nat) (hp : p < 32) : (bt a p + bt b p + cb a b (p + 1)) % 256 = bt (a + b) p ∧ (bt a p + bt b p + cb a b (p + 1)) / 256 = cb a b p := by
  have h : 0 < 2 ^ (8 * (31 - p)) := Nat.two_pow_pos _
  have h1 := byte_sum a b _ h
  have h2 := byte_carry a b _ h
  unfold bt cb
  rw [show 32 - (p + 1) = 31 - p by omega, show 8 * (32 - p) = 8 * (31 - p) + 8 by omega, Nat.pow_add]
  rw [show (2 : Nat) ^ 8 = 256 by decide, ← h1, ← h2]
  constructor <;> omega
theorem cb_top (a b : Nat) : cb a b 32 = 0 := by simp [cb, Nat.mod_one]
theorem bb_top (a b : Nat) : bb a b 32 = 0 := by simp [bb, Nat.mod_one]
/-- What ra borrows of rb. -/
def lt1 (x y : Nat) : Nat := if x < y then 1 else 0
theorem byte_dif (a b X Y : Nat) (hX : 0 < X) (hb : b < X * (256 * Y)) : (((a / X % 256 : Nat) : Int) - ((b / X % 256 : Nat) : Int) - (lt1 (a % X) (b % X) : Int)) % 256 = (((a + X * (256 * Y) - b) / X % 256 : Nat) : Int) := by
  have ha := Nat.div_add_mod a X
  have hb' := Nat.div_add_mod b X
  have hra := Nat.mod_lt a hX
  have hrb := Nat.mod_lt b hX
  have hq : b / X < 256 * Y := (Nat.div_lt_iff_lt_mul hX).2 (by rw [Nat.mul_comm]; exact hb)
  have hl : lt1 (a % X) (b % X) ≤ 1 := by unfold lt1; split <;> decide
  generalize a / X = qa at *
  generalize b / X = qb at *
  generalize a % X = ra at *
  generalize b % X = rb at *
  obtain ⟨k, hk⟩ : ∃ k, k + (qb + lt1 ra rb) = qa + 256 * Y := ⟨qa + 256 * Y - (qb + lt1 ra rb), by omega⟩
  have hkX : X * k + (X * (qb) + X * lt1 ra rb) = X * (qa) + X * (256 * Y) := by rw [← Nat.mul_add, ← Nat.mul_add, ← Nat.mul_add, hk]
  have e : (a + X * (256 * Y) - b) / X = k := by
    apply Nat.div_eq_of_lt_le
    · rw [Nat.mul_comm k X]
      unfold lt1 at hkX
      split at hkX <;> simp only [Nat.mul_one, Nat.mul_zero] at hkX <;> omega
    · rw [Nat.mul_comm (k + 1) X, Nat.mul_add, Nat.mul_one]
      unfold lt1 at hkX
      split at hkX <;> simp only [Nat.mul_one, Nat.mul_zero] at hkX <;> omega
  rw [e]
  omega
theorem byte_bor (a b X : Nat) (hX : 0 < X) : ((a / X % 256 : Nat) : Int) - ((b / X % 256 : Nat) : Int) - (lt1 (a % X) (b % X) : Int) < 0 ↔ a % (X * 256) < b % (X * 256) := by
  rw [Nat.mod_mul, Nat.mod_mul]
  have hra := Nat.mod_lt a hX
  have hrb := Nat.mod_lt b hX
  generalize a / X % 256 = x
  generalize b / X % 256 = y
  generalize a % X = r at *
  generalize b % X = t at *
  rcases Nat.lt_trichotomy x y with h | h | h
  · have := Nat.mul_le_mul_left X (show x + 1 ≤ y from h)
    rw [Nat.mul_add] at this
    unfold lt1
    split <;> constructor <;> intro _ <;> omega
  · subst h
    unfold lt1
    split <;> constructor <;> intro _ <;> omega
  · have := Nat.mul_le_mul_left X (show y + 1 ≤ x from h)
    rw [Nat.mul_add] at this
    unfold lt1
    split <;> constructor <;> intro _ <;> omega
theorem sub_byte (a b p : Nat) (hb : b < 2 ^ 256) (hp : p < 32) : (bt a p - bt b p - bb a b (p + 1)) % 256 = bt (a + 2 ^ 256 - b) p ∧ (bt a p - bt b p - bb a b (p + 1) < 0 ↔ bb a b p = 1) := by
  have h : 0 < 2 ^ (8 * (31 - p)) := Nat.two_pow_pos _
  have e : (2 : Nat) ^ 256 = 2 ^ (8 * (31 - p)) * (256 * 2 ^ (248 - 8 * (31 - p))) := by
    rw [show (256 : Nat) = 2 ^ 8 by decide, ← Nat.pow_add, ← Nat.pow_add]; congr 1; omega
  have h1 := byte_dif a b _ (2 ^ (248 - 8 * (31 - p))) h (by rw [← e]; exact hb)
  have h2 := byte_bor a b _ h
  have e1 : bb a b (p + 1) = (lt1 (a % 2 ^ (8 * (31 - p))) (b % 2 ^ (8 * (31 - p))) : Int) := by
    unfold bb lt1
    rw [show 32 - (p + 1) = 31 - p by omega]
    split <;> rfl
  have e2 : bb a b p = 1 ↔ a % (2 ^ (8 * (31 - p)) * 256) < b % (2 ^ (8 * (31 - p)) * 256) := by
    unfold bb
    rw [show 8 * (32 - p) = 8 * (31 - p) + 8 by omega, Nat.pow_add, show (2 : Nat) ^ 8 = 256 by decide]
    split <;> simp_all
  rw [e1, e2, ← h2]
  unfold bt
  refine ⟨?_, Iff.rfl⟩
  rw [e]
  exact h1
theorem bt_mod (n j : Nat) : (n % 2 ^ 256) / 2 ^ (8 * (31 - j)) % 256 = n / 2 ^ (8 * (31 - j)) % 256 := by
  have e : (2 : Nat) ^ 256 = 2 ^ (8 * (31 - j)) * (256 * 2 ^ (248 - 8 * (31 - j))) := by
    rw [show (256 : Nat) = 2 ^ 8 by decide, ← Nat.pow_add, ← Nat.pow_add]; congr 1; omega
  rw [e, Nat.mod_mul_right_div_self, Nat.mod_mul_right_mod]
theorem dg_mod (n i : Nat) (hi : i < 4) : dg (n % 2 ^ 256) i = dg n i := by
  have : i = 0 ∨ i = 1 ∨ i = 2 ∨ i = 3 := by omega
  rcases this with rfl | rfl | rfl | rfl
  · simp only [dg0]; omega
  · simp only [dg1]; omega
  · simp only [dg2]; omega
  · simp only [dg3]; omega
theorem Wd_mod (n : Nat) : Wd (n % 2 ^ 256) = Wd n := by
  unfold Wd
  rw [dg_mod n 0 (by decide), dg_mod n 1 (by decide), dg_mod n 2 (by decide), dg_mod n 3 (by decide)]
theorem rv_congr (f g : Nat → Nat) (s : Nat) (h : ∀ j, f j = g j) : ∀ k, rv f s k = rv g s k
  | 0 => rfl
  | k + 1 => by rw [rv, rv, rv_congr f g s h k, h]
/-- What the 32 bytes of n come to. -/
theorem Wd_rv (n : Nat) : Wd (rv (fun j => n / 2 ^ (8 * (31 - j)) % 256) 0 32) = Wd n := by
  rw [rv_congr _ (fun j => (n % 2 ^ 256) / 2 ^ (8 * (31 - j)) % 256) 0 (fun j => (bt_mod n j).symm), rv_bt _ (Nat.mod_lt _ (by decide)) 32 (by decide)]
  simp only [Nat.sub_self, Nat.mul_zero, Nat.pow_zero, Nat.div_one]
  exact Wd_mod n
/-- A row stays owned where its block is as it was. -/
theorem owns_below {B base n size : Nat} {e : TypeId} {v : Value} {xs : List Value} {w w' : World} (h : w.ownsRow base e size v n xs) (hb : Below B w w') (hlt : ∀ g, v.ownBlock = some g → g < B) : w'.ownsRow base e size v n xs := by
  refine ⟨h.1, ?_⟩
  rcases h.2 with h0 | ⟨g, cap, cur, hv, hg, hr, hrest⟩
  · exact .inl h0
  · exact .inr ⟨g, cap, cur, hv, hg, (hb.block g (hlt g (by rw [hv]; rfl))).trans hr, hrest⟩
/-- The 32 bytes of block g are F's; and none of its cells is frozen. -/
def R32 (g : Nat) (F : Nat → Int) (w : World) : Prop := ∀ j, j < 32 → w.cell? ⟨g, j, none⟩ = some (.int .u8 (F j))
def Fz (g : Nat) (w : World) : Prop := ∀ j, w.frozen? ⟨g, j, none⟩ = false
theorem BL_get (n k j : Nat) (h : j < k) : (BL n k)[j]? = some (.int .u8 (bt n j)) := by
  simp [BL, List.getElem?_map, List.getElem?_range h]
theorem R32_own {base e g cap n : Nat} {w : World} (h : w.ownsRow base e 1 (.slice (some ⟨g, 0, none⟩) 32 cap) 32 (BL n 32)) : R32 g (bt n) w := fun j hj => by
  rw [h.cellAt j (by omega), BL_get n 32 j hj]
theorem Fz_own {base e g cap n : Nat} {xs : List Value} {w : World} (h : w.ownsRow base e 1 (.slice (some ⟨g, 0, none⟩) n cap) n xs) : Fz g w := fun j => h.frozenAt j
theorem R32_below {B g : Nat} {F : Nat → Int} {w w' : World} (h : R32 g F w) (hb : Below B w w') (hg : g < B) : R32 g F w' := fun j hj => (hb.cell (p := ⟨g, j, none⟩) hg).trans (h j hj)
theorem Fz_below {B g : Nat} {w w' : World} (h : Fz g w) (hb : Below B w w') (hg : g < B) : Fz g w' := fun j => (hb.frozen (p := ⟨g, j, none⟩) hg).trans (h j)
theorem R32_drew {g : Nat} {F : Nat → Int} {w : World} (h : R32 g F w) : R32 g F w.drew := h
theorem Fz_drew {g : Nat} {w : World} (h : Fz g w) : Fz g w.drew := h
theorem R32_other {g : Nat} {F : Nat → Int} {w : World} {a : Addr} {v : Value} (h : R32 g F w) (hne : a.block ≠ g) : R32 g F (w.setCell a v) := fun j hj => by
  rw [World.cell?_setCell_other w a _ v (fun e => hne (by rw [e]))]; exact h j hj
theorem Fz_set {g : Nat} {w : World} {a : Addr} {v : Value} (h : Fz g w) : Fz g (w.setCell a v) := fun j => by
  rw [World.frozen?_setCell]; exact h j
theorem R32_set {g p : Nat} {F G : Nat → Int} {w : World} {v : Int} (h : R32 g F w) (hp : p < 32) (hv : G p = v) (hF : ∀ j, j < 32 → j ≠ p → G j = F j) : R32 g G (w.setCell ⟨g, p, none⟩ (.int .u8 v)) := fun j hj => by
  by_cases e : j = p
  · subst e; rw [World.cell?_setCell_same _ _ _ (h j hj), hv]
  · rw [World.cell?_setCell_other w ⟨g, p, none⟩ ⟨g, j, none⟩ _ (fun e' => e (by simpa using e'.symm)), h j hj, hF j hj e]
theorem own_cap {base e g cap n size : Nat} {xs : List Value} {w : World} (h : w.ownsRow base e size (.slice (some ⟨g, 0, none⟩) n cap) n xs) : n ≤ cap := by
  rcases h.2 with ⟨h0, _⟩ | ⟨g', cap', cur, hv, _, _, hc, _⟩
  · cases h0
  · cases hv; exact hc
theorem R32_drewN {g m : Nat} {F : Nat → Int} {w : World} (h : R32 g F w) : R32 g F (w.drewN m) := fun j hj => by
  have := h j hj; simpa using this
theorem Fz_drewN {g m : Nat} {w : World} (h : Fz g w) : Fz g (w.drewN m) := fun j => by
  have := h j; simpa using this
/-- The bytes of a up to place k, of n from there on. -/
def mixb (a n k j : Nat) : Int := if j < k then bt a j else bt n j
theorem mix_top (a n j : Nat) (hj : j < 32) : mixb a n 32 j = bt a j := by simp [mixb, hj]
theorem mix_zero (a n j : Nat) : mixb a n 0 j = bt n j := by simp [mixb]
theorem mix_at (a n p : Nat) : mixb a n (p + 1) p = bt a p := by simp [mixb]
theorem mix_new (a n p : Nat) : mixb a n p p = bt n p := by simp [mixb]
theorem mix_old (a n p j : Nat) (h : j ≠ p) : mixb a n p j = mixb a n (p + 1) j := by
  unfold mixb; split <;> split <;> first | rfl | omega
theorem R32_mix {g a n p : Nat} {w : World} (h : R32 g (mixb a n (p + 1)) w) (hp : p < 32) : R32 g (mixb a n p) (w.setCell ⟨g, p, none⟩ (.int .u8 (bt n p))) :=
  R32_set h hp (mix_new a n p) fun j _ hne => mix_old a n p j hne
end Go.Proofs.Ytengpjalkiibiaa
/- lampbearerref.WAdd: the sum of two words, byte by byte. -/
namespace Go.Proofs.Ytengpjalkiibiaa
open Go.RowKit Go.Shelf
attribute [local go_sem ↓] Go.wp_at_zero Go.wp_at_succ

end Go.Proofs.Ytengpjalkiibiaa
/- lampbearerref.WSub: the difference of two words, byte by byte. -/
namespace Go.Proofs.Ytengpjalkiibiaa
open Go.RowKit Go.Shelf
attribute [local go_sem ↓] Go.wp_at_zero Go.wp_at_succ

end Go.Proofs.Ytengpjalkiibiaa
/- lampbearerref.WBit: one bit of a word. -/
namespace Go.Proofs.Ytengpjalkiibiaa
open Go.RowKit Go.Shelf
/-- Bit i of a. -/
def wb (a i : Nat) : Bool := decide (a / 2 ^ i % 2 = 1)
theorem wb_bt (a i : Nat) (h : i < 256) : ((bt a (31 - i / 8) / 2 ^ (i % 8)).tmod 2 == 1) = wb a i := by
  have e : (bt a (31 - i / 8) / 2 ^ (i % 8) % 2 : Int) = ((a / 2 ^ i % 2 : Nat) : Int) := by
    have h1 : 8 * (31 - (31 - i / 8)) = 8 * (i / 8) := by omega
    have h2 : a / 2 ^ i = a / 2 ^ (8 * (i / 8)) / 2 ^ (i % 8) := by rw [Nat.div_div_eq_div_mul, ← Nat.pow_add]; congr 2; omega
    have h3 : i % 8 = 0 ∨ i % 8 = 1 ∨ i % 8 = 2 ∨ i % 8 = 3 ∨ i % 8 = 4 ∨ i % 8 = 5 ∨ i % 8 = 6 ∨ i % 8 = 7 := by omega
    unfold bt
    rw [h1, h2]
    generalize a / 2 ^ (8 * (i / 8)) = n
    generalize i % 8 = r at *
    rcases h3 with rfl | rfl | rfl | rfl | rfl | rfl | rfl | rfl <;> simp <;> omega
  rw [Int.tmod_eq_emod_of_nonneg (Int.ediv_nonneg (bt_nn _ _) (Int.le_of_lt (Int.pow_pos (by decide)))), e]
  unfold wb
  generalize a / 2 ^ i % 2 = z at *
  rw [Bool.eq_iff_iff, beq_iff_eq, decide_eq_true_iff]
  omega
theorem wb_step (b i : Nat) : b / 2 ^ i = 2 * (b / 2 ^ (i + 1)) + if wb b i = true then 1 else 0 := by
  rw [Nat.pow_succ, ← Nat.div_div_eq_div_mul]
  unfold wb
  split <;> rename_i h <;> simp at h <;> omega
end Go.Proofs.Ytengpjalkiibiaa
/- lampbearerref.WMul: the product of two words, by doubling. -/
namespace Go.Proofs.Ytengpjalkiibiaa
open Go.RowKit Go.Shelf
/-- The four cells of block g are n's parts; none is frozen. -/
def C4 (g n : Nat) (w : World) : Prop := ∀ o, o < 4 → w.cell? ⟨g, o, none⟩ = some (.int .u64 (dg n o))
theorem C4_below {B g n : Nat} {w w' : World} (h : C4 g n w) (hb : Below B w w') (hg : g < B) : C4 g n w' := fun j hj => (hb.cell (p := ⟨g, j, none⟩) hg).trans (h j hj)
theorem C4_alloc (n : Nat) (w : World) (T : TypeId) : C4 w.heap.size n (w.alloc (.cells #[.int .u64 (dg n 0), .int .u64 (dg n 1), .int .u64 (dg n 2), .int .u64 (dg n 3)] T)) := fun o ho => by
  have : o = 0 ∨ o = 1 ∨ o = 2 ∨ o = 3 := by omega
  rcases this with rfl | rfl | rfl | rfl <;> simp
theorem Fz_alloc (w : World) (c : Array Value) (T : TypeId) : Fz w.heap.size (w.alloc (.cells c T)) := fun o => by simp [go_sem]
theorem C4_set {g n m : Nat} {w : World} (h : C4 g n w) : C4 g m ((((w.setCell ⟨g, 0, none⟩ (.int .u64 (dg m 0))).setCell ⟨g, 1, none⟩ (.int .u64 (dg m 1))).setCell ⟨g, 2, none⟩ (.int .u64 (dg m 2))).setCell ⟨g, 3, none⟩ (.int .u64 (dg m 3))) := fun o ho => by
  have h0 := h 0 (by decide)
  have h1 := h 1 (by decide)
  have h2 := h 2 (by decide)
  have h3 := h 3 (by decide)
  have : o = 0 ∨ o = 1 ∨ o = 2 ∨ o = 3 := by omega
  rcases this with rfl | rfl | rfl | rfl <;> simp [go_sem, h0, h1, h2, h3]
theorem C4_other {g n : Nat} {w : World} {a : Addr} {v : Value} (h : C4 g n w) (hne : a.block ≠ g) : C4 g n (w.setCell a v) := fun j hj => by
  rw [World.cell?_setCell_other w a _ v (fun e => hne (by rw [e]))]; exact h j hj
end Go.Proofs.Ytengpjalkiibiaa
/- word.product and word.Mul: the whole product of two words, and the product rest 2^256. -/
namespace Go.Proofs.Ytengpjalkiibiaa
open Go.RowKit Go.Shelf
attribute [local go_sem ↓] Go.wp_at_zero Go.wp_at_succ
/-- The cells of block g are F's, n of them. -/
def CF (g n : Nat) (F : Nat → Int) (w : World) : Prop := ∀ o, o < n → w.cell? ⟨g, o, none⟩ = some (.int .u64 (F o))
theorem CF_set {g n k : Nat} {F : Nat → Int} {w : World} {v : Int} (h : CF g n F w) (hk : k < n) : CF g n (upd F k v) (w.setCell ⟨g, k, none⟩ (.int .u64 v)) := fun o ho => by
  unfold upd
  by_cases e : o = k
  · subst e; rw [World.cell?_setCell_same _ _ _ (h o hk), if_pos rfl]
  · rw [World.cell?_setCell_other w ⟨g, k, none⟩ ⟨g, o, none⟩ _ (fun e' => e (by simpa using e'.symm)), h o ho, if_neg e]
theorem CF_below {B g n : Nat} {F : Nat → Int} {w w' : World} (h : CF g n F w) (hb : Below B w w') (hg : g < B) : CF g n F w' := fun j hj => (hb.cell (p := ⟨g, j, none⟩) hg).trans (h j hj)
theorem CF_other {g n : Nat} {F : Nat → Int} {w : World} {a : Addr} {v : Value} (h : CF g n F w) (hne : a.block ≠ g) : CF g n F (w.setCell a v) := fun j hj => by
  rw [World.cell?_setCell_other w a _ v (fun e => hne (by rw [e]))]; exact h j hj
theorem CF_drew {g n : Nat} {F : Nat → Int} {w : World} (h : CF g n F w) : CF g n F w.drew := h
theorem C4_drew {g n : Nat} {w : World} (h : C4 g n w) : C4 g n w.drew := h
theorem CF_ext {g n : Nat} {F G : Nat → Int} {w : World} (h : CF g n F w) (e : ∀ o, o < n → F o = G o) : CF g n G w := fun o ho => by rw [h o ho, e o ho]
theorem C8_set {g n : Nat} {F : Nat → Int} {w : World} (h : CF g 8 F w) : CF g 8 (dg n) ((((((((w.setCell ⟨g, 0, none⟩ (.int .u64 (dg n 0))).setCell ⟨g, 1, none⟩ (.int .u64 (dg n 1))).setCell ⟨g, 2, none⟩ (.int .u64 (dg n 2))).setCell ⟨g, 3, none⟩ (.int .u64 (dg n 3))).setCell ⟨g, 4, none⟩ (.int .u64 (dg n 4))).setCell ⟨g, 5, none⟩ (.int .u64 (dg n 5))).setCell ⟨g, 6, none⟩ (.int .u64 (dg n 6))).setCell ⟨g, 7, none⟩ (.int .u64 (dg n 7))) := by
  refine CF_ext (CF_set (CF_set (CF_set (CF_set (CF_set (CF_set (CF_set (CF_set h (k := 0) (by decide)) (k := 1) (by decide)) (k := 2) (by decide)) (k := 3) (by decide)) (k := 4) (by decide)) (k := 5) (by decide)) (k := 6) (by decide)) (k := 7) (by decide)) (fun o ho => ?_)
  have : o = 0 ∨ o = 1 ∨ o = 2 ∨ o = 3 ∨ o = 4 ∨ o = 5 ∨ o = 6 ∨ o = 7 := by omega
  rcases this with rfl | rfl | rfl | rfl | rfl | rfl | rfl | rfl <;> simp [upd]
end Go.Proofs.Ytengpjalkiibiaa
/- word.Int and lampbearerref.WInt; word.bitLength. -/
namespace Go.Proofs.Ytengpjalkiibiaa
open Go.RowKit Go.Shelf
theorem dg_small (n : Nat) (h : n < 18446744073709551616) : dg n 0 = (n : Int) ∧ dg n 1 = 0 ∧ dg n 2 = 0 ∧ dg n 3 = 0 := by
  rw [dg0, dg1, dg2, dg3]; omega
theorem wd_small (n : Nat) (h : n < 18446744073709551616) : Value.agg #[.int .u64 (n : Int), .int .u64 0, .int .u64 0, .int .u64 0] = Wd n := by
  obtain ⟨h0, h1, h2, h3⟩ := dg_small n h
  exact wd_of h0.symm h1.symm h2.symm h3.symm
/-- Where the parts above i are 0, and part i is not: how many bits a has. -/
theorem bl_at (a i : Nat) (ha : a < 2 ^ (64 * (i + 1))) : (dg a i).toNat = a / 2 ^ (64 * i) := by
  unfold dg
  rw [Int.toNat_natCast, Nat.mod_eq_of_lt]
  rw [Nat.div_lt_iff_lt_mul (Nat.two_pow_pos _), show (18446744073709551616 : Nat) = 2 ^ 64 by decide, ← Nat.pow_add]
  have : 64 + 64 * i = 64 * (i + 1) := by omega
  rw [this]; exact ha
theorem bitLenAux_zero : ∀ f, Lib.bitLenAux f 0 = 0
  | 0 => rfl
  | _ + 1 => by simp [Lib.bitLenAux]
theorem bitLenAux_spec : ∀ (f x : Nat), x < 2 ^ f → Lib.bitLenAux f x ≤ f ∧ x < 2 ^ Lib.bitLenAux f x ∧ (x ≠ 0 → 1 ≤ Lib.bitLenAux f x ∧ 2 ^ (Lib.bitLenAux f x - 1) ≤ x)
  | 0, x, h => by
    have : x = 0 := by simpa using h
    subst this
    simp [Lib.bitLenAux]
  | f + 1, x, h => by
    by_cases h0 : x = 0
    · subst h0; simp [Lib.bitLenAux]
    · obtain ⟨h1, h2, h3⟩ := bitLenAux_spec f (x / 2) (by rw [Nat.pow_succ] at h; omega)
      simp only [Lib.bitLenAux, h0, if_false]
      by_cases hx : x / 2 = 0
      · rw [hx, bitLenAux_zero]
        have : x = 1 := by omega
        subst this
        simp
      · obtain ⟨h4, h5⟩ := h3 hx
        generalize Lib.bitLenAux f (x / 2) = m at *
        refine ⟨by omega, by rw [Nat.add_comm, Nat.pow_succ]; omega, fun _ => ⟨by omega, ?_⟩⟩
        rw [show 1 + m - 1 = (m - 1) + 1 by omega, Nat.pow_succ]
        omega
theorem bitLen_spec (x : Nat) (h : x < 18446744073709551616) : Lib.bitLen x ≤ 64 ∧ x < 2 ^ Lib.bitLen x ∧ (x ≠ 0 → 1 ≤ Lib.bitLen x ∧ 2 ^ (Lib.bitLen x - 1) ≤ x) := bitLenAux_spec 64 x (by simpa using h)
/-- L bits are a's, and none fewer. -/
def BL2 (a L : Nat) : Prop := L ≤ 256 ∧ a < 2 ^ L ∧ (a ≠ 0 → 1 ≤ L ∧ 2 ^ (L - 1) ≤ a)
theorem BL2_part (a i : Nat) (hi : i < 4) (ha : a < 2 ^ (64 * (i + 1))) (h0 : dg a i ≠ 0) : BL2 a (64 * i + Lib.bitLen (dg a i).toNat) := by
  have hb := bl_at a i ha
  have hn := dg_nn a i
  have hl := dg_lt a i
  obtain ⟨h1, h2, h3⟩ := bitLen_spec (dg a i).toNat (by omega)
  obtain ⟨h4, h5⟩ := h3 (by omega)
  rw [hb] at h1 h2 h4 h5 ⊢
  generalize Lib.bitLen (a / 2 ^ (64 * i)) = m at *
  have hp : 0 < 2 ^ (64 * i) := Nat.two_pow_pos _
  refine ⟨by omega, ?_, fun _ => ⟨by omega, ?_⟩⟩
  · rw [Nat.pow_add, Nat.mul_comm]; exact (Nat.div_lt_iff_lt_mul hp).1 h2
  · rw [show 64 * i + m - 1 = 64 * i + (m - 1) by omega, Nat.pow_add, Nat.mul_comm]; exact (Nat.le_div_iff_mul_le hp).1 h5
theorem lt_part (a i : Nat) (ha : a < 2 ^ (64 * (i + 1))) (h0 : dg a i = 0) : a < 2 ^ (64 * i) := by
  have hb := bl_at a i ha
  rw [h0] at hb
  exact Nat.lt_of_div_eq_zero (Nat.two_pow_pos _) (by simpa using hb.symm)
end Go.Proofs.Ytengpjalkiibiaa
/- math/bits.Div64, where the divisor's uppermost bit is set: the quotient and the rest of two parts by one. -/
namespace Go.Proofs.Ytengpjalkiibiaa
open Go.RowKit Go.Shelf
theorem bitLen_top (y : Nat) (h : 9223372036854775808 ≤ y) (h' : y < 18446744073709551616) : Lib.bitLen y = 64 := by
  obtain ⟨h1, h2, _⟩ := bitLen_spec y h'
  have : ¬ Lib.bitLen y ≤ 63 := fun hle => by
    have := Nat.pow_le_pow_right (show 0 < 2 by decide) hle
    omega
  omega
theorem or_zero (x : Int) (h0 : 0 ≤ x) (h1 : x < 18446744073709551616) : bits .or .u64 x 0 = x := by
  have := bits_join .u64 64 (by decide) (fun n h0 h1 => wrap64u n h0 (by simpa using h1)) 0 x 0 h0 (by simp) (by simpa using h1) (by decide) (by decide) (by decide)
  simpa using this
theorem and_mask (x : Int) (h0 : 0 ≤ x) (h1 : x < 18446744073709551616) : bits .and .u64 x 4294967295 = x % 4294967296 := by
  obtain ⟨x, rfl⟩ := Int.eq_ofNat_of_zero_le h0
  have h := bits_and_u64_nat x 4294967295 (by omega) (by decide)
  rw [show (4294967295 : Nat) = 2 ^ 32 - 1 by decide, Nat.and_two_pow_sub_one_eq_mod] at h
  simpa using h
theorem wrapu (n : Int) (h0 : 0 ≤ n) (h1 : n < 18446744073709551616) : IntKind.u64.wrap n = n := wrap64u n h0 h1
theorem mul_lt32 {q v : Int} (h0 : 0 ≤ q) (h1 : q < 4294967296) (h2 : 0 ≤ v) (h3 : v < 4294967296) : q * v ≤ 4294967295 * 4294967295 := Int.mul_le_mul (by omega) (by omega) h2 (by omega)
theorem QI_up {u d y q r : Int} (h : SI u d y) (hq : QI u d y q r) : q ≤ u + 1 ∧ u < 18446744073709551616 := by
  obtain ⟨r0, e, _⟩ := hq
  obtain ⟨h1, h2, h3, h4, h5, h6⟩ := h
  refine ⟨Int.not_lt.1 fun hlt => ?_, by omega⟩
  have := Int.mul_le_mul_of_nonneg_left (show (1 : Int) ≤ y / 4294967296 by omega) (show 0 ≤ q by omega)
  omega
/-- Names for what the walk reckons between the two steps. -/
theorem next_names (hi lo d1 d0 y T : Int) (h : SI hi d1 y) (hl : lo = d1 * 4294967296 + d0 ∧ 0 ≤ d0 ∧ d0 < 4294967296) (hT : (hi * 4294967296 + d1) / y = T) : ∃ u m0 m2 m3 : Int, IntKind.u64.wrap (hi * 4294967296) = m0 ∧ IntKind.u64.wrap (m0 + d1) = m2 ∧ IntKind.u64.wrap (T * y) = m3 ∧ IntKind.u64.wrap (m2 - m3) = u ∧ u = hi * 4294967296 + d1 - T * y ∧ SI u d0 y := by
  obtain ⟨h1, h2, h3, h4, h5, h6⟩ := h
  have e := Int.mul_ediv_add_emod (hi * 4294967296 + d1) y
  have r0 := Int.emod_nonneg (hi * 4294967296 + d1) (show y ≠ 0 by omega)
  have r1 := Int.emod_lt_of_pos (hi * 4294967296 + d1) (show 0 < y by omega)
  rw [hT, Int.mul_comm] at e
  refine ⟨hi * 4294967296 + d1 - T * y, _, _, _, rfl, rfl, rfl, ?_, rfl, h1, h2, by omega, by omega, hl.2⟩
  simp only [IntKind.wrap_u64]
  generalize T * y = z at *
  omega
/-- Names for what the walk reckons behind the two steps; what they come to. -/
theorem last_names (hi lo d1 d0 y T u T0 : Int) (h : SI hi d1 y) (hl : lo = d1 * 4294967296 + d0 ∧ 0 ≤ d0 ∧ d0 < 4294967296) (hT : (hi * 4294967296 + d1) / y = T) (hu : u = hi * 4294967296 + d1 - T * y) (h' : SI u d0 y) (hT0 : (u * 4294967296 + d0) / y = T0) :
    ∃ k1 k2 k3 k4 k5 : Int, IntKind.u64.wrap (T * 4294967296) = k1 ∧ IntKind.u64.wrap (u * 4294967296) = k2 ∧ IntKind.u64.wrap (k2 + d0) = k3 ∧ IntKind.u64.wrap (T0 * y) = k4 ∧ IntKind.u64.wrap (k3 - k4) = k5 ∧ (hi * 18446744073709551616 + lo) / y = IntKind.u64.wrap (k1 + T0) ∧ (hi * 18446744073709551616 + lo) % y = k5 := by
  have hq := quo_lt h
  have hq' := quo_lt h'
  rw [hT] at hq
  rw [hT0] at hq'
  obtain ⟨h1, h2, h3, h4, h5, h6⟩ := h
  have e := Int.mul_ediv_add_emod (u * 4294967296 + d0) y
  have r0 := Int.emod_nonneg (u * 4294967296 + d0) (show y ≠ 0 by omega)
  have r1 := Int.emod_lt_of_pos (u * 4294967296 + d0) (show 0 < y by omega)
  rw [hT0, Int.mul_comm] at e
  have hN : hi * 18446744073709551616 + lo = (T * 4294967296 + T0) * y + (u * 4294967296 + d0 - T0 * y) := by
    have := hl.1
    grind
  obtain ⟨g1, g2⟩ := quo_rest (y := y) (by omega) hN (by omega) (by omega)
  refine ⟨_, _, _, _, _, rfl, rfl, rfl, rfl, rfl, ?_, ?_⟩
  · rw [g1]
    simp only [IntKind.wrap_u64]
    omega
  · rw [g2]
    simp only [IntKind.wrap_u64]
    generalize T0 * y = z at *
    omega
/-- Names for what the walk reckons ahead of a step. -/
theorem step_names (u d y : Int) (h : SI u d y) : ∃ q m r : Int, IntKind.u64.wrap (u.tdiv (y / 4294967296)) = q ∧ IntKind.u64.wrap (q * (y / 4294967296)) = m ∧ IntKind.u64.wrap (u - m) = r ∧ QI u d y q r ∧ r < 4294967296 := by
  obtain ⟨hs, hr⟩ := QI_start h
  obtain ⟨h1, h2, h3, h4, h5, h6⟩ := h
  obtain ⟨r0, e, hT⟩ := hs
  have hv : 2147483648 ≤ y / 4294967296 := by omega
  have hle : u / (y / 4294967296) * (y / 4294967296) ≤ u := by omega
  have hq0 : 0 ≤ u / (y / 4294967296) := Int.ediv_nonneg h3 (by omega)
  have hq1 : u / (y / 4294967296) ≤ u := Int.ediv_le_self _ h3
  have e1 : IntKind.u64.wrap (u.tdiv (y / 4294967296)) = u / (y / 4294967296) := by
    rw [Int.tdiv_eq_ediv_of_nonneg h3]; exact wrapu _ hq0 (by omega)
  have e2 : IntKind.u64.wrap (u / (y / 4294967296) * (y / 4294967296)) = u / (y / 4294967296) * (y / 4294967296) := wrapu _ (Int.mul_nonneg hq0 (by omega)) (by omega)
  refine ⟨_, _, _, e1, e2, ?_, ⟨r0, e, hT⟩, hr⟩
  rw [show u - u / (y / 4294967296) * (y / 4294967296) = u % (y / 4294967296) by omega]
  exact wrapu _ r0 (by omega)
end Go.Proofs.Ytengpjalkiibiaa
/- word.Exp: powers, rest 2^256. -/
namespace Go.Proofs.Ytengpjalkiibiaa
open Go.RowKit Go.Shelf
theorem wb_dg (b p : Nat) : (bits .and .u64 (dg b (p / 64) / 2 ^ (p % 64)) 1 == 1) = wb b p := by
  have hn := dg_nn b (p / 64)
  have hl := dg_lt b (p / 64)
  have e : dg b (p / 64) / 2 ^ (p % 64) = ((b / 2 ^ (64 * (p / 64)) % 18446744073709551616 / 2 ^ (p % 64) : Nat) : Int) := by
    unfold dg; rw [Int.natCast_ediv]; congr 1
  have hle : b / 2 ^ (64 * (p / 64)) % 18446744073709551616 / 2 ^ (p % 64) ≤ b / 2 ^ (64 * (p / 64)) % 18446744073709551616 := Nat.div_le_self _ _
  have hlt : b / 2 ^ (64 * (p / 64)) % 18446744073709551616 < 18446744073709551616 := Nat.mod_lt _ (by decide)
  rw [e, and_one_u64 _ (Int.natCast_nonneg _) (by omega)]
  have h2 : b / 2 ^ p = b / 2 ^ (64 * (p / 64)) / 2 ^ (p % 64) := by rw [Nat.div_div_eq_div_mul, ← Nat.pow_add]; congr 2; omega
  have h3 : b / 2 ^ (64 * (p / 64)) % 18446744073709551616 / 2 ^ (p % 64) % 2 = b / 2 ^ p % 2 := by
    rw [h2]
    generalize b / 2 ^ (64 * (p / 64)) = n
    have e64 : (18446744073709551616 : Nat) = 2 ^ (p % 64) * (2 * 2 ^ (63 - p % 64)) := by
      rw [← Nat.pow_succ', ← Nat.pow_add, show p % 64 + (63 - p % 64 + 1) = 64 by omega]
    rw [e64, Nat.mod_mul_right_div_self, Nat.mod_mul_right_mod]
  unfold wb
  rw [← h3]
  generalize b / 2 ^ (64 * (p / 64)) % 18446744073709551616 / 2 ^ (p % 64) = z
  rw [Bool.eq_iff_iff, beq_iff_eq, decide_eq_true_iff]
  omega
theorem pow_step (a b p : Nat) : a ^ (b / 2 ^ p) = a ^ (b / 2 ^ (p + 1)) * a ^ (b / 2 ^ (p + 1)) * (if wb b p = true then a else 1) := by
  rw [wb_step b p, Nat.pow_add, Nat.two_mul, Nat.pow_add]
  split <;> simp
end Go.Proofs.Ytengpjalkiibiaa
/- lampbearerref.WExp: powers, from the least bit on. -/
namespace Go.Proofs.Ytengpjalkiibiaa
open Go.RowKit Go.Shelf
attribute [local go_sem ↓] Go.wp_at_zero Go.wp_at_succ
theorem pow_low (a b i : Nat) : a ^ (b % 2 ^ (i + 1)) = a ^ (b % 2 ^ i) * (if wb b i = true then a ^ 2 ^ i else 1) := by
  rw [Nat.pow_succ, Nat.mod_mul, Nat.pow_add]
  unfold wb
  have : b / 2 ^ i % 2 = 0 ∨ b / 2 ^ i % 2 = 1 := by omega
  rcases this with h | h <;> simp [h]
theorem pow_sq (a i : Nat) : a ^ 2 ^ (i + 1) = a ^ 2 ^ i * a ^ 2 ^ i := by
  rw [Nat.pow_succ, Nat.mul_two, Nat.pow_add]
theorem C4_al {g n : Nat} {w : World} (h : C4 g n w) (hg : g < w.heap.size) (o : Obj) : C4 g n (w.alloc o) := C4_below h ((Below.refl _ _).alloc (Nat.le_refl _) o) hg
theorem Fz_al {g : Nat} {w : World} (h : Fz g w) (hg : g < w.heap.size) (o : Obj) : Fz g (w.alloc o) := Fz_below h ((Below.refl _ _).alloc (Nat.le_refl _) o) hg
theorem C4_zero (w : World) (T : TypeId) : C4 w.heap.size 0 (w.alloc (.cells #[.int .u64 0, .int .u64 0, .int .u64 0, .int .u64 0] T)) := C4_alloc 0 w T
/-- What stands in a world with the three variables, behind a call: the first four cells of each; all else old. -/
structure E0 (w : World) (a b k : Nat) (w1 : World) : Prop where
  sz : w.heap.size + 1 + 1 + 1 + k ≤ w1.heap.size
  cA : C4 w.heap.size a w1
  cB : C4 (w.heap.size + 1) b w1
  cR : C4 (w.heap.size + 1 + 1) 0 w1
  fR : Fz (w.heap.size + 1 + 1) w1
  cZ : ∀ j, j < k → C4 (w.heap.size + 1 + 1 + 1 + j) 0 w1 ∧ Fz (w.heap.size + 1 + 1 + 1 + j) w1
  bel : Below w.heap.size w w1
theorem E0_alloc {w : World} {a b k : Nat} {w1 : World} (h : E0 w a b k w1) (hs : w1.heap.size = w.heap.size + 1 + 1 + 1 + k) (T : TypeId) : E0 w a b (k + 1) (w1.alloc (.cells #[.int .u64 0, .int .u64 0, .int .u64 0, .int .u64 0] T)) := by
  have sz := h.sz
  refine ⟨by simp; omega, C4_al h.cA (by omega) _, C4_al h.cB (by omega) _, C4_al h.cR (by omega) _, Fz_al h.fR (by omega) _, fun j hj => ?_, h.bel.alloc (by omega) _⟩
  by_cases e : j = k
  · subst e; rw [← hs]; exact ⟨C4_zero w1 T, Fz_alloc w1 _ T⟩
  · obtain ⟨h1, h2⟩ := h.cZ j (by omega)
    exact ⟨C4_al h1 (by omega) _, Fz_al h2 (by omega) _⟩
theorem E0_call {w : World} {a b k : Nat} {w1 w2 : World} (h : E0 w a b k w1) (hb : Below w1.drew.heap.size w1.drew w2) : E0 w a b k w2 := by
  have sz := h.sz
  have hs : w1.heap.size ≤ w2.heap.size := hb.size
  have hb' : Below w1.heap.size w1 w2 := ⟨hb.os, hb.tape, hb.output, hb.size, hb.block⟩
  refine ⟨by omega, C4_below h.cA hb' (by omega), C4_below h.cB hb' (by omega), C4_below h.cR hb' (by omega), Fz_below h.fR hb' (by omega), fun j hj => ?_, h.bel.trans (hb'.mono (by omega))⟩
  obtain ⟨h1, h2⟩ := h.cZ j hj
  exact ⟨C4_below h1 hb' (by omega), Fz_below h2 hb' (by omega)⟩
theorem C4_set_other {g n h m : Nat} {w : World} (c : C4 g n w) (hne : h ≠ g) : C4 g n ((((w.setCell ⟨h, 0, none⟩ (.int .u64 (dg m 0))).setCell ⟨h, 1, none⟩ (.int .u64 (dg m 1))).setCell ⟨h, 2, none⟩ (.int .u64 (dg m 2))).setCell ⟨h, 3, none⟩ (.int .u64 (dg m 3))) := C4_other (C4_other (C4_other (C4_other c hne) hne) hne) hne
theorem Fz_set4 {g h m : Nat} {w : World} (c : Fz g w) : Fz g ((((w.setCell ⟨h, 0, none⟩ (.int .u64 (dg m 0))).setCell ⟨h, 1, none⟩ (.int .u64 (dg m 1))).setCell ⟨h, 2, none⟩ (.int .u64 (dg m 2))).setCell ⟨h, 3, none⟩ (.int .u64 (dg m 3))) := Fz_set (Fz_set (Fz_set (Fz_set c)))
theorem Bel_set4 {h m B : Nat} {w w1 : World} (c : Below B w w1) (hB : B ≤ h) : Below B w ((((w1.setCell ⟨h, 0, none⟩ (.int .u64 (dg m 0))).setCell ⟨h, 1, none⟩ (.int .u64 (dg m 1))).setCell ⟨h, 2, none⟩ (.int .u64 (dg m 2))).setCell ⟨h, 3, none⟩ (.int .u64 (dg m 3))) := (((c.setCell hB _).setCell hB _).setCell hB _).setCell hB _
/-- Block g is a variable of the call's own, and holds n. -/
structure Vr (w : World) (g n : Nat) (wx : World) : Prop where
  lo : w.heap.size + 1 + 1 < g
  hi : g < wx.heap.size
  c : C4 g n wx
  f : Fz g wx
theorem E0_weak {w : World} {a b k : Nat} {w1 : World} (h : E0 w a b k w1) : E0 w a b 0 w1 := ⟨by have := h.sz; omega, h.cA, h.cB, h.cR, h.fR, fun j hj => by omega, h.bel⟩
theorem Vr_zero {w : World} {a b k : Nat} {w1 : World} (h : E0 w a b k w1) (j : Nat) (hj : j < k) : Vr w (w.heap.size + 1 + 1 + 1 + j) 0 w1 := by
  obtain ⟨h1, h2⟩ := h.cZ j hj
  exact ⟨by omega, by have := h.sz; omega, h1, h2⟩
theorem E0_al {w : World} {a b : Nat} {w1 : World} (h : E0 w a b 0 w1) (o : Obj) : E0 w a b 0 (w1.alloc o) := by
  have sz := h.sz
  exact ⟨by simp; omega, C4_al h.cA (by omega) _, C4_al h.cB (by omega) _, C4_al h.cR (by omega) _, Fz_al h.fR (by omega) _, fun j hj => by omega, h.bel.alloc (by omega) _⟩
theorem E0_set {w : World} {a b g m : Nat} {w1 : World} (h : E0 w a b 0 w1) (hg : w.heap.size + 1 + 1 < g) : E0 w a b 0 ((((w1.setCell ⟨g, 0, none⟩ (.int .u64 (dg m 0))).setCell ⟨g, 1, none⟩ (.int .u64 (dg m 1))).setCell ⟨g, 2, none⟩ (.int .u64 (dg m 2))).setCell ⟨g, 3, none⟩ (.int .u64 (dg m 3))) := by
  have sz := h.sz
  exact ⟨by simp; omega, C4_set_other h.cA (by omega), C4_set_other h.cB (by omega), C4_set_other h.cR (by omega), Fz_set4 h.fR, fun j hj => by omega, Bel_set4 h.bel (by omega)⟩
theorem Vr_new {w : World} {a b n g : Nat} {w1 : World} (h : E0 w a b 0 w1) (T : TypeId) (hg : g = w1.heap.size) : Vr w g n (w1.alloc (.cells #[.int .u64 (dg n 0), .int .u64 (dg n 1), .int .u64 (dg n 2), .int .u64 (dg n 3)] T)) := by
  subst hg
  have sz := h.sz
  exact ⟨by omega, by simp, C4_alloc n w1 T, Fz_alloc w1 _ T⟩
theorem Vr_al {w : World} {n g : Nat} {w1 : World} (h : Vr w g n w1) (o : Obj) : Vr w g n (w1.alloc o) := ⟨h.lo, by have := h.hi; simp; omega, C4_al h.c h.hi o, Fz_al h.f h.hi o⟩
theorem Vr_set {w : World} {n m g : Nat} {w1 : World} (h : Vr w g n w1) : Vr w g m ((((w1.setCell ⟨g, 0, none⟩ (.int .u64 (dg m 0))).setCell ⟨g, 1, none⟩ (.int .u64 (dg m 1))).setCell ⟨g, 2, none⟩ (.int .u64 (dg m 2))).setCell ⟨g, 3, none⟩ (.int .u64 (dg m 3))) := ⟨h.lo, by simpa using h.hi, C4_set h.c, Fz_set4 h.f⟩
theorem Vr_other {w : World} {n m g k : Nat} {w1 : World} (h : Vr w g n w1) (hne : k ≠ g) : Vr w g n ((((w1.setCell ⟨k, 0, none⟩ (.int .u64 (dg m 0))).setCell ⟨k, 1, none⟩ (.int .u64 (dg m 1))).setCell ⟨k, 2, none⟩ (.int .u64 (dg m 2))).setCell ⟨k, 3, none⟩ (.int .u64 (dg m 3))) := ⟨h.lo, by simpa using h.hi, C4_set_other h.c hne, Fz_set4 h.f⟩
theorem Vr_below {w : World} {n g : Nat} {w1 w2 : World} (h : Vr w g n w1) (hb : Below w1.heap.size w1 w2) : Vr w g n w2 := ⟨h.lo, by have := h.hi; have := hb.size; omega, C4_below h.c hb h.hi, Fz_below h.f hb h.hi⟩
theorem E0_below {w : World} {a b : Nat} {w1 w2 : World} (h : E0 w a b 0 w1) (hb : Below w1.heap.size w1 w2) : E0 w a b 0 w2 := by
  have sz := h.sz
  exact ⟨by have := hb.size; omega, C4_below h.cA hb (by omega), C4_below h.cB hb (by omega), C4_below h.cR hb (by omega), Fz_below h.fR hb (by omega), fun j hj => by omega, h.bel.trans (hb.mono (by omega))⟩
end Go.Proofs.Ytengpjalkiibiaa
/- (*word.rest).putBack: a word is added to a row of parts. -/
namespace Go.Proofs.Ytengpjalkiibiaa
open Go.RowKit Go.Shelf
attribute [local go_sem ↓] Go.wp_at_zero Go.wp_at_succ
theorem gb_refl (w : World) (r : Option Nat) : w.grownBy w r := ⟨rfl, rfl, rfl, Nat.le_refl _, fun _ _ _ => rfl⟩
theorem gb_trans {a b c : World} {r : Option Nat} (h : a.grownBy b r) (k : b.grownBy c r) : a.grownBy c r := ⟨k.os.trans h.os, k.tape.trans h.tape, k.output.trans h.output, Nat.le_trans h.size k.size, fun i hi hne => (k.block i (Nat.lt_of_lt_of_le hi h.size) hne).trans (h.block i hi hne)⟩
theorem gb_below {a b : World} {r : Option Nat} (h : Below a.heap.size a b) : a.grownBy b r := ⟨h.os, h.tape, h.output, h.size, fun k hk _ => h.block k hk⟩
theorem gb_alloc (a : World) (r : Option Nat) (o : Obj) : a.grownBy (a.alloc o) r := gb_below ((Below.refl _ _).alloc (Nat.le_refl _) o)
theorem gb_drew (a : World) (r : Option Nat) : a.grownBy a.drew r := gb_below (Below.refl _ _).drew
theorem gb_set (a : World) (g o : Nat) (v : Value) : a.grownBy (a.setCell ⟨g, o, none⟩ v) (some g) := ⟨rfl, rfl, rfl, by simp [World.setCell], fun k _ hne => Below.heap_setCell _ _ _ _ (fun e => hne (by rw [e]))⟩
theorem C4_gb {g h n : Nat} {w w' : World} (c : C4 h n w) (k : w.grownBy w' (some g)) (hne : h ≠ g) (hlt : h < w.heap.size) : C4 h n w' := fun o ho => (World.cell?_of_block (a := ⟨h, o, none⟩) (k.block h hlt (fun e => hne (by simpa using e)))).trans (c o ho)
end Go.Proofs.Ytengpjalkiibiaa
/- word.guess and (*word.rest).takeOff: one part of a quotient. -/
namespace Go.Proofs.Ytengpjalkiibiaa
open Go.RowKit Go.Shelf
attribute [local go_sem ↓] Go.wp_at_zero Go.wp_at_succ
/-- t is no less than whatever goes into h and l by b. -/
def GE (h l b t : Int) : Prop := U t ∧ ∀ Q, Q ≤ 18446744073709551615 → Q * b ≤ h * 18446744073709551616 + l → Q ≤ t
/-- The guess is no less than the quotient. -/
theorem quo_guess {F b : Nat → Int} {j n : Nat} {t : Int} (hn : 1 ≤ n) (hF : ∀ o, U (F o)) (hb : ∀ o, U (b o)) (hB : 0 < vr b 0 n) (hA : vr F j (n + 1) < vr b 0 n * 18446744073709551616) (hG : GE (F (j + n)) (F (j + n - 1)) (b (n - 1)) t) : vr F j (n + 1) / vr b 0 n ≤ t := by
  obtain ⟨m, rfl⟩ : ∃ m, n = m + 1 := ⟨n - 1, by omega⟩
  refine hG.2 _ ?_ ?_
  · have := Int.ediv_lt_of_lt_mul hB (show vr F j (m + 1 + 1) < 18446744073709551616 * vr b 0 (m + 1) by rw [Int.mul_comm]; exact hA)
    omega
  · have h1 := vr_bound hF j m
    have h2 := vr_bound hb 0 m
    have hp := Mp_pos m
    have hA0 := (vr_bound hF j (m + 1 + 1)).1
    have hQ := Int.ediv_mul_le (vr F j (m + 1 + 1)) (show vr b 0 (m + 1) ≠ 0 by omega)
    have hQ0 : 0 ≤ vr F j (m + 1 + 1) / vr b 0 (m + 1) := Int.ediv_nonneg hA0 (by omega)
    generalize vr F j (m + 1 + 1) / vr b 0 (m + 1) = Q at *
    rw [show j + (m + 1) - 1 = j + m by omega, show m + 1 - 1 = m by omega]
    rw [vr, vr, vr, Mp_succ, Nat.zero_add] at hQ
    have hQb : 0 ≤ Q * vr b 0 m := Int.mul_nonneg hQ0 h2.1
    apply Int.not_lt.1
    intro hlt
    have h3 := Int.mul_le_mul_of_nonneg_right (show F (j + (m + 1)) * 18446744073709551616 + F (j + m) + 1 ≤ Q * b m by omega) (Int.le_of_lt hp)
    have e1 : (F (j + (m + 1)) * 18446744073709551616 + F (j + m) + 1) * Mp m = F (j + (m + 1)) * (18446744073709551616 * Mp m) + F (j + m) * Mp m + Mp m := by grind
    have e2 : Q * (vr b 0 m + b m * Mp m) = Q * vr b 0 m + Q * b m * Mp m := by grind
    rw [e1] at h3
    rw [e2] at hQ
    generalize F (j + (m + 1)) * (18446744073709551616 * Mp m) = z1 at *
    generalize F (j + m) * Mp m = z2 at *
    generalize Q * b m * Mp m = z3 at *
    omega
/-- What is left is the rest, where nothing is borrowed. -/
theorem LI_done {F b G : Nat → Int} {j n : Nat} {t : Int} (hB : 0 < vr b 0 n) (hQ : vr F j (n + 1) / vr b 0 n ≤ t) (H : LI F b j n t G 0) : t = vr F j (n + 1) / vr b 0 n ∧ vr G j (n + 1) = vr F j (n + 1) % vr b 0 n := by
  have h0 := (vr_bound H.1 j (n + 1)).1
  have h4 := H.2.2.2
  rw [Int.zero_mul, Int.sub_zero] at h4
  have hle : t ≤ vr F j (n + 1) / vr b 0 n := (Int.le_ediv_iff_mul_le hB).2 (by omega)
  have ht : t = vr F j (n + 1) / vr b 0 n := by omega
  refine ⟨ht, ?_⟩
  have e := Int.mul_ediv_add_emod (vr F j (n + 1)) (vr b 0 n)
  rw [← ht, Int.mul_comm] at e
  omega
theorem LI_more {F b G : Nat → Int} {j n : Nat} {t : Int} (hB : 0 < vr b 0 n) (H : LI F b j n t G 1) : vr F j (n + 1) / vr b 0 n ≤ t - 1 := by
  have h1 := (vr_bound H.1 j (n + 1)).2
  have h4 := H.2.2.2
  have : vr F j (n + 1) / vr b 0 n < t := Int.ediv_lt_of_lt_mul hB (by omega)
  omega
end Go.Proofs.Ytengpjalkiibiaa
/- (*word.rest).takeOff: a word is taken off a row of parts as often as it goes. -/
namespace Go.Proofs.Ytengpjalkiibiaa
open Go.RowKit Go.Shelf
attribute [local go_sem ↓] Go.wp_at_zero Go.wp_at_succ
theorem Fz_gb {g h : Nat} {w w' : World} (c : Fz h w) (k : w.grownBy w' (some g)) (hne : h ≠ g) (hlt : h < w.heap.size) : Fz h w' := fun o => (World.frozen?_of_block (a := ⟨h, o, none⟩) (k.block h hlt (fun e => hne (by simpa using e)))).trans (c o)
end Go.Proofs.Ytengpjalkiibiaa
/- word.movedUp: eight parts times a power of two, in nine parts. -/
namespace Go.Proofs.Ytengpjalkiibiaa
open Go.RowKit Go.Shelf
attribute [local go_sem ↓] Go.wp_at_zero Go.wp_at_succ
/-- n as nine parts. -/
def Rs (n : Nat) : Value := .agg #[.int .u64 (dg n 0), .int .u64 (dg n 1), .int .u64 (dg n 2), .int .u64 (dg n 3), .int .u64 (dg n 4), .int .u64 (dg n 5), .int .u64 (dg n 6), .int .u64 (dg n 7), .int .u64 (dg n 8)]
theorem C9_set {g n : Nat} {F : Nat → Int} {w : World} (h : CF g 9 F w) : CF g 9 (dg n) (((((((((w.setCell ⟨g, 0, none⟩ (.int .u64 (dg n 0))).setCell ⟨g, 1, none⟩ (.int .u64 (dg n 1))).setCell ⟨g, 2, none⟩ (.int .u64 (dg n 2))).setCell ⟨g, 3, none⟩ (.int .u64 (dg n 3))).setCell ⟨g, 4, none⟩ (.int .u64 (dg n 4))).setCell ⟨g, 5, none⟩ (.int .u64 (dg n 5))).setCell ⟨g, 6, none⟩ (.int .u64 (dg n 6))).setCell ⟨g, 7, none⟩ (.int .u64 (dg n 7))).setCell ⟨g, 8, none⟩ (.int .u64 (dg n 8))) := by
  refine CF_ext (CF_set (CF_set (CF_set (CF_set (CF_set (CF_set (CF_set (CF_set (CF_set h (k := 0) (by decide)) (k := 1) (by decide)) (k := 2) (by decide)) (k := 3) (by decide)) (k := 4) (by decide)) (k := 5) (by decide)) (k := 6) (by decide)) (k := 7) (by decide)) (k := 8) (by decide)) (fun o ho => ?_)
  have : o = 0 ∨ o = 1 ∨ o = 2 ∨ o = 3 ∨ o = 4 ∨ o = 5 ∨ o = 6 ∨ o = 7 ∨ o = 8 := by omega
  rcases this with rfl | rfl | rfl | rfl | rfl | rfl | rfl | rfl | rfl <;> simp [upd]
end Go.Proofs.Ytengpjalkiibiaa
/- (*word.rest).movedDown: nine parts through a power of two, the least four parts of it. -/
namespace Go.Proofs.Ytengpjalkiibiaa
open Go.RowKit Go.Shelf
attribute [local go_sem ↓] Go.wp_at_zero Go.wp_at_succ
theorem or_comm64 (x y : Int) : bits .or .u64 x y = bits .or .u64 y x := by simp only [bits, BitVec.or_comm]
/-- What is left of part i, with what comes down from part i + 1. -/
theorem down_part (N s i : Nat) (hs : s < 64) : bits .or .u64 (dg N i / 2 ^ s) (IntKind.u64.wrap (dg N (i + 1) * 2 ^ (64 - s))) = dg (N / 2 ^ s) i := by
  have e64 : (2 : Nat) ^ s * 2 ^ (64 - s) = 18446744073709551616 := by rw [← Nat.pow_add, show s + (64 - s) = 64 by omega]
  have hp : 0 < (2 : Nat) ^ s := Nat.two_pow_pos s
  have hq : 0 < (2 : Nat) ^ (64 - s) := Nat.two_pow_pos _
  have c1 : ((2 ^ s : Nat) : Int) = (2 : Int) ^ s := by simp
  have c2 : ((2 ^ (64 - s) : Nat) : Int) = (2 : Int) ^ (64 - s) := by simp
  unfold dg
  rw [← c1, ← c2, IntKind.wrap_u64, ← Int.natCast_ediv, ← Int.natCast_mul, show (18446744073709551616 : Int) = ((18446744073709551616 : Nat) : Int) by rfl, ← Int.natCast_emod]
  generalize hx : N / 2 ^ (64 * i) = X
  have hy : N / 2 ^ (64 * (i + 1)) = X / 18446744073709551616 := by rw [← hx, Nat.div_div_eq_div_mul, show (18446744073709551616 : Nat) = 2 ^ 64 by decide, ← Nat.pow_add, Nat.mul_add]
  have hz : N / 2 ^ s / 2 ^ (64 * i) = X / 2 ^ s := by rw [← hx, Nat.div_div_eq_div_mul, Nat.div_div_eq_div_mul, Nat.mul_comm]
  rw [hy, hz]
  generalize hA : (2 : Nat) ^ s = A at *
  generalize hB : (2 : Nat) ^ (64 - s) = B at *
  generalize hZ : X / 18446744073709551616 = Z at *
  have hdm := Nat.div_add_mod X 18446744073709551616
  rw [hZ] at hdm
  have hml := Nat.mod_lt X (show 0 < 18446744073709551616 by decide)
  have hx0 : X % 18446744073709551616 / A < B := (Nat.div_lt_iff_lt_mul hp).2 (by rw [Nat.mul_comm, e64]; exact hml)
  have hZB : Z % 18446744073709551616 * B % 18446744073709551616 = B * (Z % A) := by rw [Nat.mod_mul_mod, ← e64, Nat.mul_comm Z B, Nat.mul_comm A B, Nat.mul_mod_mul_left]
  have hZA := Nat.mod_lt Z hp
  have hBA : B * (Z % A) + B ≤ 18446744073709551616 := by
    rw [← e64, Nat.mul_comm A B, ← Nat.mul_succ]
    exact Nat.mul_le_mul_left B hZA
  have hX : X / A % 18446744073709551616 = X % 18446744073709551616 / A + B * (Z % A) := by
    have h1 : X / A = X % 18446744073709551616 / A + B * Z := by
      conv => lhs; rw [← hdm, ← e64, Nat.mul_assoc, Nat.add_comm, Nat.add_mul_div_left _ _ hp, e64]
    have h2 : B * Z = 18446744073709551616 * (Z / A) + B * (Z % A) := by
      conv => lhs; rw [← Nat.div_add_mod Z A, Nat.mul_add, ← Nat.mul_assoc, Nat.mul_comm B A, e64]
    rw [h1, h2, ← Nat.add_assoc, Nat.add_right_comm, Nat.add_mul_mod_self_left, Nat.mod_eq_of_lt (by omega)]
  rw [hZB, hX, or_comm64]
  have hb2 : ((B * (Z % A) : Nat) : Int) % 2 ^ (64 - s) = 0 := by
    rw [← c2, ← Int.natCast_emod, Nat.mul_mod_right]; rfl
  have := bits_join .u64 64 (by decide) (fun n h0 h1 => wrap64u n h0 (by simpa using h1)) (64 - s) ((B * (Z % A) : Nat) : Int) ((X % 18446744073709551616 / A : Nat) : Int) (Int.natCast_nonneg _) hb2 (by rw [show (2 : Int) ^ 64 = ((18446744073709551616 : Nat) : Int) by rfl]; exact Int.ofNat_lt.2 (by omega)) (Int.natCast_nonneg _) (by rw [← c2]; omega) (by rw [show (2 : Int) ^ 64 = ((18446744073709551616 : Nat) : Int) by rfl]; exact Int.ofNat_lt.2 (by omega))
  rw [this]
  omega
end Go.Proofs.Ytengpjalkiibiaa
/- Plain arithmetic of a long division, part by part from the uppermost on. -/
namespace Go.Proofs.Ytengpjalkiibiaa
theorem vr_put {F : Nat → Int} {v : Int} (k : Nat) : ∀ K, k < K → vr (upd F k v) 0 K = vr F 0 K + (v - F k) * Mp k
  | 0, h => by omega
  | K + 1, h => by
    rw [vr, vr, Nat.zero_add]
    by_cases e : k = K
    · subst e
      rw [vr_congr (G := F) (fun i hi => by unfold upd; rw [if_neg (by omega)])]
      unfold upd
      rw [if_pos rfl]
      grind
    · rw [vr_put k K (by omega)]
      have : upd F k v K = F K := by unfold upd; rw [if_neg (by omega)]
      rw [this]
      grind
theorem vr_zero {F : Nat → Int} {j : Nat} : ∀ k, (∀ i, i < k → F (j + i) = 0) → vr F j k = 0
  | 0, _ => rfl
  | k + 1, h => by rw [vr, vr_zero k (fun i hi => h i (by omega)), h k (by omega)]; simp
/-- What stands behind the quotient's parts from k on. -/
def DV (N B : Int) (n k : Nat) (F Q : Nat → Int) : Prop := (∀ o, U (F o)) ∧ (∀ o, U (Q o)) ∧ (∀ o, o < k → Q o = 0) ∧ (∀ o, k + n ≤ o → o < 9 → F o = 0) ∧ vr F k n < B ∧ vr F 0 9 + B * vr Q 0 8 = N
theorem DV_lt {N B : Int} {n j : Nat} {F Q : Nat → Int} (H : DV N B n (j + 1) F Q) : vr F j (n + 1) < B * 18446744073709551616 := by
  obtain ⟨h1, _, _, _, h5, _⟩ := H
  rw [show n + 1 = 1 + n by omega, vr_split, Mp1]
  have e : vr F j 1 = F j := by simp [vr, Mp]
  rw [e]
  have hu := h1 j
  unfold U at hu
  omega
theorem DV_step {N B t : Int} {n j : Nat} {F G Q : Nat → Int} (H : DV N B n (j + 1) F Q) (hn1 : 1 ≤ n) (hn : j + n ≤ 8) (hB : 0 < B) (hBn : B < Mp n) (hG : ∀ o, U (G o)) (ho : ∀ o, o < j ∨ j + n < o → G o = F o) (hv : vr G j (n + 1) = vr F j (n + 1) % B) (ht : t = vr F j (n + 1) / B) : DV N B n j G (upd Q j t) := by
  have hlt := DV_lt H
  obtain ⟨h1, h2, h3, h4, h5, h6⟩ := H
  have hA0 := (vr_bound h1 j (n + 1)).1
  have ut : U t := by
    rw [ht]
    exact ⟨Int.ediv_nonneg hA0 (Int.le_of_lt hB), Int.ediv_lt_of_lt_mul hB (by rw [Int.mul_comm]; exact hlt)⟩
  have hr0 := Int.emod_nonneg (vr F j (n + 1)) (show B ≠ 0 by omega)
  have hr1 := Int.emod_lt_of_pos (vr F j (n + 1)) hB
  have hsp : vr G j (n + 1) = vr G j n + G (j + n) * Mp n := rfl
  have hn0 := (vr_bound hG j n).1
  have hu := hG (j + n)
  have hp := Mp_pos n
  have hz : G (j + n) = 0 := by
    apply Int.le_antisymm _ hu.1
    apply Int.not_lt.1
    intro hgt
    have := Int.mul_le_mul_of_nonneg_right (show (1 : Int) ≤ G (j + n) by omega) (Int.le_of_lt hp)
    omega
  refine ⟨hG, upd_U h2 ut, fun o hlo => ?_, fun o hlo ho9 => ?_, ?_, ?_⟩
  · unfold upd; rw [if_neg (by omega)]; exact h3 o (by omega)
  · by_cases e : o = j + n
    · rw [e]; exact hz
    · rw [ho o (by omega)]; exact h4 o (by omega) ho9
  · rw [hz] at hsp; omega
  · rw [vr_put j 8 (by omega), h3 j (by omega)]
    have sF : vr F 0 9 = vr F 0 j + Mp j * (vr F j (n + 1) + Mp (n + 1) * vr F (j + (n + 1)) (9 - j - (n + 1))) := by
      have a := vr_split F 0 j (9 - j)
      have b := vr_split F j (n + 1) (9 - j - (n + 1))
      rw [show j + (9 - j) = 9 by omega, Nat.zero_add] at a
      rw [show n + 1 + (9 - j - (n + 1)) = 9 - j by omega] at b
      rw [a, b]
    have sG : vr G 0 9 = vr G 0 j + Mp j * (vr G j (n + 1) + Mp (n + 1) * vr G (j + (n + 1)) (9 - j - (n + 1))) := by
      have a := vr_split G 0 j (9 - j)
      have b := vr_split G j (n + 1) (9 - j - (n + 1))
      rw [show j + (9 - j) = 9 by omega, Nat.zero_add] at a
      rw [show n + 1 + (9 - j - (n + 1)) = 9 - j by omega] at b
      rw [a, b]
    have c1 : vr G 0 j = vr F 0 j := vr_congr (fun i hi => ho _ (by omega))
    have c2 : vr G (j + (n + 1)) (9 - j - (n + 1)) = vr F (j + (n + 1)) (9 - j - (n + 1)) := vr_congr (fun i hi => ho _ (by omega))
    have e := Int.mul_ediv_add_emod (vr F j (n + 1)) B
    rw [← ht, ← hv] at e
    rw [sG, c1, c2]
    rw [sF] at h6
    grind
theorem DV_end {N B : Nat} {n : Nat} {F Q : Nat → Int} (H : DV N B n 0 F Q) (hn : n ≤ 9) (hB : 0 < B) : (∀ k, k < 9 → F k = dg (N % B) k) ∧ (∀ k, k < 8 → Q k = dg (N / B) k) := by
  obtain ⟨h1, h2, h3, h4, h5, h6⟩ := H
  have hs : vr F 0 9 = vr F 0 n := by
    have a := vr_split F 0 n (9 - n)
    rw [show n + (9 - n) = 9 by omega] at a
    have z : vr F (0 + n) (9 - n) = 0 := vr_zero _ (fun i hi => h4 _ (by omega) (by omega))
    rw [a, z]
    simp
  have h0 := (vr_bound h1 0 9).1
  obtain ⟨q1, q2⟩ := quo_rest (N := N) (Q := vr Q 0 8) (R := vr F 0 9) (y := B) (by omega) (by rw [← h6]; grind) h0 (by omega)
  exact ⟨vr_dg h1 (by rw [← q2]; rfl), vr_dg h2 (by rw [← q1]; rfl)⟩
theorem DV_start {a b s n e : Nat} (he : e = 512) (hn1 : 1 ≤ n) (hn : n ≤ 4) (ha : a < 2 ^ e) (hb : 2 ^ (64 * (n - 1)) ≤ b) (hs : s < 64) : DV ((a * 2 ^ s : Nat) : Int) ((b * 2 ^ s : Nat) : Int) n (9 - n) (dg (a * 2 ^ s)) (fun _ => 0) := by
  refine ⟨fun o => U_dg _ o, fun _ => U_zero, fun _ _ => rfl, fun o h1 h2 => by omega, ?_, ?_⟩
  · have hN : a * 2 ^ s < 2 ^ (e + s) := by rw [Nat.pow_add]; exact Nat.mul_lt_mul_of_pos_right ha (Nat.two_pow_pos s)
    have hsp := vr_split (dg (a * 2 ^ s)) 0 (9 - n) n
    rw [show 9 - n + n = 9 by omega, vr_low, vr_low, Nat.zero_add] at hsp
    have hlow : lowp (a * 2 ^ s) 9 ≤ ((a * 2 ^ s : Nat) : Int) := by unfold lowp; exact Int.ofNat_le.2 (Nat.mod_le _ _)
    have hl0 : 0 ≤ lowp (a * 2 ^ s) (9 - n) := Int.natCast_nonneg _
    apply Int.not_le.1
    intro hge
    have hm := Int.mul_le_mul_of_nonneg_left hge (Int.le_of_lt (Mp_pos (9 - n)))
    have hbig : 2 ^ (e + s) ≤ 2 ^ (64 * (9 - n)) * (b * 2 ^ s) := by
      have h1 : 2 ^ (64 * (n - 1)) * 2 ^ s ≤ b * 2 ^ s := Nat.mul_le_mul_right _ hb
      have h2 := Nat.mul_le_mul_left (2 ^ (64 * (9 - n))) h1
      rw [← Nat.pow_add, ← Nat.pow_add, show 64 * (9 - n) + (64 * (n - 1) + s) = e + s by omega] at h2
      exact h2
    have hM : Mp (9 - n) * ((b * 2 ^ s : Nat) : Int) = ((2 ^ (64 * (9 - n)) * (b * 2 ^ s) : Nat) : Int) := by unfold Mp; exact (Int.natCast_mul _ _).symm
    rw [hM] at hm
    have hc := Int.ofNat_le.2 hbig
    have hd := Int.ofNat_lt.2 hN
    omega
  · have : vr (fun _ => (0 : Int)) 0 8 = 0 := vr_zero _ (fun _ _ => rfl)
    rw [this, vr_low, Int.mul_zero, Int.add_zero]
    unfold lowp
    rw [Nat.mod_eq_of_lt]
    have hN : a * 2 ^ s < 2 ^ (e + s) := by rw [Nat.pow_add]; exact Nat.mul_lt_mul_of_pos_right ha (Nat.two_pow_pos s)
    generalize hk : 64 * 9 = K
    exact Nat.lt_of_lt_of_le hN (Nat.pow_le_pow_right (by decide) (by omega))
end Go.Proofs.Ytengpjalkiibiaa
/- word.Sub: the difference of two words, rest 2^256. -/
namespace Go.Proofs.Ytengpjalkiibiaa
open Go.RowKit Go.Shelf
attribute [local go_sem ↓] Go.wp_at_zero Go.wp_at_succ

end Go.Proofs.Ytengpjalkiibiaa
/- lampbearerlaw.WordSums: word.Add, Sub and Mul answer as the document's own do. -/
namespace Go.Proofs.Ytengpjalkiibiaa
open Go.RowKit Go.Shelf
attribute [local go_sem ↓] Go.wp_at_zero Go.wp_at_succ
theorem Try.infoU64 : ∃ i, Try.prog.info? 29 = some i := by
  have h : (Try.prog.info? 29).isSome = true := by kernel_rfl
  exact Option.isSome_iff_exists.1 h
theorem Try.cellsU64 : Try.prog.cellsOf 29 = 1 := by kernel_rfl
end Go.Proofs.Ytengpjalkiibiaa
/- word.divide: the long division of eight parts by a word. -/
namespace Go.Proofs.Ytengpjalkiibiaa
open Go.RowKit Go.Shelf
attribute [local go_sem ↓] Go.wp_at_zero Go.wp_at_succ
/-- Where the bits of b end: which part is the uppermost, and how far it is from the top. -/
theorem top_part (b L : Nat) (h0 : b ≠ 0) (hL : BL2 b L) : 1 ≤ (L + 63) / 64 ∧ (L + 63) / 64 ≤ 4 ∧ 2 ^ (64 * ((L + 63) / 64 - 1)) ≤ b ∧ b < 2 ^ (64 * ((L + 63) / 64)) := by
  obtain ⟨h1, h2, h3⟩ := hL
  obtain ⟨h4, h5⟩ := h3 h0
  refine ⟨by omega, by omega, Nat.le_trans (Nat.pow_le_pow_right (by decide) (by omega)) h5, Nat.lt_of_lt_of_le h2 (Nat.pow_le_pow_right (by decide) (by omega))⟩
/-- Moved up so far, the uppermost bit of b is set, and nothing is lost. -/
theorem top_shift (b n : Nat) (hn : 1 ≤ n) (h1 : 2 ^ (64 * (n - 1)) ≤ b) (h2 : b < 2 ^ (64 * n)) : Lib.bitLen (dg b (n - 1)).toNat ≤ 64 ∧ 1 ≤ Lib.bitLen (dg b (n - 1)).toNat ∧ b * 2 ^ (64 - Lib.bitLen (dg b (n - 1)).toNat) < 2 ^ (64 * n) ∧ 9223372036854775808 ≤ dg (b * 2 ^ (64 - Lib.bitLen (dg b (n - 1)).toNat)) (n - 1) := by
  obtain ⟨k, rfl⟩ : ∃ k, n = k + 1 := ⟨n - 1, by omega⟩
  rw [show k + 1 - 1 = k by omega] at *
  have hX := bl_at b k h2
  have hp : 0 < 2 ^ (64 * k) := Nat.two_pow_pos _
  have hXp : 1 ≤ b / 2 ^ (64 * k) := (Nat.le_div_iff_mul_le hp).2 (by omega)
  have hl := dg_lt b k
  obtain ⟨m1, m2, m3⟩ := bitLen_spec (dg b k).toNat (by omega)
  rw [hX] at m1 m2 m3 ⊢
  obtain ⟨m4, m5⟩ := m3 (by omega)
  generalize Lib.bitLen (b / 2 ^ (64 * k)) = m at *
  have hb1 : b < 2 ^ m * 2 ^ (64 * k) := (Nat.div_lt_iff_lt_mul hp).1 m2
  have hlt : b * 2 ^ (64 - m) < 2 ^ (64 * (k + 1)) := by
    have := Nat.mul_lt_mul_of_pos_right hb1 (Nat.two_pow_pos (64 - m))
    rw [← Nat.pow_add, ← Nat.pow_add, show m + 64 * k + (64 - m) = 64 * (k + 1) by omega] at this
    exact this
  refine ⟨m1, m4, hlt, ?_⟩
  have h3 := bl_at (b * 2 ^ (64 - m)) k hlt
  have h4 : 9223372036854775808 ≤ b * 2 ^ (64 - m) / 2 ^ (64 * k) := by
    rw [Nat.le_div_iff_mul_le hp]
    have h5 : 2 ^ (m - 1) * 2 ^ (64 * k) ≤ b := (Nat.le_div_iff_mul_le hp).1 m5
    have h6 := Nat.mul_le_mul_right (2 ^ (64 - m)) h5
    rw [Nat.mul_right_comm, ← Nat.pow_add, show m - 1 + (64 - m) = 63 by omega] at h6
    exact h6
  have hn := dg_nn (b * 2 ^ (64 - m)) k
  omega
theorem dg_zero (i : Nat) : dg 0 i = 0 := by unfold dg; rw [Nat.zero_div]; rfl
/-- What the division's own variables hold. -/
structure D0 (w : World) (a b : Nat) (Q : Nat → Int) (wx : World) : Prop where
  sz : w.heap.size + 1 + 1 + 1 < wx.heap.size
  cA : CF w.heap.size 8 (dg a) wx
  cB : C4 (w.heap.size + 1) b wx
  cQ : CF (w.heap.size + 1 + 1) 8 Q wx
  cR : C4 (w.heap.size + 1 + 1 + 1) 0 wx
  fB : Fz (w.heap.size + 1) wx
  fQ : Fz (w.heap.size + 1 + 1) wx
  fR : Fz (w.heap.size + 1 + 1 + 1) wx
  bel : Below w.heap.size w wx
theorem D0_start (w : World) (a b : Nat) (T8 T4 : TypeId) : D0 w a b (fun _ => 0) ((((w.alloc (.cells #[.int .u64 (dg a 0), .int .u64 (dg a 1), .int .u64 (dg a 2), .int .u64 (dg a 3), .int .u64 (dg a 4), .int .u64 (dg a 5), .int .u64 (dg a 6), .int .u64 (dg a 7)] T8)).alloc (.cells #[.int .u64 (dg b 0), .int .u64 (dg b 1), .int .u64 (dg b 2), .int .u64 (dg b 3)] T4)).alloc (.cells #[.int .u64 0, .int .u64 0, .int .u64 0, .int .u64 0, .int .u64 0, .int .u64 0, .int .u64 0, .int .u64 0] T8)).alloc (.cells #[.int .u64 0, .int .u64 0, .int .u64 0, .int .u64 0] T4)) := by
  refine ⟨by simp, fun o ho => ?_, fun o ho => ?_, fun o ho => ?_, fun o ho => ?_, fun o => by simp [go_sem], fun o => by simp [go_sem], fun o => by simp [go_sem], ?_⟩
  · have : o = 0 ∨ o = 1 ∨ o = 2 ∨ o = 3 ∨ o = 4 ∨ o = 5 ∨ o = 6 ∨ o = 7 := by omega
    rcases this with rfl | rfl | rfl | rfl | rfl | rfl | rfl | rfl <;> simp [go_sem]
  · have : o = 0 ∨ o = 1 ∨ o = 2 ∨ o = 3 := by omega
    rcases this with rfl | rfl | rfl | rfl <;> simp [go_sem]
  · have : o = 0 ∨ o = 1 ∨ o = 2 ∨ o = 3 ∨ o = 4 ∨ o = 5 ∨ o = 6 ∨ o = 7 := by omega
    rcases this with rfl | rfl | rfl | rfl | rfl | rfl | rfl | rfl <;> simp [go_sem]
  · have : o = 0 ∨ o = 1 ∨ o = 2 ∨ o = 3 := by omega
    rcases this with rfl | rfl | rfl | rfl <;> simp [go_sem, dg_zero]
  · repeat (first | exact Below.refl _ _ | refine Below.alloc ?_ (by simp <;> omega) _)
theorem D0_below {w : World} {a b : Nat} {Q : Nat → Int} {w1 w2 : World} (h : D0 w a b Q w1) (k : Below w1.heap.size w1 w2) : D0 w a b Q w2 := by
  have sz := h.sz
  have := k.size
  exact ⟨by omega, CF_below h.cA k (by omega), C4_below h.cB k (by omega), CF_below h.cQ k (by omega), C4_below h.cR k sz, Fz_below h.fB k (by omega), Fz_below h.fQ k (by omega), Fz_below h.fR k sz, h.bel.trans (k.mono (by omega))⟩
theorem CF_gb {g h n : Nat} {F : Nat → Int} {w w' : World} (c : CF h n F w) (k : w.grownBy w' (some g)) (hne : h ≠ g) (hlt : h < w.heap.size) : CF h n F w' := fun o ho => (World.cell?_of_block (a := ⟨h, o, none⟩) (k.block h hlt (fun e => hne (by simpa using e)))).trans (c o ho)
theorem D0_gb {w : World} {a b g : Nat} {Q : Nat → Int} {w1 w2 : World} (h : D0 w a b Q w1) (k : w1.grownBy w2 (some g)) (hg : w.heap.size + 1 + 1 + 1 < g) : D0 w a b Q w2 := by
  have sz := h.sz
  have := k.size
  exact ⟨by omega, CF_gb h.cA k (by omega) (by omega), C4_gb h.cB k (by omega) (by omega), CF_gb h.cQ k (by omega) (by omega), C4_gb h.cR k (by omega) sz, Fz_gb h.fB k (by omega) (by omega), Fz_gb h.fQ k (by omega) (by omega), Fz_gb h.fR k (by omega) sz, h.bel.grown k (by omega) (fun j hj => by simp at hj; omega)⟩
theorem D0_al {w : World} {a b : Nat} {Q : Nat → Int} {w1 : World} (h : D0 w a b Q w1) (o : Obj) : D0 w a b Q (w1.alloc o) := D0_below h ((Below.refl _ _).alloc (Nat.le_refl _) o)
theorem D0_drew {w : World} {a b : Nat} {Q : Nat → Int} {w1 : World} (h : D0 w a b Q w1) : D0 w a b Q w1.drew := D0_below h (Below.refl _ _).drew
theorem D0_setB {w : World} {a b m : Nat} {Q : Nat → Int} {w1 : World} (h : D0 w a b Q w1) : D0 w a m Q ((((w1.setCell ⟨w.heap.size + 1, 0, none⟩ (.int .u64 (dg m 0))).setCell ⟨w.heap.size + 1, 1, none⟩ (.int .u64 (dg m 1))).setCell ⟨w.heap.size + 1, 2, none⟩ (.int .u64 (dg m 2))).setCell ⟨w.heap.size + 1, 3, none⟩ (.int .u64 (dg m 3))) := by
  have sz := h.sz
  exact ⟨by simp; omega, CF_other (CF_other (CF_other (CF_other h.cA (by dsimp only; omega)) (by dsimp only; omega)) (by dsimp only; omega)) (by dsimp only; omega), C4_set h.cB, CF_other (CF_other (CF_other (CF_other h.cQ (by dsimp only; omega)) (by dsimp only; omega)) (by dsimp only; omega)) (by dsimp only; omega), C4_set_other h.cR (by omega), Fz_set4 h.fB, Fz_set4 h.fQ, Fz_set4 h.fR, Bel_set4 h.bel (by omega)⟩
theorem D0_setQ {w : World} {a b j : Nat} {Q : Nat → Int} {t : Int} {w1 : World} (h : D0 w a b Q w1) (hj : j < 8) : D0 w a b (upd Q j t) (w1.setCell ⟨w.heap.size + 1 + 1, j, none⟩ (.int .u64 t)) := by
  have sz := h.sz
  exact ⟨by simpa using sz, CF_other h.cA (by dsimp only; omega), C4_other h.cB (by dsimp only; omega), CF_set h.cQ hj, C4_other h.cR (by dsimp only; omega), Fz_set h.fB, Fz_set h.fQ, Fz_set h.fR, h.bel.setCell (by dsimp only; omega) _⟩
theorem C9_alloc (n : Nat) (w : World) (T : TypeId) : CF w.heap.size 9 (dg n) (w.alloc (.cells #[.int .u64 (dg n 0), .int .u64 (dg n 1), .int .u64 (dg n 2), .int .u64 (dg n 3), .int .u64 (dg n 4), .int .u64 (dg n 5), .int .u64 (dg n 6), .int .u64 (dg n 7), .int .u64 (dg n 8)] T)) := fun o ho => by
  have : o = 0 ∨ o = 1 ∨ o = 2 ∨ o = 3 ∨ o = 4 ∨ o = 5 ∨ o = 6 ∨ o = 7 ∨ o = 8 := by omega
  rcases this with rfl | rfl | rfl | rfl | rfl | rfl | rfl | rfl | rfl <;> simp
end Go.Proofs.Ytengpjalkiibiaa
/- word.divide: the long division of eight parts by a word. -/
namespace Go.Proofs.Ytengpjalkiibiaa
open Go.RowKit Go.Shelf
attribute [local go_sem ↓] Go.wp_at_zero Go.wp_at_succ

end Go.Proofs.Ytengpjalkiibiaa
/- Variables of a call's own in memory: what they hold, and what leaves them alone. -/
namespace Go.Proofs.Ytengpjalkiibiaa
open Go.RowKit Go.Shelf
theorem CF_al {g n : Nat} {F : Nat → Int} {w : World} (h : CF g n F w) (hg : g < w.heap.size) (o : Obj) : CF g n F (w.alloc o) := CF_below h ((Below.refl _ _).alloc (Nat.le_refl _) o) hg
/-- Block g is the call's own, is not frozen, and its first n cells are F's. -/
structure Vb (B g n : Nat) (F : Nat → Int) (wx : World) : Prop where
  lo : B ≤ g
  hi : g < wx.heap.size
  c : CF g n F wx
  f : Fz g wx
theorem Vb_below {B g n : Nat} {F : Nat → Int} {w1 w2 : World} (h : Vb B g n F w1) (hb : Below w1.heap.size w1 w2) : Vb B g n F w2 := ⟨h.lo, Nat.lt_of_lt_of_le h.hi hb.size, CF_below h.c hb h.hi, Fz_below h.f hb h.hi⟩
theorem Vb_al {B g n : Nat} {F : Nat → Int} {w1 : World} (h : Vb B g n F w1) (o : Obj) : Vb B g n F (w1.alloc o) := Vb_below h ((Below.refl _ _).alloc (Nat.le_refl _) o)
theorem Vb_drew {B g n : Nat} {F : Nat → Int} {w1 : World} (h : Vb B g n F w1) : Vb B g n F w1.drew := Vb_below h (Below.refl _ _).drew
theorem Vb_gb {B g n k : Nat} {F : Nat → Int} {w1 w2 : World} (h : Vb B g n F w1) (hb : w1.grownBy w2 (some k)) (hne : g ≠ k) : Vb B g n F w2 := ⟨h.lo, Nat.lt_of_lt_of_le h.hi hb.size, CF_gb h.c hb hne h.hi, Fz_gb h.f hb hne h.hi⟩
theorem Vb_other {B g n : Nat} {F : Nat → Int} {w1 : World} {a : Addr} {v : Value} (h : Vb B g n F w1) (hne : a.block ≠ g) : Vb B g n F (w1.setCell a v) := ⟨h.lo, by simpa using h.hi, CF_other h.c hne, Fz_set h.f⟩
theorem Vb_set {B g n k : Nat} {F : Nat → Int} {w1 : World} {v : Int} (h : Vb B g n F w1) (hk : k < n) : Vb B g n (upd F k v) (w1.setCell ⟨g, k, none⟩ (.int .u64 v)) := ⟨h.lo, by simpa using h.hi, CF_set h.c hk, Fz_set h.f⟩
theorem Vb_set4 {B g m : Nat} {F : Nat → Int} {w1 : World} (h : Vb B g 4 F w1) : Vb B g 4 (dg m) ((((w1.setCell ⟨g, 0, none⟩ (.int .u64 (dg m 0))).setCell ⟨g, 1, none⟩ (.int .u64 (dg m 1))).setCell ⟨g, 2, none⟩ (.int .u64 (dg m 2))).setCell ⟨g, 3, none⟩ (.int .u64 (dg m 3))) := by
  have k := Vb_set (v := dg m 3) (Vb_set (v := dg m 2) (Vb_set (v := dg m 1) (Vb_set (v := dg m 0) h (show 0 < 4 by omega)) (show 1 < 4 by omega)) (show 2 < 4 by omega)) (show 3 < 4 by omega)
  refine ⟨k.lo, k.hi, CF_ext k.c fun o ho => ?_, k.f⟩
  have : o = 0 ∨ o = 1 ∨ o = 2 ∨ o = 3 := by omega
  rcases this with rfl | rfl | rfl | rfl <;> simp [upd]
theorem Vb_set8 {B g m : Nat} {F : Nat → Int} {w1 : World} (h : Vb B g 8 F w1) : Vb B g 8 (dg m) ((((((((w1.setCell ⟨g, 0, none⟩ (.int .u64 (dg m 0))).setCell ⟨g, 1, none⟩ (.int .u64 (dg m 1))).setCell ⟨g, 2, none⟩ (.int .u64 (dg m 2))).setCell ⟨g, 3, none⟩ (.int .u64 (dg m 3))).setCell ⟨g, 4, none⟩ (.int .u64 (dg m 4))).setCell ⟨g, 5, none⟩ (.int .u64 (dg m 5))).setCell ⟨g, 6, none⟩ (.int .u64 (dg m 6))).setCell ⟨g, 7, none⟩ (.int .u64 (dg m 7))) := ⟨h.lo, by simpa using h.hi, C8_set h.c, Fz_set (Fz_set (Fz_set (Fz_set (Fz_set (Fz_set (Fz_set (Fz_set h.f)))))))⟩
theorem Vb_o4 {B g n k m : Nat} {F : Nat → Int} {w1 : World} (h : Vb B g n F w1) (hne : k ≠ g) : Vb B g n F ((((w1.setCell ⟨k, 0, none⟩ (.int .u64 (dg m 0))).setCell ⟨k, 1, none⟩ (.int .u64 (dg m 1))).setCell ⟨k, 2, none⟩ (.int .u64 (dg m 2))).setCell ⟨k, 3, none⟩ (.int .u64 (dg m 3))) := Vb_other (Vb_other (Vb_other (Vb_other h hne) hne) hne) hne
theorem Vb_o8 {B g n k m : Nat} {F : Nat → Int} {w1 : World} (h : Vb B g n F w1) (hne : k ≠ g) : Vb B g n F ((((((((w1.setCell ⟨k, 0, none⟩ (.int .u64 (dg m 0))).setCell ⟨k, 1, none⟩ (.int .u64 (dg m 1))).setCell ⟨k, 2, none⟩ (.int .u64 (dg m 2))).setCell ⟨k, 3, none⟩ (.int .u64 (dg m 3))).setCell ⟨k, 4, none⟩ (.int .u64 (dg m 4))).setCell ⟨k, 5, none⟩ (.int .u64 (dg m 5))).setCell ⟨k, 6, none⟩ (.int .u64 (dg m 6))).setCell ⟨k, 7, none⟩ (.int .u64 (dg m 7))) := Vb_other (Vb_other (Vb_other (Vb_other (Vb_other (Vb_other (Vb_other (Vb_other h hne) hne) hne) hne) hne) hne) hne) hne
theorem Vb_new4 (B n : Nat) (w1 : World) (T : TypeId) (hB : B ≤ w1.heap.size) : Vb B w1.heap.size 4 (dg n) (w1.alloc (.cells #[.int .u64 (dg n 0), .int .u64 (dg n 1), .int .u64 (dg n 2), .int .u64 (dg n 3)] T)) := ⟨hB, by simp, C4_alloc n w1 T, Fz_alloc w1 _ T⟩
theorem Vb_new0 (B : Nat) (w1 : World) (T : TypeId) (hB : B ≤ w1.heap.size) : Vb B w1.heap.size 4 (dg 0) (w1.alloc (.cells #[.int .u64 0, .int .u64 0, .int .u64 0, .int .u64 0] T)) := Vb_new4 B 0 w1 T hB
theorem Vb_new8 (B n : Nat) (w1 : World) (T : TypeId) (hB : B ≤ w1.heap.size) : Vb B w1.heap.size 8 (dg n) (w1.alloc (.cells #[.int .u64 (dg n 0), .int .u64 (dg n 1), .int .u64 (dg n 2), .int .u64 (dg n 3), .int .u64 (dg n 4), .int .u64 (dg n 5), .int .u64 (dg n 6), .int .u64 (dg n 7)] T)) := ⟨hB, by simp, fun o ho => by
  have : o = 0 ∨ o = 1 ∨ o = 2 ∨ o = 3 ∨ o = 4 ∨ o = 5 ∨ o = 6 ∨ o = 7 := by omega
  rcases this with rfl | rfl | rfl | rfl | rfl | rfl | rfl | rfl <;> simp, Fz_alloc w1 _ T⟩
theorem Vb_new8e {B n g : Nat} {w1 : World} {T : TypeId} (hg : g = w1.heap.size) (hB : B ≤ g) : Vb B g 8 (dg n) (w1.alloc (.cells #[.int .u64 (dg n 0), .int .u64 (dg n 1), .int .u64 (dg n 2), .int .u64 (dg n 3), .int .u64 (dg n 4), .int .u64 (dg n 5), .int .u64 (dg n 6), .int .u64 (dg n 7)] T)) := by subst hg; exact Vb_new8 B n w1 T hB
theorem Vb_new4e {B n g : Nat} {w1 : World} {T : TypeId} (hg : g = w1.heap.size) (hB : B ≤ g) : Vb B g 4 (dg n) (w1.alloc (.cells #[.int .u64 (dg n 0), .int .u64 (dg n 1), .int .u64 (dg n 2), .int .u64 (dg n 3)] T)) := by subst hg; exact Vb_new4 B n w1 T hB
theorem Vb_new80 (B : Nat) (w1 : World) (T : TypeId) (hB : B ≤ w1.heap.size) : Vb B w1.heap.size 8 (dg 0) (w1.alloc (.cells #[.int .u64 0, .int .u64 0, .int .u64 0, .int .u64 0, .int .u64 0, .int .u64 0, .int .u64 0, .int .u64 0] T)) := by
  have k := Vb_new8 B 0 w1 T hB
  simp only [dg_zero] at k
  exact k
theorem Vb_new80e {B g : Nat} {w1 : World} {T : TypeId} (hg : g = w1.heap.size) (hB : B ≤ g) : Vb B g 8 (dg 0) (w1.alloc (.cells #[.int .u64 0, .int .u64 0, .int .u64 0, .int .u64 0, .int .u64 0, .int .u64 0, .int .u64 0, .int .u64 0] T)) := by subst hg; exact Vb_new80 B w1 T hB
theorem Vb_new0e {B g : Nat} {w1 : World} {T : TypeId} (hg : g = w1.heap.size) (hB : B ≤ g) : Vb B g 4 (dg 0) (w1.alloc (.cells #[.int .u64 0, .int .u64 0, .int .u64 0, .int .u64 0] T)) := by subst hg; exact Vb_new0 B w1 T hB
theorem Bel_set8 {h m B : Nat} {w w1 : World} (c : Below B w w1) (hB : B ≤ h) : Below B w ((((((((w1.setCell ⟨h, 0, none⟩ (.int .u64 (dg m 0))).setCell ⟨h, 1, none⟩ (.int .u64 (dg m 1))).setCell ⟨h, 2, none⟩ (.int .u64 (dg m 2))).setCell ⟨h, 3, none⟩ (.int .u64 (dg m 3))).setCell ⟨h, 4, none⟩ (.int .u64 (dg m 4))).setCell ⟨h, 5, none⟩ (.int .u64 (dg m 5))).setCell ⟨h, 6, none⟩ (.int .u64 (dg m 6))).setCell ⟨h, 7, none⟩ (.int .u64 (dg m 7))) := (((((((c.setCell hB _).setCell hB _).setCell hB _).setCell hB _).setCell hB _).setCell hB _).setCell hB _).setCell hB _
theorem K_other {g n : Nat} {F : Nat → Int} {w : World} {a : Addr} {v : Value} (h : ∀ o, o < n → w.cell? ⟨g, o, none⟩ = some (.int .u64 (F o))) (hne : a.block ≠ g) : ∀ o, o < n → (w.setCell a v).cell? ⟨g, o, none⟩ = some (.int .u64 (F o)) := CF_other h hne
theorem K_drew {g n : Nat} {F : Nat → Int} {w : World} (h : ∀ o, o < n → w.cell? ⟨g, o, none⟩ = some (.int .u64 (F o))) : ∀ o, o < n → w.drew.cell? ⟨g, o, none⟩ = some (.int .u64 (F o)) := h
theorem K_al {g n : Nat} {F : Nat → Int} {w : World} (h : ∀ o, o < n → w.cell? ⟨g, o, none⟩ = some (.int .u64 (F o))) (hg : g < w.heap.size) (x : Obj) : ∀ o, o < n → (w.alloc x).cell? ⟨g, o, none⟩ = some (.int .u64 (F o)) := CF_al h hg x
theorem K_o4 {g n k m : Nat} {F : Nat → Int} {w : World} (h : ∀ o, o < n → w.cell? ⟨g, o, none⟩ = some (.int .u64 (F o))) (hne : k ≠ g) : ∀ o, o < n → ((((w.setCell ⟨k, 0, none⟩ (.int .u64 (dg m 0))).setCell ⟨k, 1, none⟩ (.int .u64 (dg m 1))).setCell ⟨k, 2, none⟩ (.int .u64 (dg m 2))).setCell ⟨k, 3, none⟩ (.int .u64 (dg m 3))).cell? ⟨g, o, none⟩ = some (.int .u64 (F o)) := CF_other (CF_other (CF_other (CF_other h hne) hne) hne) hne
theorem K_o8 {g n k m : Nat} {F : Nat → Int} {w : World} (h : ∀ o, o < n → w.cell? ⟨g, o, none⟩ = some (.int .u64 (F o))) (hne : k ≠ g) : ∀ o, o < n → ((((((((w.setCell ⟨k, 0, none⟩ (.int .u64 (dg m 0))).setCell ⟨k, 1, none⟩ (.int .u64 (dg m 1))).setCell ⟨k, 2, none⟩ (.int .u64 (dg m 2))).setCell ⟨k, 3, none⟩ (.int .u64 (dg m 3))).setCell ⟨k, 4, none⟩ (.int .u64 (dg m 4))).setCell ⟨k, 5, none⟩ (.int .u64 (dg m 5))).setCell ⟨k, 6, none⟩ (.int .u64 (dg m 6))).setCell ⟨k, 7, none⟩ (.int .u64 (dg m 7))).cell? ⟨g, o, none⟩ = some (.int .u64 (F o)) := CF_other (CF_other (CF_other (CF_other (CF_other (CF_other (CF_other (CF_other h hne) hne) hne) hne) hne) hne) hne) hne
/-- Four words in a row, from block B on: two handed in, two still 0. -/
structure M4 (w : World) (x0 x1 x2 x3 : Nat) (wx : World) : Prop where
  v0 : Vb w.heap.size w.heap.size 4 (dg x0) wx
  v1 : Vb w.heap.size (w.heap.size + 1) 4 (dg x1) wx
  v2 : Vb w.heap.size (w.heap.size + 1 + 1) 4 (dg x2) wx
  v3 : Vb w.heap.size (w.heap.size + 1 + 1 + 1) 4 (dg x3) wx
  bel : Below w.heap.size w wx
theorem M4_below {w : World} {x0 x1 x2 x3 : Nat} {w1 w2 : World} (h : M4 w x0 x1 x2 x3 w1) (k : Below w1.heap.size w1 w2) : M4 w x0 x1 x2 x3 w2 := ⟨Vb_below h.v0 k, Vb_below h.v1 k, Vb_below h.v2 k, Vb_below h.v3 k, h.bel.trans (k.mono (Nat.le_of_lt h.v0.hi))⟩
theorem M4_al {w : World} {x0 x1 x2 x3 : Nat} {w1 : World} (h : M4 w x0 x1 x2 x3 w1) (o : Obj) : M4 w x0 x1 x2 x3 (w1.alloc o) := M4_below h ((Below.refl _ _).alloc (Nat.le_refl _) o)
theorem M4_drew {w : World} {x0 x1 x2 x3 : Nat} {w1 : World} (h : M4 w x0 x1 x2 x3 w1) : M4 w x0 x1 x2 x3 w1.drew := M4_below h (Below.refl _ _).drew
theorem M4_start (w : World) (a b : Nat) (T : TypeId) : M4 w a b 0 0 ((((w.alloc (.cells #[.int .u64 (dg a 0), .int .u64 (dg a 1), .int .u64 (dg a 2), .int .u64 (dg a 3)] T)).alloc (.cells #[.int .u64 (dg b 0), .int .u64 (dg b 1), .int .u64 (dg b 2), .int .u64 (dg b 3)] T)).alloc (.cells #[.int .u64 0, .int .u64 0, .int .u64 0, .int .u64 0] T)).alloc (.cells #[.int .u64 0, .int .u64 0, .int .u64 0, .int .u64 0] T)) := by
  have e1 : ∀ o, (w.alloc o).heap.size = w.heap.size + 1 := fun o => by simp
  have e2 : ∀ o p, ((w.alloc o).alloc p).heap.size = w.heap.size + 1 + 1 := fun o p => by simp
  have e3 : ∀ o p q, (((w.alloc o).alloc p).alloc q).heap.size = w.heap.size + 1 + 1 + 1 := fun o p q => by simp
  refine ⟨Vb_al (Vb_al (Vb_al (Vb_new4 _ a w T (Nat.le_refl _)) _) _) _, ?_, ?_, ?_, ?_⟩
  · have k := Vb_al (Vb_al (Vb_new4 w.heap.size b (w.alloc (.cells #[.int .u64 (dg a 0), .int .u64 (dg a 1), .int .u64 (dg a 2), .int .u64 (dg a 3)] T)) T (by simp)) (.cells #[.int .u64 0, .int .u64 0, .int .u64 0, .int .u64 0] T)) (.cells #[.int .u64 0, .int .u64 0, .int .u64 0, .int .u64 0] T)
    rw [e1] at k; exact k
  · have k := Vb_al (Vb_new0 w.heap.size ((w.alloc (.cells #[.int .u64 (dg a 0), .int .u64 (dg a 1), .int .u64 (dg a 2), .int .u64 (dg a 3)] T)).alloc (.cells #[.int .u64 (dg b 0), .int .u64 (dg b 1), .int .u64 (dg b 2), .int .u64 (dg b 3)] T)) T (by simp <;> omega)) (.cells #[.int .u64 0, .int .u64 0, .int .u64 0, .int .u64 0] T)
    rw [e2] at k; exact k
  · have k := Vb_new0 w.heap.size (((w.alloc (.cells #[.int .u64 (dg a 0), .int .u64 (dg a 1), .int .u64 (dg a 2), .int .u64 (dg a 3)] T)).alloc (.cells #[.int .u64 (dg b 0), .int .u64 (dg b 1), .int .u64 (dg b 2), .int .u64 (dg b 3)] T)).alloc (.cells #[.int .u64 0, .int .u64 0, .int .u64 0, .int .u64 0] T)) T (by simp <;> omega)
    rw [e3] at k; exact k
  · repeat (first | exact Below.refl _ _ | refine Below.alloc ?_ (by simp <;> omega) _)
theorem M4_o8 {w : World} {x0 x1 x2 x3 k m : Nat} {w1 : World} (h : M4 w x0 x1 x2 x3 w1) (hk : w.heap.size + 1 + 1 + 1 < k) : M4 w x0 x1 x2 x3 ((((((((w1.setCell ⟨k, 0, none⟩ (.int .u64 (dg m 0))).setCell ⟨k, 1, none⟩ (.int .u64 (dg m 1))).setCell ⟨k, 2, none⟩ (.int .u64 (dg m 2))).setCell ⟨k, 3, none⟩ (.int .u64 (dg m 3))).setCell ⟨k, 4, none⟩ (.int .u64 (dg m 4))).setCell ⟨k, 5, none⟩ (.int .u64 (dg m 5))).setCell ⟨k, 6, none⟩ (.int .u64 (dg m 6))).setCell ⟨k, 7, none⟩ (.int .u64 (dg m 7))) := ⟨Vb_o8 h.v0 (by omega), Vb_o8 h.v1 (by omega), Vb_o8 h.v2 (by omega), Vb_o8 h.v3 (by omega), Bel_set8 h.bel (by omega)⟩
theorem M4_o4 {w : World} {x0 x1 x2 x3 k m : Nat} {w1 : World} (h : M4 w x0 x1 x2 x3 w1) (hk : w.heap.size + 1 + 1 + 1 < k) : M4 w x0 x1 x2 x3 ((((w1.setCell ⟨k, 0, none⟩ (.int .u64 (dg m 0))).setCell ⟨k, 1, none⟩ (.int .u64 (dg m 1))).setCell ⟨k, 2, none⟩ (.int .u64 (dg m 2))).setCell ⟨k, 3, none⟩ (.int .u64 (dg m 3))) := ⟨Vb_o4 h.v0 (by omega), Vb_o4 h.v1 (by omega), Vb_o4 h.v2 (by omega), Vb_o4 h.v3 (by omega), Bel_set4 h.bel (by omega)⟩
theorem M4_set3 {w : World} {x0 x1 x2 x3 m : Nat} {w1 : World} (h : M4 w x0 x1 x2 x3 w1) : M4 w x0 x1 x2 m ((((w1.setCell ⟨w.heap.size + 1 + 1 + 1, 0, none⟩ (.int .u64 (dg m 0))).setCell ⟨w.heap.size + 1 + 1 + 1, 1, none⟩ (.int .u64 (dg m 1))).setCell ⟨w.heap.size + 1 + 1 + 1, 2, none⟩ (.int .u64 (dg m 2))).setCell ⟨w.heap.size + 1 + 1 + 1, 3, none⟩ (.int .u64 (dg m 3))) := ⟨Vb_o4 h.v0 (by omega), Vb_o4 h.v1 (by omega), Vb_o4 h.v2 (by omega), Vb_set4 h.v3, Bel_set4 h.bel (by omega)⟩
theorem M4_set2 {w : World} {x0 x1 x2 x3 m : Nat} {w1 : World} (h : M4 w x0 x1 x2 x3 w1) : M4 w x0 x1 m x3 ((((w1.setCell ⟨w.heap.size + 1 + 1, 0, none⟩ (.int .u64 (dg m 0))).setCell ⟨w.heap.size + 1 + 1, 1, none⟩ (.int .u64 (dg m 1))).setCell ⟨w.heap.size + 1 + 1, 2, none⟩ (.int .u64 (dg m 2))).setCell ⟨w.heap.size + 1 + 1, 3, none⟩ (.int .u64 (dg m 3))) := ⟨Vb_o4 h.v0 (by omega), Vb_o4 h.v1 (by omega), Vb_set4 h.v2, Vb_o4 h.v3 (by omega), Bel_set4 h.bel (by omega)⟩
end Go.Proofs.Ytengpjalkiibiaa
/- What a call holds in memory: a list of blocks of its own, each with its cells; all below the call's start is as it was. -/
namespace Go.Proofs.Ytengpjalkiibiaa
namespace Hm
open Go.RowKit
structure Bk where
  g : Nat
  n : Nat
  F : Nat → Value
structure Ok (B : Nat) (k : Bk) (wx : World) : Prop where
  lo : B ≤ k.g
  hi : k.g < wx.heap.size
  c : ∀ o, o < k.n → wx.cell? ⟨k.g, o, none⟩ = some (k.F o)
  f : ∀ o, wx.frozen? ⟨k.g, o, none⟩ = false
structure Hd (w : World) (L : List Bk) (wx : World) : Prop where
  bel : Below w.heap.size w wx
  ok : ∀ k, k ∈ L → Ok w.heap.size k wx
/-- A word's block. -/
def W4 (g x : Nat) : Bk := ⟨g, 4, fun o => .int .u64 (dg x o)⟩
def updv (F : Nat → Value) (k : Nat) (v : Value) : Nat → Value := fun o => if o = k then v else F o
theorem Ok_below {B : Nat} {k : Bk} {w1 w2 : World} (h : Ok B k w1) (hb : Below w1.heap.size w1 w2) : Ok B k w2 :=
  ⟨h.lo, Nat.lt_of_lt_of_le h.hi hb.size, fun o ho => (hb.cell (p := ⟨k.g, o, none⟩) h.hi).trans (h.c o ho), fun o => (hb.frozen (p := ⟨k.g, o, none⟩) h.hi).trans (h.f o)⟩
theorem Ok_other {B : Nat} {k : Bk} {w1 : World} {a : Addr} {v : Value} (h : Ok B k w1) (hne : a.block ≠ k.g) : Ok B k (w1.setCell a v) :=
  ⟨h.lo, by simpa using h.hi, fun o ho => by rw [World.cell?_setCell_other w1 a _ v (fun e => hne (by rw [e]))]; exact h.c o ho, fun o => by rw [World.frozen?_setCell]; exact h.f o⟩
theorem Ok_set {B i : Nat} {k : Bk} {w1 : World} {v : Value} (h : Ok B k w1) (hi : i < k.n) : Ok B ⟨k.g, k.n, updv k.F i v⟩ (w1.setCell ⟨k.g, i, none⟩ v) :=
  ⟨h.lo, by simpa using h.hi, fun o ho => by
    unfold updv
    by_cases e : o = i
    · subst e
      have := World.cell?_setCell_same w1 ⟨k.g, o, none⟩ v (h.c o hi)
      simpa using this
    · have := World.cell?_setCell_other w1 ⟨k.g, i, none⟩ ⟨k.g, o, none⟩ v (fun e' => e (by simpa using e'.symm))
      simp only [if_neg e]
      exact this.trans (h.c o ho), fun o => by rw [World.frozen?_setCell]; exact h.f o⟩
theorem Ok_ext {B : Nat} {k : Bk} {G : Nat → Value} {w1 : World} (h : Ok B k w1) (e : ∀ o, o < k.n → k.F o = G o) : Ok B ⟨k.g, k.n, G⟩ w1 :=
  ⟨h.lo, h.hi, fun o ho => (h.c o ho).trans (congrArg some (e o ho)), h.f⟩
theorem below {w : World} {L : List Bk} {w1 w2 : World} (h : Hd w L w1) (hb : Below w1.heap.size w1 w2) : Hd w L w2 :=
  ⟨h.bel.trans (hb.mono h.bel.size), fun k hk => Ok_below (h.ok k hk) hb⟩
theorem drew {w : World} {L : List Bk} {w1 : World} (h : Hd w L w1) : Hd w L w1.drew := below h (Below.refl _ _).drew
theorem al {w : World} {L : List Bk} {w1 : World} (h : Hd w L w1) (o : Obj) : Hd w L (w1.alloc o) := below h ((Below.refl _ _).alloc (Nat.le_refl _) o)
theorem start (w : World) : Hd w [] w := ⟨Below.refl _ _, fun _ h => by cases h⟩
theorem sub {w : World} {L M : List Bk} {w1 : World} (h : Hd w L w1) (hs : ∀ k, k ∈ M → k ∈ L) : Hd w M w1 := ⟨h.bel, fun k hk => h.ok k (hs k hk)⟩
theorem new4 {w : World} {L : List Bk} {w1 : World} {g n : Nat} {T : TypeId} (h : Hd w L w1) (hg : g = w1.heap.size) : Hd w (W4 g n :: L) (w1.alloc (.cells #[.int .u64 (dg n 0), .int .u64 (dg n 1), .int .u64 (dg n 2), .int .u64 (dg n 3)] T)) := by
  subst hg
  refine ⟨(al h _).bel, fun k hk => ?_⟩
  rcases List.mem_cons.1 hk with rfl | hk
  · have v := Vb_new4 w.heap.size n w1 T h.bel.size
    exact ⟨v.lo, v.hi, v.c, v.f⟩
  · exact (al h _).ok k hk
theorem new0 {w : World} {L : List Bk} {w1 : World} {g : Nat} {T : TypeId} (h : Hd w L w1) (hg : g = w1.heap.size) : Hd w (W4 g 0 :: L) (w1.alloc (.cells #[.int .u64 0, .int .u64 0, .int .u64 0, .int .u64 0] T)) := new4 (n := 0) h hg
/-- A cell of the first block is set. -/
theorem set {w : World} {g n : Nat} {F : Nat → Value} {L : List Bk} {w1 : World} {i : Nat} {v : Value} (h : Hd w (⟨g, n, F⟩ :: L) w1) (hi : i < n) (hne : ∀ b, b ∈ L → g ≠ b.g) : Hd w (⟨g, n, updv F i v⟩ :: L) (w1.setCell ⟨g, i, none⟩ v) := by
  have h0 := h.ok _ (List.mem_cons_self ..)
  refine ⟨h.bel.setCell h0.lo _, fun b hb => ?_⟩
  rcases List.mem_cons.1 hb with rfl | hb
  · exact Ok_set h0 hi
  · exact Ok_other (h.ok b (List.mem_cons_of_mem _ hb)) (hne b hb)
theorem ext {w : World} {k : Bk} {G : Nat → Value} {L : List Bk} {w1 : World} (h : Hd w (k :: L) w1) (e : ∀ o, o < k.n → k.F o = G o) : Hd w (⟨k.g, k.n, G⟩ :: L) w1 := by
  refine ⟨h.bel, fun b hb => ?_⟩
  rcases List.mem_cons.1 hb with rfl | hb
  · exact Ok_ext (h.ok k (List.mem_cons_self ..)) e
  · exact h.ok b (List.mem_cons_of_mem _ hb)
/-- A word is laid into the first block. -/
theorem set4 {w : World} {g m : Nat} {F : Nat → Value} {L : List Bk} {w1 : World} (h : Hd w (⟨g, 4, F⟩ :: L) w1) (hne : ∀ b, b ∈ L → g ≠ b.g) : Hd w (W4 g m :: L) ((((w1.setCell ⟨g, 0, none⟩ (.int .u64 (dg m 0))).setCell ⟨g, 1, none⟩ (.int .u64 (dg m 1))).setCell ⟨g, 2, none⟩ (.int .u64 (dg m 2))).setCell ⟨g, 3, none⟩ (.int .u64 (dg m 3))) := by
  have h1 := set (i := 0) (v := .int .u64 (dg m 0)) h (by decide) hne
  have h2 := set (i := 1) (v := .int .u64 (dg m 1)) h1 (by decide) hne
  have h3 := set (i := 2) (v := .int .u64 (dg m 2)) h2 (by decide) hne
  have h4 := set (i := 3) (v := .int .u64 (dg m 3)) h3 (by decide) hne
  refine ext h4 (fun o ho => ?_)
  have : o = 0 ∨ o = 1 ∨ o = 2 ∨ o = 3 := by have : o < 4 := ho; omega
  rcases this with rfl | rfl | rfl | rfl <;> rfl
end Hm
namespace RS
open RI
variable {P : Program} {ops : Array Oper} {Q : Exit → Act → World → Prop}
/-- S till operation k is done, T from then on; k comes last. -/
def Two (S T : World → Prop) (k : Nat) (d : Nat → Bool) (w : World) : Prop := (d k = false → S w) ∧ (d k = true → T w ∧ ∀ j, j < k → d j = true)
theorem two0 {S T : World → Prop} {k : Nat} {w : World} (h : S w) : Two S T k (fun _ => false) w := ⟨fun _ => h, fun h => by cases h⟩
theorem two_step {S T : World → Prop} {k i : Nat} {o : Oper} {a : Act} {v : Value} (hik : i < k)
    (h : ∀ (K : Value → World → Prop) w, S w → (∀ w', S w' → K v w') → upv P K ((execOp a.eval o).run P w)) : ∀ (K : Value → World → Prop) d w, Two S T k d w → may ops d i → (∀ w', Two S T k (don d i) w' → K v w') → upv P K ((execOp a.eval o).run P w) := by
  intro K d w hI hmay hK
  have hdk : d k = false := by
    cases hd : d k with
    | false => rfl
    | true => have := (hI.2 hd).2 i hik; rw [hmay.1] at this; cases this
  exact h K w (hI.1 hdk) (fun w' hS' => hK w' ⟨fun _ => hS', fun h => by rw [don_other _ _ _ (by omega), hdk] at h; cases h⟩)
theorem go2 {S T : World → Prop} {k : Nat} {E : Act → Prop} {i : Nat} {o : Oper} {r : List Oper} {a a' : Act} {v : Value} (hik : i < k) (hg : o.guard = none)
    (h : ∀ (K : Value → World → Prop) w, S w → (∀ w', S w' → K v w') → upv P K ((execOp a.eval o).run P w)) (he : a.put o.dst v = a')
    (hr : Seq P ops (Two S T k) E (i + 1) r a') : Seq P ops (Two S T k) E i (o :: r) a :=
  ⟨v, .inl ⟨by simp [Region.wanted, hg], two_step hik h⟩, he ▸ hr⟩
theorem go2g {S T : World → Prop} {k : Nat} {E : Act → Prop} {i : Nat} {o : Oper} {r : List Oper} {a a' : Act} {v : Value} (hik : i < k) (hg : Region.wanted o (yielded ops a.tmps) = true)
    (h : ∀ (K : Value → World → Prop) w, S w → (∀ w', S w' → K v w') → upv P K ((execOp a.eval o).run P w)) (he : a.put o.dst v = a')
    (hr : Seq P ops (Two S T k) E (i + 1) r a') : Seq P ops (Two S T k) E i (o :: r) a :=
  ⟨v, .inl ⟨hg, two_step hik h⟩, he ▸ hr⟩
theorem go2z {S T : World → Prop} {k : Nat} {E : Act → Prop} {i : Nat} {o : Oper} {r : List Oper} {a a' : Act} (hik : i < k) (hg : Region.wanted o (yielded ops a.tmps) = false) (he : a.put o.dst undef = a')
    (hr : Seq P ops (Two S T k) E (i + 1) r a') : Seq P ops (Two S T k) E i (o :: r) a := by
  refine ⟨undef, .inr ⟨hg, rfl, fun d w hI hmay => ?_⟩, he ▸ hr⟩
  have hdk : d k = false := by
    cases hd : d k with
    | false => rfl
    | true => have := (hI.2 hd).2 i hik; rw [hmay.1] at this; cases this
  exact And.intro (fun _ => hI.1 hdk) (fun h => by rw [don_other _ _ _ (by omega), hdk] at h; cases h)
/-- The last one leads from S to T. -/
theorem go2_last {S T : World → Prop} {k : Nat} {E : Act → Prop} {o : Oper} {a a' : Act} {v : Value} (hg : o.guard = none) (hb : ((List.range k).all fun j => bindsOn o j) = true) (hk : ops[k]? = some o)
    (h : ∀ (K : Value → World → Prop) w, S w → (∀ w', T w' → K v w') → upv P K ((execOp a.eval o).run P w)) (he : a.put o.dst v = a')
    (hr : E a') : Seq P ops (Two S T k) E k [o] a := by
  refine ⟨v, .inl ⟨by simp [Region.wanted, hg], fun K d w hI hmay hK => h K w (hI.1 hmay.1) (fun w' hT => hK w' (And.intro (fun h => by rw [don_same] at h; exact absurd h (by decide)) (fun _ => And.intro hT (fun j hj => ?_))))⟩, he ▸ hr⟩
  rw [don_other _ _ _ (by omega)]
  have h1 := List.all_eq_true.1 hb j (List.mem_range.2 hj)
  unfold bindsOn at h1
  rw [Array.any_eq_true'] at h1
  obtain ⟨e, e1, e2⟩ := h1
  rw [Bool.and_eq_true, beq_iff_eq] at e2
  have h2 := hmay.2 o hk
  rw [Array.all_eq_true_iff_forall_mem] at h2
  have h3 := h2 e e1
  rw [e2.1, e2.2] at h3
  simpa using h3
theorem wp_region_two {id : Nat} {a : Act} {w : World} (S T : World → Prop) (k : Nat) (hm : P.follows .mixedOrders = true) (hok : okOps ops = true) (hk : k < ops.size) (h0 : S w.drew)
    (hs : Seq P ops (Two S T k) (fun a' => ∀ w', T w' → Q .normal a' w') 0 ops.toList a) : (Code.region id ops true).wp P Q a w := by
  refine wp_region_seq (Two S T k) hm hok (two0 h0) ?_
  have : ∀ l i a, Seq P ops (Two S T k) (fun a' => ∀ w', T w' → Q .normal a' w') i l a → Seq P ops (Two S T k) (fun a' => ∀ d w', Two S T k d w' → (∀ i, i < ops.size → d i = true) → Q .normal a' w') i l a := by
    intro l
    induction l with
    | nil => intro i a h d w' hI hall; exact h w' (hI.2 (hall k hk)).1
    | cons o r ih => intro i a h; obtain ⟨v, h1, h2⟩ := h; exact ⟨v, h1, ih _ _ h2⟩
  exact this _ _ _ hs
theorem wp_region_one {id : Nat} {a : Act} {w : World} (S : World → Prop) (hm : P.follows .mixedOrders = true) (hok : okOps ops = true) (h0 : S w.drew)
    (hs : Seq P ops (fun _ => S) (fun a' => ∀ w', S w' → Q .normal a' w') 0 ops.toList a) : (Code.region id ops true).wp P Q a w := by
  refine wp_region_seq (fun _ => S) hm hok h0 ?_
  have : ∀ l i a, Seq P ops (fun _ => S) (fun a' => ∀ w', S w' → Q .normal a' w') i l a → Seq P ops (fun _ => S) (fun a' => ∀ (d : Nat → Bool) w', S w' → (∀ i, i < ops.size → d i = true) → Q .normal a' w') i l a := by
    intro l
    induction l with
    | nil => intro i a h d w' hI _; exact h w' hI
    | cons o r ih => intro i a h; obtain ⟨v, h1, h2⟩ := h; exact ⟨v, h1, ih _ _ h2⟩
  exact this _ _ _ hs
end RS
end Go.Proofs.Ytengpjalkiibiaa
