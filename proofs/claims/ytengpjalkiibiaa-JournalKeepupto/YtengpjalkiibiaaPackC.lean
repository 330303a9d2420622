/- journal: Back. -/
import Derived.Test.YtengpjalkiibiaaPackB
import Derived.ControlIn
import Derived.Shelf.SlGeneric
import Derived.Shelf.SlSortCmp.Whole1
import Derived.Ground.SlsfProg
import Derived.Test.YtengpjalkiibiaaProg
import Derived.Test.YtengpjalkiibiaaPackA
import Derived.Sort.OwnSorted
import Derived.Deep.Cut
import Derived.Maps.RangeWalk
import Derived.OwnWalk
import Derived.LoopN
import Derived.ProofKit
import Derived.OpenShut
import Derived.ShutString
import Derived.ChangeOld
import Derived.Laws.IdiomArrays
import Derived.Lib.SmallJoins
import Derived.Below
import Derived.Laws.BitsAllLaws
namespace Go.Proofs.Ytengpjalkiibiaa
namespace Jn
variable {X : Nat → Prop}
open Go.RowKit Go.Shelf Go.Maps
attribute [local go_sem] Oper.semAt_some
set_option maxRecDepth 100000 in
theorem back_none (B gj gm N : Nat) (t : Fn) (p : Ps) (pv mv : Value) (w : World) (h : JS X B gj gm N t p [] pv mv w) :
    Calls Try.prog 29 #[.pointer (some ⟨gj, 0, none⟩)] w fun e w' => e = .returned (.bool false) ∧ JS X B gj gm N t p [] pv mv w' ∧ Kj X B gj gm w w' := by
  obtain ⟨a2, k2, rfl⟩ := own_form h.mw
  have c2 := h.c2
  have hB1 : Below w.heap.size w (w.alloc (.cells #[.pointer (some ⟨gj, 0, none⟩)] 44)) := (Below.refl _ _).alloc (Nat.le_refl _) _
  have HJ : Hid (JS X B gj gm N t p [] pv (.slice a2 ([] : List Nat).length k2) (w.alloc (.cells #[.pointer (some ⟨gj, 0, none⟩)] 44)) ∧ Kj X B gj gm w (w.alloc (.cells #[.pointer (some ⟨gj, 0, none⟩)] 44))) := ⟨h.below hB1, Kj_below hB1 h.hi h.hx⟩
  have c2' := HJ.out.1.c2
  clear h hB1
  refine (callsIn_wide (n := 5)).1 ?_
  refine callsIn_of_wp_marks Try.func29 rfl trivial ?_ rfl
  simp only [Try.ntmps29, List.size_toArray, List.length_cons, List.length_nil, Nat.reduceAdd, Nat.reduceSub, Array.replicate_succ, Array.replicate_zero, List.push_toArray, List.append_toArray, List.nil_append, List.cons_append]
  gi_wp2
  exact ⟨_, results_tmp rfl _ _ _, rfl, HJ.out⟩
theorem cells_at {B e s n cap : Nat} {ao : Option Addr} {xs : List Value} {w : World} (h : w.ownsRow B e s (.slice ao n cap) n xs) (hn : 0 < n) : ∃ g, ao = some ⟨g, 0, none⟩ ∧ B ≤ g ∧ g < w.heap.size ∧ ∀ j, j < n * s → w.cell? ⟨g, j, none⟩ = xs[j]? := by
  obtain ⟨g, cap', e, h1, h2⟩ := h.form hn
  injection e with e1 _ e3
  subst e1 e3
  exact ⟨g, rfl, h1, h2, fun j hj => h.cellAt j hj⟩
theorem last_mark (m : Nat) (ms : List Nat) : (cms (m :: ms).reverse)[ms.length]? = some (.int .i64 (m : Int)) := by
  rw [cms_one, List.getElem?_append_right (by rw [cms_len, List.length_reverse]; exact Nat.le_refl _), cms_len, List.length_reverse, Nat.sub_self]
  rfl
/-- What was done is of words. -/
def WQ (p : Ps) : Prop := ∀ c, c ∈ p → c.1 < 18446744073709551616 ∧ c.2 < 18446744073709551616
def fl (q : Ps) (t : Fn) (ns : List Nat) : Fn := ns.foldl (fun f j => und (q.getD j c00) f) t
theorem fl_app (q : Ps) (t : Fn) (ns : List Nat) (j : Nat) : fl q t (ns ++ [j]) = und (q.getD j c00) (fl q t ns) := by simp [fl]
theorem fl_all : ∀ (q : Ps) (t : Fn), fl q t (List.range q.length).reverse = q.foldr und t
  | [], t => rfl
  | c :: q, t => by
    have e : ∀ l : List Nat, fl (c :: q) t (l.map Nat.succ) = fl q t l := fun l => by
      unfold fl
      rw [List.foldl_map]
      rfl
    rw [List.length_cons, List.range_succ_eq_map, List.reverse_cons, ← List.map_reverse, fl_app, e, fl_all q t]
    rfl
theorem row_cells {B e z n : Nat} {v : Value} {xs : List Value} {W : World} {k : Nat} (h : W.ownsRow B e z v n xs) (hk : v.ownBlock = some k) : ∃ o, W.heap[k]? = some o ∧ o.isCells = true := by
  rcases h.2 with ⟨h3, _⟩ | ⟨g, cap, cur, h3, h5⟩
  · subst h3; cases hk
  · subst h3
    cases hk
    exact ⟨_, h5.2.1, rfl⟩
/-- While changes are taken back. -/
def Tb (X : Nat → Prop) (B gj gm N h0 S0 : Nat) (p : Ps) (ms : List Nat) (pv mv : Value) (w : World) (k : Nat) (f : Fn) (W : World) : Prop :=
  JS X B gj gm (N + k) f p ms pv mv W ∧ Kj X B gj gm w W ∧ W.cell? ⟨h0, 0, none⟩ = some (.pointer (some ⟨gj, 0, none⟩)) ∧ S0 ≤ W.heap.size
theorem ob_ne {B e z n : Nat} {v : Value} {xs : List Value} {W : World} {row : Option Nat} (h : W.ownsRow B e z v n xs) (hr : ∀ r, row = some r → ∃ o : Obj, W.heap[r]? = some o ∧ o.isCells = false) : v.ownBlock = none ∨ v.ownBlock ≠ row := by
  cases hv : v.ownBlock with
  | none => exact .inl rfl
  | some k =>
    right
    intro e
    obtain ⟨o, h4, h5⟩ := row_cells h hv
    obtain ⟨o', h6, h7⟩ := hr k e.symm
    rw [h4] at h6
    injection h6 with h6
    subst h6
    rw [h5] at h7; cases h7
theorem Tb_own (B gj gm N h0 S0 : Nat) (p : Ps) (ms : List Nat) (pv mv : Value) (w : World) (hB : B ≤ S0) (hh : h0 < S0) (hX : ∀ k, X k → k < S0) {β : Type} (k : β → Nat) (f : β → Fn) : OwnFrom S0 (fun s W => Tb X B gj gm N h0 S0 p ms pv mv w (k s) (f s) W) := by
  rintro s W W' row ⟨hj, hk, hc, hs⟩ hg hr
  have hr' : ∀ r, row = some r → ∃ o : Obj, W.heap[r]? = some o ∧ o.isCells = false := fun r e => (hr r e).2
  have hlo : ∀ r, row = some r → S0 ≤ r := fun r e => (hr r e).1
  refine ⟨hj.gb hg (fun e => by have := hlo _ e.symm; have := hj.lj; omega) (fun e => by have := hlo _ e.symm; have := hj.lm; omega) (ob_ne hj.pw hr') (ob_ne hj.mw hr'), ?_, ?_, Nat.le_trans hs hg.size⟩
  · exact Kj_trans hk (Kj_gb hg hj.hi hj.hx (fun r e => .inr (.inr ⟨Nat.le_trans hB (hlo r e), fun hk => by have := hX r hk; have := hlo r e; omega⟩)))
  · exact (World.cell?_of_block (a := ⟨h0, 0, none⟩) (hg.block h0 (by omega) (fun e => by have := hlo _ e.symm; omega))).trans hc
theorem cut_past {B gj gm N m : Nat} {t : Fn} {p : Ps} {ms : List Nat} {mv : Value} {a1 : Option Addr} {k1 k : Nat} {w : World} (h : JS X B gj gm (N + k) t p ms (.slice a1 p.length k1) mv w) (hm : m + k = p.length) : JS X B gj gm N t (p.take m) ms (.slice a1 m k1) mv (w.setCell ⟨gj, 1, none⟩ (.slice a1 m k1)) ∧ Kj X B gj gm w (w.setCell ⟨gj, 1, none⟩ (.slice a1 m k1)) := by
  have h1 := own_cut h.pw m (by omega)
  rw [← cps_take] at h1
  have hl : (p.take m).length = m := by rw [List.length_take]; omega
  have h2 : w.ownsRow B 79 3 (.slice a1 m k1) (p.take m).length (cps (p.take m)) := by rw [hl]; exact h1
  exact h.past' (gb_refl _ _) h2 (fun g eg => .inl (by cases a1 <;> exact eg)) (fun n hn => by rw [hl]; omega)
theorem row_ch {B e cap m : Nat} {ao : Option Addr} {p : Ps} {w : World} (h : w.ownsRow B e 3 (.slice ao p.length cap) p.length (cps p)) (hm : m < p.length) : ∃ b, ao = some ⟨b, 0, none⟩ ∧ B ≤ b ∧ b < w.heap.size ∧ Ch (p.drop m) b (m * 3) w := by
  obtain ⟨g, e, h1, h2, h3⟩ := cells_at h (by omega)
  refine ⟨g, e, h1, h2, fun j hj => ?_⟩
  have hj' : m + j < p.length := by rw [List.length_drop] at hj; omega
  have eg : (p.drop m).getD j c00 = p[m + j] := by
    rw [List.getD_eq_getElem?_getD, List.getElem?_drop, List.getElem?_eq_getElem hj']
    rfl
  have k := fun i (hi : i < 3) => (h3 ((m + j) * 3 + i) (by omega)).trans (cps_at p (m + j) i hj' hi)
  rw [eg, show m * 3 + j * 3 = (m + j) * 3 by omega]
  exact ⟨k 0 (by decide), k 1 (by decide), k 2 (by decide)⟩
set_option maxHeartbeats 4000000 in
set_option maxRecDepth 100000 in
theorem back_go (B gj gm N m : Nat) (t : Fn) (p : Ps) (ms : List Nat) (mv : Value) (a1 : Option Addr) (k1 : Nat) (w : World) (h : JS X B gj gm N t p (m :: ms) (.slice a1 p.length k1) mv w) (hm : m ≤ p.length) (hN : N + p.length ≤ 4194303) (hcap : ¬ k1 = m) (hq : WQ p) :
    Calls Try.prog 29 #[.pointer (some ⟨gj, 0, none⟩)] w fun e w' => e = .returned (.bool true) ∧ ∃ pv' mv', JS X B gj gm N ((p.drop m).foldr und t) (p.take m) ms pv' mv' w' ∧ Kj X B gj gm w w' := by
  obtain ⟨a2, k2, rfl⟩ := own_form h.mw
  obtain ⟨k3, k4⟩ := cap_le h.mw
  obtain ⟨k5, k6⟩ := cap_le h.pw
  obtain ⟨g2, rfl, q1, q2, q3⟩ := cells_at h.mw (by simp)
  have x2 : w.cell? ⟨g2, ms.length, none⟩ = some (.int .i64 (m : Int)) := (q3 _ (by simp)).trans (last_mark m ms)
  have hB1 : Below w.heap.size w (w.alloc (.cells #[.pointer (some ⟨gj, 0, none⟩)] 44)) := (Below.refl _ _).alloc (Nat.le_refl _) _
  have xb : (w.alloc (.cells #[.pointer (some ⟨gj, 0, none⟩)] 44)).cell? ⟨w.heap.size, 0, none⟩ = some (.pointer (some ⟨gj, 0, none⟩)) := by simp [go_sem]
  have xs : w.heap.size < (w.alloc (.cells #[.pointer (some ⟨gj, 0, none⟩)] 44)).heap.size := by simp
  obtain ⟨q, hqd⟩ : ∃ q, q = p.drop m := ⟨_, rfl⟩
  obtain ⟨nq, hnq⟩ : ∃ nq, nq = p.length - m := ⟨_, rfl⟩
  have hql : q.length = nq := by rw [hqd, hnq, List.length_drop]
  have HA : Hid (0 < q.length → ∃ b, Option.map (fun x => x.add (m * 3)) a1 = some ⟨b, m * 3, none⟩ ∧ B ≤ b ∧ b < w.heap.size ∧ Ch q b (m * 3) w) := fun h0 => by
    obtain ⟨b, e1, e2, e3, e4⟩ := row_ch h.pw (m := m) (by omega)
    exact ⟨b, by rw [e1]; simp [Go.WideShapes.add_plain], e2, e3, by rw [hqd]; exact e4⟩
  have HQ : Hid (∀ j, j < q.length → (q.getD j c00).1 < 18446744073709551616 ∧ (q.getD j c00).2 < 18446744073709551616) := fun j hj => by
    have := hq (q.getD j c00) (by
      rw [List.getD_eq_getElem?_getD, List.getElem?_eq_getElem hj]
      have : q[j] ∈ p.drop m := hqd ▸ List.getElem_mem hj
      exact List.mem_of_mem_drop this)
    exact this
  have HD : Hid (q = p.drop m ∧ q.length = nq ∧ m + nq = p.length) := ⟨hqd, hql, by omega⟩
  have H : Hid (JS X B gj gm N t p (m :: ms) (.slice a1 p.length k1) (.slice (some ⟨g2, 0, none⟩) (m :: ms).length k2) w) := h
  have HE : Hid ((m :: ms).length = ms.length + 1) := rfl
  have X2 : Hid (w.cell? ⟨g2, ms.length, none⟩ = some (.int .i64 (m : Int)) ∧ g2 < w.heap.size) := ⟨x2, q2⟩
  have HM : Hid (m ≤ p.length ∧ p.length ≤ k1) := ⟨hm, k5⟩
  have HN : Hid (N + p.length ≤ 4194303) := hN
  clear x2 q1 q2 q3 h hq hN hqd hql
  rw [← HD.out.1]
  refine (callsIn_wide (n := 5)).1 ?_
  refine callsIn_of_wp_marks Try.func29 rfl trivial ?_ rfl
  simp only [Try.ntmps29, List.size_toArray, List.length_cons, List.length_nil, Nat.reduceAdd, Nat.reduceSub, Array.replicate_succ, Array.replicate_zero, List.push_toArray, List.append_toArray, List.nil_append, List.cons_append]
  obtain ⟨n, hn⟩ : ∃ n, n = ms.length := ⟨_, rfl⟩
  obtain ⟨np, hnp⟩ : ∃ np, np = p.length := ⟨_, rfl⟩
  have HL : Hid (n = ms.length ∧ np = p.length) := ⟨hn, hnp⟩
  rw [HE.out, ← hn] at H k3 k4
  rw [← hn] at X2
  rw [← hnp] at H HM k5 k6 HN HD hnq
  clear hn hnp HE hm
  have t0 : (((n + 1 : Nat) : Int) == 0) = false := by rw [beq_eq_false_iff_ne]; omega
  have t1 : decide (((n + 1 : Nat) : Int) = 0) = false := decide_eq_false (by omega)
  have t2 : ((n : Int) + 1 == 0) = false := by rw [beq_eq_false_iff_ne]; omega
  have t3 : decide ((n : Int) + 1 = 0) = false := decide_eq_false (by omega)
  have t4 : ¬ ((n : Int) + 1 = 0) := by omega
  have HJ1 : Hid (JS X B gj gm N t p (m :: ms) (.slice a1 np k1) (.slice (some ⟨g2, 0, none⟩) (n + 1) k2) (w.alloc (.cells #[.pointer (some ⟨gj, 0, none⟩)] 44))) := H.out.below hB1
  have c1 := HJ1.out.c1
  have c2 := HJ1.out.c2
  have x2 : (w.alloc (.cells #[.pointer (some ⟨gj, 0, none⟩)] 44)).cell? ⟨g2, n, none⟩ = some (.int .i64 (m : Int)) := (hB1.cell (p := ⟨g2, n, none⟩) X2.out.2).trans X2.out.1
  have HNQ : Hid (nq = np - m) := hnq
  clear hnq
  gi_wp2
  clear t0 t1 t2 t3 t4
  generalize w.alloc (.cells #[.pointer (some ⟨gj, 0, none⟩)] 44) = V1 at hB1 xb xs c1 c2 x2 HJ1 ⊢
  rename_i Q' KQ hKQ
  have XB : Hid (V1.cell? ⟨w.heap.size, 0, none⟩ = some (.pointer (some ⟨gj, 0, none⟩)) ∧ w.heap.size < V1.heap.size) := ⟨xb, xs⟩
  have C1 : Hid (V1.cell? ⟨gj, 1, none⟩ = some (.slice a1 np k1)) := c1
  have C2 : Hid (V1.cell? ⟨gj, 2, none⟩ = some (.slice (some ⟨g2, 0, none⟩) (n + 1) k2)) := c2
  have XM : Hid (V1.cell? ⟨g2, n, none⟩ = some (.int .i64 (m : Int)) ∧ g2 < V1.heap.size) := ⟨x2, Nat.lt_of_lt_of_le X2.out.2 hB1.size⟩
  have HGJ : Hid (gj < V1.heap.size) := Nat.lt_of_lt_of_le HJ1.out.lj HJ1.out.hi
  have HW : Hid (IntKind.i64.wrap (((n + 1 : Nat) : Int) - 1) = (n : Int) ∧ IntKind.i64.wrap ((n : Int) + 1 - 1) = (n : Int) ∧ IntKind.i64.wrap (n : Int) = (n : Int) ∧ wrap64 (n : Int) = (n : Int)) := by
    refine ⟨?_, ?_, ?_, ?_⟩ <;> first | (rw [IntKind.wrap_i64]; omega) | (unfold wrap64; omega)
  have HB1 : Hid (Below w.heap.size w V1) := hB1
  have HK2 : Hid (n + 1 ≤ k2) := k3
  clear xb xs c1 c2 x2 hB1 k3 k4 k5 k6
  refine wpIn_wide.2 ?_
  refine RS.wp_region_one (fun wx => Below V1.heap.size V1 wx) (by kernel_rfl) (by kernel_rfl) ((Below.refl _ _).drew) ?_
  dsimp only [List.toList_toArray]
  refine RS.go1 (v := ?_) (a' := ?_) rfl ?_ ?_ ?_
  rotate_left 2
  · intro K wx hS hK
    have xb := (hS.cell (p := ⟨w.heap.size, 0, none⟩) XB.out.2).trans XB.out.1
    go_simp
    exact hK _ hS
  · simp only [Act.put, List.setIfInBounds_toArray, List.set_cons_succ, List.set_cons_zero]
    rfl
  refine RS.go1 (v := ?_) (a' := ?_) rfl ?_ ?_ ?_
  rotate_left 2
  · intro K wx hS hK
    go_simp
    exact hK _ hS
  · simp only [Act.put, List.setIfInBounds_toArray, List.set_cons_succ, List.set_cons_zero]
    rfl
  refine RS.go1 (v := ?_) (a' := ?_) rfl ?_ ?_ ?_
  rotate_left 2
  · intro K wx hS hK
    go_simp
    exact hK _ hS
  · simp only [Act.put, List.setIfInBounds_toArray, List.set_cons_succ, List.set_cons_zero]
    rfl
  refine RS.go1 (v := ?_) (a' := ?_) rfl ?_ ?_ ?_
  rotate_left 2
  · intro K wx hS hK
    have c2 := (hS.cell (p := ⟨gj, 2, none⟩) HGJ.out).trans C2.out
    go_simp
    exact hK _ hS
  · simp only [Act.put, List.setIfInBounds_toArray, List.set_cons_succ, List.set_cons_zero]
    rfl
  refine RS.go1 (v := ?_) (a' := ?_) rfl ?_ ?_ ?_
  rotate_left 2
  · intro K wx hS hK
    have xb := (hS.cell (p := ⟨w.heap.size, 0, none⟩) XB.out.2).trans XB.out.1
    go_simp
    exact hK _ hS
  · simp only [Act.put, List.setIfInBounds_toArray, List.set_cons_succ, List.set_cons_zero]
    rfl
  refine RS.go1 (v := ?_) (a' := ?_) rfl ?_ ?_ ?_
  rotate_left 2
  · intro K wx hS hK
    go_simp
    exact hK _ hS
  · simp only [Act.put, List.setIfInBounds_toArray, List.set_cons_succ, List.set_cons_zero]
    rfl
  refine RS.go1 (v := ?_) (a' := ?_) rfl ?_ ?_ ?_
  rotate_left 2
  · intro K wx hS hK
    go_simp
    exact hK _ hS
  · simp only [Act.put, List.setIfInBounds_toArray, List.set_cons_succ, List.set_cons_zero]
    rfl
  refine RS.go1 (v := ?_) (a' := ?_) rfl ?_ ?_ ?_
  rotate_left 2
  · intro K wx hS hK
    have c2 := (hS.cell (p := ⟨gj, 2, none⟩) HGJ.out).trans C2.out
    go_simp
    exact hK _ hS
  · simp only [Act.put, List.setIfInBounds_toArray, List.set_cons_succ, List.set_cons_zero]
    rfl
  refine RS.go1 (v := ?_) (a' := ?_) rfl ?_ ?_ ?_
  rotate_left 2
  · intro K wx hS hK
    go_simp
    exact hK _ hS
  · simp only [Act.put, List.setIfInBounds_toArray, List.set_cons_succ, List.set_cons_zero]
    rfl
  refine RS.go1 (v := ?_) (a' := ?_) rfl ?_ ?_ ?_
  rotate_left 2
  · intro K wx hS hK
    go_simp
    first | rw [HW.out.1] | rw [HW.out.2.1] | rw [HW.out.2.2.1] | rw [HW.out.2.2.2]
    exact hK _ hS
  · simp only [Act.put, List.setIfInBounds_toArray, List.set_cons_succ, List.set_cons_zero]
    rfl
  refine RS.go1 (v := ?_) (a' := ?_) rfl ?_ ?_ ?_
  rotate_left 2
  · intro K wx hS hK
    have i0 : (0 : Int) ≤ (n : Int) := by omega
    have i1 : (n : Int) < (n : Int) + 1 := by omega
    have i2 : n < n + 1 := by omega
    go_simp
    exact hK _ hS
  · simp only [Act.put, List.setIfInBounds_toArray, List.set_cons_succ, List.set_cons_zero]
    rfl
  refine RS.go1 (v := ?_) (a' := ?_) rfl ?_ ?_ ?_
  rotate_left 2
  · intro K wx hS hK
    have x2 := (hS.cell (p := ⟨g2, n, none⟩) XM.out.2).trans XM.out.1
    go_simp
    exact hK _ hS
  · simp only [Act.put, List.setIfInBounds_toArray, List.set_cons_succ, List.set_cons_zero]
    rfl
  refine RS.go1 (v := ?_) (a' := ?_) rfl ?_ ?_ ?_
  rotate_left 2
  · intro K wx hS hK
    go_simp
    exact hK _ hS
  · simp only [Act.put, List.setIfInBounds_toArray, List.set_cons_succ, List.set_cons_zero]
    rfl
  refine RS.go_end ?_
  intro w9 h9
  have S9 : Hid (Below V1.heap.size V1 w9) := h9
  clear h9
  show KQ _ _
  refine hKQ _ _ ?_
  clear hKQ
  have xb := (S9.out.cell (p := ⟨w.heap.size, 0, none⟩) XB.out.2).trans XB.out.1
  have c1 := (S9.out.cell (p := ⟨gj, 1, none⟩) HGJ.out).trans C1.out
  have i0 : (0 : Int) ≤ (m : Int) := by omega
  have i1 : (m : Int) ≤ (np : Int) := by have := HM.out.1; omega
  have i2 : m ≤ np := HM.out.1
  gi_wp2_with (refine ⟨trivial, ?_⟩; gi_at_call 40; refine (bwc_in _ _ trivial rfl _ _ _ _).mono ?_; rintro e w' ⟨rfl, rfl⟩)
  rename_i KQ2 hKQ2
  rw [← HNQ.out]
  obtain ⟨ao, hao⟩ : ∃ ao, ao = Option.map (fun x => x.add (m * 3)) a1 := ⟨_, rfl⟩
  rw [← hao] at HA ⊢
  clear hao i0 i1 i2 c1 hcap
  have SA := (Below.refl w9.heap.size w9).alloc (Nat.le_refl _) (.cells #[.slice ao nq (k1 - m)] 59)
  have k1' : (w9.alloc (.cells #[.slice ao nq (k1 - m)] 59)).cell? ⟨w.heap.size, 0, none⟩ = some (.pointer (some ⟨gj, 0, none⟩)) := (SA.cell (p := ⟨w.heap.size, 0, none⟩) (Nat.lt_of_lt_of_le XB.out.2 S9.out.size)).trans xb
  have k2' : (w9.alloc (.cells #[.slice ao nq (k1 - m)] 59)).cell? ⟨w9.heap.size, 0, none⟩ = some (.slice ao nq (k1 - m)) := by simp [go_sem]
  have k3' : (w9.alloc (.cells #[.slice ao nq (k1 - m)] 59)).heap.size = w9.heap.size + 1 := by simp
  have hw9 : w.heap.size < w9.heap.size := Nat.lt_of_lt_of_le XB.out.2 S9.out.size
  have SW : Below w.heap.size w w9 := HB1.out.trans (S9.out.mono HB1.out.size)
  have SW0 : Below w.heap.size w (w9.alloc (.cells #[.slice ao nq (k1 - m)] 59)) := SW.trans (SA.mono SW.size)
  generalize w9.alloc (.cells #[.slice ao nq (k1 - m)] 59) = W0 at *
  have HBw : B ≤ w.heap.size := H.out.hi
  have HXw : Hid (∀ k, X k → k < W0.heap.size) := fun k hk => Nat.lt_of_lt_of_le (H.out.hx k hk) SW0.size
  have L0 : Tb X B gj gm N w.heap.size W0.heap.size p (m :: ms) (.slice a1 np k1) (.slice (some ⟨g2, 0, none⟩) (n + 1) k2) w (([] : List (Fin q.length)).length) (fl q t (([] : List (Fin q.length)).map (·.1))) W0 := ⟨H.out.below SW0, Kj_below SW0 HBw H.out.hx, k1', Nat.le_refl _⟩
  obtain ⟨b, hbo, hbk⟩ : ∃ b, (b = w.heap.size ∨ (B ≤ b ∧ b < w.heap.size)) ∧ (0 < q.length → ∃ off, ao = some ⟨b, off, none⟩ ∧ b < w.heap.size ∧ Ch q b off w) := by
    by_cases h0 : 0 < q.length
    · obtain ⟨b, e1, e2, e3, e4⟩ := HA.out h0
      exact ⟨b, .inr ⟨e2, e3⟩, fun _ => ⟨_, e1, e3, e4⟩⟩
    · exact ⟨w.heap.size, .inl rfl, fun h => absurd h h0⟩
  have HJN : Hid (gm < B ∧ gj < B) := ⟨H.out.lm, H.out.lj⟩
  refine wpIn_rangeFunc_ownH (F := Fence.wide) rfl (by decide) (gf := 48) (lb := #[.pointer (some ⟨w9.heap.size, 0, none⟩)]) rfl trivial (enters_of Try.func48 (by kernel_rfl) rfl)
    (bwc_stops Fence.wide 4 trivial rfl (by decide) w9.heap.size b ((k1 - m)) ao q (by have := HN.out; have := HD.out; omega) W0 (by omega) (by rw [HD.out.2.1]; exact k2') (fun h0 => by
      obtain ⟨off, e, hlt, hc⟩ := hbk h0
      exact ⟨off, e, Nat.lt_of_lt_of_le hlt SW0.size, fun j hj => ⟨(SW0.cell (p := ⟨b, off + j * 3, none⟩) hlt).trans (hc j hj).1, (SW0.cell (p := ⟨b, off + j * 3 + 1, none⟩) hlt).trans (hc j hj).2.1, (SW0.cell (p := ⟨b, off + j * 3 + 2, none⟩) hlt).trans (hc j hj).2.2⟩⟩)) Kp2_t ?hKb (Below.refl _ _) (fun _ => rfl)
    (fun pre W => Tb X B gj gm N w.heap.size W0.heap.size p (m :: ms) (.slice a1 np k1) (.slice (some ⟨g2, 0, none⟩) (n + 1) k2) w pre.length (fl q t (pre.map (·.1))) W) (fun _ _ _ => False) (Tb_own B gj gm N _ _ p _ _ _ w (by omega) (by omega) HXw.out _ _) (fun _ _ _ _ _ h _ _ => h) L0
    (fun x a' W => ∃ Bx, W0.heap.size ≤ Bx ∧ W.cell? ⟨Bx, 0, none⟩ = some (.int .u64 ((q.getD x.1 c00).1 : Int)) ∧ W.cell? ⟨Bx, 1, none⟩ = some (.int .u64 ((q.getD x.1 c00).2 : Int)) ∧ W.cell? ⟨Bx, 2, none⟩ = some (.bool (decide ((q.getD x.1 c00).2 ≠ 0))) ∧ a' = { tmps := #[.pointer (some ⟨gj, 0, none⟩), .pointer (some ⟨w.heap.size, 0, none⟩), .bool false, .int .i64 (m : Int), undef, .pointer (some ⟨Bx, 0, none⟩), .pointer (some ⟨gj, 0, none⟩), .pointer (some ⟨gj, 0, none⟩), .pointer (some ⟨gj, 2, none⟩), .slice (some ⟨g2, 0, none⟩) (n + 1) k2, .int .i64 ((n : Int) + 1), .bool false, .pointer (some ⟨gj, 0, none⟩), .pointer (some ⟨gj, 0, none⟩), .pointer (some ⟨gj, 2, none⟩), .slice (some ⟨g2, 0, none⟩) (n + 1) k2, .pointer (some ⟨gj, 0, none⟩), .pointer (some ⟨gj, 0, none⟩), .pointer (some ⟨gj, 2, none⟩), .slice (some ⟨g2, 0, none⟩) (n + 1) k2, .int .i64 ((n : Int) + 1), .int .i64 (n : Int), .pointer (some ⟨g2, n, none⟩), .int .i64 (m : Int), .pointer (some ⟨gj, 0, none⟩), .pointer (some ⟨gj, 0, none⟩), .pointer (some ⟨gj, 1, none⟩), .slice a1 np k1, .int .i64 (m : Int), .slice ao nq (k1 - m), .func (.func 48) #[] #[.pointer (some ⟨w9.heap.size, 0, none⟩)], .int .i64 (x.1 : Int), cv (q.getD x.1 c00), undef, undef, undef, undef, undef, undef, undef, undef, undef, undef, undef, undef, undef, undef, undef, undef, undef, undef, undef, undef, undef, undef, undef, undef, undef, undef], defers := [] })
    (fun x a' _ A C row hs hg hr => by
      obtain ⟨Bx, h1, h2, h3, h4, h5⟩ := hs
      have hr' : ∀ r, row = some r → ∃ o : Obj, A.heap[r]? = some o ∧ o.isCells = false := fun r e => (hr r e).2
      exact ⟨Bx, h1, cell_kept h2 hg hr', cell_kept h3 hg hr', cell_kept h4 hg hr', h5⟩) ?assign ?body ?done ?stop
  case hKb =>
    intro W l o o' hl _ _ _ i
    have e1 : (W.putObj l o').heap[w9.heap.size]? = W.heap[w9.heap.size]? := World.putObj_heap_other (fun e => by omega)
    have e2 : (W.putObj l o').heap[b]? = W.heap[b]? := World.putObj_heap_other (fun e => by omega)
    exact ⟨World.cell?_of_block (a := ⟨w9.heap.size, i, none⟩) e1, World.cell?_of_block (a := ⟨b, i, none⟩) e2⟩
  case assign =>
    intro l pre x W Kc hI hK
    have hsz : W0.heap.size ≤ W.heap.size := hI.2.2.2
    have HK : Hid (∀ a' W', KeepsFrom W0.heap.size W W' → Kp2 w9.heap.size b W W' → Tb X B gj gm N w.heap.size W0.heap.size p (m :: ms) (.slice a1 np k1) (.slice (some ⟨g2, 0, none⟩) (n + 1) k2) w pre.length (fl q t (pre.map (·.1))) W' → (∃ Bx, W0.heap.size ≤ Bx ∧ W'.cell? ⟨Bx, 0, none⟩ = some (.int .u64 ((q.getD x.1 c00).1 : Int)) ∧ W'.cell? ⟨Bx, 1, none⟩ = some (.int .u64 ((q.getD x.1 c00).2 : Int)) ∧ W'.cell? ⟨Bx, 2, none⟩ = some (.bool (decide ((q.getD x.1 c00).2 ≠ 0))) ∧ a' = { tmps := #[.pointer (some ⟨gj, 0, none⟩), .pointer (some ⟨w.heap.size, 0, none⟩), .bool false, .int .i64 (m : Int), undef, .pointer (some ⟨Bx, 0, none⟩), .pointer (some ⟨gj, 0, none⟩), .pointer (some ⟨gj, 0, none⟩), .pointer (some ⟨gj, 2, none⟩), .slice (some ⟨g2, 0, none⟩) (n + 1) k2, .int .i64 ((n : Int) + 1), .bool false, .pointer (some ⟨gj, 0, none⟩), .pointer (some ⟨gj, 0, none⟩), .pointer (some ⟨gj, 2, none⟩), .slice (some ⟨g2, 0, none⟩) (n + 1) k2, .pointer (some ⟨gj, 0, none⟩), .pointer (some ⟨gj, 0, none⟩), .pointer (some ⟨gj, 2, none⟩), .slice (some ⟨g2, 0, none⟩) (n + 1) k2, .int .i64 ((n : Int) + 1), .int .i64 (n : Int), .pointer (some ⟨g2, n, none⟩), .int .i64 (m : Int), .pointer (some ⟨gj, 0, none⟩), .pointer (some ⟨gj, 0, none⟩), .pointer (some ⟨gj, 1, none⟩), .slice a1 np k1, .int .i64 (m : Int), .slice ao nq (k1 - m), .func (.func 48) #[] #[.pointer (some ⟨w9.heap.size, 0, none⟩)], .int .i64 (x.1 : Int), cv (q.getD x.1 c00), undef, undef, undef, undef, undef, undef, undef, undef, undef, undef, undef, undef, undef, undef, undef, undef, undef, undef, undef, undef, undef, undef, undef, undef, undef, undef], defers := [] }) → Kc a' W') := hK
    unfold cv at HK ⊢
    generalize ((q.getD x.1 c00).1 : Int) = y1 at HK ⊢
    generalize decide ((q.getD x.1 c00).2 ≠ 0) = y3 at HK ⊢
    generalize ((q.getD x.1 c00).2 : Int) = y2 at HK ⊢
    clear hK
    gi_wp2
    have HAl := heap_alloc_new W (.cells #[.int .u64 y1, .int .u64 y2, .bool y3] 79)
    refine HK.out _ _ ((KeepsOthers.alloc _ _).from _) (fun o => ⟨World.cell?_of_block (a := ⟨w9.heap.size, o, none⟩) (Below.heap_alloc W _ _ (by show w9.heap.size < _; omega)), World.cell?_of_block (a := ⟨b, o, none⟩) (Below.heap_alloc W _ _ (by show b < _; omega))⟩) ((Tb_own B gj gm N w.heap.size W0.heap.size p (m :: ms) (.slice a1 np k1) (.slice (some ⟨g2, 0, none⟩) (n + 1) k2) w (by omega) (by omega) HXw.out (fun pre : List (Fin q.length) => pre.length) (fun pre : List (Fin q.length) => fl q t (pre.map (·.1)))).alloc _ hI) ⟨W.heap.size, hsz, ?_, ?_, ?_, ?_⟩
    · simp only [World.cell?, HAl]; rfl
    · simp only [World.cell?, HAl]; rfl
    · simp only [World.cell?, HAl]; rfl
    · rfl
  case body =>
    rintro l pre x a' W hl' - hI ⟨Bx, hBx, x0, x1, x2, rfl⟩ hN'
    obtain ⟨hj, hk, hc, hs⟩ := hI
    obtain ⟨qx1, qx2⟩ := HQ.out x.1 x.2
    have KU : Hid (Calls Try.prog 41 #[.pointer (some ⟨gj, 0, none⟩), cv (q.getD x.1 c00)] W fun e w' => e = .returned (.tuple #[]) ∧ KeepsFrom W0.heap.size W w' ∧ Kp2 w9.heap.size b W w' ∧ Tb X B gj gm N w.heap.size W0.heap.size p (m :: ms) (.slice a1 np k1) (.slice (some ⟨g2, 0, none⟩) (n + 1) k2) w (pre ++ [x]).length (fl q t ((pre ++ [x]).map (·.1))) w') :=
      (undo_any B gj gm (N + pre.length) (q.getD x.1 c00) _ p _ _ _ W hj qx1 qx2 (by have := HN.out; have := HD.out; omega)).mono fun e w' he => by
        obtain ⟨e1, r1, r2, r3⟩ := he
        have hgm := HJN.out.1
        have kc : ∀ j, j < W.heap.size → j ≠ gm → ∀ o, w'.cell? ⟨j, o, none⟩ = W.cell? ⟨j, o, none⟩ := fun j h1 h2 o => World.cell?_of_block (a := ⟨j, o, none⟩) (r3.block j h1 (fun e => h2 (by simpa using e)))
        refine ⟨e1, KeepsFrom.of_grownBy r3 (fun j e => by injection e with e; omega), fun o => ⟨kc _ (by omega) (by omega) o, kc _ (by omega) (by omega) o⟩, ?_, Kj_trans hk r2, (kc _ (by omega) (by omega) 0).trans hc, Nat.le_trans hs r3.size⟩
        rw [List.map_append, List.map_cons, List.map_nil, fl_app, List.length_append]
        exact r1
    unfold cv at KU ⊢
    generalize ((q.getD x.1 c00).1 : Int) = y1 at KU x0 ⊢
    generalize decide ((q.getD x.1 c00).2 ≠ 0) = y3 at KU x2 ⊢
    generalize ((q.getD x.1 c00).2 : Int) = y2 at KU x1 ⊢
    clear hj hk hN' qx1 qx2
    gi_wp2_with (refine ⟨trivial, ?_⟩; gi_at_call 41; refine (CallsIn.inRound l (callsIn_wide.2 KU.out)).mono ?_; rintro e w' ⟨rfl, h1, h2, h3⟩)
    exact ⟨h1, h2, h3⟩
  case stop =>
    rintro D c pre W _ _ h _
    exact h.elim
  case done =>
    rintro D ys W hD hS hI hK
    rw [hS, fl_all, show ys.length = nq by rw [← List.length_map (f := (·.1)), hS, List.length_reverse, List.length_range, HD.out.2.1]] at hI
    have HDl : D < W.heap.size := (Array.getElem?_eq_some_iff.1 hK).1
    have HH : Hid (JS X B gj gm (N + nq) (q.foldr und t) p (m :: ms) (.slice a1 np k1) (.slice (some ⟨g2, 0, none⟩) (n + 1) k2) W ∧ Kj X B gj gm w W ∧ W.cell? ⟨w.heap.size, 0, none⟩ = some (.pointer (some ⟨gj, 0, none⟩)) ∧ w.heap.size < W.heap.size ∧ W.heap[D]? = some (.deferred (some [])) ∧ D < W.heap.size) := ⟨hI.1, hI.2.1, hI.2.2.1, by have := hI.2.2.2; omega, hK, HDl⟩
    have HS0 : Hid (B ≤ W0.heap.size ∧ w.heap.size < W0.heap.size ∧ W0.heap.size ≤ D ∧ W0.heap.size ≤ W.heap.size) := ⟨by omega, by omega, hD, hI.2.2.2⟩
    have HG : Hid (gj < W.heap.size) := Nat.lt_of_lt_of_le hI.1.lj hI.1.hi
    have HKL : Hid (m ≤ k1) := by have := HM.out; show _ ≤ _; omega
    clear hI hK hS hD HDl hbk hbo HA L0 S9 XB C1 C2 XM HGJ HB1 H X2 xb k1' k2' k3' hw9 SW SW0 SA HJ1 HQ
    show KQ2 _ _
    refine hKQ2 _ _ ?_
    clear hKQ2
    refine wpIn_wide.2 ?_
    dsimp only
    go_upto_region 7 with fail
    have hL : RG.Lasts (fun wx => Below W.heap.size W wx) (fun _ _ _ => True) := ⟨fun _ _ h hb => h.trans (hb.mono h.size), fun _ _ _ _ _ _ => trivial⟩
    refine RG.wp_region_gen (fun wx => Below W.heap.size W wx) (fun _ _ _ => True) (fun _ _ => True) [0, 0, 0, 0, 0, 0, 0, 0, 0, 2] (by kernel_rfl) (by kernel_rfl) ((Below.refl _ _).drew) ?_
    dsimp only [List.toList_toArray]
    refine RG.go1 (v := ?_) (a' := ?_) hL (by decide) rfl ?_ ?_ ?_
    rotate_left 2
    · intro K wx hS hK
      have xb := (hS.cell (p := ⟨w.heap.size, 0, none⟩) HH.out.2.2.2.1).trans HH.out.2.2.1
      go_simp
      exact hK _ (Below.refl _ _)
    · simp only [Act.put, List.setIfInBounds_toArray, List.set_cons_succ, List.set_cons_zero]
      rfl
    refine RG.go1 (v := ?_) (a' := ?_) hL (by decide) rfl ?_ ?_ ?_
    rotate_left 2
    · intro K wx hS hK
      have xb := (hS.cell (p := ⟨w.heap.size, 0, none⟩) HH.out.2.2.2.1).trans HH.out.2.2.1
      go_simp
      exact hK _ (Below.refl _ _)
    · simp only [Act.put, List.setIfInBounds_toArray, List.set_cons_succ, List.set_cons_zero]
      rfl
    refine RG.go1 (v := ?_) (a' := ?_) hL (by decide) rfl ?_ ?_ ?_
    rotate_left 2
    · intro K wx hS hK
      go_simp
      exact hK _ (Below.refl _ _)
    · simp only [Act.put, List.setIfInBounds_toArray, List.set_cons_succ, List.set_cons_zero]
      rfl
    refine RG.go1 (v := ?_) (a' := ?_) hL (by decide) rfl ?_ ?_ ?_
    rotate_left 2
    · intro K wx hS hK
      go_simp
      exact hK _ (Below.refl _ _)
    · simp only [Act.put, List.setIfInBounds_toArray, List.set_cons_succ, List.set_cons_zero]
      rfl
    refine RG.go1 (v := ?_) (a' := ?_) hL (by decide) rfl ?_ ?_ ?_
    rotate_left 2
    · intro K wx hS hK
      have c1 := (hS.cell (p := ⟨gj, 1, none⟩) HG.out).trans HH.out.1.c1
      go_simp
      exact hK _ (Below.refl _ _)
    · simp only [Act.put, List.setIfInBounds_toArray, List.set_cons_succ, List.set_cons_zero]
      rfl
    refine RG.go1 (v := ?_) (a' := ?_) hL (by decide) rfl ?_ ?_ ?_
    rotate_left 2
    · intro K wx hS hK
      go_simp
      exact hK _ (Below.refl _ _)
    · simp only [Act.put, List.setIfInBounds_toArray, List.set_cons_succ, List.set_cons_zero]
      rfl
    refine RG.go1 (v := ?_) (a' := ?_) hL (by decide) rfl ?_ ?_ ?_
    rotate_left 2
    · intro K wx hS hK
      have h0 : (0 : Int) ≤ (m : Int) := by omega
      have h1 := HKL.out
      have h2 : (m : Int) ≤ ((k1 : Nat) : Int) := by omega
      go_simp
      exact hK _ (Below.refl _ _)
    · simp only [Act.put, List.setIfInBounds_toArray, List.set_cons_succ, List.set_cons_zero]
      rfl
    refine RG.go1 (v := ?_) (a' := ?_) hL (by decide) rfl ?_ ?_ ?_
    rotate_left 2
    · intro K wx hS hK
      go_simp
      exact hK _ (Below.refl _ _)
    · simp only [Act.put, List.setIfInBounds_toArray, List.set_cons_succ, List.set_cons_zero]
      rfl
    refine RG.go1 (v := ?_) (a' := ?_) hL (by decide) rfl ?_ ?_ ?_
    rotate_left 2
    · intro K wx hS hK
      go_simp
      exact hK _ (Below.refl _ _)
    · simp only [Act.put, List.setIfInBounds_toArray, List.set_cons_succ, List.set_cons_zero]
      rfl
    refine RG.goT ?_
    refine RG.go_end ?_
    intro U v9 m9 y9 x9
    simp +decide (maxSteps := 1000000) only [RG.tl, RG.putN, ↓reduceIte]
    clear y9 x9 hL
    have J7 : JS X B gj gm (N + nq) (q.foldr und t) p (m :: ms) (.slice a1 p.length k1) (.slice (some ⟨g2, 0, none⟩) (n + 1) k2) v9 := by rw [← HL.out.2]; exact HH.out.1.below m9
    obtain ⟨r1, r2⟩ := cut_past (m := m) J7 (by rw [← HL.out.2]; exact HD.out.2.2)
    have c1 := J7.c1
    have f1 := J7.f 1
    rw [← HL.out.2] at c1
    have s7 : (v9.setCell ⟨gj, 1, none⟩ (.slice a1 m k1)).heap.size = v9.heap.size := by simp
    have R7 : Hid (JS X B gj gm N (q.foldr und t) (p.take m) (m :: ms) (.slice a1 m k1) (.slice (some ⟨g2, 0, none⟩) (n + 1) k2) (v9.setCell ⟨gj, 1, none⟩ (.slice a1 m k1)) ∧ Kj X B gj gm w (v9.setCell ⟨gj, 1, none⟩ (.slice a1 m k1)) ∧ (v9.setCell ⟨gj, 1, none⟩ (.slice a1 m k1)).cell? ⟨w.heap.size, 0, none⟩ = some (.pointer (some ⟨gj, 0, none⟩)) ∧ (v9.setCell ⟨gj, 1, none⟩ (.slice a1 m k1)).heap[D]? = some (.deferred (some [])) ∧ W.heap.size ≤ (v9.setCell ⟨gj, 1, none⟩ (.slice a1 m k1)).heap.size) := by
      refine ⟨r1, Kj_trans HH.out.2.1 (Kj_trans (Kj_below m9 HH.out.1.hi HH.out.1.hx) r2), ?_, ?_, by rw [s7]; exact m9.size⟩
      · rw [World.cell?_setCell_other _ _ _ _ (by intro e; injection e with e; have := HJN.out.2; omega)]
        exact (m9.cell (p := ⟨w.heap.size, 0, none⟩) HH.out.2.2.2.1).trans HH.out.2.2.1
      · rw [Below.heap_setCell _ _ _ _ (by intro e; have := HJN.out.2; have := HS0.out; simp at e; omega)]
        exact (m9.block D HH.out.2.2.2.2.2).trans HH.out.2.2.2.2.1
    clear r1 r2 J7 m9 s7
    go_upto_region 8 with fail
    clear c1 f1
    generalize v9.setCell ⟨gj, 1, none⟩ (.slice a1 m k1) = V7 at R7 ⊢
    have hL : RG.Lasts (fun wx => Below V7.heap.size V7 wx) (fun _ _ _ => True) := ⟨fun _ _ h hb => h.trans (hb.mono h.size), fun _ _ _ _ _ _ => trivial⟩
    have HG7 : Hid (gj < V7.heap.size ∧ w.heap.size < V7.heap.size) := ⟨Nat.lt_of_lt_of_le HG.out R7.out.2.2.2.2, Nat.lt_of_lt_of_le HH.out.2.2.2.1 R7.out.2.2.2.2⟩
    have C7 : Hid (V7.cell? ⟨gj, 2, none⟩ = some (.slice (some ⟨g2, 0, none⟩) (n + 1) k2)) := R7.out.1.c2
    refine RG.wp_region_gen (fun wx => Below V7.heap.size V7 wx) (fun _ _ _ => True) (fun _ _ => True) [0, 0, 0, 0, 0, 0, 0, 0, 0, 0, 0, 0, 0, 0, 2] (by kernel_rfl) (by kernel_rfl) ((Below.refl _ _).drew) ?_
    dsimp only [List.toList_toArray]
    refine RG.go1 (v := ?_) (a' := ?_) hL (by decide) rfl ?_ ?_ ?_
    rotate_left 2
    · intro K wx hS hK
      have xb := (hS.cell (p := ⟨w.heap.size, 0, none⟩) HG7.out.2).trans R7.out.2.2.1
      go_simp
      exact hK _ (Below.refl _ _)
    · simp only [Act.put, List.setIfInBounds_toArray, List.set_cons_succ, List.set_cons_zero]
      rfl
    refine RG.go1 (v := ?_) (a' := ?_) hL (by decide) rfl ?_ ?_ ?_
    rotate_left 2
    · intro K wx hS hK
      have xb := (hS.cell (p := ⟨w.heap.size, 0, none⟩) HG7.out.2).trans R7.out.2.2.1
      go_simp
      exact hK _ (Below.refl _ _)
    · simp only [Act.put, List.setIfInBounds_toArray, List.set_cons_succ, List.set_cons_zero]
      rfl
    refine RG.go1 (v := ?_) (a' := ?_) hL (by decide) rfl ?_ ?_ ?_
    rotate_left 2
    · intro K wx hS hK
      go_simp
      exact hK _ (Below.refl _ _)
    · simp only [Act.put, List.setIfInBounds_toArray, List.set_cons_succ, List.set_cons_zero]
      rfl
    refine RG.go1 (v := ?_) (a' := ?_) hL (by decide) rfl ?_ ?_ ?_
    rotate_left 2
    · intro K wx hS hK
      go_simp
      exact hK _ (Below.refl _ _)
    · simp only [Act.put, List.setIfInBounds_toArray, List.set_cons_succ, List.set_cons_zero]
      rfl
    refine RG.go1 (v := ?_) (a' := ?_) hL (by decide) rfl ?_ ?_ ?_
    rotate_left 2
    · intro K wx hS hK
      have c2 := (hS.cell (p := ⟨gj, 2, none⟩) HG7.out.1).trans C7.out
      go_simp
      exact hK _ (Below.refl _ _)
    · simp only [Act.put, List.setIfInBounds_toArray, List.set_cons_succ, List.set_cons_zero]
      rfl
    refine RG.go1 (v := ?_) (a' := ?_) hL (by decide) rfl ?_ ?_ ?_
    rotate_left 2
    · intro K wx hS hK
      have xb := (hS.cell (p := ⟨w.heap.size, 0, none⟩) HG7.out.2).trans R7.out.2.2.1
      go_simp
      exact hK _ (Below.refl _ _)
    · simp only [Act.put, List.setIfInBounds_toArray, List.set_cons_succ, List.set_cons_zero]
      rfl
    refine RG.go1 (v := ?_) (a' := ?_) hL (by decide) rfl ?_ ?_ ?_
    rotate_left 2
    · intro K wx hS hK
      go_simp
      exact hK _ (Below.refl _ _)
    · simp only [Act.put, List.setIfInBounds_toArray, List.set_cons_succ, List.set_cons_zero]
      rfl
    refine RG.go1 (v := ?_) (a' := ?_) hL (by decide) rfl ?_ ?_ ?_
    rotate_left 2
    · intro K wx hS hK
      go_simp
      exact hK _ (Below.refl _ _)
    · simp only [Act.put, List.setIfInBounds_toArray, List.set_cons_succ, List.set_cons_zero]
      rfl
    refine RG.go1 (v := ?_) (a' := ?_) hL (by decide) rfl ?_ ?_ ?_
    rotate_left 2
    · intro K wx hS hK
      have c2 := (hS.cell (p := ⟨gj, 2, none⟩) HG7.out.1).trans C7.out
      go_simp
      exact hK _ (Below.refl _ _)
    · simp only [Act.put, List.setIfInBounds_toArray, List.set_cons_succ, List.set_cons_zero]
      rfl
    refine RG.go1 (v := ?_) (a' := ?_) hL (by decide) rfl ?_ ?_ ?_
    rotate_left 2
    · intro K wx hS hK
      go_simp
      exact hK _ (Below.refl _ _)
    · simp only [Act.put, List.setIfInBounds_toArray, List.set_cons_succ, List.set_cons_zero]
      rfl
    refine RG.go1 (v := ?_) (a' := ?_) hL (by decide) rfl ?_ ?_ ?_
    rotate_left 2
    · intro K wx hS hK
      go_simp
      first | rw [HW.out.1] | rw [HW.out.2.1] | rw [HW.out.2.2.1] | rw [HW.out.2.2.2]
      exact hK _ (Below.refl _ _)
    · simp only [Act.put, List.setIfInBounds_toArray, List.set_cons_succ, List.set_cons_zero]
      rfl
    refine RG.go1 (v := ?_) (a' := ?_) hL (by decide) rfl ?_ ?_ ?_
    rotate_left 2
    · intro K wx hS hK
      have h0 : (0 : Int) ≤ (n : Int) := by omega
      have h1 : n ≤ k2 := by have := HK2.out; omega
      have h2 : (n : Int) ≤ (k2 : Int) := by omega
      go_simp
      exact hK _ (Below.refl _ _)
    · simp only [Act.put, List.setIfInBounds_toArray, List.set_cons_succ, List.set_cons_zero]
      rfl
    refine RG.go1 (v := ?_) (a' := ?_) hL (by decide) rfl ?_ ?_ ?_
    rotate_left 2
    · intro K wx hS hK
      go_simp
      exact hK _ (Below.refl _ _)
    · simp only [Act.put, List.setIfInBounds_toArray, List.set_cons_succ, List.set_cons_zero]
      rfl
    refine RG.go1 (v := ?_) (a' := ?_) hL (by decide) rfl ?_ ?_ ?_
    rotate_left 2
    · intro K wx hS hK
      go_simp
      exact hK _ (Below.refl _ _)
    · simp only [Act.put, List.setIfInBounds_toArray, List.set_cons_succ, List.set_cons_zero]
      rfl
    refine RG.goT ?_
    refine RG.go_end ?_
    intro U v8 m8 y8 x8
    simp +decide (maxSteps := 1000000) only [RG.tl, RG.putN, ↓reduceIte]
    clear y8 x8 hL
    have J8 : JS X B gj gm N (q.foldr und t) (p.take m) (m :: ms) (.slice a1 m k1) (.slice (some ⟨g2, 0, none⟩) (m :: ms).length k2) v8 := by rw [List.length_cons, ← HL.out.1]; exact R7.out.1.below m8
    obtain ⟨r1, r2⟩ := cut_marks J8
    have c2 := J8.c2
    have f2 := J8.f 2
    rw [List.length_cons, ← HL.out.1] at c2
    rw [← HL.out.1] at r1 r2
    have T8 : Tb X B gj gm N w.heap.size W0.heap.size (p.take m) ms (.slice a1 m k1) (.slice (some ⟨g2, 0, none⟩) n k2) w 0 (q.foldr und t) (v8.setCell ⟨gj, 2, none⟩ (.slice (some ⟨g2, 0, none⟩) n k2)) := by
      refine ⟨r1, Kj_trans R7.out.2.1 (Kj_trans (Kj_below m8 R7.out.1.hi R7.out.1.hx) r2), ?_, ?_⟩
      · rw [World.cell?_setCell_other _ _ _ _ (by intro e; injection e with e; have := HJN.out.2; omega)]
        exact (m8.cell (p := ⟨w.heap.size, 0, none⟩) HG7.out.2).trans R7.out.2.2.1
      · have h1 := m8.size
        have h2 := R7.out.2.2.2.2
        have h3 := HS0.out.2.2.2
        have h4 : (v8.setCell ⟨gj, 2, none⟩ (.slice (some ⟨g2, 0, none⟩) n k2)).heap.size = v8.heap.size := by simp
        omega
    have K8 : (v8.setCell ⟨gj, 2, none⟩ (.slice (some ⟨g2, 0, none⟩) n k2)).heap[D]? = some (.deferred (some [])) := by
      rw [Below.heap_setCell _ _ _ _ (by intro e; have := HJN.out.2; have := HS0.out; simp at e; omega)]
      exact (m8.block D (Array.getElem?_eq_some_iff.1 R7.out.2.2.2.1).1).trans R7.out.2.2.2.1
    have F8 : Hid (Tb X B gj gm N w.heap.size W0.heap.size (p.take m) ms (.slice a1 m k1) (.slice (some ⟨g2, 0, none⟩) n k2) w 0 (q.foldr und t) ((v8.setCell ⟨gj, 2, none⟩ (.slice (some ⟨g2, 0, none⟩) n k2)).putObj D (.deferred none))) := (Tb_own B gj gm N w.heap.size W0.heap.size (p.take m) ms (.slice a1 m k1) (.slice (some ⟨g2, 0, none⟩) n k2) w HS0.out.1 HS0.out.2.1 HXw.out (fun _ : Unit => 0) (fun _ => q.foldr und t)).putObj (s := ()) (.deferred none) T8 HS0.out.2.2.1 K8 rfl
    clear r1 r2 J8 m8 T8
    have HK8 : Hid _ := K8
    clear K8
    go_wp2
    refine ⟨by simp, .inl ⟨_, _, rfl, run_takeDeferred HK8.out, ?_⟩⟩
    exact ⟨_, results_tmp rfl _ _ _, rfl, _, _, F8.out.1, F8.out.2.1⟩
set_option maxHeartbeats 4000000 in
set_option maxRecDepth 100000 in
theorem back_full (B gj gm N m : Nat) (t : Fn) (p : Ps) (ms : List Nat) (mv : Value) (a1 : Option Addr) (w : World) (h : JS X B gj gm N t p (m :: ms) (.slice a1 p.length m) mv w) (hm : m ≤ p.length) (hN : N + p.length ≤ 4194303) (hq : WQ p) :
    Calls Try.prog 29 #[.pointer (some ⟨gj, 0, none⟩)] w fun e w' => e = .returned (.bool true) ∧ ∃ pv' mv', JS X B gj gm N ((p.drop m).foldr und t) (p.take m) ms pv' mv' w' ∧ Kj X B gj gm w w' := by
  obtain ⟨a2, k2, rfl⟩ := own_form h.mw
  obtain ⟨k3, k4⟩ := cap_le h.mw
  obtain ⟨k5, k6⟩ := cap_le h.pw
  obtain ⟨g2, rfl, q1, q2, q3⟩ := cells_at h.mw (by simp)
  have x2 : w.cell? ⟨g2, ms.length, none⟩ = some (.int .i64 (m : Int)) := (q3 _ (by simp)).trans (last_mark m ms)
  have hB1 : Below w.heap.size w (w.alloc (.cells #[.pointer (some ⟨gj, 0, none⟩)] 44)) := (Below.refl _ _).alloc (Nat.le_refl _) _
  have xb : (w.alloc (.cells #[.pointer (some ⟨gj, 0, none⟩)] 44)).cell? ⟨w.heap.size, 0, none⟩ = some (.pointer (some ⟨gj, 0, none⟩)) := by simp [go_sem]
  have xs : w.heap.size < (w.alloc (.cells #[.pointer (some ⟨gj, 0, none⟩)] 44)).heap.size := by simp
  obtain ⟨q, hqd⟩ : ∃ q, q = p.drop m := ⟨_, rfl⟩
  obtain ⟨nq, hnq⟩ : ∃ nq, nq = p.length - m := ⟨_, rfl⟩
  have hql : q.length = nq := by rw [hqd, hnq, List.length_drop]
  have HA : Hid (0 < q.length → ∃ b, a1 = some ⟨b, m * 3, none⟩ ∧ B ≤ b ∧ b < w.heap.size ∧ Ch q b (m * 3) w) := fun h0 => by omega
  have HQ : Hid (∀ j, j < q.length → (q.getD j c00).1 < 18446744073709551616 ∧ (q.getD j c00).2 < 18446744073709551616) := fun j hj => by
    have := hq (q.getD j c00) (by
      rw [List.getD_eq_getElem?_getD, List.getElem?_eq_getElem hj]
      have : q[j] ∈ p.drop m := hqd ▸ List.getElem_mem hj
      exact List.mem_of_mem_drop this)
    exact this
  have HD : Hid (q = p.drop m ∧ q.length = nq ∧ m + nq = p.length) := ⟨hqd, hql, by omega⟩
  have H : Hid (JS X B gj gm N t p (m :: ms) (.slice a1 p.length m) (.slice (some ⟨g2, 0, none⟩) (m :: ms).length k2) w) := h
  have HE : Hid ((m :: ms).length = ms.length + 1) := rfl
  have X2 : Hid (w.cell? ⟨g2, ms.length, none⟩ = some (.int .i64 (m : Int)) ∧ g2 < w.heap.size) := ⟨x2, q2⟩
  have HM : Hid (m ≤ p.length ∧ p.length ≤ m) := ⟨hm, k5⟩
  have HN : Hid (N + p.length ≤ 4194303) := hN
  clear x2 q1 q2 q3 h hq hN hqd hql
  rw [← HD.out.1]
  refine (callsIn_wide (n := 5)).1 ?_
  refine callsIn_of_wp_marks Try.func29 rfl trivial ?_ rfl
  simp only [Try.ntmps29, List.size_toArray, List.length_cons, List.length_nil, Nat.reduceAdd, Nat.reduceSub, Array.replicate_succ, Array.replicate_zero, List.push_toArray, List.append_toArray, List.nil_append, List.cons_append]
  obtain ⟨n, hn⟩ : ∃ n, n = ms.length := ⟨_, rfl⟩
  obtain ⟨np, hnp⟩ : ∃ np, np = p.length := ⟨_, rfl⟩
  have HL : Hid (n = ms.length ∧ np = p.length) := ⟨hn, hnp⟩
  rw [HE.out, ← hn] at H k3 k4
  rw [← hn] at X2
  rw [← hnp] at H HM k5 k6 HN HD hnq
  clear hn hnp HE hm
  have t0 : (((n + 1 : Nat) : Int) == 0) = false := by rw [beq_eq_false_iff_ne]; omega
  have t1 : decide (((n + 1 : Nat) : Int) = 0) = false := decide_eq_false (by omega)
  have t2 : ((n : Int) + 1 == 0) = false := by rw [beq_eq_false_iff_ne]; omega
  have t3 : decide ((n : Int) + 1 = 0) = false := decide_eq_false (by omega)
  have t4 : ¬ ((n : Int) + 1 = 0) := by omega
  have HJ1 : Hid (JS X B gj gm N t p (m :: ms) (.slice a1 np m) (.slice (some ⟨g2, 0, none⟩) (n + 1) k2) (w.alloc (.cells #[.pointer (some ⟨gj, 0, none⟩)] 44))) := H.out.below hB1
  have c1 := HJ1.out.c1
  have c2 := HJ1.out.c2
  have x2 : (w.alloc (.cells #[.pointer (some ⟨gj, 0, none⟩)] 44)).cell? ⟨g2, n, none⟩ = some (.int .i64 (m : Int)) := (hB1.cell (p := ⟨g2, n, none⟩) X2.out.2).trans X2.out.1
  have HNQ : Hid (nq = np - m) := hnq
  clear hnq
  gi_wp2
  clear t0 t1 t2 t3 t4
  generalize w.alloc (.cells #[.pointer (some ⟨gj, 0, none⟩)] 44) = V1 at hB1 xb xs c1 c2 x2 HJ1 ⊢
  rename_i Q' KQ hKQ
  have XB : Hid (V1.cell? ⟨w.heap.size, 0, none⟩ = some (.pointer (some ⟨gj, 0, none⟩)) ∧ w.heap.size < V1.heap.size) := ⟨xb, xs⟩
  have C1 : Hid (V1.cell? ⟨gj, 1, none⟩ = some (.slice a1 np m)) := c1
  have C2 : Hid (V1.cell? ⟨gj, 2, none⟩ = some (.slice (some ⟨g2, 0, none⟩) (n + 1) k2)) := c2
  have XM : Hid (V1.cell? ⟨g2, n, none⟩ = some (.int .i64 (m : Int)) ∧ g2 < V1.heap.size) := ⟨x2, Nat.lt_of_lt_of_le X2.out.2 hB1.size⟩
  have HGJ : Hid (gj < V1.heap.size) := Nat.lt_of_lt_of_le HJ1.out.lj HJ1.out.hi
  have HW : Hid (IntKind.i64.wrap (((n + 1 : Nat) : Int) - 1) = (n : Int) ∧ IntKind.i64.wrap ((n : Int) + 1 - 1) = (n : Int) ∧ IntKind.i64.wrap (n : Int) = (n : Int) ∧ wrap64 (n : Int) = (n : Int)) := by
    refine ⟨?_, ?_, ?_, ?_⟩ <;> first | (rw [IntKind.wrap_i64]; omega) | (unfold wrap64; omega)
  have HB1 : Hid (Below w.heap.size w V1) := hB1
  have HK2 : Hid (n + 1 ≤ k2) := k3
  clear xb xs c1 c2 x2 hB1 k3 k4 k5 k6
  refine wpIn_wide.2 ?_
  refine RS.wp_region_one (fun wx => Below V1.heap.size V1 wx) (by kernel_rfl) (by kernel_rfl) ((Below.refl _ _).drew) ?_
  dsimp only [List.toList_toArray]
  refine RS.go1 (v := ?_) (a' := ?_) rfl ?_ ?_ ?_
  rotate_left 2
  · intro K wx hS hK
    have xb := (hS.cell (p := ⟨w.heap.size, 0, none⟩) XB.out.2).trans XB.out.1
    go_simp
    exact hK _ hS
  · simp only [Act.put, List.setIfInBounds_toArray, List.set_cons_succ, List.set_cons_zero]
    rfl
  refine RS.go1 (v := ?_) (a' := ?_) rfl ?_ ?_ ?_
  rotate_left 2
  · intro K wx hS hK
    go_simp
    exact hK _ hS
  · simp only [Act.put, List.setIfInBounds_toArray, List.set_cons_succ, List.set_cons_zero]
    rfl
  refine RS.go1 (v := ?_) (a' := ?_) rfl ?_ ?_ ?_
  rotate_left 2
  · intro K wx hS hK
    go_simp
    exact hK _ hS
  · simp only [Act.put, List.setIfInBounds_toArray, List.set_cons_succ, List.set_cons_zero]
    rfl
  refine RS.go1 (v := ?_) (a' := ?_) rfl ?_ ?_ ?_
  rotate_left 2
  · intro K wx hS hK
    have c2 := (hS.cell (p := ⟨gj, 2, none⟩) HGJ.out).trans C2.out
    go_simp
    exact hK _ hS
  · simp only [Act.put, List.setIfInBounds_toArray, List.set_cons_succ, List.set_cons_zero]
    rfl
  refine RS.go1 (v := ?_) (a' := ?_) rfl ?_ ?_ ?_
  rotate_left 2
  · intro K wx hS hK
    have xb := (hS.cell (p := ⟨w.heap.size, 0, none⟩) XB.out.2).trans XB.out.1
    go_simp
    exact hK _ hS
  · simp only [Act.put, List.setIfInBounds_toArray, List.set_cons_succ, List.set_cons_zero]
    rfl
  refine RS.go1 (v := ?_) (a' := ?_) rfl ?_ ?_ ?_
  rotate_left 2
  · intro K wx hS hK
    go_simp
    exact hK _ hS
  · simp only [Act.put, List.setIfInBounds_toArray, List.set_cons_succ, List.set_cons_zero]
    rfl
  refine RS.go1 (v := ?_) (a' := ?_) rfl ?_ ?_ ?_
  rotate_left 2
  · intro K wx hS hK
    go_simp
    exact hK _ hS
  · simp only [Act.put, List.setIfInBounds_toArray, List.set_cons_succ, List.set_cons_zero]
    rfl
  refine RS.go1 (v := ?_) (a' := ?_) rfl ?_ ?_ ?_
  rotate_left 2
  · intro K wx hS hK
    have c2 := (hS.cell (p := ⟨gj, 2, none⟩) HGJ.out).trans C2.out
    go_simp
    exact hK _ hS
  · simp only [Act.put, List.setIfInBounds_toArray, List.set_cons_succ, List.set_cons_zero]
    rfl
  refine RS.go1 (v := ?_) (a' := ?_) rfl ?_ ?_ ?_
  rotate_left 2
  · intro K wx hS hK
    go_simp
    exact hK _ hS
  · simp only [Act.put, List.setIfInBounds_toArray, List.set_cons_succ, List.set_cons_zero]
    rfl
  refine RS.go1 (v := ?_) (a' := ?_) rfl ?_ ?_ ?_
  rotate_left 2
  · intro K wx hS hK
    go_simp
    first | rw [HW.out.1] | rw [HW.out.2.1] | rw [HW.out.2.2.1] | rw [HW.out.2.2.2]
    exact hK _ hS
  · simp only [Act.put, List.setIfInBounds_toArray, List.set_cons_succ, List.set_cons_zero]
    rfl
  refine RS.go1 (v := ?_) (a' := ?_) rfl ?_ ?_ ?_
  rotate_left 2
  · intro K wx hS hK
    have i0 : (0 : Int) ≤ (n : Int) := by omega
    have i1 : (n : Int) < (n : Int) + 1 := by omega
    have i2 : n < n + 1 := by omega
    go_simp
    exact hK _ hS
  · simp only [Act.put, List.setIfInBounds_toArray, List.set_cons_succ, List.set_cons_zero]
    rfl
  refine RS.go1 (v := ?_) (a' := ?_) rfl ?_ ?_ ?_
  rotate_left 2
  · intro K wx hS hK
    have x2 := (hS.cell (p := ⟨g2, n, none⟩) XM.out.2).trans XM.out.1
    go_simp
    exact hK _ hS
  · simp only [Act.put, List.setIfInBounds_toArray, List.set_cons_succ, List.set_cons_zero]
    rfl
  refine RS.go1 (v := ?_) (a' := ?_) rfl ?_ ?_ ?_
  rotate_left 2
  · intro K wx hS hK
    go_simp
    exact hK _ hS
  · simp only [Act.put, List.setIfInBounds_toArray, List.set_cons_succ, List.set_cons_zero]
    rfl
  refine RS.go_end ?_
  intro w9 h9
  have S9 : Hid (Below V1.heap.size V1 w9) := h9
  clear h9
  show KQ _ _
  refine hKQ _ _ ?_
  clear hKQ
  have xb := (S9.out.cell (p := ⟨w.heap.size, 0, none⟩) XB.out.2).trans XB.out.1
  have c1 := (S9.out.cell (p := ⟨gj, 1, none⟩) HGJ.out).trans C1.out
  have i0 : (0 : Int) ≤ (m : Int) := by omega
  have i1 : (m : Int) ≤ (np : Int) := by have := HM.out.1; omega
  have i2 : m ≤ np := HM.out.1
  gi_wp2_with (refine ⟨trivial, ?_⟩; gi_at_call 40; refine (bwc_in _ _ trivial rfl _ _ _ _).mono ?_; rintro e w' ⟨rfl, rfl⟩)
  rename_i KQ2 hKQ2
  rw [← HNQ.out]
  clear i0 i1 i2 c1
  have SA := (Below.refl w9.heap.size w9).alloc (Nat.le_refl _) (.cells #[.slice a1 nq 0] 59)
  have k1' : (w9.alloc (.cells #[.slice a1 nq 0] 59)).cell? ⟨w.heap.size, 0, none⟩ = some (.pointer (some ⟨gj, 0, none⟩)) := (SA.cell (p := ⟨w.heap.size, 0, none⟩) (Nat.lt_of_lt_of_le XB.out.2 S9.out.size)).trans xb
  have k2' : (w9.alloc (.cells #[.slice a1 nq 0] 59)).cell? ⟨w9.heap.size, 0, none⟩ = some (.slice a1 nq 0) := by simp [go_sem]
  have k3' : (w9.alloc (.cells #[.slice a1 nq 0] 59)).heap.size = w9.heap.size + 1 := by simp
  have hw9 : w.heap.size < w9.heap.size := Nat.lt_of_lt_of_le XB.out.2 S9.out.size
  have SW : Below w.heap.size w w9 := HB1.out.trans (S9.out.mono HB1.out.size)
  have SW0 : Below w.heap.size w (w9.alloc (.cells #[.slice a1 nq 0] 59)) := SW.trans (SA.mono SW.size)
  generalize w9.alloc (.cells #[.slice a1 nq 0] 59) = W0 at *
  have HBw : B ≤ w.heap.size := H.out.hi
  have HXw : Hid (∀ k, X k → k < W0.heap.size) := fun k hk => Nat.lt_of_lt_of_le (H.out.hx k hk) SW0.size
  have L0 : Tb X B gj gm N w.heap.size W0.heap.size p (m :: ms) (.slice a1 np m) (.slice (some ⟨g2, 0, none⟩) (n + 1) k2) w (([] : List (Fin q.length)).length) (fl q t (([] : List (Fin q.length)).map (·.1))) W0 := ⟨H.out.below SW0, Kj_below SW0 HBw H.out.hx, k1', Nat.le_refl _⟩
  obtain ⟨b, hbo, hbk⟩ : ∃ b, (b = w.heap.size ∨ (B ≤ b ∧ b < w.heap.size)) ∧ (0 < q.length → ∃ off, a1 = some ⟨b, off, none⟩ ∧ b < w.heap.size ∧ Ch q b off w) := by
    by_cases h0 : 0 < q.length
    · obtain ⟨b, e1, e2, e3, e4⟩ := HA.out h0
      exact ⟨b, .inr ⟨e2, e3⟩, fun _ => ⟨_, e1, e3, e4⟩⟩
    · exact ⟨w.heap.size, .inl rfl, fun h => absurd h h0⟩
  have HJN : Hid (gm < B ∧ gj < B) := ⟨H.out.lm, H.out.lj⟩
  refine wpIn_rangeFunc_ownH (F := Fence.wide) rfl (by decide) (gf := 48) (lb := #[.pointer (some ⟨w9.heap.size, 0, none⟩)]) rfl trivial (enters_of Try.func48 (by kernel_rfl) rfl)
    (bwc_stops Fence.wide 4 trivial rfl (by decide) w9.heap.size b (0) a1 q (by have := HN.out; have := HD.out; omega) W0 (by omega) (by rw [HD.out.2.1]; exact k2') (fun h0 => by
      obtain ⟨off, e, hlt, hc⟩ := hbk h0
      exact ⟨off, e, Nat.lt_of_lt_of_le hlt SW0.size, fun j hj => ⟨(SW0.cell (p := ⟨b, off + j * 3, none⟩) hlt).trans (hc j hj).1, (SW0.cell (p := ⟨b, off + j * 3 + 1, none⟩) hlt).trans (hc j hj).2.1, (SW0.cell (p := ⟨b, off + j * 3 + 2, none⟩) hlt).trans (hc j hj).2.2⟩⟩)) Kp2_t ?hKb (Below.refl _ _) (fun _ => rfl)
    (fun pre W => Tb X B gj gm N w.heap.size W0.heap.size p (m :: ms) (.slice a1 np m) (.slice (some ⟨g2, 0, none⟩) (n + 1) k2) w pre.length (fl q t (pre.map (·.1))) W) (fun _ _ _ => False) (Tb_own B gj gm N _ _ p _ _ _ w (by omega) (by omega) HXw.out _ _) (fun _ _ _ _ _ h _ _ => h) L0
    (fun x a' W => ∃ Bx, W0.heap.size ≤ Bx ∧ W.cell? ⟨Bx, 0, none⟩ = some (.int .u64 ((q.getD x.1 c00).1 : Int)) ∧ W.cell? ⟨Bx, 1, none⟩ = some (.int .u64 ((q.getD x.1 c00).2 : Int)) ∧ W.cell? ⟨Bx, 2, none⟩ = some (.bool (decide ((q.getD x.1 c00).2 ≠ 0))) ∧ a' = { tmps := #[.pointer (some ⟨gj, 0, none⟩), .pointer (some ⟨w.heap.size, 0, none⟩), .bool false, .int .i64 (m : Int), undef, .pointer (some ⟨Bx, 0, none⟩), .pointer (some ⟨gj, 0, none⟩), .pointer (some ⟨gj, 0, none⟩), .pointer (some ⟨gj, 2, none⟩), .slice (some ⟨g2, 0, none⟩) (n + 1) k2, .int .i64 ((n : Int) + 1), .bool false, .pointer (some ⟨gj, 0, none⟩), .pointer (some ⟨gj, 0, none⟩), .pointer (some ⟨gj, 2, none⟩), .slice (some ⟨g2, 0, none⟩) (n + 1) k2, .pointer (some ⟨gj, 0, none⟩), .pointer (some ⟨gj, 0, none⟩), .pointer (some ⟨gj, 2, none⟩), .slice (some ⟨g2, 0, none⟩) (n + 1) k2, .int .i64 ((n : Int) + 1), .int .i64 (n : Int), .pointer (some ⟨g2, n, none⟩), .int .i64 (m : Int), .pointer (some ⟨gj, 0, none⟩), .pointer (some ⟨gj, 0, none⟩), .pointer (some ⟨gj, 1, none⟩), .slice a1 np m, .int .i64 (m : Int), .slice a1 nq 0, .func (.func 48) #[] #[.pointer (some ⟨w9.heap.size, 0, none⟩)], .int .i64 (x.1 : Int), cv (q.getD x.1 c00), undef, undef, undef, undef, undef, undef, undef, undef, undef, undef, undef, undef, undef, undef, undef, undef, undef, undef, undef, undef, undef, undef, undef, undef, undef, undef], defers := [] })
    (fun x a' _ A C row hs hg hr => by
      obtain ⟨Bx, h1, h2, h3, h4, h5⟩ := hs
      have hr' : ∀ r, row = some r → ∃ o : Obj, A.heap[r]? = some o ∧ o.isCells = false := fun r e => (hr r e).2
      exact ⟨Bx, h1, cell_kept h2 hg hr', cell_kept h3 hg hr', cell_kept h4 hg hr', h5⟩) ?assign ?body ?done ?stop
  case hKb =>
    intro W l o o' hl _ _ _ i
    have e1 : (W.putObj l o').heap[w9.heap.size]? = W.heap[w9.heap.size]? := World.putObj_heap_other (fun e => by omega)
    have e2 : (W.putObj l o').heap[b]? = W.heap[b]? := World.putObj_heap_other (fun e => by omega)
    exact ⟨World.cell?_of_block (a := ⟨w9.heap.size, i, none⟩) e1, World.cell?_of_block (a := ⟨b, i, none⟩) e2⟩
  case assign =>
    intro l pre x W Kc hI hK
    have hsz : W0.heap.size ≤ W.heap.size := hI.2.2.2
    have HK : Hid (∀ a' W', KeepsFrom W0.heap.size W W' → Kp2 w9.heap.size b W W' → Tb X B gj gm N w.heap.size W0.heap.size p (m :: ms) (.slice a1 np m) (.slice (some ⟨g2, 0, none⟩) (n + 1) k2) w pre.length (fl q t (pre.map (·.1))) W' → (∃ Bx, W0.heap.size ≤ Bx ∧ W'.cell? ⟨Bx, 0, none⟩ = some (.int .u64 ((q.getD x.1 c00).1 : Int)) ∧ W'.cell? ⟨Bx, 1, none⟩ = some (.int .u64 ((q.getD x.1 c00).2 : Int)) ∧ W'.cell? ⟨Bx, 2, none⟩ = some (.bool (decide ((q.getD x.1 c00).2 ≠ 0))) ∧ a' = { tmps := #[.pointer (some ⟨gj, 0, none⟩), .pointer (some ⟨w.heap.size, 0, none⟩), .bool false, .int .i64 (m : Int), undef, .pointer (some ⟨Bx, 0, none⟩), .pointer (some ⟨gj, 0, none⟩), .pointer (some ⟨gj, 0, none⟩), .pointer (some ⟨gj, 2, none⟩), .slice (some ⟨g2, 0, none⟩) (n + 1) k2, .int .i64 ((n : Int) + 1), .bool false, .pointer (some ⟨gj, 0, none⟩), .pointer (some ⟨gj, 0, none⟩), .pointer (some ⟨gj, 2, none⟩), .slice (some ⟨g2, 0, none⟩) (n + 1) k2, .pointer (some ⟨gj, 0, none⟩), .pointer (some ⟨gj, 0, none⟩), .pointer (some ⟨gj, 2, none⟩), .slice (some ⟨g2, 0, none⟩) (n + 1) k2, .int .i64 ((n : Int) + 1), .int .i64 (n : Int), .pointer (some ⟨g2, n, none⟩), .int .i64 (m : Int), .pointer (some ⟨gj, 0, none⟩), .pointer (some ⟨gj, 0, none⟩), .pointer (some ⟨gj, 1, none⟩), .slice a1 np m, .int .i64 (m : Int), .slice a1 nq 0, .func (.func 48) #[] #[.pointer (some ⟨w9.heap.size, 0, none⟩)], .int .i64 (x.1 : Int), cv (q.getD x.1 c00), undef, undef, undef, undef, undef, undef, undef, undef, undef, undef, undef, undef, undef, undef, undef, undef, undef, undef, undef, undef, undef, undef, undef, undef, undef, undef], defers := [] }) → Kc a' W') := hK
    unfold cv at HK ⊢
    generalize ((q.getD x.1 c00).1 : Int) = y1 at HK ⊢
    generalize decide ((q.getD x.1 c00).2 ≠ 0) = y3 at HK ⊢
    generalize ((q.getD x.1 c00).2 : Int) = y2 at HK ⊢
    clear hK
    gi_wp2
    have HAl := heap_alloc_new W (.cells #[.int .u64 y1, .int .u64 y2, .bool y3] 79)
    refine HK.out _ _ ((KeepsOthers.alloc _ _).from _) (fun o => ⟨World.cell?_of_block (a := ⟨w9.heap.size, o, none⟩) (Below.heap_alloc W _ _ (by show w9.heap.size < _; omega)), World.cell?_of_block (a := ⟨b, o, none⟩) (Below.heap_alloc W _ _ (by show b < _; omega))⟩) ((Tb_own B gj gm N w.heap.size W0.heap.size p (m :: ms) (.slice a1 np m) (.slice (some ⟨g2, 0, none⟩) (n + 1) k2) w (by omega) (by omega) HXw.out (fun pre : List (Fin q.length) => pre.length) (fun pre : List (Fin q.length) => fl q t (pre.map (·.1)))).alloc _ hI) ⟨W.heap.size, hsz, ?_, ?_, ?_, ?_⟩
    · simp only [World.cell?, HAl]; rfl
    · simp only [World.cell?, HAl]; rfl
    · simp only [World.cell?, HAl]; rfl
    · rfl
  case body =>
    rintro l pre x a' W hl' - hI ⟨Bx, hBx, x0, x1, x2, rfl⟩ hN'
    obtain ⟨hj, hk, hc, hs⟩ := hI
    obtain ⟨qx1, qx2⟩ := HQ.out x.1 x.2
    have KU : Hid (Calls Try.prog 41 #[.pointer (some ⟨gj, 0, none⟩), cv (q.getD x.1 c00)] W fun e w' => e = .returned (.tuple #[]) ∧ KeepsFrom W0.heap.size W w' ∧ Kp2 w9.heap.size b W w' ∧ Tb X B gj gm N w.heap.size W0.heap.size p (m :: ms) (.slice a1 np m) (.slice (some ⟨g2, 0, none⟩) (n + 1) k2) w (pre ++ [x]).length (fl q t ((pre ++ [x]).map (·.1))) w') :=
      (undo_any B gj gm (N + pre.length) (q.getD x.1 c00) _ p _ _ _ W hj qx1 qx2 (by have := HN.out; have := HD.out; omega)).mono fun e w' he => by
        obtain ⟨e1, r1, r2, r3⟩ := he
        have hgm := HJN.out.1
        have kc : ∀ j, j < W.heap.size → j ≠ gm → ∀ o, w'.cell? ⟨j, o, none⟩ = W.cell? ⟨j, o, none⟩ := fun j h1 h2 o => World.cell?_of_block (a := ⟨j, o, none⟩) (r3.block j h1 (fun e => h2 (by simpa using e)))
        refine ⟨e1, KeepsFrom.of_grownBy r3 (fun j e => by injection e with e; omega), fun o => ⟨kc _ (by omega) (by omega) o, kc _ (by omega) (by omega) o⟩, ?_, Kj_trans hk r2, (kc _ (by omega) (by omega) 0).trans hc, Nat.le_trans hs r3.size⟩
        rw [List.map_append, List.map_cons, List.map_nil, fl_app, List.length_append]
        exact r1
    unfold cv at KU ⊢
    generalize ((q.getD x.1 c00).1 : Int) = y1 at KU x0 ⊢
    generalize decide ((q.getD x.1 c00).2 ≠ 0) = y3 at KU x2 ⊢
    generalize ((q.getD x.1 c00).2 : Int) = y2 at KU x1 ⊢
    clear hj hk hN' qx1 qx2
    gi_wp2_with (refine ⟨trivial, ?_⟩; gi_at_call 41; refine (CallsIn.inRound l (callsIn_wide.2 KU.out)).mono ?_; rintro e w' ⟨rfl, h1, h2, h3⟩)
    exact ⟨h1, h2, h3⟩
  case stop =>
    rintro D c pre W _ _ h _
    exact h.elim
  case done =>
    rintro D ys W hD hS hI hK
    rw [hS, fl_all, show ys.length = nq by rw [← List.length_map (f := (·.1)), hS, List.length_reverse, List.length_range, HD.out.2.1]] at hI
    have HDl : D < W.heap.size := (Array.getElem?_eq_some_iff.1 hK).1
    have HH : Hid (JS X B gj gm (N + nq) (q.foldr und t) p (m :: ms) (.slice a1 np m) (.slice (some ⟨g2, 0, none⟩) (n + 1) k2) W ∧ Kj X B gj gm w W ∧ W.cell? ⟨w.heap.size, 0, none⟩ = some (.pointer (some ⟨gj, 0, none⟩)) ∧ w.heap.size < W.heap.size ∧ W.heap[D]? = some (.deferred (some [])) ∧ D < W.heap.size) := ⟨hI.1, hI.2.1, hI.2.2.1, by have := hI.2.2.2; omega, hK, HDl⟩
    have HS0 : Hid (B ≤ W0.heap.size ∧ w.heap.size < W0.heap.size ∧ W0.heap.size ≤ D ∧ W0.heap.size ≤ W.heap.size) := ⟨by omega, by omega, hD, hI.2.2.2⟩
    have HG : Hid (gj < W.heap.size) := Nat.lt_of_lt_of_le hI.1.lj hI.1.hi
    have HKL : Hid (m ≤ m) := by have := HM.out; show _ ≤ _; omega
    clear hI hK hS hD HDl hbk hbo HA L0 S9 XB C1 C2 XM HGJ HB1 H X2 xb k1' k2' k3' hw9 SW SW0 SA HJ1 HQ
    show KQ2 _ _
    refine hKQ2 _ _ ?_
    clear hKQ2
    refine wpIn_wide.2 ?_
    dsimp only
    go_upto_region 7 with fail
    have hL : RG.Lasts (fun wx => Below W.heap.size W wx) (fun _ _ _ => True) := ⟨fun _ _ h hb => h.trans (hb.mono h.size), fun _ _ _ _ _ _ => trivial⟩
    refine RG.wp_region_gen (fun wx => Below W.heap.size W wx) (fun _ _ _ => True) (fun _ _ => True) [0, 0, 0, 0, 0, 0, 0, 0, 0, 2] (by kernel_rfl) (by kernel_rfl) ((Below.refl _ _).drew) ?_
    dsimp only [List.toList_toArray]
    refine RG.go1 (v := ?_) (a' := ?_) hL (by decide) rfl ?_ ?_ ?_
    rotate_left 2
    · intro K wx hS hK
      have xb := (hS.cell (p := ⟨w.heap.size, 0, none⟩) HH.out.2.2.2.1).trans HH.out.2.2.1
      go_simp
      exact hK _ (Below.refl _ _)
    · simp only [Act.put, List.setIfInBounds_toArray, List.set_cons_succ, List.set_cons_zero]
      rfl
    refine RG.go1 (v := ?_) (a' := ?_) hL (by decide) rfl ?_ ?_ ?_
    rotate_left 2
    · intro K wx hS hK
      have xb := (hS.cell (p := ⟨w.heap.size, 0, none⟩) HH.out.2.2.2.1).trans HH.out.2.2.1
      go_simp
      exact hK _ (Below.refl _ _)
    · simp only [Act.put, List.setIfInBounds_toArray, List.set_cons_succ, List.set_cons_zero]
      rfl
    refine RG.go1 (v := ?_) (a' := ?_) hL (by decide) rfl ?_ ?_ ?_
    rotate_left 2
    · intro K wx hS hK
      go_simp
      exact hK _ (Below.refl _ _)
    · simp only [Act.put, List.setIfInBounds_toArray, List.set_cons_succ, List.set_cons_zero]
      rfl
    refine RG.go1 (v := ?_) (a' := ?_) hL (by decide) rfl ?_ ?_ ?_
    rotate_left 2
    · intro K wx hS hK
      go_simp
      exact hK _ (Below.refl _ _)
    · simp only [Act.put, List.setIfInBounds_toArray, List.set_cons_succ, List.set_cons_zero]
      rfl
    refine RG.go1 (v := ?_) (a' := ?_) hL (by decide) rfl ?_ ?_ ?_
    rotate_left 2
    · intro K wx hS hK
      have c1 := (hS.cell (p := ⟨gj, 1, none⟩) HG.out).trans HH.out.1.c1
      go_simp
      exact hK _ (Below.refl _ _)
    · simp only [Act.put, List.setIfInBounds_toArray, List.set_cons_succ, List.set_cons_zero]
      rfl
    refine RG.go1 (v := ?_) (a' := ?_) hL (by decide) rfl ?_ ?_ ?_
    rotate_left 2
    · intro K wx hS hK
      go_simp
      exact hK _ (Below.refl _ _)
    · simp only [Act.put, List.setIfInBounds_toArray, List.set_cons_succ, List.set_cons_zero]
      rfl
    refine RG.go1 (v := ?_) (a' := ?_) hL (by decide) rfl ?_ ?_ ?_
    rotate_left 2
    · intro K wx hS hK
      have h0 : (0 : Int) ≤ (m : Int) := by omega
      have h1 := HKL.out
      have h2 : (m : Int) ≤ ((m : Nat) : Int) := by omega
      go_simp
      exact hK _ (Below.refl _ _)
    · simp only [Act.put, List.setIfInBounds_toArray, List.set_cons_succ, List.set_cons_zero]
      rfl
    refine RG.go1 (v := ?_) (a' := ?_) hL (by decide) rfl ?_ ?_ ?_
    rotate_left 2
    · intro K wx hS hK
      go_simp
      exact hK _ (Below.refl _ _)
    · simp only [Act.put, List.setIfInBounds_toArray, List.set_cons_succ, List.set_cons_zero]
      rfl
    refine RG.go1 (v := ?_) (a' := ?_) hL (by decide) rfl ?_ ?_ ?_
    rotate_left 2
    · intro K wx hS hK
      go_simp
      exact hK _ (Below.refl _ _)
    · simp only [Act.put, List.setIfInBounds_toArray, List.set_cons_succ, List.set_cons_zero]
      rfl
    refine RG.goT ?_
    refine RG.go_end ?_
    intro U v9 m9 y9 x9
    simp +decide (maxSteps := 1000000) only [RG.tl, RG.putN, ↓reduceIte]
    clear y9 x9 hL
    have J7 : JS X B gj gm (N + nq) (q.foldr und t) p (m :: ms) (.slice a1 p.length m) (.slice (some ⟨g2, 0, none⟩) (n + 1) k2) v9 := by rw [← HL.out.2]; exact HH.out.1.below m9
    obtain ⟨r1, r2⟩ := cut_past (m := m) J7 (by rw [← HL.out.2]; exact HD.out.2.2)
    have c1 := J7.c1
    have f1 := J7.f 1
    rw [← HL.out.2] at c1
    have s7 : (v9.setCell ⟨gj, 1, none⟩ (.slice a1 m m)).heap.size = v9.heap.size := by simp
    have R7 : Hid (JS X B gj gm N (q.foldr und t) (p.take m) (m :: ms) (.slice a1 m m) (.slice (some ⟨g2, 0, none⟩) (n + 1) k2) (v9.setCell ⟨gj, 1, none⟩ (.slice a1 m m)) ∧ Kj X B gj gm w (v9.setCell ⟨gj, 1, none⟩ (.slice a1 m m)) ∧ (v9.setCell ⟨gj, 1, none⟩ (.slice a1 m m)).cell? ⟨w.heap.size, 0, none⟩ = some (.pointer (some ⟨gj, 0, none⟩)) ∧ (v9.setCell ⟨gj, 1, none⟩ (.slice a1 m m)).heap[D]? = some (.deferred (some [])) ∧ W.heap.size ≤ (v9.setCell ⟨gj, 1, none⟩ (.slice a1 m m)).heap.size) := by
      refine ⟨r1, Kj_trans HH.out.2.1 (Kj_trans (Kj_below m9 HH.out.1.hi HH.out.1.hx) r2), ?_, ?_, by rw [s7]; exact m9.size⟩
      · rw [World.cell?_setCell_other _ _ _ _ (by intro e; injection e with e; have := HJN.out.2; omega)]
        exact (m9.cell (p := ⟨w.heap.size, 0, none⟩) HH.out.2.2.2.1).trans HH.out.2.2.1
      · rw [Below.heap_setCell _ _ _ _ (by intro e; have := HJN.out.2; have := HS0.out; simp at e; omega)]
        exact (m9.block D HH.out.2.2.2.2.2).trans HH.out.2.2.2.2.1
    clear r1 r2 J7 m9 s7
    go_upto_region 8 with fail
    clear c1 f1
    generalize v9.setCell ⟨gj, 1, none⟩ (.slice a1 m m) = V7 at R7 ⊢
    have hL : RG.Lasts (fun wx => Below V7.heap.size V7 wx) (fun _ _ _ => True) := ⟨fun _ _ h hb => h.trans (hb.mono h.size), fun _ _ _ _ _ _ => trivial⟩
    have HG7 : Hid (gj < V7.heap.size ∧ w.heap.size < V7.heap.size) := ⟨Nat.lt_of_lt_of_le HG.out R7.out.2.2.2.2, Nat.lt_of_lt_of_le HH.out.2.2.2.1 R7.out.2.2.2.2⟩
    have C7 : Hid (V7.cell? ⟨gj, 2, none⟩ = some (.slice (some ⟨g2, 0, none⟩) (n + 1) k2)) := R7.out.1.c2
    refine RG.wp_region_gen (fun wx => Below V7.heap.size V7 wx) (fun _ _ _ => True) (fun _ _ => True) [0, 0, 0, 0, 0, 0, 0, 0, 0, 0, 0, 0, 0, 0, 2] (by kernel_rfl) (by kernel_rfl) ((Below.refl _ _).drew) ?_
    dsimp only [List.toList_toArray]
    refine RG.go1 (v := ?_) (a' := ?_) hL (by decide) rfl ?_ ?_ ?_
    rotate_left 2
    · intro K wx hS hK
      have xb := (hS.cell (p := ⟨w.heap.size, 0, none⟩) HG7.out.2).trans R7.out.2.2.1
      go_simp
      exact hK _ (Below.refl _ _)
    · simp only [Act.put, List.setIfInBounds_toArray, List.set_cons_succ, List.set_cons_zero]
      rfl
    refine RG.go1 (v := ?_) (a' := ?_) hL (by decide) rfl ?_ ?_ ?_
    rotate_left 2
    · intro K wx hS hK
      have xb := (hS.cell (p := ⟨w.heap.size, 0, none⟩) HG7.out.2).trans R7.out.2.2.1
      go_simp
      exact hK _ (Below.refl _ _)
    · simp only [Act.put, List.setIfInBounds_toArray, List.set_cons_succ, List.set_cons_zero]
      rfl
    refine RG.go1 (v := ?_) (a' := ?_) hL (by decide) rfl ?_ ?_ ?_
    rotate_left 2
    · intro K wx hS hK
      go_simp
      exact hK _ (Below.refl _ _)
    · simp only [Act.put, List.setIfInBounds_toArray, List.set_cons_succ, List.set_cons_zero]
      rfl
    refine RG.go1 (v := ?_) (a' := ?_) hL (by decide) rfl ?_ ?_ ?_
    rotate_left 2
    · intro K wx hS hK
      go_simp
      exact hK _ (Below.refl _ _)
    · simp only [Act.put, List.setIfInBounds_toArray, List.set_cons_succ, List.set_cons_zero]
      rfl
    refine RG.go1 (v := ?_) (a' := ?_) hL (by decide) rfl ?_ ?_ ?_
    rotate_left 2
    · intro K wx hS hK
      have c2 := (hS.cell (p := ⟨gj, 2, none⟩) HG7.out.1).trans C7.out
      go_simp
      exact hK _ (Below.refl _ _)
    · simp only [Act.put, List.setIfInBounds_toArray, List.set_cons_succ, List.set_cons_zero]
      rfl
    refine RG.go1 (v := ?_) (a' := ?_) hL (by decide) rfl ?_ ?_ ?_
    rotate_left 2
    · intro K wx hS hK
      have xb := (hS.cell (p := ⟨w.heap.size, 0, none⟩) HG7.out.2).trans R7.out.2.2.1
      go_simp
      exact hK _ (Below.refl _ _)
    · simp only [Act.put, List.setIfInBounds_toArray, List.set_cons_succ, List.set_cons_zero]
      rfl
    refine RG.go1 (v := ?_) (a' := ?_) hL (by decide) rfl ?_ ?_ ?_
    rotate_left 2
    · intro K wx hS hK
      go_simp
      exact hK _ (Below.refl _ _)
    · simp only [Act.put, List.setIfInBounds_toArray, List.set_cons_succ, List.set_cons_zero]
      rfl
    refine RG.go1 (v := ?_) (a' := ?_) hL (by decide) rfl ?_ ?_ ?_
    rotate_left 2
    · intro K wx hS hK
      go_simp
      exact hK _ (Below.refl _ _)
    · simp only [Act.put, List.setIfInBounds_toArray, List.set_cons_succ, List.set_cons_zero]
      rfl
    refine RG.go1 (v := ?_) (a' := ?_) hL (by decide) rfl ?_ ?_ ?_
    rotate_left 2
    · intro K wx hS hK
      have c2 := (hS.cell (p := ⟨gj, 2, none⟩) HG7.out.1).trans C7.out
      go_simp
      exact hK _ (Below.refl _ _)
    · simp only [Act.put, List.setIfInBounds_toArray, List.set_cons_succ, List.set_cons_zero]
      rfl
    refine RG.go1 (v := ?_) (a' := ?_) hL (by decide) rfl ?_ ?_ ?_
    rotate_left 2
    · intro K wx hS hK
      go_simp
      exact hK _ (Below.refl _ _)
    · simp only [Act.put, List.setIfInBounds_toArray, List.set_cons_succ, List.set_cons_zero]
      rfl
    refine RG.go1 (v := ?_) (a' := ?_) hL (by decide) rfl ?_ ?_ ?_
    rotate_left 2
    · intro K wx hS hK
      go_simp
      first | rw [HW.out.1] | rw [HW.out.2.1] | rw [HW.out.2.2.1] | rw [HW.out.2.2.2]
      exact hK _ (Below.refl _ _)
    · simp only [Act.put, List.setIfInBounds_toArray, List.set_cons_succ, List.set_cons_zero]
      rfl
    refine RG.go1 (v := ?_) (a' := ?_) hL (by decide) rfl ?_ ?_ ?_
    rotate_left 2
    · intro K wx hS hK
      have h0 : (0 : Int) ≤ (n : Int) := by omega
      have h1 : n ≤ k2 := by have := HK2.out; omega
      have h2 : (n : Int) ≤ (k2 : Int) := by omega
      go_simp
      exact hK _ (Below.refl _ _)
    · simp only [Act.put, List.setIfInBounds_toArray, List.set_cons_succ, List.set_cons_zero]
      rfl
    refine RG.go1 (v := ?_) (a' := ?_) hL (by decide) rfl ?_ ?_ ?_
    rotate_left 2
    · intro K wx hS hK
      go_simp
      exact hK _ (Below.refl _ _)
    · simp only [Act.put, List.setIfInBounds_toArray, List.set_cons_succ, List.set_cons_zero]
      rfl
    refine RG.go1 (v := ?_) (a' := ?_) hL (by decide) rfl ?_ ?_ ?_
    rotate_left 2
    · intro K wx hS hK
      go_simp
      exact hK _ (Below.refl _ _)
    · simp only [Act.put, List.setIfInBounds_toArray, List.set_cons_succ, List.set_cons_zero]
      rfl
    refine RG.goT ?_
    refine RG.go_end ?_
    intro U v8 m8 y8 x8
    simp +decide (maxSteps := 1000000) only [RG.tl, RG.putN, ↓reduceIte]
    clear y8 x8 hL
    have J8 : JS X B gj gm N (q.foldr und t) (p.take m) (m :: ms) (.slice a1 m m) (.slice (some ⟨g2, 0, none⟩) (m :: ms).length k2) v8 := by rw [List.length_cons, ← HL.out.1]; exact R7.out.1.below m8
    obtain ⟨r1, r2⟩ := cut_marks J8
    have c2 := J8.c2
    have f2 := J8.f 2
    rw [List.length_cons, ← HL.out.1] at c2
    rw [← HL.out.1] at r1 r2
    have T8 : Tb X B gj gm N w.heap.size W0.heap.size (p.take m) ms (.slice a1 m m) (.slice (some ⟨g2, 0, none⟩) n k2) w 0 (q.foldr und t) (v8.setCell ⟨gj, 2, none⟩ (.slice (some ⟨g2, 0, none⟩) n k2)) := by
      refine ⟨r1, Kj_trans R7.out.2.1 (Kj_trans (Kj_below m8 R7.out.1.hi R7.out.1.hx) r2), ?_, ?_⟩
      · rw [World.cell?_setCell_other _ _ _ _ (by intro e; injection e with e; have := HJN.out.2; omega)]
        exact (m8.cell (p := ⟨w.heap.size, 0, none⟩) HG7.out.2).trans R7.out.2.2.1
      · have h1 := m8.size
        have h2 := R7.out.2.2.2.2
        have h3 := HS0.out.2.2.2
        have h4 : (v8.setCell ⟨gj, 2, none⟩ (.slice (some ⟨g2, 0, none⟩) n k2)).heap.size = v8.heap.size := by simp
        omega
    have K8 : (v8.setCell ⟨gj, 2, none⟩ (.slice (some ⟨g2, 0, none⟩) n k2)).heap[D]? = some (.deferred (some [])) := by
      rw [Below.heap_setCell _ _ _ _ (by intro e; have := HJN.out.2; have := HS0.out; simp at e; omega)]
      exact (m8.block D (Array.getElem?_eq_some_iff.1 R7.out.2.2.2.1).1).trans R7.out.2.2.2.1
    have F8 : Hid (Tb X B gj gm N w.heap.size W0.heap.size (p.take m) ms (.slice a1 m m) (.slice (some ⟨g2, 0, none⟩) n k2) w 0 (q.foldr und t) ((v8.setCell ⟨gj, 2, none⟩ (.slice (some ⟨g2, 0, none⟩) n k2)).putObj D (.deferred none))) := (Tb_own B gj gm N w.heap.size W0.heap.size (p.take m) ms (.slice a1 m m) (.slice (some ⟨g2, 0, none⟩) n k2) w HS0.out.1 HS0.out.2.1 HXw.out (fun _ : Unit => 0) (fun _ => q.foldr und t)).putObj (s := ()) (.deferred none) T8 HS0.out.2.2.1 K8 rfl
    clear r1 r2 J8 m8 T8
    have HK8 : Hid _ := K8
    clear K8
    go_wp2
    refine ⟨by simp, .inl ⟨_, _, rfl, run_takeDeferred HK8.out, ?_⟩⟩
    exact ⟨_, results_tmp rfl _ _ _, rfl, _, _, F8.out.1, F8.out.2.1⟩
theorem back_any (B gj gm N m : Nat) (t : Fn) (p : Ps) (ms : List Nat) (pv mv : Value) (w : World) (h : JS X B gj gm N t p (m :: ms) pv mv w) (hm : m ≤ p.length) (hN : N + p.length ≤ 4194303) (hq : WQ p) :
    Calls Try.prog 29 #[.pointer (some ⟨gj, 0, none⟩)] w fun e w' => e = .returned (.bool true) ∧ ∃ pv' mv', JS X B gj gm N ((p.drop m).foldr und t) (p.take m) ms pv' mv' w' ∧ Kj X B gj gm w w' := by
  obtain ⟨a1, k1, rfl⟩ := own_form h.pw
  by_cases hc : k1 = m
  · subst hc
    exact back_full B gj gm N k1 t p ms mv a1 w h hm hN hq
  · exact back_go B gj gm N m t p ms mv a1 k1 w h hm hN hc hq
end Jn
end Go.Proofs.Ytengpjalkiibiaa
/- journal: New, do. -/
namespace Go.Proofs.Ytengpjalkiibiaa
namespace Jn
variable {X : Nat → Prop}
open Go.RowKit Go.Maps
theorem Mp_none : Mp (.map []) z0 := ⟨fun k _ => ⟨by simp [z0]; rfl, rfl⟩, fun _ _ => rfl, fun _ => by unfold z0; omega⟩
set_option maxRecDepth 100000 in
theorem new_any (w : World) : Calls Try.prog 17 #[] w fun e w' => e = .returned (.pointer (some ⟨w.heap.size + 1, 0, none⟩)) ∧ w'.heap.size = w.heap.size + 2 ∧ JS (fun _ => False) (w.heap.size + 2) (w.heap.size + 1) w.heap.size 0 z0 [] [] (.slice none 0 0) (.slice none 0 0) w' ∧ Below w.heap.size w w' := by
  have hmm := @run_makeMap Try.prog
  go_enter Try.func17, Try.ntmps17
  go_wp2_with fail
  go_ret
  refine ⟨by simp, by simp, ⟨by omega, by omega, by omega, by simp, fun k h => h.elim, fun k h => h.elim, by simp, by simp, by simp, fun o => by simp, ⟨_, 0, ((World.ownsMap_made w Try.prog 29 _).alloc _), Nat.le_refl _, Mp_none⟩, World.ownsRow_nil _ _ _ _, World.ownsRow_nil _ _ _ _, fun g h => by cases h⟩, ((Below.refl _ _).alloc (Nat.le_refl _) _).alloc (by simp) _⟩
theorem Kj.less {Y : Nat → Prop} {B gj gm : Nat} {w w' : World} (h : Kj X B gj gm w w') (hY : ∀ k, Y k → X k) : Kj Y B gj gm w w' :=
  ⟨h.os, h.tape, h.output, h.size, fun k h1 h2 h3 => h.block k (h1.imp_right (hY k)) h2 h3⟩
/-- What do keeps besides: where its answer lies. -/
def Xr (X : Nat → Prop) (r : Nat) (k : Nat) : Prop := X k ∨ k = r
/-- Within do: the operation and the answer's variable have been made. -/
def W2 (w : World) (o : JO) : World := (w.alloc (.cells #[.int .i64 o.1, .int .u64 (o.2.1 : Int), .int .u64 (o.2.2 : Int)] 39)).alloc (.cells #[.int .i64 0, .int .u64 0] 31)
theorem W2_size (w : World) (o : JO) : (W2 w o).heap.size = w.heap.size + 2 := by simp [W2]
theorem W2_below (w : World) (o : JO) : Below w.heap.size w (W2 w o) := ((Below.refl _ _).alloc (Nat.le_refl _) _).alloc (by simp) _
theorem W2_js {B gj gm N : Nat} {t : Fn} {p : Ps} {ms : List Nat} {pv mv : Value} {w : World} (h : JS X B gj gm N t p ms pv mv w) (o : JO) : JS (Xr X (w.heap.size + 1)) B gj gm N t p ms pv mv (W2 w o) :=
  h.more (W2_below w o) fun k hk => by
    rw [W2_size]
    rcases hk with h | h
    · exact .inl h
    · exact .inr (by omega)
/-- Behind a step: the answer's variable is there still. -/
structure Rc (w w3 : World) (a b : Value) : Prop where
  c0 : w3.cell? ⟨w.heap.size + 1, 0, none⟩ = some a
  c1 : w3.cell? ⟨w.heap.size + 1, 1, none⟩ = some b
  f : ∀ o, w3.frozen? ⟨w.heap.size + 1, o, none⟩ = false
theorem W2_rc (w : World) (o : JO) : Rc w (W2 w o) (.int .i64 0) (.int .u64 0) := ⟨by simp [W2], by simp [W2], fun o' => by simp [W2]⟩
theorem Rc_kj {B gj gm N : Nat} {t : Fn} {p : Ps} {ms : List Nat} {pv mv : Value} {w w2 w3 : World} {a b : Value} (h : Rc w w2 a b) (j : JS (Xr X (w.heap.size + 1)) B gj gm N t p ms pv mv w2) (k : Kj (Xr X (w.heap.size + 1)) B gj gm w2 w3) : Rc w w3 a b := by
  have n := j.nx (w.heap.size + 1) (.inr rfl)
  have hb := k.block (w.heap.size + 1) (.inr (.inr rfl)) n.1 n.2.1
  exact ⟨(World.cell?_of_block (a := ⟨w.heap.size + 1, 0, none⟩) hb).trans h.c0, (World.cell?_of_block (a := ⟨w.heap.size + 1, 1, none⟩) hb).trans h.c1, fun o => (World.frozen?_of_block (a := ⟨w.heap.size + 1, o, none⟩) hb).trans (h.f o)⟩
/-- The answer is laid. -/
theorem do_end {B gj gm N N2 : Nat} {t t2 : Fn} {p p2 : Ps} {ms ms2 : List Nat} {pv mv pv2 mv2 : Value} {w w3 : World} {o : JO} {a b : Value} (h : JS X B gj gm N t p ms pv mv w) (j : JS (Xr X (w.heap.size + 1)) B gj gm N2 t2 p2 ms2 pv2 mv2 w3) (k : Kj (Xr X (w.heap.size + 1)) B gj gm (W2 w o) w3) (x y : Value) (r : Rc w w3 a b) :
    JS X B gj gm N2 t2 p2 ms2 pv2 mv2 (w3.setCells (w.heap.size + 1) 0 [x, y]) ∧ Kj X B gj gm w (w3.setCells (w.heap.size + 1) 0 [x, y]) ∧ Rc w (w3.setCells (w.heap.size + 1) 0 [x, y]) x y := by
  have g : w3.grownBy (w3.setCells (w.heap.size + 1) 0 [x, y]) (some (w.heap.size + 1)) := by
    have g1 : w3.grownBy (w3.setCell ⟨w.heap.size + 1, 0, none⟩ x) (some (w.heap.size + 1)) := ⟨rfl, rfl, rfl, by simp, fun k hk hn => Below.heap_setCell _ _ _ _ (fun e => hn (by rw [e]))⟩
    have g2 : (w3.setCell ⟨w.heap.size + 1, 0, none⟩ x).grownBy ((w3.setCell ⟨w.heap.size + 1, 0, none⟩ x).setCell ⟨w.heap.size + 1, 1, none⟩ y) (some (w.heap.size + 1)) := ⟨rfl, rfl, rfl, by simp, fun k hk hn => Below.heap_setCell _ _ _ _ (fun e => hn (by rw [e]))⟩
    exact ⟨rfl, rfl, rfl, Nat.le_trans g1.size g2.size, fun k hk hn => (g2.block k (Nat.lt_of_lt_of_le hk g1.size) hn).trans (g1.block k hk hn)⟩
  have n := j.nx (w.heap.size + 1) (.inr rfl)
  have hh := h.hi
  have nl (v : Value) (hv : some (w.heap.size + 1) ≠ v.ownBlock) : v.ownBlock = none ∨ v.ownBlock ≠ some (w.heap.size + 1) := .inr (fun e => hv e.symm)
  have j2 := j.gb g (fun e => n.1 (by injection e with e; exact e.symm)) (fun e => n.2.1 (by injection e with e; exact e.symm)) (nl _ n.2.2.1) (nl _ n.2.2.2)
  refine ⟨j2.less fun k hk => .inl hk, ?_, ?_, ?_, ?_⟩
  · refine Kj_trans (Kj_below (W2_below w o) hh h.hx) (Kj_trans (k.less fun k hk => .inl hk) (Kj_gb g j.hi (fun k hk => j.hx k (.inl hk)) fun k e => .inr (.inr ⟨?_, fun hk => ?_⟩)))
    · injection e with e; omega
    · injection e with e
      have := h.hx k hk
      omega
  · show ((w3.setCell ⟨w.heap.size + 1, 0, none⟩ x).setCell ⟨w.heap.size + 1, 1, none⟩ y).cell? _ = _
    rw [World.cell?_setCell_other _ _ _ _ (by simp)]
    exact World.cell?_setCell_same _ _ _ r.c0
  · show ((w3.setCell ⟨w.heap.size + 1, 0, none⟩ x).setCell ⟨w.heap.size + 1, 1, none⟩ y).cell? _ = _
    exact World.cell?_setCell_same _ _ _ ((World.cell?_setCell_other _ _ _ _ (by simp)).trans r.c1)
  · intro o'
    rw [World.frozen?_setCells]
    exact r.f o'
/-- What do comes to. -/
def DP (X : Nat → Prop) (B gj gm N : Nat) (t : Fn) (s : List Fn) (a : JA) (w : World) (e : Ending) (w' : World) : Prop := e = .returned (ja a) ∧ ∃ (p : Ps) (ms : List Nat) (pv mv : Value), JS X B gj gm N t p ms pv mv w' ∧ Rl t p ms s ∧ WQ p ∧ Kj X B gj gm w w'
def ov (o : JO) : Value := .agg #[.int .i64 o.1, .int .u64 (o.2.1 : Int), .int .u64 (o.2.2 : Int)]
theorem WQ_rem {t : Fn} {p : Ps} {ms : List Nat} {k : Nat} (h : WQ p) (ht : WF t) (hk : k < 18446744073709551616) : WQ (rem t p ms k) := by
  unfold rem
  split
  · exact h
  · intro c hc
    rcases List.mem_append.1 hc with hc | hc
    · exact h c hc
    · rw [List.mem_singleton.1 hc]
      exact ⟨hk, ht k⟩
theorem Rl_rem {t : Fn} {p : Ps} {ms : List Nat} {s : List Fn} (h : Rl t p ms s) (k v : Nat) : Rl (upd t k v) (rem t p ms k) ms s := by
  unfold rem
  cases ms with
  | nil => exact Rl_set0 h k v
  | cons m ms => exact Rl_set h k v
theorem WQ_take {p : Ps} {m : Nat} (h : WQ p) : WQ (p.take m) := fun c hc => h c (List.mem_of_mem_take hc)
theorem WQ_nil : WQ [] := fun c hc => by cases hc
theorem back_none' (B gj gm N : Nat) (t : Fn) (p : Ps) (pv mv : Value) (w : World) (h : JS X B gj gm N t p [] pv mv w) :
    Calls Try.prog 29 #[.pointer (some ⟨gj, 0, none⟩)] w fun e w' => e = .returned (.bool false) ∧ JS X B gj gm N t p [] pv mv w' ∧ Kj X B gj gm w w' := back_none B gj gm N t p pv mv w h
theorem keep_none' (B gj gm N : Nat) (t : Fn) (p : Ps) (pv mv : Value) (w : World) (h : JS X B gj gm N t p [] pv mv w) :
    Calls Try.prog 30 #[.pointer (some ⟨gj, 0, none⟩)] w fun e w' => e = .returned (.bool false) ∧ JS X B gj gm N t p [] pv mv w' ∧ Kj X B gj gm w w' := (keep_none B gj gm N t p pv mv w h).mono fun e w' he => ⟨he.1, by rw [he.2]; exact h, by rw [he.2]; exact Kj_refl _ _ _ _⟩
set_option maxHeartbeats 1000000 in
set_option maxRecDepth 100000 in
theorem do_set (B gj gm N k v : Nat) (t : Fn) (s : List Fn) (p : Ps) (ms : List Nat) (pv mv : Value) (w : World) (h : JS X B gj gm N t p ms pv mv w) (hr : Rl t p ms s) (hq : WQ p) (ht : WF t) (hk : k < 18446744073709551616) (hv : v < 18446744073709551616) (hz : ms.length ≤ 1048575) (hN : N + p.length ≤ 4194303) :
    Calls Try.prog 18 #[.pointer (some ⟨gj, 0, none⟩), .agg #[.int .i64 1, .int .u64 (k : Int), .int .u64 (v : Int)]] w (DP X B gj gm (N + 2) (upd t k v) (s) (0, 0) w) := by
  have H : Hid _ := h
  have _HU : Hid (_ ∧ _ ∧ _ ∧ _ ∧ _ ∧ _) := ⟨hq, ht, hk, hv, hz, hN⟩
  have J2 : Hid (JS (Xr X (w.heap.size + 1)) B gj gm N t p ms pv mv (W2 w (1, k, v))) := W2_js h _
  have K : Hid (Calls Try.prog 25 #[.pointer (some ⟨gj, 0, none⟩), .int .u64 (k : Int), .int .u64 (v : Int)] (W2 w (1, k, v)) (RP (Xr X (w.heap.size + 1)) B gj gm (N + 2) (upd t k v) (rem t p ms k) ms mv (W2 w (1, k, v)))) := setdrop_any B gj gm N k v t p ms pv mv _ J2.out hk hv (by omega)
  have HR : Hid (Rl (upd t k v) (rem t p ms k) ms s ∧ WQ (rem t p ms k)) := ⟨Rl_rem hr k v, WQ_rem hq ht hk⟩
  clear h hk hv hN hr hq ht hz
  go_enter Try.func18, Try.ntmps18
  go_wp2_with fail
  refine K.out.mono ?_
  rintro e w3 ⟨rfl, pv', j3, k3⟩
  have R3 := Rc_kj (W2_rc w (1, k, v)) J2.out k3
  have HE : Hid _ := do_end H.out j3 k3 (.int .i64 0) (.int .u64 0) R3
  have c0 := R3.c0
  have c1 := R3.c1
  have f0 := R3.f
  clear j3 k3 R3 J2 K
  go_wp2_with fail
  exact bodyPost_ret (resJ _ _ _ (w.heap.size + 1) 4 _ _ rfl rfl HE.out.2.2.c0 HE.out.2.2.c1) rfl ⟨rfl, _, _, _, _, HE.out.1, HR.out.1, HR.out.2, HE.out.2.1⟩
set_option maxHeartbeats 1000000 in
set_option maxRecDepth 100000 in
theorem do_get (B gj gm N k v : Nat) (t : Fn) (s : List Fn) (p : Ps) (ms : List Nat) (pv mv : Value) (w : World) (h : JS X B gj gm N t p ms pv mv w) (hr : Rl t p ms s) (hq : WQ p) (ht : WF t) (hk : k < 18446744073709551616) (hv : v < 18446744073709551616) (hz : ms.length ≤ 1048575) (hN : N + p.length ≤ 4194303) :
    Calls Try.prog 18 #[.pointer (some ⟨gj, 0, none⟩), .agg #[.int .i64 2, .int .u64 (k : Int), .int .u64 (v : Int)]] w (DP X B gj gm (N + 2) (t) (s) (0, t k) w) := by
  have H : Hid _ := h
  have _HU : Hid (_ ∧ _ ∧ _ ∧ _ ∧ _ ∧ _) := ⟨hq, ht, hk, hv, hz, hN⟩
  have J2 : Hid (JS (Xr X (w.heap.size + 1)) B gj gm N t p ms pv mv (W2 w (2, k, v))) := W2_js h _
  have K : Hid (Calls Try.prog 26 #[.pointer (some ⟨gj, 0, none⟩), .int .u64 (k : Int)] (W2 w (2, k, v)) fun e w' => e = .returned (.tuple #[.int .u64 (t k : Int), .bool (decide (t k ≠ 0))]) ∧ w' = W2 w (2, k, v)) := get_any B gj gm N k t p ms pv mv _ J2.out hk
  have HR : Hid (Rl t p ms s ∧ WQ p) := ⟨hr, hq⟩
  have j3 := (J2.out).mono (N' := N + 2) (by omega)
  have k3 := Kj_refl (X := Xr X (w.heap.size + 1)) B gj gm (W2 w (2, k, v))
  have R3 := W2_rc w (2, k, v)
  obtain ⟨x, ex⟩ : ∃ x, x = t k := ⟨_, rfl⟩
  rw [← ex] at K ⊢
  generalize decide (x ≠ 0) = bb at K
  clear h hk hv hN hr hq ht hz ex
  go_enter Try.func18, Try.ntmps18
  go_wp2_with fail
  refine K.out.mono ?_
  rintro e w3 ⟨rfl, rfl⟩
  have HE : Hid _ := do_end H.out j3 k3 (.int .i64 0) (.int .u64 (x : Int)) R3
  have c0 := R3.c0
  have c1 := R3.c1
  have f0 := R3.f
  clear j3 k3 R3 J2 K
  go_wp2_with fail
  exact bodyPost_ret (resJ _ _ _ (w.heap.size + 1) 4 _ _ rfl rfl HE.out.2.2.c0 HE.out.2.2.c1) rfl ⟨rfl, _, _, _, _, HE.out.1, HR.out.1, HR.out.2, HE.out.2.1⟩
set_option maxHeartbeats 1000000 in
set_option maxRecDepth 100000 in
theorem do_mark (B gj gm N k v : Nat) (t : Fn) (s : List Fn) (p : Ps) (ms : List Nat) (pv mv : Value) (w : World) (h : JS X B gj gm N t p ms pv mv w) (hr : Rl t p ms s) (hq : WQ p) (ht : WF t) (hk : k < 18446744073709551616) (hv : v < 18446744073709551616) (hz : ms.length ≤ 1048575) (hN : N + p.length ≤ 4194303) :
    Calls Try.prog 18 #[.pointer (some ⟨gj, 0, none⟩), .agg #[.int .i64 3, .int .u64 (k : Int), .int .u64 (v : Int)]] w (DP X B gj gm (N + 2) (t) (t :: s) (0, s.length + 1) w) := by
  have H : Hid _ := h
  have _HU : Hid (_ ∧ _ ∧ _ ∧ _ ∧ _ ∧ _) := ⟨hq, ht, hk, hv, hz, hN⟩
  have J2 : Hid (JS (Xr X (w.heap.size + 1)) B gj gm N t p ms pv mv (W2 w (3, k, v))) := W2_js h _
  have K : Hid (Calls Try.prog 27 #[.pointer (some ⟨gj, 0, none⟩)] (W2 w (3, k, v)) fun e w' => e = .returned (.tuple #[]) ∧ ∃ mv', JS (Xr X (w.heap.size + 1)) B gj gm N t p (p.length :: ms) pv mv' w' ∧ Kj (Xr X (w.heap.size + 1)) B gj gm (W2 w (3, k, v)) w') := mark_any B gj gm N t p ms pv mv _ J2.out (by omega)
  have HR : Hid (Rl t p (p.length :: ms) (t :: s) ∧ WQ p) := ⟨Rl_mark hr, hq⟩
  obtain ⟨n, en⟩ : ∃ n, n = (p.length :: ms).length := ⟨_, rfl⟩
  have en2 : s.length + 1 = n := by rw [en, Rl_len (Rl_mark hr)]; rfl
  have KM : Hid (∀ (W : World) (mv' pv' : Value) (N' : Nat) (t' : Fn) (p' : Ps), JS (Xr X (w.heap.size + 1)) B gj gm N' t' p' (p.length :: ms) pv' mv' W → Calls Try.prog 28 #[.pointer (some ⟨gj, 0, none⟩), .bool true] W fun e w' => e = .returned (.agg #[.int .i64 0, .int .u64 (n : Int)]) ∧ Below W.heap.size W w') := fun W mv' pv' N' t' p' hj => by
    have := marksof_yes B gj gm N' t' p' (p.length :: ms) pv' mv' W hj
    rw [← en] at this
    exact this
  rw [en2]
  clear h hk hv hN hr hq ht hz en en2
  go_enter Try.func18, Try.ntmps18
  go_wp2_with fail
  refine K.out.mono ?_
  rintro e w3 ⟨rfl, mv', j3, k3⟩
  clear K
  go_wp2_with fail
  refine (KM.out w3 _ _ _ _ _ j3).mono ?_
  rintro e w4 ⟨rfl, b4⟩
  have k4 := Kj_trans k3 (Kj_below b4 j3.hi j3.hx)
  have j4 := j3.below b4
  have R4 := Rc_kj (W2_rc w (3, k, v)) J2.out k4
  clear j3 k3
  have j3 := j4
  have k3 := k4
  have R3 := R4
  clear j4 k4 R4 b4
  have HE : Hid _ := do_end H.out j3 k3 (.int .i64 0) (.int .u64 (n : Int)) R3
  have c0 := R3.c0
  have c1 := R3.c1
  have f0 := R3.f
  clear j3 k3 R3 J2 KM
  go_wp2_with fail
  exact bodyPost_ret (resJ _ _ _ (w.heap.size + 1) 4 _ _ rfl rfl HE.out.2.2.c0 HE.out.2.2.c1) rfl ⟨rfl, _, _, _, _, HE.out.1.mono (Nat.le_add_right _ _), HR.out.1, HR.out.2, HE.out.2.1⟩
set_option maxHeartbeats 1000000 in
set_option maxRecDepth 100000 in
theorem do_back0 (B gj gm N k v : Nat) (t : Fn) (s : List Fn) (p : Ps) (ms : List Nat) (pv mv : Value) (w : World) (h : JS X B gj gm N t p [] pv mv w) (hr : Rl t p [] s) (hq : WQ p) (ht : WF t) (hk : k < 18446744073709551616) (hv : v < 18446744073709551616) (hz : ms.length ≤ 1048575) (hN : N + p.length ≤ 4194303) :
    Calls Try.prog 18 #[.pointer (some ⟨gj, 0, none⟩), .agg #[.int .i64 4, .int .u64 (k : Int), .int .u64 (v : Int)]] w (DP X B gj gm (N + 2) (t) (s) (31, 0) w) := by
  have H : Hid _ := h
  have _HU : Hid (_ ∧ _ ∧ _ ∧ _ ∧ _ ∧ _) := ⟨hq, ht, hk, hv, hz, hN⟩
  have J2 : Hid (JS (Xr X (w.heap.size + 1)) B gj gm N t p [] pv mv (W2 w (4, k, v))) := W2_js h _
  have K : Hid (Calls Try.prog 29 #[.pointer (some ⟨gj, 0, none⟩)] (W2 w (4, k, v)) fun e w' => e = .returned (.bool false) ∧ JS (Xr X (w.heap.size + 1)) B gj gm N t p [] pv mv w' ∧ Kj (Xr X (w.heap.size + 1)) B gj gm (W2 w (4, k, v)) w') := back_none' B gj gm N t p pv mv _ J2.out
  have KN : Hid (∀ W : World, Calls Try.prog 28 #[.pointer (some ⟨gj, 0, none⟩), .bool false] W fun e w' => e = .returned (.agg #[.int .i64 31, .int .u64 0]) ∧ Below W.heap.size W w') := fun W => marksof_no gj W
  have HR : Hid (Rl t p [] s ∧ WQ p) := ⟨hr, hq⟩
  clear h hk hv hN hr hq ht hz
  go_enter Try.func18, Try.ntmps18
  go_wp2_with fail
  refine K.out.mono ?_
  rintro e w3 ⟨rfl, j3, k3⟩
  clear K
  go_wp2_with fail
  refine (KN.out w3).mono ?_
  rintro e w4 ⟨rfl, b4⟩
  have k4 := Kj_trans k3 (Kj_below b4 j3.hi j3.hx)
  have j4 := j3.below b4
  have R4 := Rc_kj (W2_rc w (4, k, v)) J2.out k4
  clear j3 k3
  have j3 := j4
  have k3 := k4
  have R3 := R4
  clear j4 k4 R4 b4
  have HE : Hid _ := do_end H.out j3 k3 (.int .i64 31) (.int .u64 0) R3
  have c0 := R3.c0
  have c1 := R3.c1
  have f0 := R3.f
  clear j3 k3 R3 J2 KN
  go_wp2_with fail
  exact bodyPost_ret (resJ _ _ _ (w.heap.size + 1) 4 _ _ rfl rfl HE.out.2.2.c0 HE.out.2.2.c1) rfl ⟨rfl, _, _, _, _, HE.out.1.mono (Nat.le_add_right _ _), HR.out.1, HR.out.2, HE.out.2.1⟩
set_option maxHeartbeats 1000000 in
set_option maxRecDepth 100000 in
theorem do_keep0 (B gj gm N k v : Nat) (t : Fn) (s : List Fn) (p : Ps) (ms : List Nat) (pv mv : Value) (w : World) (h : JS X B gj gm N t p [] pv mv w) (hr : Rl t p [] s) (hq : WQ p) (ht : WF t) (hk : k < 18446744073709551616) (hv : v < 18446744073709551616) (hz : ms.length ≤ 1048575) (hN : N + p.length ≤ 4194303) :
    Calls Try.prog 18 #[.pointer (some ⟨gj, 0, none⟩), .agg #[.int .i64 5, .int .u64 (k : Int), .int .u64 (v : Int)]] w (DP X B gj gm (N + 2) (t) (s) (31, 0) w) := by
  have H : Hid _ := h
  have _HU : Hid (_ ∧ _ ∧ _ ∧ _ ∧ _ ∧ _) := ⟨hq, ht, hk, hv, hz, hN⟩
  have J2 : Hid (JS (Xr X (w.heap.size + 1)) B gj gm N t p [] pv mv (W2 w (5, k, v))) := W2_js h _
  have K : Hid (Calls Try.prog 30 #[.pointer (some ⟨gj, 0, none⟩)] (W2 w (5, k, v)) fun e w' => e = .returned (.bool false) ∧ JS (Xr X (w.heap.size + 1)) B gj gm N t p [] pv mv w' ∧ Kj (Xr X (w.heap.size + 1)) B gj gm (W2 w (5, k, v)) w') := keep_none' B gj gm N t p pv mv _ J2.out
  have KN : Hid (∀ W : World, Calls Try.prog 28 #[.pointer (some ⟨gj, 0, none⟩), .bool false] W fun e w' => e = .returned (.agg #[.int .i64 31, .int .u64 0]) ∧ Below W.heap.size W w') := fun W => marksof_no gj W
  have HR : Hid (Rl t p [] s ∧ WQ p) := ⟨hr, hq⟩
  clear h hk hv hN hr hq ht hz
  go_enter Try.func18, Try.ntmps18
  go_wp2_with fail
  refine K.out.mono ?_
  rintro e w3 ⟨rfl, j3, k3⟩
  clear K
  go_wp2_with fail
  refine (KN.out w3).mono ?_
  rintro e w4 ⟨rfl, b4⟩
  have k4 := Kj_trans k3 (Kj_below b4 j3.hi j3.hx)
  have j4 := j3.below b4
  have R4 := Rc_kj (W2_rc w (5, k, v)) J2.out k4
  clear j3 k3
  have j3 := j4
  have k3 := k4
  have R3 := R4
  clear j4 k4 R4 b4
  have HE : Hid _ := do_end H.out j3 k3 (.int .i64 31) (.int .u64 0) R3
  have c0 := R3.c0
  have c1 := R3.c1
  have f0 := R3.f
  clear j3 k3 R3 J2 KN
  go_wp2_with fail
  exact bodyPost_ret (resJ _ _ _ (w.heap.size + 1) 4 _ _ rfl rfl HE.out.2.2.c0 HE.out.2.2.c1) rfl ⟨rfl, _, _, _, _, HE.out.1.mono (Nat.le_add_right _ _), HR.out.1, HR.out.2, HE.out.2.1⟩
set_option maxHeartbeats 1000000 in
set_option maxRecDepth 100000 in
theorem do_back1 (B gj gm N k v : Nat) (m : Nat) (u : Fn) (t : Fn) (s : List Fn) (p : Ps) (ms : List Nat) (pv mv : Value) (w : World) (h : JS X B gj gm N t p (m :: ms) pv mv w) (hr : Rl t p (m :: ms) (u :: s)) (hq : WQ p) (ht : WF t) (hk : k < 18446744073709551616) (hv : v < 18446744073709551616) (hz : ms.length ≤ 1048575) (hN : N + p.length ≤ 4194303) :
    Calls Try.prog 18 #[.pointer (some ⟨gj, 0, none⟩), .agg #[.int .i64 4, .int .u64 (k : Int), .int .u64 (v : Int)]] w (DP X B gj gm (N + 2) (u) (s) (0, s.length) w) := by
  have H : Hid _ := h
  have _HU : Hid (_ ∧ _ ∧ _ ∧ _ ∧ _ ∧ _) := ⟨hq, ht, hk, hv, hz, hN⟩
  have J2 : Hid (JS (Xr X (w.heap.size + 1)) B gj gm N t p (m :: ms) pv mv (W2 w (4, k, v))) := W2_js h _
  have K : Hid (Calls Try.prog 29 #[.pointer (some ⟨gj, 0, none⟩)] (W2 w (4, k, v)) fun e w' => e = .returned (.bool true) ∧ ∃ pv' mv', JS (Xr X (w.heap.size + 1)) B gj gm N ((p.drop m).foldr und t) (p.take m) ms pv' mv' w' ∧ Kj (Xr X (w.heap.size + 1)) B gj gm (W2 w (4, k, v)) w') := back_any B gj gm N m t p ms pv mv _ J2.out (Rl_le hr) (by omega) hq
  rw [← hr.2.1] at K
  have HR : Hid (Rl u (p.take m) ms s ∧ WQ (p.take m)) := ⟨by have := Rl_back hr; rw [← hr.2.1] at this; exact this, WQ_take hq⟩
  obtain ⟨n, en⟩ : ∃ n, n = ms.length := ⟨_, rfl⟩
  have en2 : s.length = n := by have := Rl_len hr; simp at this; omega
  have KM : Hid (∀ (W : World) (mv' pv' : Value) (N' : Nat) (t' : Fn) (p' : Ps), JS (Xr X (w.heap.size + 1)) B gj gm N' t' p' (ms) pv' mv' W → Calls Try.prog 28 #[.pointer (some ⟨gj, 0, none⟩), .bool true] W fun e w' => e = .returned (.agg #[.int .i64 0, .int .u64 (n : Int)]) ∧ Below W.heap.size W w') := fun W mv' pv' N' t' p' hj => by
    have := marksof_yes B gj gm N' t' p' (ms) pv' mv' W hj
    rw [← en] at this
    exact this
  rw [en2]
  clear h hk hv hN hr hq ht hz en en2
  go_enter Try.func18, Try.ntmps18
  go_wp2_with fail
  refine K.out.mono ?_
  rintro e w3 ⟨rfl, pv', mv', j3, k3⟩
  clear K
  go_wp2_with fail
  refine (KM.out w3 _ _ _ _ _ j3).mono ?_
  rintro e w4 ⟨rfl, b4⟩
  have k4 := Kj_trans k3 (Kj_below b4 j3.hi j3.hx)
  have j4 := j3.below b4
  have R4 := Rc_kj (W2_rc w (4, k, v)) J2.out k4
  clear j3 k3
  have j3 := j4
  have k3 := k4
  have R3 := R4
  clear j4 k4 R4 b4
  have HE : Hid _ := do_end H.out j3 k3 (.int .i64 0) (.int .u64 (n : Int)) R3
  have c0 := R3.c0
  have c1 := R3.c1
  have f0 := R3.f
  clear j3 k3 R3 J2 KM
  go_wp2_with fail
  exact bodyPost_ret (resJ _ _ _ (w.heap.size + 1) 4 _ _ rfl rfl HE.out.2.2.c0 HE.out.2.2.c1) rfl ⟨rfl, _, _, _, _, HE.out.1.mono (Nat.le_add_right _ _), HR.out.1, HR.out.2, HE.out.2.1⟩
set_option maxHeartbeats 1000000 in
set_option maxRecDepth 100000 in
theorem do_keep1 (B gj gm N k v : Nat) (m : Nat) (u : Fn) (t : Fn) (s : List Fn) (p : Ps) (ms : List Nat) (pv mv : Value) (w : World) (h : JS X B gj gm N t p (m :: []) pv mv w) (hr : Rl t p (m :: []) (u :: s)) (hq : WQ p) (ht : WF t) (hk : k < 18446744073709551616) (hv : v < 18446744073709551616) (hz : ms.length ≤ 1048575) (hN : N + p.length ≤ 4194303) :
    Calls Try.prog 18 #[.pointer (some ⟨gj, 0, none⟩), .agg #[.int .i64 5, .int .u64 (k : Int), .int .u64 (v : Int)]] w (DP X B gj gm (N + 2) (t) (s) (0, s.length) w) := by
  have H : Hid _ := h
  have _HU : Hid (_ ∧ _ ∧ _ ∧ _ ∧ _ ∧ _) := ⟨hq, ht, hk, hv, hz, hN⟩
  have J2 : Hid (JS (Xr X (w.heap.size + 1)) B gj gm N t p (m :: []) pv mv (W2 w (5, k, v))) := W2_js h _
  have K : Hid (Calls Try.prog 30 #[.pointer (some ⟨gj, 0, none⟩)] (W2 w (5, k, v)) fun e w' => e = .returned (.bool true) ∧ ∃ pv' mv', JS (Xr X (w.heap.size + 1)) B gj gm N t [] ([]) pv' mv' w' ∧ Kj (Xr X (w.heap.size + 1)) B gj gm (W2 w (5, k, v)) w') := keep_one B gj gm N m t p pv mv _ J2.out
  have HR : Hid (Rl t [] ([]) s ∧ WQ []) := ⟨by have h0 := Rl_len hr; cases s with | nil => rfl | cons _ _ => (simp at h0), WQ_nil⟩
  obtain ⟨n, en⟩ : ∃ n, n = ([] : List Nat).length := ⟨_, rfl⟩
  have en2 : s.length = n := by have h0 : ([] : List Nat).length + 1 = s.length + 1 := Rl_len hr; rw [en]; omega
  have KM : Hid (∀ (W : World) (mv' pv' : Value) (N' : Nat) (t' : Fn) (p' : Ps), JS (Xr X (w.heap.size + 1)) B gj gm N' t' p' ([]) pv' mv' W → Calls Try.prog 28 #[.pointer (some ⟨gj, 0, none⟩), .bool true] W fun e w' => e = .returned (.agg #[.int .i64 0, .int .u64 (n : Int)]) ∧ Below W.heap.size W w') := fun W mv' pv' N' t' p' hj => by
    have := marksof_yes B gj gm N' t' p' ([]) pv' mv' W hj
    rw [← en] at this
    exact this
  rw [en2]
  clear h hk hv hN hr hq ht hz en en2
  go_enter Try.func18, Try.ntmps18
  go_wp2_with fail
  refine K.out.mono ?_
  rintro e w3 ⟨rfl, pv', mv', j3, k3⟩
  clear K
  go_wp2_with fail
  refine (KM.out w3 _ _ _ _ _ j3).mono ?_
  rintro e w4 ⟨rfl, b4⟩
  have k4 := Kj_trans k3 (Kj_below b4 j3.hi j3.hx)
  have j4 := j3.below b4
  have R4 := Rc_kj (W2_rc w (5, k, v)) J2.out k4
  clear j3 k3
  have j3 := j4
  have k3 := k4
  have R3 := R4
  clear j4 k4 R4 b4
  have HE : Hid _ := do_end H.out j3 k3 (.int .i64 0) (.int .u64 (n : Int)) R3
  have c0 := R3.c0
  have c1 := R3.c1
  have f0 := R3.f
  clear j3 k3 R3 J2 KM
  go_wp2_with fail
  exact bodyPost_ret (resJ _ _ _ (w.heap.size + 1) 4 _ _ rfl rfl HE.out.2.2.c0 HE.out.2.2.c1) rfl ⟨rfl, _, _, _, _, HE.out.1.mono (Nat.le_add_right _ _), HR.out.1, HR.out.2, HE.out.2.1⟩
set_option maxHeartbeats 1000000 in
set_option maxRecDepth 100000 in
theorem do_keep2 (B gj gm N k v : Nat) (m m2 : Nat) (u : Fn) (t : Fn) (s : List Fn) (p : Ps) (ms : List Nat) (pv mv : Value) (w : World) (h : JS X B gj gm N t p (m :: m2 :: ms) pv mv w) (hr : Rl t p (m :: m2 :: ms) (u :: s)) (hq : WQ p) (ht : WF t) (hk : k < 18446744073709551616) (hv : v < 18446744073709551616) (hz : ms.length ≤ 1048575) (hN : N + p.length ≤ 4194303) :
    Calls Try.prog 18 #[.pointer (some ⟨gj, 0, none⟩), .agg #[.int .i64 5, .int .u64 (k : Int), .int .u64 (v : Int)]] w (DP X B gj gm (N + 2) (t) (s) (0, s.length) w) := by
  have H : Hid _ := h
  have _HU : Hid (_ ∧ _ ∧ _ ∧ _ ∧ _ ∧ _) := ⟨hq, ht, hk, hv, hz, hN⟩
  have J2 : Hid (JS (Xr X (w.heap.size + 1)) B gj gm N t p (m :: m2 :: ms) pv mv (W2 w (5, k, v))) := W2_js h _
  have K : Hid (Calls Try.prog 30 #[.pointer (some ⟨gj, 0, none⟩)] (W2 w (5, k, v)) fun e w' => e = .returned (.bool true) ∧ ∃ pv' mv', JS (Xr X (w.heap.size + 1)) B gj gm N t p (m2 :: ms) pv' mv' w' ∧ Kj (Xr X (w.heap.size + 1)) B gj gm (W2 w (5, k, v)) w') := keep_more B gj gm N m t p m2 ms pv mv _ J2.out
  have HR : Hid (Rl t p (m2 :: ms) s ∧ WQ p) := ⟨Rl_keep hr, hq⟩
  obtain ⟨n, en⟩ : ∃ n, n = (m2 :: ms : List Nat).length := ⟨_, rfl⟩
  have en2 : s.length = n := by have h0 : (m2 :: ms : List Nat).length + 1 = s.length + 1 := Rl_len hr; rw [en]; omega
  have KM : Hid (∀ (W : World) (mv' pv' : Value) (N' : Nat) (t' : Fn) (p' : Ps), JS (Xr X (w.heap.size + 1)) B gj gm N' t' p' (m2 :: ms) pv' mv' W → Calls Try.prog 28 #[.pointer (some ⟨gj, 0, none⟩), .bool true] W fun e w' => e = .returned (.agg #[.int .i64 0, .int .u64 (n : Int)]) ∧ Below W.heap.size W w') := fun W mv' pv' N' t' p' hj => by
    have := marksof_yes B gj gm N' t' p' (m2 :: ms) pv' mv' W hj
    rw [← en] at this
    exact this
  rw [en2]
  clear h hk hv hN hr hq ht hz en en2
  go_enter Try.func18, Try.ntmps18
  go_wp2_with fail
  refine K.out.mono ?_
  rintro e w3 ⟨rfl, pv', mv', j3, k3⟩
  clear K
  go_wp2_with fail
  refine (KM.out w3 _ _ _ _ _ j3).mono ?_
  rintro e w4 ⟨rfl, b4⟩
  have k4 := Kj_trans k3 (Kj_below b4 j3.hi j3.hx)
  have j4 := j3.below b4
  have R4 := Rc_kj (W2_rc w (5, k, v)) J2.out k4
  clear j3 k3
  have j3 := j4
  have k3 := k4
  have R3 := R4
  clear j4 k4 R4 b4
  have HE : Hid _ := do_end H.out j3 k3 (.int .i64 0) (.int .u64 (n : Int)) R3
  have c0 := R3.c0
  have c1 := R3.c1
  have f0 := R3.f
  clear j3 k3 R3 J2 KM
  go_wp2_with fail
  exact bodyPost_ret (resJ _ _ _ (w.heap.size + 1) 4 _ _ rfl rfl HE.out.2.2.c0 HE.out.2.2.c1) rfl ⟨rfl, _, _, _, _, HE.out.1.mono (Nat.le_add_right _ _), HR.out.1, HR.out.2, HE.out.2.1⟩
set_option maxHeartbeats 1000000 in
set_option maxRecDepth 100000 in
theorem do_else (B gj gm N k v : Nat) (kd : Int) (t : Fn) (s : List Fn) (p : Ps) (ms : List Nat) (pv mv : Value) (w : World) (h : JS X B gj gm N t p ms pv mv w) (hr : Rl t p ms s) (hq : WQ p) (ht : WF t) (hk : k < 18446744073709551616) (hv : v < 18446744073709551616) (hz : ms.length ≤ 1048575) (hN : N + p.length ≤ 4194303) (h1 : kd ≠ 1) (h2 : kd ≠ 2) (h3 : kd ≠ 3) (h4 : kd ≠ 4) (h5 : kd ≠ 5) :
    Calls Try.prog 18 #[.pointer (some ⟨gj, 0, none⟩), .agg #[.int .i64 kd, .int .u64 (k : Int), .int .u64 (v : Int)]] w (DP X B gj gm (N + 2) (t) (s) (30, 0) w) := by
  have H : Hid _ := h
  have _HU : Hid (_ ∧ _ ∧ _ ∧ _ ∧ _ ∧ _) := ⟨hq, ht, hk, hv, hz, hN⟩
  have HR : Hid (Rl t p ms s ∧ WQ p) := ⟨hr, hq⟩
  have e1 : (kd == 1) = false := by rw [beq_eq_false_iff_ne]; exact h1
  have e2 : (kd == 2) = false := by rw [beq_eq_false_iff_ne]; exact h2
  have e3 : (kd == 3) = false := by rw [beq_eq_false_iff_ne]; exact h3
  have e4 : (kd == 4) = false := by rw [beq_eq_false_iff_ne]; exact h4
  have e5 : (kd == 5) = false := by rw [beq_eq_false_iff_ne]; exact h5
  have B2 : Hid (∀ x : Int, Below w.heap.size w ((w.alloc (.cells #[.int .i64 kd, .int .u64 (k : Int), .int .u64 (v : Int)] 39)).alloc (.cells #[.int .i64 x, .int .u64 0] 31))) := fun x => ((Below.refl _ _).alloc (Nat.le_refl _) _).alloc (by simp) _
  clear h hk hv hN hr hq ht hz
  go_enter Try.func18, Try.ntmps18
  go_wp2_with fail
  exact bodyPost_ret (resJ _ _ _ (w.heap.size + 1) 4 (.int .i64 30) (.int .u64 0) rfl rfl (by simp) (by simp)) rfl ⟨rfl, _, _, _, _, (H.out.below (B2.out 30)).mono (Nat.le_add_right _ _), HR.out.1, HR.out.2, Kj_below (B2.out 30) H.out.hi H.out.hx⟩
theorem do_any (B gj gm N : Nat) (o : JO) (t : Fn) (s : List Fn) (p : Ps) (ms : List Nat) (pv mv : Value) (w : World) (h : JS X B gj gm N t p ms pv mv w) (hr : Rl t p ms s) (hq : WQ p) (ho : WO o) (hz : ms.length ≤ 1048575) (hN : N + p.length ≤ 4194303) :
    Calls Try.prog 18 #[.pointer (some ⟨gj, 0, none⟩), ov o] w (DP X B gj gm (N + 2) (step o t s).2.1 (step o t s).2.2 (step o t s).1 w) := by
  have ht : WF t := by obtain ⟨D, n, _, _, h3⟩ := h.mp; exact h3.2.2
  obtain ⟨kd, k, v⟩ := o
  obtain ⟨hk, hv⟩ := ho
  dsimp only at hk hv
  show Calls Try.prog 18 #[.pointer (some ⟨gj, 0, none⟩), .agg #[.int .i64 kd, .int .u64 (k : Int), .int .u64 (v : Int)]] w _
  by_cases h1 : kd = 1
  · subst h1
    exact do_set B gj gm N k v t s p ms pv mv w h hr hq ht hk hv hz hN
  by_cases h2 : kd = 2
  · subst h2
    exact do_get B gj gm N k v t s p ms pv mv w h hr hq ht hk hv hz hN
  by_cases h3 : kd = 3
  · subst h3
    exact do_mark B gj gm N k v t s p ms pv mv w h hr hq ht hk hv hz hN
  by_cases h4 : kd = 4
  · subst h4
    cases ms with
    | nil =>
      cases s with
      | nil => exact do_back0 B gj gm N k v t [] p [] pv mv w h hr hq ht hk hv hz hN
      | cons u s => exact hr.elim
    | cons m ms =>
      cases s with
      | nil => exact hr.elim
      | cons u s => exact do_back1 B gj gm N k v m u t s p ms pv mv w h hr hq ht hk hv (by simp at hz; omega) hN
  by_cases h5 : kd = 5
  · subst h5
    cases ms with
    | nil =>
      cases s with
      | nil => exact do_keep0 B gj gm N k v t [] p [] pv mv w h hr hq ht hk hv hz hN
      | cons u s => exact hr.elim
    | cons m ms =>
      cases s with
      | nil => exact hr.elim
      | cons u s =>
        cases ms with
        | nil => exact do_keep1 B gj gm N k v m u t s p [] pv mv w h hr hq ht hk hv (by simp) hN
        | cons m2 ms => exact do_keep2 B gj gm N k v m m2 u t s p ms pv mv w h hr hq ht hk hv (by simp at hz; omega) hN
  have e : step (kd, k, v) t s = ((30, 0), t, s) := by simp [step, h1, h2, h3, h4, h5]
  rw [e]
  exact do_else B gj gm N k v kd t s p ms pv mv w h hr hq ht hk hv hz hN h1 h2 h3 h4 h5
end Jn
end Go.Proofs.Ytengpjalkiibiaa
/- journal.Play: the loop. -/
namespace Go.Proofs.Ytengpjalkiibiaa
namespace Jn
open Go.RowKit Go.Maps
theorem stw (k n : Nat) (h : k < n) (hn : n ≤ 1048576) : Hid (wrap64 ((k : Int) + 1) = k + 1) := by
  show _ = _
  unfold wrap64; omega
theorem stv (k : Nat) (v : Int) (h : v = (k : Int) + 1) : Value.int .i64 v = .int .i64 ((k + 1 : Nat) : Int) := by rw [h]; rfl
theorem stm (k n : Nat) (h : k < n) (v : Int) (hv : v = (k : Int) + 1) : ((n : Int) - intOf (.int .i64 v)).toNat < ((n : Int) - intOf (.int .i64 (k : Int))).toNat := by
  show ((n : Int) - v).toNat < ((n : Int) - (k : Int)).toNat
  omega
def no : JO := (0, 0, 0)
/-- The state behind the first i operations; what comes of each. -/
def st (l : List JO) (i : Nat) : Fn × List Fn := (run (l.take i) z0 []).2
def an (l : List JO) (i : Nat) : JA := (step (l.getD i no) (st l i).1 (st l i).2).1
theorem st_succ (l : List JO) (i : Nat) (h : i < l.length) : st l (i + 1) = (step (l.getD i no) (st l i).1 (st l i).2).2 := by
  unfold st
  rw [List.take_succ_eq_append_getElem h, run_app]
  have e : l.getD i no = l[i] := by simp [h]
  rw [e]
  rfl
theorem st_all (l : List JO) : st l l.length = (run l z0 []).2 := by
  unfold st
  rw [List.take_length]
theorem an_at (l : List JO) (i : Nat) (h : i < l.length) : (run l z0 []).1[i]? = some (an l i) := by
  have e : l = l.take i ++ l[i] :: l.drop (i + 1) := by rw [← List.drop_eq_getElem_cons h, List.take_append_drop]
  have e2 : l.getD i no = l[i] := by simp [h]
  have e5 : (run l z0 []).1 = (run (l.take i ++ l[i] :: l.drop (i + 1)) z0 []).1 := congrArg (fun x => (run x z0 []).1) e
  unfold an st
  rw [e2, e5, run_app]
  have hl : (run (l.take i) z0 []).1.length = i := by rw [run_len, List.length_take]; omega
  rw [List.getElem?_append_right (by rw [hl]; exact Nat.le_refl _), hl, Nat.sub_self]
  rfl
theorem step_deep (o : JO) (t : Fn) (s : List Fn) : (step o t s).2.2.length ≤ s.length + 1 := by
  unfold step
  split
  · exact Nat.le_succ _
  split
  · exact Nat.le_succ _
  split
  · exact Nat.le_refl _
  split
  · cases s with
    | nil => exact Nat.zero_le _
    | cons u r => simp; omega
  split
  · cases s with
    | nil => exact Nat.zero_le _
    | cons u r => simp; omega
  · exact Nat.le_succ _
theorem st_deep (l : List JO) : ∀ i, i ≤ l.length → (st l i).2.length ≤ i
  | 0, _ => by simp [st, run]
  | i + 1, h => by
    rw [st_succ l i h]
    have := st_deep l i (by omega)
    have := step_deep (l.getD i no) (st l i).1 (st l i).2
    omega
/-- The cells of an operation, and of an answer. -/
def oc (o : JO) (j : Nat) : Value := match j with
  | 0 => .int .i64 o.1
  | 1 => .int .u64 (o.2.1 : Int)
  | _ => .int .u64 (o.2.2 : Int)
def ac (a : JA) (j : Nat) : Value := match j with
  | 0 => .int .i64 a.1
  | _ => .int .u64 (a.2 : Int)
def aF (l : List JO) (i x : Nat) : Value := if x / 2 < i then ac (an l (x / 2)) (x % 2) else ac (0, 0) (x % 2)
theorem infoA : (Try.prog.info? 31).map (fun i => (i.zero, i.size, i.bytes)) = some (some (.agg #[.int .i64 0, .int .u64 0]), 2, 16) := by kernel_rfl
theorem z2_of (j : Nat) (h : j < 2) : (#[Value.int .i64 0, Value.int .u64 0] : Array Value)[j]? = some (ac (0, 0) j) := by
  rcases (by omega : j = 0 ∨ j = 1) with rfl | rfl <;> rfl
theorem made_an (n : Nat) (hn : n ≤ 1048576) (w : World) : ∃ w', (Instr.makeSlice 23 (.int .i64 (n : Int)) (.int .i64 (n : Int))).run Try.prog w = .ok (.slice (some ⟨w.heap.size, 0, none⟩) n n) w' ∧ w'.heap.size = w.heap.size + 1 ∧ (∀ x, x < 2 * n → w'.cell? ⟨w.heap.size, x, none⟩ = some (ac (0, 0) (x % 2))) ∧ (∀ o, w'.frozen? ⟨w.heap.size, o, none⟩ = false) ∧ Below w.heap.size w w' := by
  obtain ⟨i0, hi, hz0, hz1, hz2⟩ := info_parts infoA
  have hr := run_make (P := Try.prog) w 23 31 i0 (.agg #[.int .i64 0, .int .u64 0]) Try.underlying23 hi hz0 .i64 .i64 (n : Int) (n : Int) (by omega) (by omega) (by rw [hz2]; omega) (by omega)
  rw [Int.toNat_natCast, hz1] at hr
  refine ⟨_, hr, by simp, fun o ho => ?_, fun o => by simp, (Below.refl _ _).alloc (Nat.le_refl _) _⟩
  have h := heap_alloc_new w (.cells (madeCells (Value.agg #[.int .i64 0, .int .u64 0]).cells (n * 2)) 31)
  simp only [World.cell?, h]
  have ho2 : o < n * 2 := by omega
  have hm : o % 2 < 2 := Nat.mod_lt _ (by decide)
  have e : (madeCells (Value.agg #[.int .i64 0, .int .u64 0]).cells (n * 2))[o]? = some (ac (0, 0) (o % 2)) := by
    have := z2_of (o % 2) hm
    simp [madeCells, ho2, Value.cells]
    simpa [Array.getElem?_eq_getElem, hm] using this
  rw [e]
  exact if_neg (by simp)
/-- Operations in memory, in blocks of S. -/
def Jr (S : Nat → Prop) (l : List JO) (v : Value) (w : World) : Prop := ∃ (ao : Option Addr) (cap : Nat), v = .slice ao l.length cap ∧ l.length ≤ cap ∧ (0 < l.length → ∃ h off, ao = some ⟨h, off, none⟩ ∧ S h ∧ h < w.heap.size ∧ ∀ j, j < l.length → ∀ o, o < 3 → w.cell? ⟨h, off + j * 3 + o, none⟩ = some (oc (l.getD j no) o))
/-- Between two operations. -/
structure PS (w : World) (l : List JO) (i : Nat) (W : World) : Prop where
  bel : Below w.heap.size w W
  js : ∃ (p : Ps) (ms : List Nat) (pv mv : Value), JS (fun _ => False) (w.heap.size + 3) (w.heap.size + 1) w.heap.size (2 * i) (st l i).1 p ms pv mv W ∧ Rl (st l i).1 p ms (st l i).2 ∧ WQ p
  c : ∀ x, x < 2 * l.length → W.cell? ⟨w.heap.size + 2, x, none⟩ = some (aF l i x)
  f : ∀ o, W.frozen? ⟨w.heap.size + 2, o, none⟩ = false
theorem PS_below {w : World} {l : List JO} {i : Nat} {W W' : World} (h : PS w l i W) (hb : Below W.heap.size W W') : PS w l i W' := by
  obtain ⟨p, ms, pv, mv, h1, h2, h3⟩ := h.js
  have hi := h1.hi
  exact ⟨h.bel.trans (hb.mono h.bel.size), ⟨p, ms, pv, mv, h1.below hb, h2, h3⟩, fun x hx => (hb.cell (p := ⟨w.heap.size + 2, x, none⟩) (by show w.heap.size + 2 < _; omega)).trans (h.c x hx), fun o => (hb.frozen (p := ⟨w.heap.size + 2, o, none⟩) (by show w.heap.size + 2 < _; omega)).trans (h.f o)⟩
/-- Behind an operation, ahead of its answer's being laid. -/
structure PD (w : World) (l : List JO) (i : Nat) (W : World) : Prop where
  bel : Below w.heap.size w W
  js : ∃ (p : Ps) (ms : List Nat) (pv mv : Value), JS (fun _ => False) (w.heap.size + 3) (w.heap.size + 1) w.heap.size (2 * (i + 1)) (st l (i + 1)).1 p ms pv mv W ∧ Rl (st l (i + 1)).1 p ms (st l (i + 1)).2 ∧ WQ p
  c : ∀ x, x < 2 * l.length → W.cell? ⟨w.heap.size + 2, x, none⟩ = some (aF l i x)
  f : ∀ o, W.frozen? ⟨w.heap.size + 2, o, none⟩ = false
theorem PS_do {w : World} {l : List JO} {i : Nat} {W W' : World} {a : JA} {e : Ending} (h : PS w l i W) (hi : i < l.length) (hd : DP (fun _ => False) (w.heap.size + 3) (w.heap.size + 1) w.heap.size (2 * i + 2) (step (l.getD i no) (st l i).1 (st l i).2).2.1 (step (l.getD i no) (st l i).1 (st l i).2).2.2 a W e W') : PD w l i W' := by
  obtain ⟨_, p, ms, pv, mv, h1, h2, h3, h4⟩ := hd
  have hs := h.bel.size
  have hb := h4.block (w.heap.size + 2) (.inl (by omega)) (by omega) (by omega)
  refine ⟨⟨h4.os.trans h.bel.os, h4.tape.trans h.bel.tape, h4.output.trans h.bel.output, Nat.le_trans h.bel.size h4.size, fun j hj => (h4.block j (.inl (by omega)) (by omega) (by omega)).trans (h.bel.block j hj)⟩, ⟨p, ms, pv, mv, ?_, ?_, h3⟩, fun x hx => (World.cell?_of_block (a := ⟨w.heap.size + 2, x, none⟩) hb).trans (h.c x hx), fun o => (World.frozen?_of_block (a := ⟨w.heap.size + 2, o, none⟩) hb).trans (h.f o)⟩
  · rw [st_succ l i hi]
    exact h1
  · rw [st_succ l i hi]
    exact h2
theorem PD_lay {w : World} {l : List JO} {i : Nat} {W : World} (h : PD w l i W) (hi : i < l.length) (x y : Value) (hx : x = .int .i64 (an l i).1) (hy : y = .int .u64 ((an l i).2 : Int)) : PS w l (i + 1) ((W.setCell ⟨w.heap.size + 2, i * 2, none⟩ x).setCell ⟨w.heap.size + 2, i * 2 + 1, none⟩ y) := by
  obtain ⟨p, ms, pv, mv, j1, j2, j3⟩ := h.js
  have hh := j1.hi
  have g : W.grownBy ((W.setCell ⟨w.heap.size + 2, i * 2, none⟩ x).setCell ⟨w.heap.size + 2, i * 2 + 1, none⟩ y) (some (w.heap.size + 2)) := by
    have g1 : W.grownBy (W.setCell ⟨w.heap.size + 2, i * 2, none⟩ x) (some (w.heap.size + 2)) := ⟨rfl, rfl, rfl, by simp, fun k hk hn => Below.heap_setCell _ _ _ _ (fun e => hn (by rw [e]))⟩
    have g2 : (W.setCell ⟨w.heap.size + 2, i * 2, none⟩ x).grownBy ((W.setCell ⟨w.heap.size + 2, i * 2, none⟩ x).setCell ⟨w.heap.size + 2, i * 2 + 1, none⟩ y) (some (w.heap.size + 2)) := ⟨rfl, rfl, rfl, by simp, fun k hk hn => Below.heap_setCell _ _ _ _ (fun e => hn (by rw [e]))⟩
    exact ⟨rfl, rfl, rfl, Nat.le_trans g1.size g2.size, fun k hk hn => (g2.block k (Nat.lt_of_lt_of_le hk g1.size) hn).trans (g1.block k hk hn)⟩
  have nl {B e z n : Nat} {v : Value} {xs : List Value} (h : W.ownsRow B e z v n xs) (hB : w.heap.size + 3 ≤ B) : v.ownBlock = none ∨ v.ownBlock ≠ some (w.heap.size + 2) := .inr (fun e => by have := (h.lt _ e).1; omega)
  refine ⟨⟨g.os.trans h.bel.os, g.tape.trans h.bel.tape, g.output.trans h.bel.output, Nat.le_trans h.bel.size g.size, fun j hj => (g.block j (Nat.lt_of_lt_of_le hj h.bel.size) (fun e => by injection e with e; omega)).trans (h.bel.block j hj)⟩, ⟨p, ms, pv, mv, j1.gb g (fun e => by injection e with e; omega) (fun e => by injection e with e; omega) (nl j1.pw (Nat.le_refl _)) (nl j1.mw (Nat.le_refl _)), j2, j3⟩, fun z hz => ?_, fun o => by rw [World.frozen?_setCell, World.frozen?_setCell]; exact h.f o⟩
  have c0 := h.c (i * 2) (by omega)
  have c1 := h.c (i * 2 + 1) (by omega)
  by_cases e1 : z = i * 2 + 1
  · subst e1
    rw [World.cell?_setCell_same _ _ _ ((World.cell?_setCell_other _ _ _ _ (by simp)).trans c1), hy]
    unfold aF
    rw [show (i * 2 + 1) / 2 = i by omega, show (i * 2 + 1) % 2 = 1 by omega, if_pos (by omega)]
    rfl
  · rw [World.cell?_setCell_other _ _ _ _ (by intro e; injection e with _ e; exact e1 e.symm)]
    by_cases e0 : z = i * 2
    · subst e0
      rw [World.cell?_setCell_same _ _ _ c0, hx]
      unfold aF
      rw [show i * 2 / 2 = i by omega, show i * 2 % 2 = 0 by omega, if_pos (by omega)]
      rfl
    · rw [World.cell?_setCell_other _ _ _ _ (by intro e; injection e with _ e; exact e0 e.symm), h.c z hz]
      unfold aF
      by_cases e2 : z / 2 < i
      · rw [if_pos e2, if_pos (by omega)]
      · rw [if_neg e2, if_neg (by omega)]
set_option maxHeartbeats 4000000 in
set_option maxRecDepth 100000 in
theorem play_walk (Q : World → Value → World → Prop) (l : List JO) (hl : Hid (∀ j, j < l.length → WO (l.getD j no))) (ao : Option Addr) (n cap : Nat) (w : World) (hn : Hid (n = l.length)) (hz : Hid (n ≤ 1048575)) (hm : Hid (Jr (· < w.heap.size) l (.slice ao n cap) w))
    (KP : Hid (∀ W, PS w l n W → Calls Try.prog 19 #[.pointer (some ⟨w.heap.size + 1, 0, none⟩)] W fun e w' => ∃ v, e = .returned v ∧ Q W v w')) :
    Calls Try.prog 8 #[.slice ao n cap] w fun e w' => ∃ W v, e = .returned (.tuple #[.slice (some ⟨w.heap.size + 2, 0, none⟩) n n, v]) ∧ PS w l n W ∧ Q W v w' := by
  have KN : Hid (∀ w : World, Calls Try.prog 17 #[] w fun e w' => e = .returned (.pointer (some ⟨w.heap.size + 1, 0, none⟩)) ∧ w'.heap.size = w.heap.size + 2 ∧ JS (fun _ => False) (w.heap.size + 2) (w.heap.size + 1) w.heap.size 0 z0 [] [] (.slice none 0 0) (.slice none 0 0) w' ∧ Below w.heap.size w w') := fun w => new_any w
  go_enter Try.func8, Try.ntmps8
  go_wp2_with fail
  refine (KN.out w).mono ?_
  rintro e w0 ⟨rfl, s0, j0, b0⟩
  obtain ⟨w1, hmk, hz1, c1, f1, b1⟩ := made_an n (by have := hz.out; omega) w0
  rw [s0] at hmk hz1 c1 f1
  have P0 : Hid (PS w l 0 w1) := by
    have j1 := j0.below b1
    refine ⟨b0.trans (b1.mono b0.size), ⟨[], [], _, _, ⟨by omega, by omega, j1.ne, by omega, fun k h => h.elim, fun k h => h.elim, j1.c0, j1.c1, j1.c2, j1.f, j1.mp, World.ownsRow_nil _ _ _ _, World.ownsRow_nil _ _ _ _, fun g h => by cases h⟩, rfl, WQ_nil⟩, fun x hx => ?_, f1⟩
    rw [c1 x (by rw [hn.out]; exact hx)]
    simp [aF]
  clear s0 j0 b0 hz1 c1 f1 b1 KN
  go_wp2_with fail
  clear hmk
  go_loopw [14] (fun s wr => ∃ (i : Nat), i ≤ n ∧ s = .int .i64 (i : Int) ∧ PS w l i wr) (fun s _ => ((n : Int) - intOf s).toNat)
  case atStart => exact ⟨0, Nat.zero_le _, rfl, P0.out⟩
  case round =>
    clear P0
    obtain ⟨i, hi, rfl, hp⟩ := hrel
    by_cases hlt : i < n
    · have d0 : (0 : Int) ≤ (i : Int) := by omega
      have d1 : (i : Int) < (n : Int) := by omega
      obtain ⟨ao', cap', ev, hcap, hrow⟩ := hm.out
      injection ev with ev1 ev2 ev3
      subst ev1 ev3
      clear ev2
      obtain ⟨h, off, rfl, hS, hj⟩ := hrow (by rw [← hn.out]; omega)
      have hc := hj.2 i (by rw [← hn.out]; exact hlt)
      have HS : Hid (h < w.heap.size) := hS
      have q0 := (hp.bel.cell (p := ⟨h, off + i * 3, none⟩) hS).trans (hc 0 (by decide))
      have q1 := (hp.bel.cell (p := ⟨h, off + i * 3 + 1, none⟩) hS).trans (hc 1 (by decide))
      have q2 := (hp.bel.cell (p := ⟨h, off + i * 3 + 2, none⟩) hS).trans (hc 2 (by decide))
      unfold oc at q0 q1 q2
      have HP : Hid _ := hp
      have ho : Hid (WO (l.getD i no)) := hl.out i (by rw [← hn.out]; exact hlt)
      have HA : Hid (an l i = (step (l.getD i no) (st l i).1 (st l i).2).1) := rfl
      have hil : i < l.length := by rw [← hn.out]; exact hlt
      have KD : Hid (∀ W : World, PS w l i W → Calls Try.prog 18 #[.pointer (some ⟨w.heap.size + 1, 0, none⟩), ov (l.getD i no)] W fun e w' => e = .returned (.agg #[.int .i64 (an l i).1, .int .u64 ((an l i).2 : Int)]) ∧ PD w l i w') := fun W hW => by
        obtain ⟨p, ms, pv, mv, h1, h2, h3⟩ := hW.js
        have hd := st_deep l i (Nat.le_of_lt hil)
        have hl2 := Rl_len h2
        have hz2 := hz.out
        have hpn : p.length ≤ 2 * i := by obtain ⟨D, n, _, h, _⟩ := h1.mp; omega
        exact (do_any _ _ _ _ (l.getD i no) _ _ p ms pv mv W h1 h2 h3 ho.out (by omega) (by omega)).mono fun e w' he => ⟨he.1, PS_do hW hil he⟩
      have HL : Hid (∀ W : World, PD w l i W → PS w l (i + 1) ((W.setCell ⟨w.heap.size + 2, i * 2, none⟩ (.int .i64 (an l i).1)).setCell ⟨w.heap.size + 2, i * 2 + 1, none⟩ (.int .u64 ((an l i).2 : Int)))) := fun W hW => PD_lay hW hil _ _ rfl rfl
      have HT : Hid (∀ W : World, PD w l i W → (∃ a, W.cell? ⟨w.heap.size + 2, i * 2, none⟩ = some a) ∧ (∃ a, W.cell? ⟨w.heap.size + 2, i * 2 + 1, none⟩ = some a)) := fun W hW => ⟨⟨_, hW.c (i * 2) (by omega)⟩, ⟨_, hW.c (i * 2 + 1) (by omega)⟩⟩
      obtain ⟨A, a2⟩ : ∃ A, A = an l i := ⟨_, rfl⟩
      rw [← a2] at KD HL
      unfold ov at KD
      generalize l.getD i no = o at *
      obtain ⟨o1, o2, o3⟩ := o
      obtain ⟨A1, A2⟩ := A
      dsimp only at q0 q1 q2 KD HL
      clear hp hc hj hrow hcap hS ho HA hil a2
      go_wp2_with fail
      refine (KD.out _ (PS_below HP.out ((Below.refl _ _).alloc (Nat.le_refl _) _))).mono ?_
      rintro e w5 ⟨rfl, p5⟩
      obtain ⟨⟨a1, t1⟩, ⟨a2, t2⟩⟩ := HT.out w5 p5
      have f5 := p5.f
      have P3 : Hid _ := HL.out w5 p5
      clear KD HL HT p5 q0 q1 q2 HP
      have hw := stw i n hlt (by have := hz.out; omega)
      go_wp2_with fail
      go_roundw
      case rel => exact ⟨i + 1, hlt, stv i _ hw.out, P3.out⟩
      case measure => exact stm i n hlt _ hw.out
    · have ek : i = n := by omega
      subst ek
      have HP : Hid _ := hp
      have d0 : decide ((i : Int) < (i : Int)) = false := decide_eq_false (by omega)
      clear hp
      go_wp2_with fail
      refine (KP.out wr HP.out).mono ?_
      rintro e w9 ⟨v, rfl, hq⟩
      have HQ : Hid _ := hq
      clear hq
      go_wp2_with fail
      go_ret2
      exact ⟨wr, v, rfl, HP.out, HQ.out⟩
end Jn
end Go.Proofs.Ytengpjalkiibiaa
/- journal: pairs, over the contract of Keys. -/
namespace Go.Proofs.Ytengpjalkiibiaa
namespace Jn
variable {X : Nat → Prop}
open Go.RowKit Go.Maps
theorem infoP : (Try.prog.info? 34).map (fun i => (i.zero, i.size, i.bytes)) = some (some (.agg #[.int .u64 0, .int .u64 0]), 2, 16) := by kernel_rfl
theorem made_pr (n : Nat) (hn : n ≤ 4194303) (w : World) : ∃ w', (Instr.makeSlice 24 (.int .i64 (n : Int)) (.int .i64 (n : Int))).run Try.prog w = .ok (.slice (some ⟨w.heap.size, 0, none⟩) n n) w' ∧ w'.heap.size = w.heap.size + 1 ∧ (∀ x, x < 2 * n → w'.cell? ⟨w.heap.size, x, none⟩ = some (.int .u64 0)) ∧ (∀ o, w'.frozen? ⟨w.heap.size, o, none⟩ = false) ∧ Below w.heap.size w w' := by
  obtain ⟨i0, hi, hz0, hz1, hz2⟩ := info_parts infoP
  have hr := run_make (P := Try.prog) w 24 34 i0 (.agg #[.int .u64 0, .int .u64 0]) Try.underlying24 hi hz0 .i64 .i64 (n : Int) (n : Int) (by omega) (by omega) (by rw [hz2]; omega) (by omega)
  rw [Int.toNat_natCast, hz1] at hr
  refine ⟨_, hr, by simp, fun o ho => ?_, fun o => by simp, (Below.refl _ _).alloc (Nat.le_refl _) _⟩
  have h := heap_alloc_new w (.cells (madeCells (Value.agg #[.int .u64 0, .int .u64 0]).cells (n * 2)) 34)
  simp only [World.cell?, h]
  have ho2 : o < n * 2 := by omega
  have hm : o % 2 < 2 := Nat.mod_lt _ (by decide)
  have e : (madeCells (Value.agg #[.int .u64 0, .int .u64 0]).cells (n * 2))[o]? = some (.int .u64 0) := by
    have : (#[Value.int .u64 0, Value.int .u64 0] : Array Value)[o % 2]? = some (.int .u64 0) := by
      rcases (by omega : o % 2 = 0 ∨ o % 2 = 1) with h | h <;> rw [h] <;> rfl
    simp [madeCells, ho2, Value.cells]
    simpa [Array.getElem?_eq_getElem, hm] using this
  rw [e]
  exact if_neg (by simp)
def n00 : Nat × Nat := (0, 0)
/-- Pairs in memory. -/
def pq (x : Nat × Nat) (j : Nat) : Value := match j with
  | 0 => .int .u64 (x.1 : Int)
  | _ => .int .u64 (x.2 : Int)
def pF (l : List (Nat × Nat)) (i x : Nat) : Value := if x / 2 < i then pq (l.getD (x / 2) n00) (x % 2) else .int .u64 0
def prs (t : Fn) (L : List Nat) : List (Nat × Nat) := L.map fun k => (k, t k)
theorem prs_ok {t : Fn} {L : List Nat} (h1 : L.Pairwise (· < ·)) (h2 : ∀ k, k ∈ L ↔ t k ≠ 0) : Prs t (prs t L) := by
  refine ⟨?_, fun k v => ?_⟩
  · unfold prs
    rw [List.pairwise_map]
    exact h1
  · unfold prs
    rw [List.mem_map]
    constructor
    · rintro ⟨a, ha, e⟩
      injection e with e1 e2
      subst e1 e2
      exact ⟨rfl, (h2 a).1 ha⟩
    · rintro ⟨rfl, hv⟩
      exact ⟨k, (h2 k).2 hv, rfl⟩
structure PP (w : World) (gk go : Nat) (L : List Nat) (l : List (Nat × Nat)) (i : Nat) (W : World) : Prop where
  bel : Below w.heap.size w W
  lk : w.heap.size ≤ gk
  lo : w.heap.size ≤ go
  ne : gk ≠ go
  hk : gk < W.heap.size
  ho : go < W.heap.size
  k : ∀ j, j < L.length → W.cell? ⟨gk, j, none⟩ = some (.int .u64 ((L.getD j 0 : Nat) : Int))
  c : ∀ x, x < 2 * l.length → W.cell? ⟨go, x, none⟩ = some (pF l i x)
  f : ∀ o, W.frozen? ⟨go, o, none⟩ = false
theorem PP_lay {w : World} {gk go : Nat} {L : List Nat} {l : List (Nat × Nat)} {i : Nat} {W : World} (h : PP w gk go L l i W) (hi : i < l.length) (x y : Value) (hx : x = .int .u64 ((l.getD i n00).1 : Int)) (hy : y = .int .u64 ((l.getD i n00).2 : Int)) : PP w gk go L l (i + 1) ((W.setCell ⟨go, i * 2, none⟩ x).setCell ⟨go, i * 2 + 1, none⟩ y) := by
  have g : W.grownBy ((W.setCell ⟨go, i * 2, none⟩ x).setCell ⟨go, i * 2 + 1, none⟩ y) (some go) := by
    have g1 : W.grownBy (W.setCell ⟨go, i * 2, none⟩ x) (some go) := ⟨rfl, rfl, rfl, by simp, fun k hk hn => Below.heap_setCell _ _ _ _ (fun e => hn (by rw [e]))⟩
    have g2 : (W.setCell ⟨go, i * 2, none⟩ x).grownBy ((W.setCell ⟨go, i * 2, none⟩ x).setCell ⟨go, i * 2 + 1, none⟩ y) (some go) := ⟨rfl, rfl, rfl, by simp, fun k hk hn => Below.heap_setCell _ _ _ _ (fun e => hn (by rw [e]))⟩
    exact ⟨rfl, rfl, rfl, Nat.le_trans g1.size g2.size, fun k hk hn => (g2.block k (Nat.lt_of_lt_of_le hk g1.size) hn).trans (g1.block k hk hn)⟩
  have hb := g.block gk h.hk (fun e => h.ne (by injection e))
  have hlo := h.lo
  refine ⟨⟨g.os.trans h.bel.os, g.tape.trans h.bel.tape, g.output.trans h.bel.output, Nat.le_trans h.bel.size g.size, fun j hj => (g.block j (Nat.lt_of_lt_of_le hj h.bel.size) (fun e => by injection e with e; omega)).trans (h.bel.block j hj)⟩, h.lk, h.lo, h.ne, Nat.lt_of_lt_of_le h.hk g.size, Nat.lt_of_lt_of_le h.ho g.size, fun j hj => (World.cell?_of_block (a := ⟨gk, j, none⟩) hb).trans (h.k j hj), fun z hz => ?_, fun o => by rw [World.frozen?_setCell, World.frozen?_setCell]; exact h.f o⟩
  have c0 := h.c (i * 2) (by omega)
  have c1 := h.c (i * 2 + 1) (by omega)
  by_cases e1 : z = i * 2 + 1
  · subst e1
    rw [World.cell?_setCell_same _ _ _ ((World.cell?_setCell_other _ _ _ _ (by simp)).trans c1), hy]
    unfold pF
    rw [show (i * 2 + 1) / 2 = i by omega, show (i * 2 + 1) % 2 = 1 by omega, if_pos (by omega)]
    rfl
  · rw [World.cell?_setCell_other _ _ _ _ (by intro e; injection e with _ e; exact e1 e.symm)]
    by_cases e0 : z = i * 2
    · subst e0
      rw [World.cell?_setCell_same _ _ _ c0, hx]
      unfold pF
      rw [show i * 2 / 2 = i by omega, show i * 2 % 2 = 0 by omega, if_pos (by omega)]
      rfl
    · rw [World.cell?_setCell_other _ _ _ _ (by intro e; injection e with _ e; exact e0 e.symm), h.c z hz]
      unfold pF
      by_cases e2 : z / 2 < i
      · rw [if_pos e2, if_pos (by omega)]
      · rw [if_neg e2, if_neg (by omega)]
/-- What pairs has answered. -/
structure Pr (B gp : Nat) (l : List (Nat × Nat)) (W : World) : Prop where
  lo : B ≤ gp
  hi : gp < W.heap.size
  c : ∀ j, j < l.length → ∀ o, o < 2 → W.cell? ⟨gp, j * 2 + o, none⟩ = some (pq (l.getD j n00) o)
theorem Pr_below {B gp : Nat} {l : List (Nat × Nat)} {W W' : World} (h : Pr B gp l W) (hb : Below W.heap.size W W') : Pr B gp l W' :=
  ⟨h.lo, Nat.lt_of_lt_of_le h.hi hb.size, fun j hj o ho => (hb.cell (p := ⟨gp, j * 2 + o, none⟩) h.hi).trans (h.c j hj o ho)⟩
/-- What Keys answers. -/
def KeysOk (gj : Nat) (t : Fn) (w : World) : Prop := Calls Try.prog 31 #[.pointer (some ⟨gj, 0, none⟩), .func (.func 32) #[] #[]] w fun e w' => ∃ (L : List Nat) (g cap : Nat), e = .returned (.slice (some ⟨g, 0, none⟩) L.length cap) ∧ w.heap.size ≤ g ∧ g < w'.heap.size ∧ (∀ j, j < L.length → w'.cell? ⟨g, j, none⟩ = some (.int .u64 ((L.getD j 0 : Nat) : Int))) ∧ L.length ≤ cap ∧ L.Pairwise (· < ·) ∧ (∀ k, k ∈ L ↔ t k ≠ 0) ∧ L.length ≤ 4194303 ∧ Below w.heap.size w w'
theorem stwp (k n : Nat) (h : k < n) (hn : n ≤ 4194303) : Hid (wrap64 ((k : Int) + 1) = k + 1) := by
  show _ = _
  unfold wrap64; omega
set_option maxHeartbeats 4000000 in
set_option maxRecDepth 100000 in
theorem pairs_any (B gj gm N : Nat) (t : Fn) (p : Ps) (ms : List Nat) (pv mv : Value) (w : World) (h : JS X B gj gm N t p ms pv mv w) (KK : KeysOk gj t w) :
    Calls Try.prog 19 #[.pointer (some ⟨gj, 0, none⟩)] w fun e w' => ∃ (l : List (Nat × Nat)) (g : Nat), e = .returned (.slice (some ⟨g, 0, none⟩) l.length l.length) ∧ Pr w.heap.size g l w' ∧ Prs t l ∧ l.length ≤ 4194303 ∧ Below w.heap.size w w' := by
  have H : Hid _ := h
  have HK : Hid (KeysOk gj t w) := KK
  clear h KK
  go_enter Try.func19, Try.ntmps19
  go_wp2_with fail
  refine Calls.mono HK.out ?_
  rintro e w0 ⟨L, gk, cap, rfl, h1, h2, h3, h4, h5, h6, h7, b0⟩
  have HF : Hid (Prs t (prs t L) ∧ (prs t L).length = L.length ∧ ∀ k, k ∈ L → k < 18446744073709551616) := ⟨prs_ok h5 h6, List.length_map .., fun k hk => by
    obtain ⟨D, n, _, _, hM⟩ := H.out.mp
    rcases Nat.lt_or_ge k 18446744073709551616 with h | h
    · exact h
    · exact absurd (hM.2.1 k h) ((h6 k).1 hk)⟩
  obtain ⟨n, en⟩ : ∃ n, n = L.length := ⟨_, rfl⟩
  obtain ⟨w1, hmk, hz1, c1, f1, b1⟩ := made_pr n (by omega) w0
  have P0 : Hid (PP w gk w0.heap.size L (prs t L) 0 w1) := by
    refine ⟨b0.trans (b1.mono b0.size), h1, b0.size, by omega, by omega, by omega, fun j hj => (b1.cell (p := ⟨gk, j, none⟩) h2).trans (h3 j hj), fun x hx => ?_, f1⟩
    rw [c1 x (by rw [en, ← HF.out.2.1]; exact hx)]
    simp [pF]
  rw [← en]
  have H7 : Hid (n ≤ 4194303) := by show n ≤ 4194303; omega
  have hcn : n ≤ cap := by omega
  have EN : Hid (n = L.length) := en
  clear hz1 c1 f1 b1 HK h1 h2 h3 h4 h5 h6 h7 b0 en
  go_wp2_with fail
  clear hmk
  generalize w0.heap.size = go at *
  go_loopw [16] (fun s wr => ∃ (i : Nat), i ≤ n ∧ s = .int .i64 (i : Int) ∧ PP w gk go L (prs t L) i wr) (fun s _ => ((n : Int) - intOf s).toNat)
  case atStart => exact ⟨0, Nat.zero_le _, rfl, P0.out⟩
  case round =>
    clear P0
    obtain ⟨i, hi, rfl, hp⟩ := hrel
    by_cases hlt : i < n
    · have d0 : (0 : Int) ≤ (i : Int) := by omega
      have d1 : (i : Int) < (n : Int) := by omega
      have hil : i < L.length := by rw [← EN.out]; exact hlt
      have hil2 : i < (prs t L).length := by rw [HF.out.2.1]; exact hil
      have q0 := hp.k i hil
      have eL : L.getD i 0 = L[i] := by simp [hil]
      have hkb : L.getD i 0 < 18446744073709551616 := HF.out.2.2 _ (by rw [eL]; exact List.getElem_mem _)
      have eP : (prs t L).getD i n00 = (L.getD i 0, t (L.getD i 0)) := by simp [prs, hil]
      have t0 := hp.c (i * 2) (by omega)
      have t1 := hp.c (i * 2 + 1) (by omega)
      have HL : Hid (PP w gk go L (prs t L) (i + 1) ((wr.setCell ⟨go, i * 2, none⟩ (.int .u64 ((L.getD i 0 : Nat) : Int))).setCell ⟨go, i * 2 + 1, none⟩ (.int .u64 ((t (L.getD i 0) : Nat) : Int)))) := PP_lay hp hil2 _ _ (by rw [eP]) (by rw [eP])
      have f0 := hp.f
      have KG : Hid (Calls Try.prog 26 #[.pointer (some ⟨gj, 0, none⟩), .int .u64 ((L.getD i 0 : Nat) : Int)] wr fun e w' => e = .returned (.tuple #[.int .u64 ((t (L.getD i 0) : Nat) : Int), .bool (decide (t (L.getD i 0) ≠ 0))]) ∧ w' = wr) := get_any B gj gm N (L.getD i 0) t p ms pv mv wr (H.out.below hp.bel) hkb
      generalize t (L.getD i 0) = v at *
      generalize L.getD i 0 = k at *
      generalize decide (v ≠ 0) = bb at *
      generalize pF (prs t L) i (i * 2) = x0 at *
      generalize pF (prs t L) i (i * 2 + 1) = x1 at *
      clear hp eL hkb eP hil hil2
      go_wp2_with fail
      refine KG.out.mono ?_
      rintro e w5 ⟨rfl, rfl⟩
      clear KG
      have hw := stwp i n hlt H7.out
      go_wp2_with fail
      go_roundw
      case rel => exact ⟨i + 1, hlt, stv i _ hw.out, HL.out⟩
      case measure => exact stm i n hlt _ hw.out
    · have ek : i = n := by omega
      subst ek
      have HP : Hid _ := hp
      have d0 : decide ((i : Int) < (i : Int)) = false := decide_eq_false (by omega)
      clear hp
      go_wp2_with fail
      go_ret
      refine ⟨prs t L, go, by rw [HF.out.2.1, ← EN.out]; rfl, ⟨HP.out.lo, HP.out.ho, fun j hj o ho => ?_⟩, HF.out.1, by rw [HF.out.2.1, ← EN.out]; exact H7.out, HP.out.bel⟩
      rw [HP.out.c (j * 2 + o) (by omega)]
      unfold pF
      rw [show (j * 2 + o) / 2 = j by omega, show (j * 2 + o) % 2 = o by omega, if_pos (by rw [EN.out, ← HF.out.2.1]; exact hj)]
end Jn
end Go.Proofs.Ytengpjalkiibiaa
/- The library's contract of slices.SortFunc, laid at this dump by the kit's own tool. -/
namespace Go.Proofs
open Go.Shelf
def Try.sortU_ren : Go.Shelf.Ren := ⟨fun | 6 => 42 | 15 => 46 | 14 => 49 | 28 => 59 | 29 => 60 | 20 => 61 | 21 => 62 | 22 => 63 | 23 => 64 | 24 => 65 | 25 => 66 | 26 => 67 | 27 => 68 | 46 => 74 | 47 => 70 | 48 => 71 | 49 => 75 | 50 => 76 | 57 => 78 | n => n, fun | 22 => 51 | 24 => 29 | 25 => 68 | 3 => 3 | 39 => 85 | 0 => 0 | 53 => 98 | 55 => 29 | 4 => 4 | 46 => 90 | 45 => 89 | 50 => 95 | 5 => 5 | 9 => 9 | 66 => 105 | 70 => 109 | 76 => 113 | 77 => 114 | n => n, fun | n => n⟩
theorem Try.sortU : Go.Proofs.SlLaysF.n6 Try.prog Try.sortU_ren := {
  mixed := by kernel_rfl
  f6 := ⟨Try.f42.name, by decide, Try.func42.trans (congrArg some (by kernel_rfl))⟩
  f14 := ⟨Try.f49.name, by decide, Try.func49.trans (congrArg some (by kernel_rfl))⟩
  f15 := Try.func46.trans (congrArg some (by kernel_rfl))
  f20 := ⟨Try.f61.name, by decide, Try.func61.trans (congrArg some (by kernel_rfl))⟩
  f21 := ⟨Try.f62.name, by decide, Try.func62.trans (congrArg some (by kernel_rfl))⟩
  f22 := ⟨Try.f63.name, by decide, Try.func63.trans (congrArg some (by kernel_rfl))⟩
  f23 := ⟨Try.f64.name, by decide, Try.func64.trans (congrArg some (by kernel_rfl))⟩
  f24 := ⟨Try.f65.name, by decide, Try.func65.trans (congrArg some (by kernel_rfl))⟩
  f25 := ⟨Try.f66.name, by decide, Try.func66.trans (congrArg some (by kernel_rfl))⟩
  f26 := ⟨Try.f67.name, by decide, Try.func67.trans (congrArg some (by kernel_rfl))⟩
  f27 := ⟨Try.f68.name, by decide, Try.func68.trans (congrArg some (by kernel_rfl))⟩
  f28 := Try.func59.trans (congrArg some (by kernel_rfl))
  f29 := Try.func60.trans (congrArg some (by kernel_rfl))
  f46 := ⟨Try.f74.name, by decide, Try.func74.trans (congrArg some (by kernel_rfl))⟩
  f47 := Try.func70.trans (congrArg some (by kernel_rfl))
  f48 := Try.func71.trans (congrArg some (by kernel_rfl))
  f49 := ⟨Try.f75.name, by decide, Try.func75.trans (congrArg some (by kernel_rfl))⟩
  f50 := ⟨Try.f76.name, by decide, Try.func76.trans (congrArg some (by kernel_rfl))⟩
  f57 := ⟨Try.f78.name, by decide, Try.func78.trans (congrArg some (by kernel_rfl))⟩
  t0 := Try.underlying0
  a0 := Try.isAgg0
  z0 := Try.sizeOf0
  v0 := Try.zeroValue0
  t3 := Try.underlying3
  a3 := Try.isAgg3
  z3 := Try.sizeOf3
  v3 := Try.zeroValue3
  t4 := Try.underlying4
  a4 := Try.isAgg4
  z4 := Try.sizeOf4
  v4 := Try.zeroValue4
  t5 := Try.underlying5
  a5 := Try.isAgg5
  z5 := Try.sizeOf5
  v5 := Try.zeroValue5
  t9 := Try.underlying9
  a9 := Try.isAgg9
  z9 := Try.sizeOf9
  v9 := Try.zeroValue9
  t22 := Try.underlying51
  a22 := Try.isAgg51
  z22 := Try.sizeOf51
  v22 := Try.zeroValue51
  a24 := Try.isAgg29
  z24 := Try.sizeOf29
  t25 := Try.underlying68
  a25 := Try.isAgg68
  z25 := Try.sizeOf68
  v25 := Try.zeroValue68
  t39 := Try.underlying85
  a39 := Try.isAgg85
  z39 := Try.sizeOf85
  v39 := Try.zeroValue85
  t45 := Try.underlying89
  a45 := Try.isAgg89
  z45 := Try.sizeOf89
  v45 := Try.zeroValue89
  t46 := Try.underlying90
  a46 := Try.isAgg90
  z46 := Try.sizeOf90
  v46 := Try.zeroValue90
  t50 := Try.underlying95
  a50 := Try.isAgg95
  z50 := Try.sizeOf95
  v50 := Try.zeroValue95
  t53 := Try.underlying98
  a53 := Try.isAgg98
  z53 := Try.sizeOf98
  v53 := Try.zeroValue98
  t55 := Try.underlying29
  a55 := Try.isAgg29
  z55 := Try.sizeOf29
  v55 := Try.zeroValue29
  t66 := Try.underlying105
  a66 := Try.isAgg105
  z66 := Try.sizeOf105
  v66 := Try.zeroValue105
  t70 := Try.underlying109
  a70 := Try.isAgg109
  z70 := Try.sizeOf109
  v70 := Try.zeroValue109
  t76 := Try.underlying113
  a76 := Try.isAgg113
  z76 := Try.sizeOf113
  v76 := Try.zeroValue113
  t77 := Try.underlying114
  a77 := Try.isAgg114
  z77 := Try.sizeOf114
  v77 := Try.zeroValue114 }
end Go.Proofs
/- journal: keys are sorted. -/
namespace Go.Proofs.Ytengpjalkiibiaa
namespace Jn
open Go.RowKit Go.Sort Go.Shelf Go.Lib
def eU (x : Nat) : Value := .int .u64 (x : Int)
def us (L : List Nat) : List Value := L.map eU
def cfU (x y : Nat) : Int := if x < y then -1 else if y < x then 1 else 0
theorem ltU (x y : Nat) : ltOf cfU x y = decide (x < y) := by
  unfold ltOf cfU
  by_cases h1 : x < y
  · simp [h1]
  · by_cases h2 : y < x <;> simp [h1, h2]
theorem swoU : SWO (ltOf cfU) where
  irrefl x := by rw [ltU]; simp
  trans x y z h1 h2 := by rw [ltU] at *; simp at *; omega
  ntrans x y z h1 h2 := by rw [ltU] at *; simp at *; omega
set_option maxRecDepth 100000 in
theorem isnan_any (x : Nat) (W : World) : Calls Try.prog 43 #[.int .u64 (x : Int)] W fun e w' => e = .returned (.bool false) ∧ w' = W := by
  go_enter Try.func43, Try.ntmps43
  go_wp2
  go_ret
  exact ⟨rfl, rfl⟩
set_option maxRecDepth 100000 in
theorem cmpU (x y : Nat) (W : World) : Calls Try.prog 32 #[.int .u64 (x : Int), .int .u64 (y : Int)] W fun e w' => e = .returned (.int .i64 (cfU x y)) ∧ w' = W := by
  have K : Hid (∀ (n : Nat) (W : World), Calls Try.prog 43 #[.int .u64 (n : Int)] W fun e w' => e = .returned (.bool false) ∧ w' = W) := fun n W => isnan_any n W
  unfold cfU
  by_cases h1 : x < y
  · rw [if_pos h1]
    have a1 : decide ((x : Int) < (y : Int)) = true := decide_eq_true (by omega)
    have a2 : (x : Int) < (y : Int) := by omega
    go_enter Try.func32, Try.ntmps32
    go_wp2_with fail
    refine (K.out x W).mono ?_
    rintro e w1 ⟨rfl, rfl⟩
    go_wp2_with fail
    refine (K.out y _).mono ?_
    rintro e w1 ⟨rfl, rfl⟩
    go_wp2_with fail
    go_ret
    exact ⟨rfl, rfl⟩
  · rw [if_neg h1]
    have a1 : decide ((x : Int) < (y : Int)) = false := decide_eq_false (by omega)
    have a2 : ¬ ((x : Int) < (y : Int)) := by omega
    have a3 : (y : Int) ≤ (x : Int) := by omega
    by_cases h2 : y < x
    · rw [if_pos h2]
      have b1 : decide ((y : Int) < (x : Int)) = true := decide_eq_true (by omega)
      have b2 : (y : Int) < (x : Int) := by omega
      go_enter Try.func32, Try.ntmps32
      go_wp2_with fail
      refine (K.out x W).mono ?_
      rintro e w1 ⟨rfl, rfl⟩
      go_wp2_with fail
      refine (K.out y _).mono ?_
      rintro e w1 ⟨rfl, rfl⟩
      go_wp2_with fail
      go_ret
      exact ⟨rfl, rfl⟩
    · rw [if_neg h2]
      have b1 : decide ((y : Int) < (x : Int)) = false := decide_eq_false (by omega)
      have b2 : ¬ ((y : Int) < (x : Int)) := by omega
      have b3 : (x : Int) ≤ (y : Int) := by omega
      go_enter Try.func32, Try.ntmps32
      go_wp2_with fail
      refine (K.out x W).mono ?_
      rintro e w1 ⟨rfl, rfl⟩
      go_wp2_with fail
      refine (K.out y _).mono ?_
      rintro e w1 ⟨rfl, rfl⟩
      go_wp2_with fail
      go_ret
      exact ⟨rfl, rfl⟩
theorem heap_sortedU {w : World} {g n : Nat} {os : Array Obj} {cur : Array Value} {e : TypeId} {fr : Nat × Nat} (d : Array Nat) (hb : w.heap[g]? = some (.cells cur e fr)) :
    (Go.Sort.grow (putRow eU (Go.Sort.ahead w n) g 0 d) os).heap[g]? = some (.cells (putCells eU 0 d cur) e fr) := by
  have hg : g < w.heap.size := (Array.getElem?_eq_some_iff.1 hb).1
  rw [heap_grow_old _ _ (by simpa using hg)]
  simp [putRow, mapBlock, Go.Sort.ahead, Array.getElem?_modify, hb, onCells]
theorem grownBy_sortedU {w : World} {g n : Nat} {os : Array Obj} (d : Array Nat) : w.grownBy (Go.Sort.grow (putRow eU (Go.Sort.ahead w n) g 0 d) os) (some g) := by
  refine ⟨rfl, rfl, rfl, by simp, fun k hk hne => ?_⟩
  rw [heap_grow_old _ _ (by simpa using hk)]
  have : g ≠ k := fun e => hne (by rw [e])
  simp [putRow, mapBlock, Go.Sort.ahead, Array.getElem?_modify, this]
theorem take_putU (cur : Array Value) (ts : List Nat) (h : ts.length ≤ cur.size) : (putCells eU 0 ts.toArray cur).toList.take ts.length = us ts := by
  apply List.ext_getElem?
  intro j
  by_cases hj : j < ts.length
  · rw [List.getElem?_take_of_lt hj, Array.getElem?_toList]
    simp [putCells, us, hj, show j < cur.size by omega]
  · rw [List.getElem?_take_eq_none (by omega), List.getElem?_eq_none (by simp [us]; omega)]
theorem holds_own {lo : Nat} {L : List Nat} {g cap : Nat} {w : World} (h : w.ownsRow lo 29 1 (.slice (some ⟨g, 0, none⟩) L.length cap) L.length (us L)) : Holds eU w g 0 L.toArray := fun j hj => by
  have hj' : j < L.length := by simpa using hj
  refine ⟨?_, World.ownsRow.frozenAt h _⟩
  rw [Nat.zero_add, World.ownsRow.cellAt h j (by omega)]
  simp [us, hj']
theorem sort_row (lo : Nat) (L : List Nat) (g cap : Nat) (w : World) (how : w.ownsRow lo 29 1 (.slice (some ⟨g, 0, none⟩) L.length cap) L.length (us L)) (hl : L.length ≤ 4194304) :
    Calls Try.prog 42 #[.slice (some ⟨g, 0, none⟩) L.length cap, .func (.func 32) #[] #[]] w fun e w' => e = .returned (.tuple #[]) ∧ ∃ L2 : List Nat, L2.Perm L ∧ (L2.Pairwise fun a b => ¬ b < a) ∧ w'.ownsRow lo 29 1 (.slice (some ⟨g, 0, none⟩) L.length cap) L.length (us L2) ∧ w.grownBy w' (some g) := by
  have eg : ∀ args w, (callFunc 32 args).run Try.prog w = .ok (.enter 32 args) w := enters_of Try.func32 (by kernel_rfl) rfl
  have hg := how.lt g rfl
  have hcon := Any.slices_SortFunc Try.sortU eU (fun _ => rfl) cfU swoU 32 #[] g 0 cap L.toArray w eg (fun m os dk _ x y => (cmpU x y _).mono fun e w' h => ⟨h.1, 0, #[], by rw [h.2, grow_empty]; rfl⟩) (holds_own how) hg.2 (by simp; omega)
  have hcon' : Calls Try.prog 42 #[.slice (some ⟨g, 0, none⟩) L.length cap, .func (.func 32) #[] #[]] w _ := hcon
  refine hcon'.mono fun e w' he => ?_
  obtain ⟨e1, d', n, os, hp, hsd, rfl⟩ := he
  have hsz : d'.size = L.length := by simpa using hp.1
  have hlen : d'.toList.length = L.length := by simpa using hsz
  refine ⟨e1, d'.toList, ?_, ?_, ?_, grownBy_sortedU _⟩
  · have h := hp.2.2
    have x1 : d'.extract 0 L.toArray.size = d' := by
      rw [show L.toArray.size = d'.size from by simp [hsz]]
      simp
    rw [x1] at h
    simpa using h
  · rw [List.pairwise_iff_getElem]
    intro i j hi hj hij hless
    have h := hsd i j (Nat.zero_le _) hij (by simp; omega)
    have y1 : d'[j]! = d'.toList[j] := by rw [getElem!_pos d' j (by omega)]; rfl
    have y2 : d'[i]! = d'.toList[i] := by rw [getElem!_pos d' i (by omega)]; rfl
    rw [y1, y2, ltU, decide_eq_true hless] at h
    cases h
  · rcases how.2 with ⟨h', _⟩ | ⟨g', cap', cur, h', hb, hgb, hnc, hcm, hcs, htake⟩
    · cases h'
    · injection h' with k1 _ k3
      injection k1 with k1
      injection k1 with k1
      subst k1 k3
      refine ⟨by simp [us, hlen], .inr ⟨g, cap, _, rfl, hb, heap_sortedU _ hgb, hnc, hcm, by simp [putCells, hcs], ?_⟩⟩
      have h := take_putU cur d'.toList (by rw [hlen, hcs]; omega)
      rw [hlen] at h
      simpa using h
end Jn
end Go.Proofs.Ytengpjalkiibiaa
/- journal: Keys. -/
namespace Go.Proofs.Ytengpjalkiibiaa
namespace Jn
variable {X : Nat → Prop}
open Go.RowKit Go.Maps
theorem infoU : (Try.prog.info? 29).map (fun i => (i.zero, i.size, i.bytes)) = some (some (.int .u64 0), 1, 8) := by kernel_rfl
/-- The keys that have come. -/
def Got (D : Dt) (left : Lit → Bool) (L : List Nat) : Prop := L.Nodup ∧ (∀ x, x ∈ L → x < 18446744073709551616) ∧ ∀ x, x < 18446744073709551616 → (x ∈ L ↔ (Maps.has D (ky x) = true ∧ left (ky x) = false))
theorem Got_start (D : Dt) : Got D (Maps.has D) [] := ⟨List.nodup_nil, fun x h => (by cases h), fun x _ => by cases Maps.has D (ky x) <;> simp⟩
theorem Got_step {D : Dt} {left : Lit → Bool} {L : List Nat} {x : Nat} {y : Dt} (h : Got D left L) (hx : x < 18446744073709551616) (hlk : left (ky x) = true) (hat : ∀ zd, D.atKey (ky x) zd = y) : Got D (fun z => left z && !z.sameKey (ky x)) (L ++ [x]) := by
  have hhas : Maps.has D (ky x) = true := has_true_of_atKey hat
  have hnew : x ∉ L := fun hm => by have := ((h.2.2 x hx).1 hm).2; rw [hlk] at this; cases this
  refine ⟨List.nodup_append.2 ⟨h.1, by simp, fun a ha b hb => by simp at hb; subst hb; exact fun e => hnew (e ▸ ha)⟩, fun y hy => ?_, fun y hy => ?_⟩
  · rcases List.mem_append.1 hy with h1 | h1
    · exact h.2.1 y h1
    · rw [List.mem_singleton.1 h1]; exact hx
  · by_cases hyx : y = x
    · subst hyx; simp [hhas, WideAt.sameKey_self (ky_is y)]
    · have e : (ky y).sameKey (ky x) = false := sameKey_ne (ky_ne hyx)
      simp [h.2.2 y hy, hyx, e]
theorem row_low {w : World} {base : Nat} {e : TypeId} {size : Nat} {v : Value} {n : Nat} {xs : List Value} (h : w.ownsRow base e size v n xs) {b : Nat} (hb : b < base) : some b ≠ v.ownBlock := fun e1 => by
  have := (h.lt b e1.symm).1
  omega
theorem strict {L : List Nat} (h : L.Pairwise fun a b => ¬ b < a) (hn : L.Nodup) : L.Pairwise (· < ·) := by
  rw [List.pairwise_iff_getElem] at h ⊢
  intro i j hi hj hij
  have h1 := h i j hi hj hij
  have h2 : L[i] ≠ L[j] := (List.pairwise_iff_getElem.1 hn) i j hi hj hij
  omega
set_option maxRecDepth 100000 in
set_option maxHeartbeats 4000000 in
theorem keys_any (B gj gm N : Nat) (t : Fn) (p : Ps) (ms : List Nat) (pv mv : Value) (w : World) (h : JS X B gj gm N t p ms pv mv w) (hN : N ≤ 4194303) :
    Calls Try.prog 31 #[.pointer (some ⟨gj, 0, none⟩), .func (.func 32) #[] #[]] w fun e w' => ∃ (L : List Nat) (g cap : Nat), e = .returned (.slice (some ⟨g, 0, none⟩) L.length cap) ∧ w'.ownsRow w.heap.size 29 1 (.slice (some ⟨g, 0, none⟩) L.length cap) L.length (us L) ∧ L.Pairwise (· < ·) ∧ (∀ k, k ∈ L ↔ t k ≠ 0) ∧ L.length ≤ 4194303 ∧ Below w.heap.size w w' := by
  obtain ⟨D, n, hown, hn, hM⟩ := h.mp
  have hsz : Maps.size D ≤ 4194303 := Nat.le_trans hown.size_le (by omega)
  obtain ⟨i0, hi, hz0, hz1, hz2⟩ := info_parts infoU
  have hbl := hown.lt
  have c0 := h.c0
  have hgj : gj < w.heap.size := Nat.lt_of_lt_of_le h.lj h.hi
  have HM : Hid (Mp D t) := hM
  clear h hM hn
  go_enter Try.func31, Try.ntmps31
  go_wp2_with (first
    | (at_len; refine wpList_len_own _ rfl _ 48 rfl 29 29 Try.underlying48 _ gm n D rfl hown ?_)
    | (at_make; refine wpList_make_own _ rfl _ _ 51 rfl w.heap.size 29 i0 (.int .u64 0) 1 Try.underlying51 hi hz0 hz1 _ _ _ (Maps.size D) rfl rfl rfl (by rw [hz2]; omega) (by unfold maxLen; omega) (Nat.le_refl _) ?_; intro w1 hrow1 hg1; have c1 : w1.cell? ⟨gj, 0, none⟩ = some (.map (some gm)) := (World.cell?_of_block (a := ⟨gj, 0, none⟩) (hg1.block gj hgj (by simp))).trans c0; clear c0)
    | (at_range; refine wpList_range_own _ rfl _ 48 rfl 29 29 lawU Try.underlying48 _ gm n D rfl (hown.kept hg1 (by simp)) ?_; intro w0 hrg0 hg0 hs0))
  go_frame
  go_loopw [5] (fun v wr => ∃ (left : Lit → Bool) (cnt : Nat) (L : List Nat), wr.ranges Try.prog 29 (plainElem Try.prog 29) gm w1.heap.size n D left cnt ∧ L.length + cnt ≤ Maps.size D ∧
      wr.ownsRow w.heap.size 29 1 v L.length (us L) ∧ v ≠ .slice none 0 0 ∧ Got D left L ∧ Below w.heap.size w wr)
    (fun _ wr => wr.rangeLeft gm w1.heap.size)
  case atStart =>
    exact ⟨_, _, [], hrg0, by simp, hrow1.kept hg0 (Or.inr (by simp [Value.ownBlock])), by simp, Got_start D,
      ((Below.refl _ _).grown hg1 (Nat.le_refl _) (fun j hj => by cases hj)).grown hg0 hg1.size (fun j hj => by cases hj)⟩
  case round =>
    obtain ⟨left, cnt, L, hrg, hcs, hrow, hnn, hC, hnx⟩ := hrel
    clear hrow1 hrg0 hg0 hs0 c1
    go_wp2_with (at_next; refine wpList_next_ranges_ii _ rfl _ rfl 29 29 .u64 .u64 lawU Try.underlying29 Try.underlying29 gm w1.heap.size n _ _ _ rfl hrg ?_ ?_)
    · intro hc0 hl0
      obtain ⟨g, cap, rfl, hbase⟩ : ∃ g cap, _ = Value.slice (some ⟨g, 0, none⟩) L.length cap ∧ w.heap.size ≤ g := by
        rcases hrow.2 with ⟨hnil, _⟩ | ⟨g, cap, cur, e, hbase, _⟩
        · exact absurd hnil hnn
        · exact ⟨g, cap, e, hbase⟩
      have KS : Hid _ := sort_row w.heap.size L g cap wr hrow (by omega)
      have HF : Hid (L.Nodup ∧ (∀ k, k ∈ L ↔ t k ≠ 0) ∧ L.length ≤ 4194303 ∧ Below w.heap.size w wr ∧ w.heap.size ≤ g) := by
        refine ⟨hC.1, fun k => ?_, by omega, hnx, hbase⟩
        constructor
        · intro hk
          have := ((hC.2.2 k (hC.2.1 k hk)).1 hk).1
          rw [(HM.out.1 k (hC.2.1 k hk)).1] at this
          exact of_decide_eq_true this
        · intro hk
          have hlt : k < 18446744073709551616 := by
            rcases Nat.lt_or_ge k 18446744073709551616 with h | h
            · exact h
            · exact absurd (HM.out.2.1 k h) hk
          exact (hC.2.2 k hlt).2 ⟨by rw [(HM.out.1 k hlt).1]; exact decide_eq_true hk, hl0 _⟩
      clear hrg hrow hnn hC hnx hcs HM hown hl0 hg1
      go_wp2_with fail
      refine Calls.mono KS.out ?_
      rintro e w' ⟨rfl, L2, hp, hs, ho, hgr⟩
      have HZ : Hid (w'.ownsRow w.heap.size 29 1 (.slice (some ⟨g, 0, none⟩) L.length cap) L.length (us L2) ∧ L2.Perm L ∧ (L2.Pairwise fun a b => ¬ b < a) ∧ wr.grownBy w' (some g)) := ⟨ho, hp, hs, hgr⟩
      clear hp hs ho hgr
      go_wp2_with fail
      go_ret
      have hl := HZ.out.2.1.length_eq
      refine ⟨L2, g, cap, by rw [hl]; rfl, by rw [hl]; exact HZ.out.1, strict HZ.out.2.2.1 ((HZ.out.2.1.nodup_iff).2 HF.out.1), fun k => by rw [HZ.out.2.1.mem_iff]; exact HF.out.2.1 k, by rw [hl]; exact HF.out.2.2.1, ?_⟩
      exact HF.out.2.2.2.1.grown HZ.out.2.2.2 HF.out.2.2.2.1.size (fun j hj => by injection hj with hj; have := HF.out.2.2.2.2; omega)
    · intro x c w2 cnt2 hwx hwc hlk hat hrg2 hlt hg2 hs2 hen
      have hx0 : 0 ≤ x ∧ x ≤ 18446744073709551615 := by
        have h1 := hwx
        simp [Lit.wf, IntKind.min, IntKind.max, IntKind.signed, IntKind.bits] at h1
        omega
      obtain ⟨y, rfl⟩ : ∃ y : Nat, x = (y : Int) := ⟨x.toNat, by omega⟩
      have hrow2 := hrow.kept hg2 (Or.inr (row_ne_iter hrow hrg).symm)
      clear hs2
      go_wp2_with (at_builtin; refine wpList_append_own _ rfl _ _ 51 rfl w.heap.size 29 i0 (.int .u64 0) 1 8 Try.underlying51 hi hz0 hz1 hz2 rfl (by decide) _ _ _ rfl (hrow2.alloc _) ⟨w2.heap.size, 0, none⟩ 1 1 [.int .u64 (y : Int)] rfl rfl (cell_one_new _ _ _) (by simp [Value.oneCell']) (by unfold maxLen at *; omega) (by omega) (by have := hnx.size; have := hg2.size; simp; omega) ?_; intro v' w3 hown' hg3 hnil3; go_frame)
      have hrg3 := (hrg2.alloc _).kept hg3 (row_low hrow2 hbl) (row_ne_iter hrow2 hrg2)
      go_roundw
      case rel =>
        refine ⟨_, cnt2, L ++ [y], hrg3, by simp; omega, by simpa [us, eU] using hown', fun hv' => by have := (hnil3.1 hv').2; omega, Got_step hC (by omega) hlk hat, ?_⟩
        exact ((hnx.grown hg2 hnx.size (fun j hj => by cases hj; exact hg1.size)).alloc (by have := hnx.size; have := hg2.size; omega) _).grown hg3 (by have := hnx.size; have := hg2.size; simp; omega) (fun j hj => (hrow2.lt j hj).1)
      case measure => rw [hrg3.left_eq, hrg.left_eq]; exact hlt
end Jn
end Go.Proofs.Ytengpjalkiibiaa
/- journal.Play. -/
namespace Go.Proofs.Ytengpjalkiibiaa
namespace Jn
variable {X : Nat → Prop}
open Go.RowKit Go.Maps
theorem keys_ok (B gj gm N : Nat) (t : Fn) (p : Ps) (ms : List Nat) (pv mv : Value) (w : World) (h : JS X B gj gm N t p ms pv mv w) (hN : N ≤ 4194303) : KeysOk gj t w :=
  (keys_any B gj gm N t p ms pv mv w h hN).mono fun e w' ⟨L, g, cap, h1, h2, h3, h4, h5, h6⟩ => by
    obtain ⟨ho, h7 | ⟨g', cap', cur, e1, k1, k2, k3, k4, k5, k6⟩⟩ := h2
    · cases h7.1
    · injection e1 with e1 _ e2
      injection e1 with e1
      injection e1 with e1
      subst e1 e2
      refine ⟨L, g, cap, h1, k1, (Array.getElem?_eq_some_iff.1 k2).1, fun j hj => ?_, k3, h3, h4, h5, h6⟩
      have hr : w'.ownsRow w.heap.size 29 1 (.slice (some ⟨g, 0, none⟩) L.length cap) L.length (us L) := ⟨ho, .inr ⟨g, cap, cur, rfl, k1, k2, k3, k4, k5, k6⟩⟩
      rw [World.ownsRow.cellAt hr j (by omega)]
      simp [us, hj, eU]
/-- What Play has answered. -/
structure Rj (B ga gp : Nat) (l : List JO) (ps : List (Nat × Nat)) (W : World) : Prop where
  lo : B ≤ ga
  hi : ga < W.heap.size
  c : ∀ j, j < l.length → ∀ o, o < 2 → W.cell? ⟨ga, j * 2 + o, none⟩ = some (ac (an l j) o)
  p : Pr B gp ps W
  q : Prs (run l z0 []).2.1 ps
  n : ps.length ≤ 4194303
theorem Rj_below {B ga gp : Nat} {l : List JO} {ps : List (Nat × Nat)} {W W' : World} (h : Rj B ga gp l ps W) (hb : Below W.heap.size W W') : Rj B ga gp l ps W' :=
  ⟨h.lo, Nat.lt_of_lt_of_le h.hi hb.size, fun j hj o ho => (hb.cell (p := ⟨ga, j * 2 + o, none⟩) h.hi).trans (h.c j hj o ho), Pr_below h.p hb, h.q, h.n⟩
theorem play_any (l : List JO) (hl : ∀ j, j < l.length → WO (l.getD j no)) (hz : l.length ≤ 1048575) (v : Value) (w : World) (hm : Jr (· < w.heap.size) l v w) :
    Calls Try.prog 8 #[v] w fun e w' => ∃ (ga gp : Nat) (ps : List (Nat × Nat)), e = .returned (.tuple #[.slice (some ⟨ga, 0, none⟩) l.length l.length, .slice (some ⟨gp, 0, none⟩) ps.length ps.length]) ∧ Rj w.heap.size ga gp l ps w' ∧ Below w.heap.size w w' := by
  have hm2 := hm
  obtain ⟨ao, cap, rfl, _, _⟩ := hm2
  refine (play_walk (fun W v w' => ∃ (ps : List (Nat × Nat)) (g : Nat), v = .slice (some ⟨g, 0, none⟩) ps.length ps.length ∧ Pr W.heap.size g ps w' ∧ Prs (st l l.length).1 ps ∧ ps.length ≤ 4194303 ∧ Below W.heap.size W w') l hl ao l.length cap w rfl hz hm (fun W hW => ?_)).mono ?_
  · obtain ⟨p, ms, pv, mv, h1, h2, h3⟩ := hW.js
    exact (pairs_any _ _ _ _ _ p ms pv mv W h1 (keys_ok _ _ _ _ _ p ms pv mv W h1 (by omega))).mono fun e w' ⟨ps, g, e1, e2⟩ => ⟨_, e1, ps, g, rfl, e2⟩
  · rintro e w' ⟨W, v, rfl, hP, ps, g, rfl, e2, e3, e4, e5⟩
    obtain ⟨p, ms, pv, mv, h1, h2, h3⟩ := hP.js
    have hi := h1.hi
    have hs := e5.size
    refine ⟨w.heap.size + 2, g, ps, rfl, ⟨by omega, by omega, fun j hj o ho => ?_, ⟨Nat.le_trans hP.bel.size e2.lo, e2.hi, e2.c⟩, by rw [← st_all]; exact e3, e4⟩, hP.bel.trans (e5.mono hP.bel.size)⟩
    rw [e5.cell (p := ⟨w.heap.size + 2, j * 2 + o, none⟩) (by show w.heap.size + 2 < _; omega), hP.c (j * 2 + o) (by omega)]
    unfold aF
    rw [show (j * 2 + o) / 2 = j by omega, show (j * 2 + o) % 2 = o by omega, if_pos hj]
end Jn
end Go.Proofs.Ytengpjalkiibiaa
/- journal: rows of operations; answers and pairs held against each other; alive14. -/
namespace Go.Proofs.Ytengpjalkiibiaa
namespace Jn
open Go.RowKit Go.Maps
/-- The cells of a row of operations. -/
def cops (l : List JO) : List Value := l.flatMap fun o => [.int .i64 o.1, .int .u64 (o.2.1 : Int), .int .u64 (o.2.2 : Int)]
theorem cops_len : ∀ l : List JO, (cops l).length = l.length * 3
  | [] => rfl
  | c :: p => by
    have := cops_len p
    unfold cops at this ⊢
    rw [List.flatMap_cons, List.length_append, this]
    show 3 + p.length * 3 = (p.length + 1) * 3
    omega
theorem cops_app (a b : List JO) : cops (a ++ b) = cops a ++ cops b := List.flatMap_append ..
theorem cops_at : ∀ (p : List JO) (j i : Nat), j < p.length → i < 3 → (cops p)[j * 3 + i]? = some (oc (p.getD j no) i)
  | c :: p, 0, i, _, hi => by
    unfold cops
    rw [List.flatMap_cons, Nat.zero_mul, Nat.zero_add, List.getElem?_append_left hi]
    rcases (by omega : i = 0 ∨ i = 1 ∨ i = 2) with rfl | rfl | rfl <;> rfl
  | c :: p, j + 1, i, hj, hi => by
    have := cops_at p j i (by simpa using hj) hi
    unfold cops at this ⊢
    rw [List.flatMap_cons, List.getElem?_append_right (by show 3 ≤ _; omega)]
    show (List.flatMap _ p)[(j + 1) * 3 + i - 3]? = _
    rw [show (j + 1) * 3 + i - 3 = j * 3 + i by omega, this]
    rfl
/-- A row of operations of one's own. -/
theorem row_jr {B : Nat} {l : List JO} {v : Value} {w : World} (h : w.ownsRow B 39 3 v l.length (cops l)) : Jr (· < w.heap.size) l v w := by
  rcases h.2 with ⟨h1, h2⟩ | ⟨g, cap, cur, h1, h2, h3, h4, h5, h6, h7⟩
  · exact ⟨none, 0, by rw [h1, h2], by omega, fun h => absurd h (by omega)⟩
  · subst h1
    have hg : g < w.heap.size := (Array.getElem?_eq_some_iff.1 h3).1
    refine ⟨some ⟨g, 0, none⟩, cap, rfl, h4, fun _ => ⟨g, 0, rfl, hg, hg, fun j hj o ho => ?_⟩⟩
    rw [Nat.zero_add, World.ownsRow.cellAt h (j * 3 + o) (by omega)]
    exact cops_at l j o hj ho
theorem laid_jr (w : World) (l : List JO) (cs : Array Value) (n : Nat) (hc : cs = (cops l).toArray) (hn : n = l.length) (T : TypeId) : Jr (· < (w.alloc (.cells cs T (0, 0))).heap.size) l (.slice (some ⟨w.heap.size, 0, none⟩) n n) (w.alloc (.cells cs T (0, 0))) := by
  subst hn
  refine ⟨_, _, rfl, Nat.le_refl _, fun _ => ⟨w.heap.size, 0, rfl, by simp, by simp, fun j hj o ho => ?_⟩⟩
  have h := heap_alloc_new w (.cells cs T (0, 0))
  have k := cops_at l j o hj ho
  simp only [World.cell?, h]
  rw [Nat.zero_add, hc, List.getElem?_toArray, k]
  exact if_neg (by simp)
theorem fieldsAn : (Try.prog.fieldsOf 31).toList.map (fun f => (f.name, f.type, f.offset)) = [("Err", 28, 0), ("Value", 29, 1)] := by kernel_rfl
theorem fieldsPr : (Try.prog.fieldsOf 34).toList.map (fun f => (f.name, f.type, f.offset)) = [("Key", 29, 0), ("Value", 29, 1)] := by kernel_rfl
theorem eqAn (x1 y1 x2 y2 : Int) (w : World) : (binOp .eql 31 (.agg #[.int .i64 x1, .int .u64 x2]) (.agg #[.int .i64 y1, .int .u64 y2])).run Try.prog w = .ok (.bool (decide (x1 = y1 ∧ x2 = y2))) w := by
  have hf := fieldsAn
  rw [run_eql_struct, run_equalIn_struct w 9999 _ _ _ (by kernel_rfl) (by kernel_rfl)]
  generalize (Try.prog.fieldsOf 31).toList = L at hf ⊢
  obtain ⟨f1, f2, rfl⟩ : ∃ f1 f2, L = [f1, f2] := by
    have hl := congrArg List.length hf
    simp only [List.length_map, List.length_cons, List.length_nil] at hl
    match L, hl with
    | [f1, f2], _ => exact ⟨f1, f2, rfl⟩
  simp only [List.map_cons, List.map_nil, List.cons.injEq, Prod.mk.injEq, and_true] at hf
  obtain ⟨⟨a1, a2, a3⟩, ⟨b1, b2, b3⟩⟩ := hf
  have n1 : ("Err" : String) ≠ "_" := by decide
  have n2 : ("Value" : String) ≠ "_" := by decide
  have q1 : ∀ u0 u1 : Value, (part 28 #[u0, u1] 0).run Try.prog w = .ok u0 w := fun u0 u1 => by simp [part, go_sem]
  have q2 : ∀ u0 u1 : Value, (part 29 #[u0, u1] 1).run Try.prog w = .ok u1 w := fun u0 u1 => by simp [part, go_sem]
  have e1 : (Op.equalIn 9999 28 (.int .i64 x1) (.int .i64 y1)).run Try.prog w = .ok (x1 == y1) w := run_equalIn_int w 9998 _ _ _ _ _ Try.underlying28
  have e2 : (Op.equalIn 9999 29 (.int .u64 x2) (.int .u64 y2)).run Try.prog w = .ok (x2 == y2) w := run_equalIn_int w 9998 _ _ _ _ _ Try.underlying29
  unfold Op.eqFields Op.eqFields Op.eqFields
  rw [a1, a2, a3, b1, b2, b3]
  have es : decide (x1 = y1 ∧ x2 = y2) = ((x1 == y1) && (x2 == y2)) := by
    rw [Bool.eq_iff_iff]
    simp
  rw [es]
  generalize (x1 == y1) = r1 at *
  generalize (x2 == y2) = r2 at *
  clear es
  cases r1 <;> cases r2 <;> simp [n1, n2, q1, q2, e1, e2]
theorem eqPr (x1 y1 x2 y2 : Int) (w : World) : (binOp .eql 34 (.agg #[.int .u64 x1, .int .u64 x2]) (.agg #[.int .u64 y1, .int .u64 y2])).run Try.prog w = .ok (.bool (decide (x1 = y1 ∧ x2 = y2))) w := by
  have hf := fieldsPr
  rw [run_eql_struct, run_equalIn_struct w 9999 _ _ _ (by kernel_rfl) (by kernel_rfl)]
  generalize (Try.prog.fieldsOf 34).toList = L at hf ⊢
  obtain ⟨f1, f2, rfl⟩ : ∃ f1 f2, L = [f1, f2] := by
    have hl := congrArg List.length hf
    simp only [List.length_map, List.length_cons, List.length_nil] at hl
    match L, hl with
    | [f1, f2], _ => exact ⟨f1, f2, rfl⟩
  simp only [List.map_cons, List.map_nil, List.cons.injEq, Prod.mk.injEq, and_true] at hf
  obtain ⟨⟨a1, a2, a3⟩, ⟨b1, b2, b3⟩⟩ := hf
  have n1 : ("Key" : String) ≠ "_" := by decide
  have n2 : ("Value" : String) ≠ "_" := by decide
  have q1 : ∀ u0 u1 : Value, (part 29 #[u0, u1] 0).run Try.prog w = .ok u0 w := fun u0 u1 => by simp [part, go_sem]
  have q2 : ∀ u0 u1 : Value, (part 29 #[u0, u1] 1).run Try.prog w = .ok u1 w := fun u0 u1 => by simp [part, go_sem]
  have e1 : (Op.equalIn 9999 29 (.int .u64 x1) (.int .u64 y1)).run Try.prog w = .ok (x1 == y1) w := run_equalIn_int w 9998 _ _ _ _ _ Try.underlying29
  have e2 : (Op.equalIn 9999 29 (.int .u64 x2) (.int .u64 y2)).run Try.prog w = .ok (x2 == y2) w := run_equalIn_int w 9998 _ _ _ _ _ Try.underlying29
  unfold Op.eqFields Op.eqFields Op.eqFields
  rw [a1, a2, a3, b1, b2, b3]
  have es : decide (x1 = y1 ∧ x2 = y2) = ((x1 == y1) && (x2 == y2)) := by
    rw [Bool.eq_iff_iff]
    simp
  rw [es]
  generalize (x1 == y1) = r1 at *
  generalize (x2 == y2) = r2 at *
  clear es
  cases r1 <;> cases r2 <;> simp [n1, n2, q1, q2, e1, e2]
theorem eqGuardAn : Try.prog.eqGuardType Try.prog.depth 31 = false := by kernel_rfl
theorem eqGuardPr : Try.prog.eqGuardType Try.prog.depth 34 = false := by kernel_rfl
/-- alive14. -/
def lA : List JO := [(1, 1, 2), (3, 0, 0), (1, 1, 3), (2, 1, 0), (4, 0, 0)]
theorem lA_wo : ∀ j, j < lA.length → WO (lA.getD j no) := fun j hj => by
  have : j = 0 ∨ j = 1 ∨ j = 2 ∨ j = 3 ∨ j = 4 := by
    have : j < 5 := hj
    omega
  rcases this with rfl | rfl | rfl | rfl | rfl <;> (unfold WO lA; constructor <;> decide)
theorem lA_t : (run lA z0 []).2.1 = upd z0 1 2 := rfl
theorem lA_1 : an lA 1 = (0, 1) := rfl
theorem lA_3 : an lA 3 = (0, 3) := rfl
theorem lA_ps : Prs (upd z0 1 2) [(1, 2)] := by
  refine ⟨by simp, fun k v => ?_⟩
  unfold upd z0
  simp only [List.mem_singleton, Prod.mk.injEq]
  constructor
  · rintro ⟨rfl, rfl⟩
    exact ⟨rfl, by decide⟩
  · rintro ⟨h, hv⟩
    by_cases hk : k = 1
    · rw [if_pos hk] at h
      exact ⟨hk, h.symm⟩
    · rw [if_neg hk] at h
      exact absurd h.symm hv
structure Sa (ga gp : Nat) (w : World) : Prop where
  h1 : ga < w.heap.size
  h2 : gp < w.heap.size
  c1 : w.cell? ⟨ga, 3, none⟩ = some (.int .u64 1)
  c3 : w.cell? ⟨ga, 7, none⟩ = some (.int .u64 3)
  p0 : w.cell? ⟨gp, 0, none⟩ = some (.int .u64 1)
  p1 : w.cell? ⟨gp, 1, none⟩ = some (.int .u64 2)
theorem play_five (v : Value) (w : World) (hm : Jr (· < w.heap.size) lA v w) : Calls Try.prog 8 #[v] w fun e w' => ∃ ga gp, e = .returned (.tuple #[.slice (some ⟨ga, 0, none⟩) 5 5, .slice (some ⟨gp, 0, none⟩) 1 1]) ∧ Sa ga gp w' ∧ Below w.heap.size w w' := by
  refine (play_any lA lA_wo (by decide) v w hm).mono ?_
  rintro e w' ⟨ga, gp, ps, rfl, hr, hb⟩
  have hq := hr.q
  rw [lA_t] at hq
  obtain rfl := prs_one hq lA_ps
  refine ⟨ga, gp, rfl, ⟨hr.hi, hr.p.hi, ?_, ?_, ?_, ?_⟩, hb⟩
  · have := hr.c 1 (by decide) 1 (by decide)
    rw [lA_1] at this
    exact this
  · have := hr.c 3 (by decide) 1 (by decide)
    rw [lA_3] at this
    exact this
  · exact hr.p.c 0 (by decide) 0 (by decide)
  · exact hr.p.c 0 (by decide) 1 (by decide)
set_option maxHeartbeats 2000000 in
set_option maxRecDepth 100000 in
theorem alive_any (w : World) : Calls Try.prog 12 #[] w fun e w' => e = .returned (.bool true) ∧ Below w.heap.size w w' := by
  go_enter Try.func12, Try.ntmps12
  go_wp2_with fail
  have M1 := laid_jr w lA #[.int .i64 1, .int .u64 1, .int .u64 2, .int .i64 3, .int .u64 0, .int .u64 0, .int .i64 1, .int .u64 1, .int .u64 3, .int .i64 2, .int .u64 1, .int .u64 0, .int .i64 4, .int .u64 0, .int .u64 0] 5 rfl rfl 39
  refine (play_five _ _ M1).mono ?_
  rintro e w2 ⟨ga, gp, rfl, s2, b2⟩
  have B2 : Hid (Below w.heap.size w w2) := ((Below.refl _ _).alloc (Nat.le_refl _) _).trans (b2.mono (by simp))
  obtain ⟨h1, h2, c1, c3, p0, p1⟩ := s2
  clear M1 b2
  go_wp2_with fail
  go_ret
  exact ⟨rfl, B2.out⟩
end Jn
end Go.Proofs.Ytengpjalkiibiaa
/- Operations of a journal that came in. -/
namespace Go.Proofs.Ytengpjalkiibiaa
namespace Jn
open Go.ChangeShapes Go.WideShapes Go.ChangeAt Go.RowKit Go.Joins
theorem cellsOp : Try.prog.cellsOf 39 = 3 := by kernel_rfl
def ocl (o : JO) : List Value := [.int .i64 o.1, .int .u64 (o.2.1 : Int), .int .u64 (o.2.2 : Int)]
theorem ocl_get (o : JO) (j : Nat) (h : j < 3) : (ocl o)[j]? = some (oc o j) := by
  rcases (by omega : j = 0 ∨ j = 1 ∨ j = 2) with rfl | rfl | rfl <;> rfl
theorem bnd {a : Int} (h : (Lit.int .u64 a).wf = true) : ∃ n : Nat, a = (n : Int) ∧ n < 18446744073709551616 := by
  simp [Lit.wf, IntKind.min, IntKind.max, IntKind.signed, IntKind.bits] at h
  exact ⟨a.toNat, by omega, by omega⟩
theorem blk1 {H : Type} (d : DataW H) : 1 ≤ Rows.uptoBulk d := by
  unfold Rows.uptoBulk
  split <;> omega
set_option maxRecDepth 100000 in
theorem op_of {H : Type} {enc : TypeId × Value → H} {W : World} {fuel : Nat} {cs : List Value} {x : DataW H × List MemPlace} (h : DataW.trod enc Try.prog W 0 (fun _ => true) true fuel 39 cs = some x) :
    ∃ o : JO, cs = ocl o ∧ WO o ∧ 4 ≤ Rows.uptoBulk x.1 := by
  obtain ⟨xs, n, rfl, rfl, hl, hlen, hf⟩ := DataW.trod_struct Try.underlying39 h
  match xs, hlen with
  | [y0, y1, y2], _ =>
    have f0 := hf 0 _ rfl
    have f1 := hf 1 _ rfl
    have f2 := hf 2 _ rfl
    rw [cellsOp] at hl
    match cs, hl with
    | [c0, c1, c2], _ =>
      simp only [List.getElem?_cons_zero, List.getElem?_cons_succ] at f0 f1 f2
      obtain ⟨k, e0, _, _⟩ := DataW.trod_int Try.underlying3 f0
      obtain ⟨a, e1, _, wa⟩ := DataW.trod_int Try.underlying29 f1
      obtain ⟨b, e2, _, wb⟩ := DataW.trod_int Try.underlying29 f2
      injection e0 with e0 _
      injection e1 with e1 _
      injection e2 with e2 _
      subst e0 e1 e2
      obtain ⟨a, rfl, ha⟩ := bnd wa
      obtain ⟨b, rfl, hb⟩ := bnd wb
      have hB : Rows.uptoBulk (DataW.agg ([y0, y1, y2].map (·.1))) = Rows.uptoBulk y0.1 + (Rows.uptoBulk y1.1 + (Rows.uptoBulk y2.1 + 0)) + 1 := by
        rw [Rows.uptoBulk]
        rfl
      refine ⟨(k, a, b), rfl, ⟨ha, hb⟩, ?_⟩
      rw [hB]
      have h0 := blk1 y0.1
      have h1 := blk1 y1.1
      have h2 := blk1 y2.1
      omega
theorem bulk_n {H : Type} (n : Nat) : ∀ l : List (DataW H), (∀ x, x ∈ l → n ≤ Rows.uptoBulk x) → n * l.length ≤ Rows.uptoBulkAll l
  | [], _ => by simp
  | y :: r, h => by
    have h1 := bulk_n n r (fun x hx => h x (List.mem_cons_of_mem _ hx))
    have h2 := h y List.mem_cons_self
    rw [Rows.uptoBulkAll, List.length_cons, Nat.mul_add]
    omega
theorem Jr_nil (S : Nat → Prop) (w : World) : Jr S [] (.slice none 0 0) w := ⟨none, 0, rfl, Nat.le_refl _, fun h => absurd h (by simp)⟩
theorem getD_range {α : Type} (F : Nat → α) (n i : Nat) (d : α) (h : i < n) : ((List.range n).map F).getD i d = F i := by simp [h]
set_option maxRecDepth 100000 in
theorem open_ops {H : Type} {enc : TypeId × Value → H} {W : World} {r : Reach} {b0 : Nat} {v : Value} {d : DataW H} {p : List MemPlace}
    (hv : Value.okWide Try.prog W r b0 22 v) (h : DataW.Trod enc Try.prog W 0 (fun _ => true) true 22 v d p) :
    ∃ l : List JO, Jr (· < W.heap.size) l v W ∧ 4 * l.length + 1 ≤ Rows.uptoBulk d ∧ ∀ j, j < l.length → WO (l.getD j no) := by
  obtain ⟨a0, len, cap, rfl⟩ := okWide_slice Try.underlying22 hv
  obtain ⟨fuel, hf⟩ := h
  rcases DataW.trod_slice Try.underlying22 hf with ⟨hcs, hx⟩ | ⟨a, len', cap', elems, rest, m, rfl, hcs, hx, _, hle, _, hel, hat, _, _⟩
  · simp [Value.cells] at hcs
    obtain ⟨rfl, rfl, rfl⟩ := hcs
    exact ⟨[], Jr_nil _ _, blk1 _, fun j hj => absurd hj (by simp)⟩
  · simp [Value.cells] at hcs
    obtain ⟨rfl, rfl, rfl⟩ := hcs
    have hd : Rows.uptoBulk d = Rows.uptoBulkAll (elems.map (·.1)) + Rows.uptoBulkAll (rest.map (·.1)) + 1 := by
      have : d = _ := congrArg Prod.fst hx
      rw [this, Rows.uptoBulk]
    have HI : ∀ i, ∃ o : JO, ∀ hi : i < len, (∃ cs', W.cells? 0 (a.add (i * 3)) 3 = some cs' ∧ cs' = ocl o) ∧ WO o ∧ 4 ≤ Rows.uptoBulk (elems[i]'(by omega)).1 := fun i => by
      by_cases hi : i < len
      · have k := hat i hi
        rw [cellsOp] at k
        rw [List.getElem?_eq_getElem (by omega)] at k
        cases hc : W.cells? 0 (a.add (i * 3)) 3 with
        | none => rw [hc] at k; cases k
        | some cs' =>
          rw [hc] at k
          obtain ⟨o, e1, e2, e3⟩ := op_of k
          exact ⟨o, fun _ => ⟨⟨cs', rfl, e1⟩, e2, e3⟩⟩
      · exact ⟨no, fun h => absurd h hi⟩
    obtain ⟨F, hF⟩ := Classical.axiomOfChoice HI
    have hks : ((List.range len).map F).length = len := by simp
    refine ⟨(List.range len).map F, ⟨some a, cap, by rw [hks], by rw [hks]; exact hle, fun hp => ?_⟩, ?_, fun j hj => ?_⟩
    · rw [hks] at hp
      obtain ⟨bl, off, spot⟩ := a
      obtain ⟨cs', k1, k2⟩ := (hF 0 hp).1
      obtain ⟨_, _, k3⟩ := World.cells?_some k1
      have k4 := k3 0 (by decide)
      rw [k2, ocl_get _ 0 (by decide)] at k4
      have hspot : spot = none := by simpa [Addr.add] using World.cell?_spot k4
      subst hspot
      have hbw : bl < W.heap.size := World.block_lt_of_cell? W _ (by simpa [Go.WideShapes.add_plain] using k4)
      refine ⟨bl, off, rfl, hbw, hbw, fun j hj o ho => ?_⟩
      rw [hks] at hj
      rw [getD_range _ _ _ _ hj]
      obtain ⟨cs2, k5, k6⟩ := (hF j hj).1
      obtain ⟨_, _, k7⟩ := World.cells?_some k5
      rw [Go.WideShapes.add_plain] at k7
      have g0 := k7 o ho
      rw [Go.WideShapes.add_plain, k6, ocl_get _ o ho] at g0
      exact g0
    · have hN := bulk_n 4 (elems.map (·.1)) (fun x hx => by
        obtain ⟨y, hy, rfl⟩ := List.mem_map.1 hx
        obtain ⟨i, hi, rfl⟩ := List.getElem_of_mem hy
        exact (hF i (by omega)).2.2)
      rw [List.length_map, hel] at hN
      rw [hd, hks]
      omega
    · rw [hks] at hj
      rw [getD_range _ _ _ _ hj]
      exact (hF j hj).2.1
theorem Jr_gb {S : Nat → Prop} {l : List JO} {v : Value} {w w' : World} {r : Option Nat} (h : Jr S l v w) (hb : w.grownBy w' r) (hr : ∀ k, S k → some k ≠ r) : Jr S l v w' := by
  obtain ⟨ao, cap, h2, h3, h4⟩ := h
  refine ⟨ao, cap, h2, h3, fun h0 => ?_⟩
  obtain ⟨k, off, e, hne, hlt, hc⟩ := h4 h0
  have hbk : w'.heap[k]? = w.heap[k]? := hb.block k hlt (hr k hne)
  exact ⟨k, off, e, hne, Nat.lt_of_lt_of_le hlt hb.size, fun j hj o ho => (World.cell?_of_block (a := ⟨k, off + j * 3 + o, none⟩) hbk).trans (hc j hj o ho)⟩
theorem Jr_mono {S S' : Nat → Prop} {l : List JO} {v : Value} {w : World} (h : Jr S l v w) (hs : ∀ k, S k → k < w.heap.size → S' k) : Jr S' l v w := by
  obtain ⟨ao, cap, h2, h3, h4⟩ := h
  refine ⟨ao, cap, h2, h3, fun h0 => ?_⟩
  obtain ⟨k, off, e, hne, hlt, hc⟩ := h4 h0
  exact ⟨k, off, e, hs k hne hlt, hlt, hc⟩
theorem Jr_below {l : List JO} {v : Value} {w w' : World} (h : Jr (· < w.heap.size) l v w) (hb : Below w.heap.size w w') : Jr (· < w'.heap.size) l v w' :=
  Jr_mono (Jr_gb (r := none) h (gb_of_below hb none) (fun k _ e => by cases e)) (fun _ _ h2 => h2)
end Jn
end Go.Proofs.Ytengpjalkiibiaa
/- lampbearerkeep.JournalSorted. -/
namespace Go.Proofs.Ytengpjalkiibiaa
namespace Jn
open Go.RowKit Go.Maps
set_option maxHeartbeats 4000000 in
set_option maxRecDepth 100000 in
theorem sorted_walk (l : List JO) (n0 : Nat) (v : Value) (w : World) (KP : Hid (∀ W : World, Below w.heap.size w W → Calls Try.prog 8 #[v] W fun e w' => ∃ (ga gp : Nat) (ps : List (Nat × Nat)), e = .returned (.tuple #[.slice (some ⟨ga, 0, none⟩) n0 n0, .slice (some ⟨gp, 0, none⟩) ps.length ps.length]) ∧ Rj W.heap.size ga gp l ps w' ∧ Below W.heap.size W w')) :
    Calls Try.prog 7 #[v] w fun e w' => e = .returned (.bool true) ∧ Below w.heap.size w w' := by
  have KA : Hid (∀ W : World, Calls Try.prog 12 #[] W fun e w' => e = .returned (.bool true) ∧ Below W.heap.size W w') := fun W => alive_any W
  go_enter Try.func7, Try.ntmps7
  go_wp2_with fail
  refine (KA.out w).mono ?_
  rintro e w1 ⟨rfl, b1⟩
  have B1 : Hid _ := b1
  clear b1 KA
  go_wp2_with fail
  refine (KP.out w1 B1.out).mono ?_
  rintro e w2 ⟨ga, gp, ps, rfl, r2, b2⟩
  have B2 : Hid (Below w.heap.size w w2) := B1.out.trans (b2.mono B1.out.size)
  have R2 : Hid (Rj w1.heap.size ga gp l ps w2) := r2
  obtain ⟨n, en⟩ : ∃ n, n = ps.length := ⟨_, rfl⟩
  rw [← en]
  have EN : Hid (n = ps.length) := en
  have HZ : Hid (n ≤ 4194303) := by have := r2.n; show n ≤ _; omega
  clear r2 b2 B1 KP en
  go_wp2_with fail
  go_loopw [16] (fun s wr => ∃ (i : Nat), i ≤ n ∧ s = .int .i64 (i : Int) ∧ Below w2.heap.size w2 wr) (fun s _ => ((n : Int) - intOf s).toNat)
  case atStart => exact ⟨0, Nat.zero_le _, rfl, Below.refl _ _⟩
  case round =>
    obtain ⟨i, hi, rfl, hb⟩ := hrel
    by_cases hlt : i < n
    · have d0 : (0 : Int) ≤ (i : Int) := by omega
      have d1 : (i : Int) < (n : Int) := by omega
      have HB : Hid _ := hb
      have hil : i < ps.length := by rw [← EN.out]; exact hlt
      have q0 := (hb.cell (p := ⟨gp, i * 2, none⟩) R2.out.p.hi).trans (R2.out.p.c i hil 0 (by decide))
      have q1 := (hb.cell (p := ⟨gp, i * 2 + 1, none⟩) R2.out.p.hi).trans (R2.out.p.c i hil 1 (by decide))
      unfold pq at q0 q1
      obtain ⟨hps, hmem⟩ := R2.out.q
      have eP : ps.getD i n00 = ps[i] := by simp [hil]
      have hne := ((hmem (ps.getD i n00).1 (ps.getD i n00).2).1 (by rw [eP]; exact List.getElem_mem _)).2
      have hord : ∀ j, i = j + 1 → (ps.getD j n00).1 < (ps.getD i n00).1 := fun j ej => by
        have hj : j < ps.length := by omega
        have eJ : ps.getD j n00 = ps[j] := by simp [hj]
        rw [eP, eJ]
        exact (List.pairwise_iff_getElem.1 hps) j i hj hil (by omega)
      have hprev : ∀ j, i = j + 1 → w2.cell? ⟨gp, j * 2, none⟩ = some (.int .u64 ((ps.getD j n00).1 : Int)) := fun j ej => R2.out.p.c j (by omega) 0 (by decide)
      have HO : Hid (∀ j, i = j + 1 → (ps.getD j n00).1 < (ps.getD i n00).1 ∧ w2.cell? ⟨gp, j * 2, none⟩ = some (.int .u64 ((ps.getD j n00).1 : Int))) := fun j ej => ⟨hord j ej, hprev j ej⟩
      have hgp : Hid (gp < w2.heap.size) := R2.out.p.hi
      generalize ps.getD i n00 = x at *
      obtain ⟨xk, xv⟩ := x
      dsimp only at q0 q1 hne HO
      clear hps hmem hord hprev eP hil hb
      go_wp2_with fail
      have b8 : Below w2.heap.size w2 (wr.alloc (.cells #[.int .u64 (xk : Int), .int .u64 (xv : Int)] 34)) := HB.out.alloc HB.out.size _
      have z0 : (wr.alloc (.cells #[.int .u64 (xk : Int), .int .u64 (xv : Int)] 34)).cell? ⟨wr.heap.size, 0, none⟩ = some (.int .u64 (xk : Int)) := by simp
      have z1 : (wr.alloc (.cells #[.int .u64 (xk : Int), .int .u64 (xv : Int)] 34)).cell? ⟨wr.heap.size, 1, none⟩ = some (.int .u64 (xv : Int)) := by simp
      have z2 : wr.heap.size < (wr.alloc (.cells #[.int .u64 (xk : Int), .int .u64 (xv : Int)] 34)).heap.size := by simp
      clear q0 q1 HB
      generalize wr.alloc (.cells #[.int .u64 (xk : Int), .int .u64 (xv : Int)] 34) = W at b8 z0 z1 z2 ⊢
      generalize wr.heap.size = hp at z0 z1 z2 ⊢
      have HC : Hid (hp < W.heap.size ∧ W.cell? ⟨hp, 0, none⟩ = some (.int .u64 (xk : Int)) ∧ W.cell? ⟨hp, 1, none⟩ = some (.int .u64 (xv : Int)) ∧ Below w2.heap.size w2 W) := ⟨z2, z0, z1, b8⟩
      clear b8 z0 z1 z2
      have e0 : ((xv : Int) == 0) = false := by rw [beq_eq_false_iff_ne]; omega
      have e0' : ¬ ((xv : Int) = 0) := by omega
      have hw := stwp i n hlt HZ.out
      clear hne
      cases i with
      | zero =>
        clear HO
        have f1 : decide ((0 : Int) > 0) = false := by decide
        refine RS.wp_region_one (fun wx => Below W.heap.size W wx) (by kernel_rfl) (by kernel_rfl) ((Below.refl _ _).drew) ?_
        dsimp only [List.toList_toArray]
        refine RS.go1 (v := ?_) (a' := ?_) rfl ?_ ?_ ?_
        rotate_left 2
        · intro K wx hS hK
          go_simp
          exact hK _ hS
        · simp only [Act.put, List.setIfInBounds_toArray, List.set_cons_succ, List.set_cons_zero]
          rfl
        refine RS.go1 (v := ?_) (a' := ?_) rfl ?_ ?_ ?_
        rotate_left 2
        · intro K wx hS hK
          have z1 := (hS.cell (p := ⟨hp, 1, none⟩) HC.out.1).trans HC.out.2.2.1
          go_simp
          exact hK _ hS
        · simp only [Act.put, List.setIfInBounds_toArray, List.set_cons_succ, List.set_cons_zero]
          rfl
        refine RS.go1 (v := ?_) (a' := ?_) rfl ?_ ?_ ?_
        rotate_left 2
        · intro K wx hS hK
          go_simp
          exact hK _ hS
        · simp only [Act.put, List.setIfInBounds_toArray, List.set_cons_succ, List.set_cons_zero]
          rfl
        refine RS.go1 (v := ?_) (a' := ?_) rfl ?_ ?_ ?_
        rotate_left 2
        · intro K wx hS hK
          go_simp
          exact hK _ hS
        · simp only [Act.put, List.setIfInBounds_toArray, List.set_cons_succ, List.set_cons_zero]
          rfl
        refine RS.go1g (v := ?_) (a' := ?_) (by kernel_rfl) ?_ ?_ ?_
        rotate_left 2
        · intro K wx hS hK
          go_simp
          exact hK _ hS
        · simp only [Act.put, List.setIfInBounds_toArray, List.set_cons_succ, List.set_cons_zero]
          rfl
        refine RS.go1g (v := ?_) (a' := ?_) (by kernel_rfl) ?_ ?_ ?_
        rotate_left 2
        · intro K wx hS hK
          go_simp
          exact hK _ hS
        · simp only [Act.put, List.setIfInBounds_toArray, List.set_cons_succ, List.set_cons_zero]
          rfl
        refine RS.go1g (v := ?_) (a' := ?_) (by kernel_rfl) ?_ ?_ ?_
        rotate_left 2
        · intro K wx hS hK
          go_simp
          exact hK _ hS
        · simp only [Act.put, List.setIfInBounds_toArray, List.set_cons_succ, List.set_cons_zero]
          rfl
        refine RS.go0 (a' := ?_) (by kernel_rfl) ?_ ?_
        rotate_left 1
        · simp only [Act.put, List.setIfInBounds_toArray, List.set_cons_succ, List.set_cons_zero]
          rfl
        refine RS.go0 (a' := ?_) (by kernel_rfl) ?_ ?_
        rotate_left 1
        · simp only [Act.put, List.setIfInBounds_toArray, List.set_cons_succ, List.set_cons_zero]
          rfl
        refine RS.go0 (a' := ?_) (by kernel_rfl) ?_ ?_
        rotate_left 1
        · simp only [Act.put, List.setIfInBounds_toArray, List.set_cons_succ, List.set_cons_zero]
          rfl
        refine RS.go0 (a' := ?_) (by kernel_rfl) ?_ ?_
        rotate_left 1
        · simp only [Act.put, List.setIfInBounds_toArray, List.set_cons_succ, List.set_cons_zero]
          rfl
        refine RS.go0 (a' := ?_) (by kernel_rfl) ?_ ?_
        rotate_left 1
        · simp only [Act.put, List.setIfInBounds_toArray, List.set_cons_succ, List.set_cons_zero]
          rfl
        refine RS.go0 (a' := ?_) (by kernel_rfl) ?_ ?_
        rotate_left 1
        · simp only [Act.put, List.setIfInBounds_toArray, List.set_cons_succ, List.set_cons_zero]
          rfl
        refine RS.go0 (a' := ?_) (by kernel_rfl) ?_ ?_
        rotate_left 1
        · simp only [Act.put, List.setIfInBounds_toArray, List.set_cons_succ, List.set_cons_zero]
          rfl
        refine RS.go0 (a' := ?_) (by kernel_rfl) ?_ ?_
        rotate_left 1
        · simp only [Act.put, List.setIfInBounds_toArray, List.set_cons_succ, List.set_cons_zero]
          rfl
        refine RS.go0 (a' := ?_) (by kernel_rfl) ?_ ?_
        rotate_left 1
        · simp only [Act.put, List.setIfInBounds_toArray, List.set_cons_succ, List.set_cons_zero]
          rfl
        refine RS.go1g (v := ?_) (a' := ?_) (by kernel_rfl) ?_ ?_ ?_
        rotate_left 2
        · intro K wx hS hK
          go_simp
          exact hK _ hS
        · simp only [Act.put, List.setIfInBounds_toArray, List.set_cons_succ, List.set_cons_zero]
          rfl
        refine RS.go1 (v := ?_) (a' := ?_) rfl ?_ ?_ ?_
        rotate_left 2
        · intro K wx hS hK
          go_simp
          exact hK _ hS
        · simp only [Act.put, List.setIfInBounds_toArray, List.set_cons_succ, List.set_cons_zero]
          rfl
        refine RS.go_end ?_
        intro w9 b9
        have BW : Hid (Below w2.heap.size w2 w9) := HC.out.2.2.2.trans (b9.mono HC.out.2.2.2.size)
        clear b9
        go_wp2_with fail
        go_roundw
        case rel => exact ⟨1, hlt, stv 0 _ rfl, BW.out⟩
        case measure => exact stm 0 n hlt _ rfl
      | succ j =>
        obtain ⟨o1, o2⟩ := HO.out j rfl
        have HY : Hid (gp < W.heap.size ∧ W.cell? ⟨gp, j * 2, none⟩ = some (.int .u64 ((ps.getD j n00).1 : Int))) := ⟨Nat.lt_of_lt_of_le hgp.out HC.out.2.2.2.size, (HC.out.2.2.2.cell (p := ⟨gp, j * 2, none⟩) hgp.out).trans o2⟩
        generalize (ps.getD j n00).1 = yk at *
        clear HO o2
        have f1 : decide (((j + 1 : Nat) : Int) > 0) = true := decide_eq_true (by omega)
        have EJ : Hid (IntKind.i64.wrap (j : Int) = (j : Int)) := by have := HZ.out; show _ = _; rw [IntKind.wrap_i64]; omega
        refine RS.wp_region_one (fun wx => Below W.heap.size W wx) (by kernel_rfl) (by kernel_rfl) ((Below.refl _ _).drew) ?_
        dsimp only [List.toList_toArray]
        refine RS.go1 (v := ?_) (a' := ?_) rfl ?_ ?_ ?_
        rotate_left 2
        · intro K wx hS hK
          go_simp
          exact hK _ hS
        · simp only [Act.put, List.setIfInBounds_toArray, List.set_cons_succ, List.set_cons_zero]
          rfl
        refine RS.go1 (v := ?_) (a' := ?_) rfl ?_ ?_ ?_
        rotate_left 2
        · intro K wx hS hK
          have z1 := (hS.cell (p := ⟨hp, 1, none⟩) HC.out.1).trans HC.out.2.2.1
          go_simp
          exact hK _ hS
        · simp only [Act.put, List.setIfInBounds_toArray, List.set_cons_succ, List.set_cons_zero]
          rfl
        refine RS.go1 (v := ?_) (a' := ?_) rfl ?_ ?_ ?_
        rotate_left 2
        · intro K wx hS hK
          go_simp
          exact hK _ hS
        · simp only [Act.put, List.setIfInBounds_toArray, List.set_cons_succ, List.set_cons_zero]
          rfl
        refine RS.go1 (v := ?_) (a' := ?_) rfl ?_ ?_ ?_
        rotate_left 2
        · intro K wx hS hK
          go_simp
          exact hK _ hS
        · simp only [Act.put, List.setIfInBounds_toArray, List.set_cons_succ, List.set_cons_zero]
          rfl
        refine RS.go1g (v := ?_) (a' := ?_) (by kernel_rfl) ?_ ?_ ?_
        rotate_left 2
        · intro K wx hS hK
          go_simp
          exact hK _ hS
        · simp only [Act.put, List.setIfInBounds_toArray, List.set_cons_succ, List.set_cons_zero]
          rfl
        refine RS.go1g (v := ?_) (a' := ?_) (by kernel_rfl) ?_ ?_ ?_
        rotate_left 2
        · intro K wx hS hK
          go_simp
          exact hK _ hS
        · simp only [Act.put, List.setIfInBounds_toArray, List.set_cons_succ, List.set_cons_zero]
          rfl
        refine RS.go1g (v := ?_) (a' := ?_) (by kernel_rfl) ?_ ?_ ?_
        rotate_left 2
        · intro K wx hS hK
          go_simp
          exact hK _ hS
        · simp only [Act.put, List.setIfInBounds_toArray, List.set_cons_succ, List.set_cons_zero]
          rfl
        refine RS.go1g (v := ?_) (a' := ?_) (by kernel_rfl) ?_ ?_ ?_
        rotate_left 2
        · intro K wx hS hK
          go_simp
          exact hK _ hS
        · simp only [Act.put, List.setIfInBounds_toArray, List.set_cons_succ, List.set_cons_zero]
          rfl
        refine RS.go1g (v := ?_) (a' := ?_) (by kernel_rfl) ?_ ?_ ?_
        rotate_left 2
        · intro K wx hS hK
          go_simp
          exact hK _ hS
        · simp only [Act.put, List.setIfInBounds_toArray, List.set_cons_succ, List.set_cons_zero]
          rfl
        refine RS.go1g (v := ?_) (a' := ?_) (by kernel_rfl) ?_ ?_ ?_
        rotate_left 2
        · intro K wx hS hK
          have ej := EJ.out
          go_simp
          exact hK _ hS
        · simp only [Act.put, List.setIfInBounds_toArray, List.set_cons_succ, List.set_cons_zero]
          rfl
        refine RS.go1g (v := ?_) (a' := ?_) (by kernel_rfl) ?_ ?_ ?_
        rotate_left 2
        · intro K wx hS hK
          have ej := EJ.out
          have g0 : (0 : Int) ≤ (j : Int) := by omega
          have g1 : (j : Int) < (n : Int) := by omega
          go_simp
          exact hK _ hS
        · simp only [Act.put, List.setIfInBounds_toArray, List.set_cons_succ, List.set_cons_zero]
          rfl
        refine RS.go1g (v := ?_) (a' := ?_) (by kernel_rfl) ?_ ?_ ?_
        rotate_left 2
        · intro K wx hS hK
          go_simp
          exact hK _ hS
        · simp only [Act.put, List.setIfInBounds_toArray, List.set_cons_succ, List.set_cons_zero]
          rfl
        refine RS.go1g (v := ?_) (a' := ?_) (by kernel_rfl) ?_ ?_ ?_
        rotate_left 2
        · intro K wx hS hK
          have y0 := (hS.cell (p := ⟨gp, j * 2, none⟩) HY.out.1).trans HY.out.2
          go_simp
          exact hK _ hS
        · simp only [Act.put, List.setIfInBounds_toArray, List.set_cons_succ, List.set_cons_zero]
          rfl
        refine RS.go1g (v := ?_) (a' := ?_) (by kernel_rfl) ?_ ?_ ?_
        rotate_left 2
        · intro K wx hS hK
          go_simp
          exact hK _ hS
        · simp only [Act.put, List.setIfInBounds_toArray, List.set_cons_succ, List.set_cons_zero]
          rfl
        refine RS.go1g (v := ?_) (a' := ?_) (by kernel_rfl) ?_ ?_ ?_
        rotate_left 2
        · intro K wx hS hK
          have z0 := (hS.cell (p := ⟨hp, 0, none⟩) HC.out.1).trans HC.out.2.1
          go_simp
          exact hK _ hS
        · simp only [Act.put, List.setIfInBounds_toArray, List.set_cons_succ, List.set_cons_zero]
          rfl
        refine RS.go1g (v := ?_) (a' := ?_) (by kernel_rfl) ?_ ?_ ?_
        rotate_left 2
        · intro K wx hS hK
          have g2 : decide ((yk : Int) ≥ (xk : Int)) = false := decide_eq_false (by omega)
          have g3 : ¬ ((xk : Int) ≤ (yk : Int)) := by omega
          have g4 : (yk : Int) < (xk : Int) := by omega
          go_simp
          exact hK _ hS
        · simp only [Act.put, List.setIfInBounds_toArray, List.set_cons_succ, List.set_cons_zero]
          rfl
        refine RS.go1g (v := ?_) (a' := ?_) (by kernel_rfl) ?_ ?_ ?_
        rotate_left 2
        · intro K wx hS hK
          go_simp
          exact hK _ hS
        · simp only [Act.put, List.setIfInBounds_toArray, List.set_cons_succ, List.set_cons_zero]
          rfl
        refine RS.go1 (v := ?_) (a' := ?_) rfl ?_ ?_ ?_
        rotate_left 2
        · intro K wx hS hK
          go_simp
          exact hK _ hS
        · simp only [Act.put, List.setIfInBounds_toArray, List.set_cons_succ, List.set_cons_zero]
          rfl
        refine RS.go_end ?_
        intro w9 b9
        have BW : Hid (Below w2.heap.size w2 w9) := HC.out.2.2.2.trans (b9.mono HC.out.2.2.2.size)
        clear b9
        go_wp2_with fail
        go_roundw
        case rel => exact ⟨j + 1 + 1, hlt, stv (j + 1) _ hw.out, BW.out⟩
        case measure => exact stm (j + 1) n hlt _ hw.out
    · have ek : i = n := by omega
      subst ek
      have HP : Hid _ := B2.out.trans (hb.mono B2.out.size)
      have d0 : decide ((i : Int) < (i : Int)) = false := decide_eq_false (by omega)
      clear hb
      go_wp2_with fail
      go_ret
      exact ⟨rfl, HP.out⟩
theorem law_sorted (l : List JO) (hl : ∀ j, j < l.length → WO (l.getD j no)) (hz : l.length ≤ 1048575) (v : Value) (w : World) (hm : Jr (· < w.heap.size) l v w) : Calls Try.prog 7 #[v] w fun e w' => e = .returned (.bool true) ∧ Below w.heap.size w w' :=
  sorted_walk l l.length v w fun W hW => play_any l hl hz v W (Jr_below hm hW)
end Jn
end Go.Proofs.Ytengpjalkiibiaa
/- Plain arithmetic of the sponge: parts turned up, states mixed and back. No program is named here. -/
namespace Go.Proofs.Ytengpjalkiibiaa
namespace Sp
/-- A part: 64 bits. -/
def U (x : Int) : Prop := 0 ≤ x ∧ x < 18446744073709551616
def upd (F : Nat → Int) (k : Nat) (v : Int) : Nat → Int := fun o => if o = k then v else F o
/-- x, turned up by one bit. -/
def tu (x : Int) : Int := (x * 2 % 18446744073709551616 + x / 9223372036854775808) % 18446744073709551616
def tun : Nat → Int → Int
  | 0, x => x
  | n + 1, x => tu (tun n x)
theorem U_mod (x : Int) : U (x % 18446744073709551616) := ⟨by omega, by omega⟩
theorem U_tu (x : Int) : U (tu x) := U_mod _
theorem U_tun (n : Nat) (x : Int) (h : U x) : U (tun n x) := by
  cases n with
  | zero => exact h
  | succ n => exact U_tu _
theorem U_xor (a b : Int) (ha : U a) (hb : U b) : U (bits .xor .u64 a b) := by
  obtain ⟨a0, a1⟩ := ha; obtain ⟨b0, b1⟩ := hb
  rw [u64_xor a b a0 a1 b0 b1]
  have := Nat.xor_lt_two_pow (n := 64) (x := a.toNat) (y := b.toNat) (by omega) (by omega)
  exact ⟨by omega, by omega⟩
theorem xor_back (a b : Int) (ha : U a) (hb : U b) : bits .xor .u64 (bits .xor .u64 a b) b = a := by
  have hx := U_xor a b ha hb
  have e : bits .xor .u64 a b = ((a.toNat ^^^ b.toNat : Nat) : Int) := u64_xor a b ha.1 ha.2 hb.1 hb.2
  rw [u64_xor _ b hx.1 hx.2 hb.1 hb.2, e, Int.toNat_natCast, Nat.xor_assoc, Nat.xor_self, Nat.xor_zero]
  have := ha.1
  omega
theorem tu_lo (x : Int) (h0 : 0 ≤ x) (h1 : x < 9223372036854775808) : tu x = x * 2 := by
  unfold tu
  have e1 : x * 2 % 18446744073709551616 = x * 2 := by omega
  have e2 : x / 9223372036854775808 = 0 := by omega
  rw [e1, e2]; omega
theorem tu_hi (x : Int) (h0 : 0 ≤ x) (h1 : x < 9223372036854775808) : tu (9223372036854775808 + x) = x * 2 + 1 := by
  unfold tu
  have e1 : (9223372036854775808 + x) * 2 % 18446744073709551616 = x * 2 := by omega
  have e2 : (9223372036854775808 + x) / 9223372036854775808 = 1 := by omega
  rw [e1, e2]; omega
/-- Turned up by n bits at once. -/
theorem tu_step (q r b n m : Nat) (hq : q < 2 ^ n) (hb : b < 2) (hr : r < 2 ^ m) (hnm : n + m = 63) : tu (((b * 2 ^ m + r) * 2 ^ n + q : Nat) : Int) = ((r * 2 ^ (n + 1) + (2 * q + b) : Nat) : Int) := by
  have e : 2 ^ m * 2 ^ n = (9223372036854775808 : Nat) := by rw [← Nat.pow_add, Nat.add_comm m n, hnm]
  have e1 : (b * 2 ^ m + r) * 2 ^ n = b * 9223372036854775808 + r * 2 ^ n := by rw [Nat.add_mul, Nat.mul_assoc, e]
  have h1 : r * 2 ^ n + q < 9223372036854775808 := by
    have := Nat.mul_le_mul_right (2 ^ n) (show r + 1 ≤ 2 ^ m from hr)
    rw [e, Nat.add_mul] at this
    omega
  rw [e1, Nat.pow_succ, ← Nat.mul_assoc]
  clear e1
  generalize r * 2 ^ n = z at *
  have : b = 0 ∨ b = 1 := by omega
  rcases this with rfl | rfl
  · rw [show ((0 * 9223372036854775808 + z + q : Nat) : Int) = ((z + q : Nat) : Int) by omega, tu_lo _ (by omega) (by omega)]; omega
  · rw [show ((1 * 9223372036854775808 + z + q : Nat) : Int) = 9223372036854775808 + ((z + q : Nat) : Int) by omega, tu_hi _ (by omega) (by omega)]; omega
theorem tun_eq (x : Nat) (hx : x < 2 ^ 64) : ∀ n, n ≤ 64 → tun n (x : Int) = ((x % 2 ^ (64 - n) * 2 ^ n + x / 2 ^ (64 - n) : Nat) : Int)
  | 0, _ => by
    have h1 : x / 2 ^ 64 = 0 := Nat.div_eq_of_lt hx
    have h2 : x % 2 ^ 64 = x := Nat.mod_eq_of_lt hx
    simp only [tun, Nat.sub_zero, h1, h2]; omega
  | n + 1, h => by
    rw [tun, tun_eq x hx n (by omega)]
    have em : 64 - n = (64 - (n + 1)) + 1 := by omega
    generalize hm : 64 - (n + 1) = m at *
    have hq : x / 2 ^ (m + 1) < 2 ^ n := by
      rw [Nat.div_lt_iff_lt_mul (Nat.two_pow_pos _), ← Nat.pow_add, show n + (m + 1) = 64 by omega]; exact hx
    have hr : x % 2 ^ m < 2 ^ m := Nat.mod_lt _ (Nat.two_pow_pos _)
    have d1 : x % 2 ^ (m + 1) = (x / 2 ^ m % 2) * 2 ^ m + x % 2 ^ m := by
      rw [Nat.pow_succ, Nat.mod_mul, Nat.mul_comm (2 ^ m)]; omega
    have d2 : x / 2 ^ m = 2 * (x / 2 ^ (m + 1)) + x / 2 ^ m % 2 := by
      rw [Nat.pow_succ, ← Nat.div_div_eq_div_mul]; omega
    rw [em, d1, tu_step (x / 2 ^ (m + 1)) (x % 2 ^ m) (x / 2 ^ m % 2) n m hq (by omega) hr (by omega), ← d2]
/-- What part i is made greater by. -/
def tn (F : Nat → Int) (i : Nat) : Int := tun (5 * i + 3) (bits .xor .u64 (F ((i + 1) % 8)) (F ((i + 5) % 8)))
def st (F : Nat → Int) (i : Nat) : Nat → Int := upd F i ((F i + tn F i) % 18446744073709551616)
def ts (F : Nat → Int) (i : Nat) : Nat → Int := upd F i ((F i - tn F i) % 18446744073709551616)
def sts (F : Nat → Int) : Nat → Nat → Int
  | 0 => F
  | k + 1 => st (sts F k) k
def tss (F : Nat → Int) : Nat → Nat → Int
  | 0 => F
  | k + 1 => ts (tss F k) (7 - k)
def kr (r : Nat) : Int := (((r * 11400714819323198485 : Nat) : Int)) % 18446744073709551616
def sx (F : Nat → Int) (r : Nat) : Nat → Int := upd F 0 (bits .xor .u64 (F 0) (kr r))
def mixs (F : Nat → Int) : Nat → Nat → Int
  | 0 => F
  | k + 1 => sts (sx (mixs F k) (k + 1)) 8
def umixs (F : Nat → Int) : Nat → Nat → Int
  | 0 => F
  | k + 1 => sx (tss (umixs F k) 8) (12 - k)
def mix (F : Nat → Int) : Nat → Int := mixs F 12
def umix (F : Nat → Int) : Nat → Int := umixs F 12
/-- All parts are parts. -/
def UF (F : Nat → Int) : Prop := ∀ o, U (F o)
theorem UF_upd {F : Nat → Int} {v : Int} (h : UF F) (k : Nat) (hv : U v) : UF (upd F k v) := fun o => by unfold upd; split; exact hv; exact h o
theorem U_kr (r : Nat) : U (kr r) := U_mod _
theorem UF_st {F : Nat → Int} (h : UF F) (i : Nat) : UF (st F i) := UF_upd h i (U_mod _)
theorem UF_ts {F : Nat → Int} (h : UF F) (i : Nat) : UF (ts F i) := UF_upd h i (U_mod _)
theorem UF_sts {F : Nat → Int} (h : UF F) : ∀ k, UF (sts F k)
  | 0 => h
  | k + 1 => UF_st (UF_sts h k) k
theorem UF_tss {F : Nat → Int} (h : UF F) : ∀ k, UF (tss F k)
  | 0 => h
  | k + 1 => UF_ts (UF_tss h k) (7 - k)
theorem UF_sx {F : Nat → Int} (h : UF F) (r : Nat) : UF (sx F r) := UF_upd h 0 (U_xor _ _ (h 0) (U_kr r))
theorem UF_mixs {F : Nat → Int} (h : UF F) : ∀ k, UF (mixs F k)
  | 0 => h
  | k + 1 => UF_sts (UF_sx (UF_mixs h k) _) 8
theorem UF_umixs {F : Nat → Int} (h : UF F) : ∀ k, UF (umixs F k)
  | 0 => h
  | k + 1 => UF_sx (UF_tss (UF_umixs h k) 8) _
theorem UF_mix {F : Nat → Int} (h : UF F) : UF (mix F) := UF_mixs h 12
theorem UF_umix {F : Nat → Int} (h : UF F) : UF (umix F) := UF_umixs h 12
theorem tn_upd (F : Nat → Int) (i : Nat) (v : Int) (_hi : i < 8) : tn (upd F i v) i = tn F i := by
  unfold tn upd
  rw [if_neg (by omega), if_neg (by omega)]
theorem upd_same (F : Nat → Int) (i : Nat) (v x : Int) (h : x = F i) : upd (upd F i v) i x = F := by
  funext o
  unfold upd
  split
  · rename_i e; rw [h, e]
  · rfl
theorem upd_at (F : Nat → Int) (i : Nat) (v : Int) : upd F i v i = v := by unfold upd; rw [if_pos rfl]
theorem ts_st {F : Nat → Int} (h : UF F) (i : Nat) (hi : i < 8) : ts (st F i) i = F := by
  unfold ts st
  rw [tn_upd _ _ _ hi, upd_at]
  refine upd_same F i _ _ ?_
  have := h i
  unfold U at this
  omega
theorem st_ts {F : Nat → Int} (h : UF F) (i : Nat) (hi : i < 8) : st (ts F i) i = F := by
  unfold st ts
  rw [tn_upd _ _ _ hi, upd_at]
  refine upd_same F i _ _ ?_
  have := h i
  unfold U at this
  omega
theorem sx_sx {F : Nat → Int} (h : UF F) (r : Nat) : sx (sx F r) r = F := by
  unfold sx
  rw [upd_at]
  exact upd_same F 0 _ _ (xor_back _ _ (h 0) (U_kr r))
theorem tss_sts {F : Nat → Int} (h : UF F) : ∀ k, k ≤ 8 → tss (sts F 8) k = sts F (8 - k)
  | 0, _ => rfl
  | k + 1, hk => by
    rw [tss, tss_sts h k (by omega), show 8 - k = (7 - k) + 1 by omega, sts, ts_st (UF_sts h _) _ (by omega), show 8 - (k + 1) = 7 - k by omega]
theorem sts_tss {F : Nat → Int} (h : UF F) : ∀ k, k ≤ 8 → sts (tss F 8) k = tss F (8 - k)
  | 0, _ => rfl
  | k + 1, hk => by
    have e : 8 - k = (8 - (k + 1)) + 1 := by omega
    have e2 : 7 - (8 - (k + 1)) = k := by omega
    rw [sts, sts_tss h k (by omega), e, tss, e2, st_ts (UF_tss h _) _ (by omega)]
theorem umix_mix {F : Nat → Int} (h : UF F) : umix (mix F) = F := by
  have H : ∀ k, k ≤ 12 → umixs (mix F) k = mixs F (12 - k) := by
    intro k
    induction k with
    | zero => intro _; rfl
    | succ k ih =>
      intro hk
      have e : 12 - k = (12 - (k + 1)) + 1 := by omega
      rw [umixs, ih (by omega), e, mixs, tss_sts (UF_sx (UF_mixs h _) _) 8 (by omega), Nat.sub_self, sts, sx_sx (UF_mixs h _)]
  exact H 12 (by omega)
theorem mix_umix {F : Nat → Int} (h : UF F) : mix (umix F) = F := by
  have H : ∀ k, k ≤ 12 → mixs (umix F) k = umixs F (12 - k) := by
    intro k
    induction k with
    | zero => intro _; rfl
    | succ k ih =>
      intro hk
      have e : 12 - k = (12 - (k + 1)) + 1 := by omega
      have e2 : 12 - (12 - (k + 1)) = k + 1 := by omega
      rw [mixs, ih (by omega), e, umixs, e2, sx_sx (UF_tss (UF_umixs h _) 8), sts_tss (UF_umixs h _) 8 (by omega), Nat.sub_self, tss]
  exact H 12 (by omega)
/-- A state as a value. -/
def Sv (F : Nat → Int) : Value := .agg #[.int .u64 (F 0), .int .u64 (F 1), .int .u64 (F 2), .int .u64 (F 3), .int .u64 (F 4), .int .u64 (F 5), .int .u64 (F 6), .int .u64 (F 7)]
end Sp
end Go.Proofs.Ytengpjalkiibiaa
