import Derived.Test.YtefgamhnikeekaaDoorPackJ
import Derived.Test.YtefgamhnikeekaaDoorPackI
import Derived.Test.YtefgamhnikeekaaDoorPackA
import Derived.Deep.MidRow
import Derived.Test.YtefgamhnikeekaaDoorPackC
import Derived.Tactics2
import Derived.Test.YtefgamhnikeekaaDoorPackB
import Derived.Test.YtefgamhnikeekaaDoorCards
import Derived.Test.YtefgamhnikeekaaDoorTie
import Derived.WalkKit
import Derived.ProofKit
import Derived.OpenShut
import Derived.JoinedCond
import Derived.ChangeMaps5
import Derived.Deep.DeepHandedRow
import Derived.Lib.LaidTab
namespace Go.Proofs.YtefgamhnikeekaaDoor
namespace Tr
open Nb Go.RowKit
def FL (lo g : Nat) (vv : Value) (ks : List Nd) (k : Nat) (wr : World) : Prop :=
  ∃ (c : Array Value) (D : Nat → Nat → Prop), wr.heap[g]? = some (.cells c 119 (0, 0)) ∧ c.size = 17 ∧ c.getD 0 undef = vv ∧ (∀ j, j < k → In lo wr (ks.getD j Nd.no) (c.getD (j + 1) undef) (D j)) ∧ (∀ j x, j < k → D j x → g < x ∧ x < wr.heap.size) ∧ ∀ i j x, i < k → j < k → D i x → D j x → i = j
theorem heap_setCell_same {w : World} {g o : Nat} {c : Array Value} {ty : TypeId} {fz : Nat × Nat} (h : w.heap[g]? = some (.cells c ty fz)) (x : Value) : (w.setCell ⟨g, o, none⟩ x).heap[g]? = some (.cells (c.setIfInBounds o x) ty fz) := by
  unfold World.setCell
  simp only [Array.getElem?_modify, h]
  simp
theorem heap_setCell_other {w : World} {g o k : Nat} (x : Value) (h : k ≠ g) : (w.setCell ⟨g, o, none⟩ x).heap[k]? = w.heap[k]? := by
  unfold World.setCell
  simp only [Array.getElem?_modify]
  rw [if_neg (fun e => h e.symm)]
theorem setCell_size {w : World} {a : Addr} (x : Value) : (w.setCell a x).heap.size = w.heap.size := by
  unfold World.setCell
  simp
theorem ch_set {lo g o : Nat} {w : World} {c : Array Value} (x : Value) (hlo : lo ≤ g) (h : w.heap[g]? = some (.cells c 119 (0, 0))) : Ch lo (· = g) w (w.setCell ⟨g, o, none⟩ x) := by
  refine ⟨rfl, rfl, rfl, by rw [setCell_size]; exact Nat.le_refl _, fun k hk hn => ?_⟩
  by_cases e : k = g
  · subst e
    exact absurd ⟨rfl, hlo, c, h⟩ hn
  · exact heap_setCell_other x e
theorem FL_below {lo g : Nat} {vv : Value} {ks : List Nd} {k : Nat} {wr w' : World} (h : FL lo g vv ks k wr) (hb : Below wr.heap.size wr w') : FL lo g vv ks k w' := by
  obtain ⟨c, D, h1, h2, h3, h4, h5, h6⟩ := h
  refine ⟨c, D, by rw [hb.block g (Pk.lt_of_heap h1)]; exact h1, h2, h3, fun j hj => In_below (h4 j hj) hb, fun j x hj hx => ⟨(h5 j x hj hx).1, Nat.lt_of_lt_of_le (h5 j x hj hx).2 hb.size⟩, h6⟩
theorem FL_lt {lo g : Nat} {vv : Value} {ks : List Nd} {k : Nat} {wr : World} (h : FL lo g vv ks k wr) : g < wr.heap.size := by
  obtain ⟨c, D, h1, _⟩ := h
  exact Pk.lt_of_heap h1
theorem getD_setIf (c : Array Value) (i j : Nat) (x : Value) (hi : i < c.size) : (c.setIfInBounds i x).getD j undef = if j = i then x else c.getD j undef := by
  rw [Array.getD_eq_getD_getElem?, Array.getD_eq_getD_getElem?, Array.getElem?_setIfInBounds]
  by_cases e : i = j
  · rw [if_pos e, if_pos e.symm, if_pos hi]; rfl
  · rw [if_neg e, if_neg (fun h => e h.symm)]
theorem FL_step {lo g : Nat} {vv x : Value} {ks : List Nd} {k : Nat} {wa w1 : World} (hk : k < 16) (hlo : lo ≤ g) (h : FL lo g vv ks k wa) (hb : Below wa.heap.size wa w1) (hx : In lo w1 (ks.getD k Nd.no) x (fun y => wa.heap.size ≤ y)) : FL lo g vv ks (k + 1) (w1.setCell ⟨g, 1 + k, none⟩ x) := by
  have hga := FL_lt h
  obtain ⟨c, D, h1, h2, h3, h4, h5, h6⟩ := h
  have b1 : w1.heap[g]? = some (.cells c 119 (0, 0)) := by rw [hb.block g hga]; exact h1
  have hch : Ch lo (· = g) w1 (w1.setCell ⟨g, 1 + k, none⟩ x) := ch_set x hlo b1
  have hx' := In_lt hx
  refine ⟨c.setIfInBounds (1 + k) x, fun j y => if j = k then (wa.heap.size ≤ y ∧ y < w1.heap.size) else D j y, heap_setCell_same b1 x, by simp [h2], by rw [getD_setIf _ _ _ _ (by omega), if_neg (by omega)]; exact h3, fun j hj => ?_, fun j y hj hy => ?_, fun i j y hi hj hy hz => ?_⟩
  · rw [getD_setIf _ _ _ _ (by omega)]
    by_cases e : j = k
    · subst e
      rw [if_pos (by omega)]
      simp only [if_true]
      exact In_ch hx' hch (fun y _ hy e => by have := hy.1; omega)
    · rw [if_neg (by omega)]
      simp only [if_neg e]
      exact In_ch (In_below (h4 j (by omega)) hb) hch (fun y _ hy e => by have := (h5 j y (by omega) hy).1; omega)
  · rw [setCell_size]
    by_cases e : j = k
    · simp only [if_pos e] at hy
      omega
    · simp only [if_neg e] at hy
      have := h5 j y (by omega) hy
      have := hb.size
      omega
  · by_cases e : i = k
    · by_cases e2 : j = k
      · omega
      · simp only [if_pos e, if_neg e2] at hy hz
        have := (h5 j y (by omega) hz).2
        omega
    · by_cases e2 : j = k
      · simp only [if_neg e, if_pos e2] at hy hz
        have := (h5 i y (by omega) hy).2
        omega
      · simp only [if_neg e, if_neg e2] at hy hz
        exact h6 i j y (by omega) (by omega) hy hz
theorem FL_start {lo g : Nat} {vv : Value} {ks : List Nd} {w : World} {c : Array Value} (h1 : w.heap[g]? = some (.cells c 119 (0, 0))) (h2 : c.size = 17) (h3 : c.getD 0 undef = vv) : FL lo g vv ks 0 w :=
  ⟨c, fun _ _ => False, h1, h2, h3, fun j hj => absurd hj (by omega), fun j x hj => absurd hj (by omega), fun i j x hi => absurd hi (by omega)⟩
theorem FL_in {lo g : Nat} {p v : By} {vv : Value} {ks : List Nd} {w : World} {B : Nat} (h : FL lo g vv ks 16 w) (hl : ks.length = 16) (hlo : lo ≤ g) (hv : Bs (Sb lo w) v vv w) (hB : B ≤ g) : In lo w (.mk 3 p v ks) (.iface 99 (.pointer (some ⟨g, 0, none⟩))) (fun x => B ≤ x) := by
  obtain ⟨c, D, h1, h2, h3, h4, h5, h6⟩ := h
  exact .fork p v ks g c _ D hl hlo h1 h2 hB (by rw [h3]; exact hv) h4 (fun j hj hg => by have := (h5 j g hj hg).1; omega) h6 (fun j x hj hx => by have := (h5 j x hj hx).1; omega)
theorem dec2 (n : Nat) : decide (2 ≤ n) = decide ((2 : Int) ≤ (n : Int)) := by
  rw [decide_eq_decide]; omega
theorem FL_cell {lo g : Nat} {vv : Value} {ks : List Nd} {k : Nat} {w : World} (h : FL lo g vv ks k w) {j : Nat} (hj : j < 16) : ∃ x, w.cell? ⟨g, 1 + j, none⟩ = some x := by
  obtain ⟨c, D, h1, h2, _⟩ := h
  exact ⟨_, cell_fork h1 (1 + j) (by omega)⟩
theorem FL_frozen {lo g : Nat} {vv : Value} {ks : List Nd} {k : Nat} {w : World} (h : FL lo g vv ks k w) (o : Nat) : w.frozen? ⟨g, o, none⟩ = false := by
  obtain ⟨c, D, h1, h2, _⟩ := h
  unfold World.frozen?
  simp [h1]
theorem all_no {okf : Nat → Bool} {k : Nat} {b : Bool} (hk : k < 16) (h : okf k = false) : ((List.range 16).all okf && b) = false := by
  rw [Bool.and_eq_false_iff]
  left
  rw [List.all_eq_false]
  exact ⟨k, List.mem_range.2 hk, by rw [h]; decide⟩
set_option maxHeartbeats 2000000 in
set_option maxRecDepth 100000 in
theorem rfork_ok (ap av : Option Addr) (np cp nv cv ck hh gk off : Nat) (w : World) (lo : Nat) (hlo : lo ≤ w.heap.size) (ks : List Nd) (vs : List V4) (p v : By) (hl : ks.length = 16) (hh6 : hh ≤ 64) (hnv : nv = v.length) (hmv : v = [] ∨ may v hh = true)
    (hv : Bs (· < lo) v (.slice av nv cv) w) (hgk : gk < w.heap.size)
    (hc : Hid (∀ j, j < 16 → w.cell? ⟨gk, off + 4 * j, none⟩ = some (vs.getD j n4).1 ∧ w.cell? ⟨gk, off + 4 * j + 1, none⟩ = some (vs.getD j n4).2.1 ∧ w.cell? ⟨gk, off + 4 * j + 2, none⟩ = some (vs.getD j n4).2.2.1 ∧ w.cell? ⟨gk, off + 4 * j + 3, none⟩ = some (vs.getD j n4).2.2.2))
    (okf : Nat → Bool) (hf : Hid (∀ j, j < 16 → ∃ k a1 n1 c1 a2 n2 c2 a3 n3 c3, vs.getD j n4 = (.int .i64 k, .slice a1 n1 c1, .slice a2 n2 c2, .slice a3 n3 c3)))
    (KR : Hid (∀ j, j < 16 → ∀ wx : World, Below w.heap.size w wx → Calls Tryd.prog 31 #[v4 (vs.getD j n4), .int .i64 ((hh + 1 : Nat) : Int)] wx fun e w' => ∃ x, e = .returned (.tuple #[x, .bool (okf j)]) ∧ (okf j = true → In lo w' (ks.getD j Nd.no) x (fun y => wx.heap.size ≤ y)) ∧ Below wx.heap.size wx w')) :
    Calls Tryd.prog 51 #[.agg #[.int .i64 3, .slice ap np cp, .slice av nv cv, .slice (some ⟨gk, off, none⟩) 16 ck], .int .i64 (hh : Int)] w fun e w' => ∃ x, e = .returned (.tuple #[.pointer x, .bool ((List.range 16).all okf && decide (2 ≤ pts v ks))]) ∧ (((List.range 16).all okf && decide (2 ≤ pts v ks)) = true → ∃ g, x = some ⟨g, 0, none⟩ ∧ In lo w' (.mk 3 p v ks) (.iface 99 (.pointer (some ⟨g, 0, none⟩))) (fun y => w.heap.size ≤ y)) ∧ Below w.heap.size w w' := by
  have HB : Below w.heap.size w (w.alloc (.cells #[.int .i64 3, .slice ap np cp, .slice av nv cv, .slice (some ⟨gk, off, none⟩) 16 ck] 32)) := (Below.refl _ _).alloc (Nat.le_refl _) _
  obtain ⟨hh0, q0, q1, q2, q3⟩ := Bx_new w (.int .i64 3, .slice ap np cp, .slice av nv cv, .slice (some ⟨gk, off, none⟩) 16 ck)
  dsimp only at q0 q1 q2 q3
  have d64 : decide ((64 : Int) < (hh : Int)) = false := decide_eq_false (by omega)
  have E1 : Hid (wrap64 ((hh : Int) + 1) = ((hh + 1 : Nat) : Int)) := by show _ = _; unfold wrap64; omega
  have KM : Hid (∀ wx : World, Calls Tryd.prog 49 #[.slice av nv cv, .int .i64 (hh : Int)] wx fun e w' => e = .returned (.bool (may v hh)) ∧ w' = wx) := fun wx => by
    subst hnv
    exact mayhave_any v hh av cv wx
  have hS1 : (w.alloc (.cells #[.int .i64 3, .slice ap np cp, .slice av nv cv, .slice (some ⟨gk, off, none⟩) 16 ck] 32)).heap.size = w.heap.size + 1 := by simp
  have HB2 : Hid (Below w.heap.size w ((w.alloc (.cells #[.int .i64 3, .slice ap np cp, .slice av nv cv, .slice (some ⟨gk, off, none⟩) 16 ck] 32)).alloc (.cells #[.slice av nv cv, .nilIface, .nilIface, .nilIface, .nilIface, .nilIface, .nilIface, .nilIface, .nilIface, .nilIface, .nilIface, .nilIface, .nilIface, .nilIface, .nilIface, .nilIface, .nilIface] 119))) := HB.alloc (by rw [hS1]; omega) _
  have HA := heap_alloc_new (w.alloc (.cells #[.int .i64 3, .slice ap np cp, .slice av nv cv, .slice (some ⟨gk, off, none⟩) 16 ck] 32)) (.cells #[.slice av nv cv, .nilIface, .nilIface, .nilIface, .nilIface, .nilIface, .nilIface, .nilIface, .nilIface, .nilIface, .nilIface, .nilIface, .nilIface, .nilIface, .nilIface, .nilIface, .nilIface] 119)
  rw [hS1] at HA
  have F0 : FL lo (w.heap.size + 1) (.slice av nv cv) ks 0 ((w.alloc (.cells #[.int .i64 3, .slice ap np cp, .slice av nv cv, .slice (some ⟨gk, off, none⟩) 16 ck] 32)).alloc (.cells #[.slice av nv cv, .nilIface, .nilIface, .nilIface, .nilIface, .nilIface, .nilIface, .nilIface, .nilIface, .nilIface, .nilIface, .nilIface, .nilIface, .nilIface, .nilIface, .nilIface, .nilIface] 119)) := FL_start HA rfl rfl
  have HV : Hid (Bs (· < lo) v (.slice av nv cv) w) := hv
  have HN : Hid (nv = v.length) := hnv
  have KP : Hid (∀ wx : World, FL lo (w.heap.size + 1) (.slice av nv cv) ks 16 wx → Calls Tryd.prog 65 #[.pointer (some ⟨w.heap.size + 1, 0, none⟩)] wx fun e w' => e = .returned (.int .i64 (pts v ks : Nat)) ∧ Below wx.heap.size wx w') := fun wx hF => by
    obtain ⟨c, D, h1, h2, h3, h4, h5, h6⟩ := hF
    exact parts_any v ks (w.heap.size + 1) c wx av cv hl h1 h2 (by rw [h3, hnv]) (fun j hj w2 => isnone_in (h4 j hj) w2)
  have HR : Hid (lo ≤ w.heap.size) := hlo
  have HL : Hid (ks.length = 16) := hl
  clear hv HA hnv hlo hl
  by_cases h0 : nv = 0
  · have dn : decide ((0 : Int) < (nv : Int)) = false := decide_eq_false (by omega)
    have dn' : decide (0 < nv) = false := decide_eq_false (by omega)
    clear h0 hmv KM
    go_enter Tryd.func51, Tryd.ntmps51
    go_wp2_with fail
    generalize (w.alloc (.cells #[.int .i64 3, .slice ap np cp, .slice av nv cv, .slice (some ⟨gk, off, none⟩) 16 ck] 32)).alloc (.cells #[.slice av nv cv, .nilIface, .nilIface, .nilIface, .nilIface, .nilIface, .nilIface, .nilIface, .nilIface, .nilIface, .nilIface, .nilIface, .nilIface, .nilIface, .nilIface, .nilIface, .nilIface] 119) = W1 at *
    clear q0 q1 q2 q3 hh0 HB hS1
    go_loopw [37] (fun i wr => ∃ k : Nat, k ≤ 16 ∧ i = .int .i64 (k : Int) ∧ FL lo (w.heap.size + 1) (.slice av nv cv) ks k wr ∧ Below w.heap.size w wr ∧ ∀ j, j < k → okf j = true) (fun i _ => ((16 : Int) - intOf i).toNat)
    case atStart => exact ⟨0, Nat.zero_le _, rfl, F0, HB2.out, fun j hj => absurd hj (by omega)⟩
    case round =>
      obtain ⟨k, hk, rfl, hF, hB, hok⟩ := hrel
      by_cases hlt : k < 16
      · have d1 : decide ((k : Int) < 16) = true := decide_eq_true (by omega)
        have d2 : (0 : Int) ≤ (k : Int) := by omega
        have d3 : (k : Int) < 16 := by omega
        obtain ⟨y0, y1, y2, y3⟩ := hc.out k hlt
        obtain ⟨kk, b1, m1, d1', b2, m2, d2', b3, m3, d3', eF⟩ := hf.out k hlt
        have KRk := KR.out k hlt
        rw [eF] at y0 y1 y2 y3 KRk
        dsimp only [v4] at y0 y1 y2 y3 KRk
        have ec : ((hh + 1 : Nat) : Int) = (hh : Int) + 1 := by omega
        rw [ec] at KRk
        clear ec
        have z0 := (hB.cell (p := ⟨gk, off + 4 * k, none⟩) hgk).trans y0
        have z1 := (hB.cell (p := ⟨gk, off + 4 * k + 1, none⟩) hgk).trans y1
        have z2 := (hB.cell (p := ⟨gk, off + 4 * k + 2, none⟩) hgk).trans y2
        have z3 := (hB.cell (p := ⟨gk, off + 4 * k + 3, none⟩) hgk).trans y3
        rw [Nat.mul_comm 4 k] at z0 z1 z2 z3
        have HK : Hid (∀ wx : World, Below w.heap.size w wx → Calls Tryd.prog 31 #[.agg #[.int .i64 kk, .slice b1 m1 d1', .slice b2 m2 d2', .slice b3 m3 d3'], .int .i64 ((hh : Int) + 1)] wx fun e w' => ∃ x, e = .returned (.tuple #[x, .bool (okf k)]) ∧ (okf k = true → In lo w' (ks.getD k Nd.no) x (fun y => wx.heap.size ≤ y)) ∧ Below wx.heap.size wx w') := KRk
        have E5 : Hid (wrap64 ((k : Int) + 1) = ((k + 1 : Nat) : Int)) := by show _ = _; unfold wrap64; omega
        have HFk : Hid (FL lo (w.heap.size + 1) (.slice av nv cv) ks k wr) := hF
        have bA : Below wr.heap.size wr (wr.alloc (.cells #[.int .i64 kk, .slice b1 m1 d1', .slice b2 m2 d2', .slice b3 m3 d3'] 32)) := (Below.refl _ _).alloc (Nat.le_refl _) _
        have HFa : Hid (FL lo (w.heap.size + 1) (.slice av nv cv) ks k (wr.alloc (.cells #[.int .i64 kk, .slice b1 m1 d1', .slice b2 m2 d2', .slice b3 m3 d3'] 32))) := FL_below hF bA
        have HBa : Hid (Below w.heap.size w (wr.alloc (.cells #[.int .i64 kk, .slice b1 m1 d1', .slice b2 m2 d2', .slice b3 m3 d3'] 32))) := hB.trans (bA.mono hB.size)
        have HOK : Hid (∀ j, j < k → okf j = true) := hok
        clear y0 y1 y2 y3 KRk eF hF hok bA hB
        go_wp2_with fail
        refine (HK.out _ HBa.out).mono ?_
        rintro e w1 ⟨x, rfl, hi, hb1⟩
        have HI : Hid (okf k = true → In lo w1 (ks.getD k Nd.no) x (fun y => (wr.alloc (.cells #[.int .i64 kk, .slice b1 m1 d1', .slice b2 m2 d2', .slice b3 m3 d3'] 32)).heap.size ≤ y)) := hi
        have HB1 : Hid (Below (wr.alloc (.cells #[.int .i64 kk, .slice b1 m1 d1', .slice b2 m2 d2', .slice b3 m3 d3'] 32)).heap.size (wr.alloc (.cells #[.int .i64 kk, .slice b1 m1 d1', .slice b2 m2 d2', .slice b3 m3 d3'] 32)) w1) := hb1
        clear hi hb1 HK z0 z1 z2 z3
        generalize (wr.alloc (.cells #[.int .i64 kk, .slice b1 m1 d1', .slice b2 m2 d2', .slice b3 m3 d3'] 32)) = wa at *
        have HZ : Hid (Below w.heap.size w w1) := HBa.out.trans (HB1.out.mono HBa.out.size)
        cases hkk : okf k with
        | false =>
          have HA : Hid (((List.range 16).all okf && decide (2 ≤ pts v ks)) = false) := all_no hlt hkk
          go_wp2_with fail
          go_ret2
          exact ⟨none, by rw [HA.out]; rfl, fun h => absurd (HA.out.symm.trans h) (by decide), HZ.out⟩
        | true =>
          obtain ⟨ty, y, rfl⟩ := In_form (HI.out hkk)
          have HS : Hid (FL lo (w.heap.size + 1) (.slice av nv cv) ks (k + 1) (w1.setCell ⟨w.heap.size + 1, 1 + k, none⟩ (.iface ty y))) := FL_step hlt (by have := HR.out; omega) HFa.out HB1.out (HI.out hkk)
          have HBs : Hid (Below w.heap.size w (w1.setCell ⟨w.heap.size + 1, 1 + k, none⟩ (.iface ty y))) := HZ.out.setCell (by dsimp only; omega) _
          obtain ⟨cc, hcc⟩ := FL_cell (FL_below HFa.out HB1.out) hlt
          have hz := FL_frozen (FL_below HFa.out HB1.out) (1 + k)
          go_wp2_with fail
          exact ⟨⟨k + 1, hlt, by rw [Int.natCast_succ], HS.out, HBs.out, fun j hj => by
            by_cases e : j = k
            · rw [e]; exact hkk
            · exact HOK.out j (by omega)⟩, by simp only [intOf]; omega⟩
      · have d1 : decide ((k : Int) < 16) = false := decide_eq_false (by omega)
        have ek : k = 16 := by omega
        subst ek
        have HFk : Hid (FL lo (w.heap.size + 1) (.slice av nv cv) ks 16 wr) := hF
        have HBk : Hid (Below w.heap.size w wr) := hB
        have HOK : Hid ((List.range 16).all okf = true) := List.all_eq_true.2 (fun j hj => hok j (List.mem_range.1 hj))
        clear hF hB hok d1
        go_wp2_with fail
        refine (KP.out _ HFk.out).mono ?_
        rintro e w1 ⟨rfl, hb1⟩
        have HF1 : Hid (FL lo (w.heap.size + 1) (.slice av nv cv) ks 16 w1) := FL_below HFk.out hb1
        have HZ : Hid (Below w.heap.size w w1) := HBk.out.trans (hb1.mono HBk.out.size)
        clear hb1
        go_wp2_with fail
        go_ret2
        exact ⟨some ⟨w.heap.size + 1, 0, none⟩, by rw [HOK.out, Bool.true_and, dec2]; rfl, fun _ => ⟨_, rfl, FL_in HF1.out HL.out (by have := HR.out; omega) (Bs_lo (Bs_below HV.out HZ.out)) (by omega)⟩, HZ.out⟩
  · have hm : may v hh = true := by
      rcases hmv with h | h
      · have := HN.out
        rw [h] at this
        exact absurd this h0
      · exact h
    rw [hm] at KM
    have dn : decide ((0 : Int) < (nv : Int)) = true := decide_eq_true (by omega)
    have dn' : decide (0 < nv) = true := decide_eq_true (by omega)
    clear h0 hmv hm
    go_enter Tryd.func51, Tryd.ntmps51
    go_wp2_with fail
    refine (KM.out _).mono ?_
    rintro e w1 ⟨rfl, rfl⟩
    go_wp2_with fail
    generalize (w.alloc (.cells #[.int .i64 3, .slice ap np cp, .slice av nv cv, .slice (some ⟨gk, off, none⟩) 16 ck] 32)).alloc (.cells #[.slice av nv cv, .nilIface, .nilIface, .nilIface, .nilIface, .nilIface, .nilIface, .nilIface, .nilIface, .nilIface, .nilIface, .nilIface, .nilIface, .nilIface, .nilIface, .nilIface, .nilIface] 119) = W1 at *
    clear q0 q1 q2 q3 hh0 HB hS1
    go_loopw [37] (fun i wr => ∃ k : Nat, k ≤ 16 ∧ i = .int .i64 (k : Int) ∧ FL lo (w.heap.size + 1) (.slice av nv cv) ks k wr ∧ Below w.heap.size w wr ∧ ∀ j, j < k → okf j = true) (fun i _ => ((16 : Int) - intOf i).toNat)
    case atStart => exact ⟨0, Nat.zero_le _, rfl, F0, HB2.out, fun j hj => absurd hj (by omega)⟩
    case round =>
      obtain ⟨k, hk, rfl, hF, hB, hok⟩ := hrel
      by_cases hlt : k < 16
      · have d1 : decide ((k : Int) < 16) = true := decide_eq_true (by omega)
        have d2 : (0 : Int) ≤ (k : Int) := by omega
        have d3 : (k : Int) < 16 := by omega
        obtain ⟨y0, y1, y2, y3⟩ := hc.out k hlt
        obtain ⟨kk, b1, m1, d1', b2, m2, d2', b3, m3, d3', eF⟩ := hf.out k hlt
        have KRk := KR.out k hlt
        rw [eF] at y0 y1 y2 y3 KRk
        dsimp only [v4] at y0 y1 y2 y3 KRk
        have ec : ((hh + 1 : Nat) : Int) = (hh : Int) + 1 := by omega
        rw [ec] at KRk
        clear ec
        have z0 := (hB.cell (p := ⟨gk, off + 4 * k, none⟩) hgk).trans y0
        have z1 := (hB.cell (p := ⟨gk, off + 4 * k + 1, none⟩) hgk).trans y1
        have z2 := (hB.cell (p := ⟨gk, off + 4 * k + 2, none⟩) hgk).trans y2
        have z3 := (hB.cell (p := ⟨gk, off + 4 * k + 3, none⟩) hgk).trans y3
        rw [Nat.mul_comm 4 k] at z0 z1 z2 z3
        have HK : Hid (∀ wx : World, Below w.heap.size w wx → Calls Tryd.prog 31 #[.agg #[.int .i64 kk, .slice b1 m1 d1', .slice b2 m2 d2', .slice b3 m3 d3'], .int .i64 ((hh : Int) + 1)] wx fun e w' => ∃ x, e = .returned (.tuple #[x, .bool (okf k)]) ∧ (okf k = true → In lo w' (ks.getD k Nd.no) x (fun y => wx.heap.size ≤ y)) ∧ Below wx.heap.size wx w') := KRk
        have E5 : Hid (wrap64 ((k : Int) + 1) = ((k + 1 : Nat) : Int)) := by show _ = _; unfold wrap64; omega
        have HFk : Hid (FL lo (w.heap.size + 1) (.slice av nv cv) ks k wr) := hF
        have bA : Below wr.heap.size wr (wr.alloc (.cells #[.int .i64 kk, .slice b1 m1 d1', .slice b2 m2 d2', .slice b3 m3 d3'] 32)) := (Below.refl _ _).alloc (Nat.le_refl _) _
        have HFa : Hid (FL lo (w.heap.size + 1) (.slice av nv cv) ks k (wr.alloc (.cells #[.int .i64 kk, .slice b1 m1 d1', .slice b2 m2 d2', .slice b3 m3 d3'] 32))) := FL_below hF bA
        have HBa : Hid (Below w.heap.size w (wr.alloc (.cells #[.int .i64 kk, .slice b1 m1 d1', .slice b2 m2 d2', .slice b3 m3 d3'] 32))) := hB.trans (bA.mono hB.size)
        have HOK : Hid (∀ j, j < k → okf j = true) := hok
        clear y0 y1 y2 y3 KRk eF hF hok bA hB
        go_wp2_with fail
        refine (HK.out _ HBa.out).mono ?_
        rintro e w1 ⟨x, rfl, hi, hb1⟩
        have HI : Hid (okf k = true → In lo w1 (ks.getD k Nd.no) x (fun y => (wr.alloc (.cells #[.int .i64 kk, .slice b1 m1 d1', .slice b2 m2 d2', .slice b3 m3 d3'] 32)).heap.size ≤ y)) := hi
        have HB1 : Hid (Below (wr.alloc (.cells #[.int .i64 kk, .slice b1 m1 d1', .slice b2 m2 d2', .slice b3 m3 d3'] 32)).heap.size (wr.alloc (.cells #[.int .i64 kk, .slice b1 m1 d1', .slice b2 m2 d2', .slice b3 m3 d3'] 32)) w1) := hb1
        clear hi hb1 HK z0 z1 z2 z3
        generalize (wr.alloc (.cells #[.int .i64 kk, .slice b1 m1 d1', .slice b2 m2 d2', .slice b3 m3 d3'] 32)) = wa at *
        have HZ : Hid (Below w.heap.size w w1) := HBa.out.trans (HB1.out.mono HBa.out.size)
        cases hkk : okf k with
        | false =>
          have HA : Hid (((List.range 16).all okf && decide (2 ≤ pts v ks)) = false) := all_no hlt hkk
          go_wp2_with fail
          go_ret2
          exact ⟨none, by rw [HA.out]; rfl, fun h => absurd (HA.out.symm.trans h) (by decide), HZ.out⟩
        | true =>
          obtain ⟨ty, y, rfl⟩ := In_form (HI.out hkk)
          have HS : Hid (FL lo (w.heap.size + 1) (.slice av nv cv) ks (k + 1) (w1.setCell ⟨w.heap.size + 1, 1 + k, none⟩ (.iface ty y))) := FL_step hlt (by have := HR.out; omega) HFa.out HB1.out (HI.out hkk)
          have HBs : Hid (Below w.heap.size w (w1.setCell ⟨w.heap.size + 1, 1 + k, none⟩ (.iface ty y))) := HZ.out.setCell (by dsimp only; omega) _
          obtain ⟨cc, hcc⟩ := FL_cell (FL_below HFa.out HB1.out) hlt
          have hz := FL_frozen (FL_below HFa.out HB1.out) (1 + k)
          go_wp2_with fail
          exact ⟨⟨k + 1, hlt, by rw [Int.natCast_succ], HS.out, HBs.out, fun j hj => by
            by_cases e : j = k
            · rw [e]; exact hkk
            · exact HOK.out j (by omega)⟩, by simp only [intOf]; omega⟩
      · have d1 : decide ((k : Int) < 16) = false := decide_eq_false (by omega)
        have ek : k = 16 := by omega
        subst ek
        have HFk : Hid (FL lo (w.heap.size + 1) (.slice av nv cv) ks 16 wr) := hF
        have HBk : Hid (Below w.heap.size w wr) := hB
        have HOK : Hid ((List.range 16).all okf = true) := List.all_eq_true.2 (fun j hj => hok j (List.mem_range.1 hj))
        clear hF hB hok d1
        go_wp2_with fail
        refine (KP.out _ HFk.out).mono ?_
        rintro e w1 ⟨rfl, hb1⟩
        have HF1 : Hid (FL lo (w.heap.size + 1) (.slice av nv cv) ks 16 w1) := FL_below HFk.out hb1
        have HZ : Hid (Below w.heap.size w w1) := HBk.out.trans (hb1.mono HBk.out.size)
        clear hb1
        go_wp2_with fail
        go_ret2
        exact ⟨some ⟨w.heap.size + 1, 0, none⟩, by rw [HOK.out, Bool.true_and, dec2]; rfl, fun _ => ⟨_, rfl, FL_in HF1.out HL.out (by have := HR.out; omega) (Bs_lo (Bs_below HV.out HZ.out)) (by omega)⟩, HZ.out⟩
set_option maxHeartbeats 2000000 in
set_option maxRecDepth 100000 in
theorem rfork_deep (ap av ak : Option Addr) (np cp nv cv nk ck hh : Nat) (w : World) (h : 64 < hh) :
    Calls Tryd.prog 51 #[.agg #[.int .i64 3, .slice ap np cp, .slice av nv cv, .slice ak nk ck], .int .i64 (hh : Int)] w fun e w' => e = .returned (.tuple #[.pointer none, .bool false]) ∧ Below w.heap.size w w' := by
  have HB : Hid (Below w.heap.size w (w.alloc (.cells #[.int .i64 3, .slice ap np cp, .slice av nv cv, .slice ak nk ck] 32))) := (Below.refl _ _).alloc (Nat.le_refl _) _
  obtain ⟨hh0, q0, q1, q2, q3⟩ := Bx_new w (.int .i64 3, .slice ap np cp, .slice av nv cv, .slice ak nk ck)
  dsimp only at q0 q1 q2 q3
  have d64 : decide ((64 : Int) < (hh : Int)) = true := decide_eq_true (by omega)
  go_enter Tryd.func51, Tryd.ntmps51
  go_wp2_with fail
  go_ret2
  exact ⟨rfl, HB.out⟩
set_option maxHeartbeats 2000000 in
set_option maxRecDepth 100000 in
theorem rfork_kids (ap av ak : Option Addr) (np cp nv cv nk ck hh : Nat) (w : World) (h : hh ≤ 64) (hk : nk ≠ 16) :
    Calls Tryd.prog 51 #[.agg #[.int .i64 3, .slice ap np cp, .slice av nv cv, .slice ak nk ck], .int .i64 (hh : Int)] w fun e w' => e = .returned (.tuple #[.pointer none, .bool false]) ∧ Below w.heap.size w w' := by
  have HB : Hid (Below w.heap.size w (w.alloc (.cells #[.int .i64 3, .slice ap np cp, .slice av nv cv, .slice ak nk ck] 32))) := (Below.refl _ _).alloc (Nat.le_refl _) _
  obtain ⟨hh0, q0, q1, q2, q3⟩ := Bx_new w (.int .i64 3, .slice ap np cp, .slice av nv cv, .slice ak nk ck)
  dsimp only at q0 q1 q2 q3
  have d64 : decide ((64 : Int) < (hh : Int)) = false := decide_eq_false (by omega)
  have e3 : ((nk : Int) != 16) = true := bne_iff_ne.2 (by omega)
  have e4 : (nk != 16) = true := bne_iff_ne.2 hk
  clear hk
  go_enter Tryd.func51, Tryd.ntmps51
  go_wp2_with fail
  go_ret2
  exact ⟨rfl, HB.out⟩
set_option maxHeartbeats 2000000 in
set_option maxRecDepth 100000 in
theorem rfork_value (ap av ak : Option Addr) (np cp nv cv nk ck hh : Nat) (w : World) (h : hh ≤ 64) (hk : nk = 16) (v : By) (hnv : nv = v.length) (h0 : v ≠ []) (hm : may v hh = false) :
    Calls Tryd.prog 51 #[.agg #[.int .i64 3, .slice ap np cp, .slice av nv cv, .slice ak nk ck], .int .i64 (hh : Int)] w fun e w' => e = .returned (.tuple #[.pointer none, .bool false]) ∧ Below w.heap.size w w' := by
  have HB : Hid (Below w.heap.size w (w.alloc (.cells #[.int .i64 3, .slice ap np cp, .slice av nv cv, .slice ak nk ck] 32))) := (Below.refl _ _).alloc (Nat.le_refl _) _
  obtain ⟨hh0, q0, q1, q2, q3⟩ := Bx_new w (.int .i64 3, .slice ap np cp, .slice av nv cv, .slice ak nk ck)
  dsimp only at q0 q1 q2 q3
  have d64 : decide ((64 : Int) < (hh : Int)) = false := decide_eq_false (by omega)
  subst hk
  have KM : Hid (∀ wx : World, Calls Tryd.prog 49 #[.slice av nv cv, .int .i64 (hh : Int)] wx fun e w' => e = .returned (.bool false) ∧ w' = wx) := fun wx => by
    subst hnv
    rw [← hm]
    exact mayhave_any v hh av cv wx
  have h1 : 0 < nv := by rw [hnv]; exact List.length_pos_iff.2 h0
  have dn : decide ((0 : Int) < (nv : Int)) = true := decide_eq_true (by omega)
  have dn' : decide (0 < nv) = true := decide_eq_true h1
  clear hnv h1
  go_enter Tryd.func51, Tryd.ntmps51
  go_wp2_with fail
  refine (KM.out _).mono ?_
  rintro e w1 ⟨rfl, rfl⟩
  go_wp2_with fail
  go_ret2
  exact ⟨rfl, HB.out⟩
end Tr
end Go.Proofs.YtefgamhnikeekaaDoor
namespace Go.Proofs.YtefgamhnikeekaaDoor
namespace Tr
open Nb Go.RowKit
def RP (lo h : Nat) (t : Nd) (w : World) (e : Ending) (w' : World) : Prop := ∃ x, e = .returned (.tuple #[x, .bool (rd h t)]) ∧ (rd h t = true → In lo w' t x (fun y => w.heap.size ≤ y)) ∧ Below w.heap.size w w'
def FP (lo h : Nat) (t : Nd) (w : World) (e : Ending) (w' : World) : Prop := ∃ x, e = .returned (.tuple #[.pointer x, .bool (rd h t)]) ∧ (rd h t = true → ∃ g, x = some ⟨g, 0, none⟩ ∧ In lo w' t (.iface 99 (.pointer (some ⟨g, 0, none⟩))) (fun y => w.heap.size ≤ y)) ∧ Below w.heap.size w w'
theorem rda_range (ks : List Nd) (h : Nat) (hl : ks.length = 16) : rda h ks = (List.range 16).all (fun j => rd h (ks.getD j Nd.no)) := by
  rw [Bool.eq_iff_iff, rda_iff, List.all_eq_true, hl]
  constructor
  · intro hh j hj; exact hh j (List.mem_range.1 hj)
  · intro hh j hj; exact hh j (List.mem_range.2 hj)
theorem rd_three (h : Nat) (p v : By) (ks : List Nd) : rd h (.mk 3 p v ks) = (decide (h ≤ 64) && decide (ks.length = 16) && (decide (v = []) || may v h) && rda (h + 1) ks && decide (2 ≤ pts v ks)) := by
  rw [rd, if_neg (by decide), if_neg (by decide), if_neg (by decide), if_pos rfl]
theorem rd_two (h : Nat) (p v : By) (ks : List Nd) : rd h (.mk 2 p v ks) = (decide (p ≠ []) && ptb p && decide (ks.length = 1) && rd1 (h + p.length) ks) := by
  rw [rd, if_neg (by decide), if_neg (by decide), if_pos rfl]
theorem rd_one (h : Nat) (p v : By) (ks : List Nd) : rd h (.mk 1 p v ks) = (ptb p && may v (h + p.length)) := by
  rw [rd, if_neg (by decide), if_pos rfl]
theorem rd_zero (h : Nat) (p v : By) (ks : List Nd) : rd h (.mk 0 p v ks) = true := by
  rw [rd, if_pos rfl]
theorem rd_else (h : Nat) (k : Int) (p v : By) (ks : List Nd) (h0 : k ≠ 0) (h1 : k ≠ 1) (h2 : k ≠ 2) (h3 : k ≠ 3) : rd h (.mk k p v ks) = false := by
  rw [rd, if_neg h0, if_neg h1, if_neg h2, if_neg h3]
theorem fp_bad {lo h : Nat} {t : Nd} {w : World} (hr : rd h t = false) {f : FuncId} {a : Array Value} (hc : Calls Tryd.prog f a w fun e w' => e = .returned (.tuple #[.pointer none, .bool false]) ∧ Below w.heap.size w w') : Calls Tryd.prog f a w (FP lo h t w) :=
  hc.mono fun e w' he => ⟨none, by rw [hr]; exact he.1, fun hh => absurd (hr.symm.trans hh) (by decide), he.2⟩
theorem rp_bad {lo h : Nat} {t : Nd} {w : World} (hr : rd h t = false) {f : FuncId} {a : Array Value} (hc : Calls Tryd.prog f a w fun e w' => (∃ x, e = .returned (.tuple #[x, .bool false])) ∧ Below w.heap.size w w') : Calls Tryd.prog f a w (RP lo h t w) :=
  hc.mono fun e w' ⟨⟨x, h1⟩, h2⟩ => ⟨x, by rw [hr]; exact h1, fun hh => absurd (hr.symm.trans hh) (by decide), h2⟩
theorem wn_kid {k : Int} {p v : By} {ks : List Nd} {j N : Nat} (h : wn (.mk k p v ks) ≤ N) (hj : j < ks.length) : wn (ks.getD j Nd.no) ≤ N := by
  have := wnk_one ks j hj
  unfold wn at h
  omega
theorem rfork_all (lo h : Nat) (p v : By) (ks : List Nd) (u : V4) (w : World) (hu : Nv (· < lo) w (.mk 3 p v ks) u) (hlo : lo ≤ w.heap.size)
    (KR : ∀ j, j < ks.length → h ≤ 64 → ∀ (x : V4) (wx : World), Nv (· < lo) wx (ks.getD j Nd.no) x → lo ≤ wx.heap.size → Calls Tryd.prog 31 #[v4 x, .int .i64 ((h + 1 : Nat) : Int)] wx (RP lo (h + 1) (ks.getD j Nd.no) wx)) :
    Calls Tryd.prog 51 #[v4 u, .int .i64 (h : Int)] w (FP lo h (.mk 3 p v ks) w) := by
  cases hu with
  | mk _ _ _ _ pv vv kv vs hp hv hl hk hi =>
    have hv' := hv
    obtain ⟨a1, c1, rfl, -, -⟩ := hp
    obtain ⟨a2, c2, rfl, -, -⟩ := hv
    obtain ⟨a3, c3, rfl, -, hq⟩ := hk
    show Calls Tryd.prog _ #[.agg #[.int .i64 3, _, _, _], _] w _
    by_cases h64 : h ≤ 64
    case neg =>
      exact fp_bad (by rw [rd_three, decide_eq_false h64]; simp) (rfork_deep a1 a2 a3 _ c1 _ c2 _ c3 h w (by omega))
    by_cases h16 : ks.length = 16
    case neg =>
      exact fp_bad (by rw [rd_three, decide_eq_false h16]; simp) (rfork_kids a1 a2 a3 _ c1 _ c2 _ c3 h w h64 (by omega))
    by_cases hmv : v = [] ∨ may v h = true
    case neg =>
      have h1 : v ≠ [] := fun e => hmv (.inl e)
      have h2 : may v h = false := by cases e : may v h with | false => rfl | true => exact absurd (.inr e) hmv
      exact fp_bad (by rw [rd_three, decide_eq_false h1, h2]; simp) (rfork_value a1 a2 a3 _ c1 _ c2 _ c3 h w h64 (by omega) v rfl h1 h2)
    obtain ⟨gk, off, rfl, hgl, hgk, hc⟩ := hq (by omega)
    have er : rd h (.mk 3 p v ks) = ((List.range 16).all (fun j => rd (h + 1) (ks.getD j Nd.no)) && decide (2 ≤ pts v ks)) := by
      rw [rd_three, decide_eq_true h64, decide_eq_true h16, ← rda_range ks _ h16]
      have : (decide (v = []) || may v h) = true := by
        rcases hmv with e | e
        · rw [decide_eq_true e]; rfl
        · rw [e]; simp
      rw [this]
      simp
    have el : vs.length = 16 := by omega
    rw [el]
    refine (rfork_ok a1 a2 _ c1 _ c2 c3 h gk off w lo hlo ks vs p v h16 h64 rfl hmv hv' hgk (fun j hj => hc j (by omega)) (fun j => rd (h + 1) (ks.getD j Nd.no)) (fun j hj => Nv_form (hi j (by omega))) ?_).mono fun e w' he => ?_
    · intro j hj wx hb
      refine (KR j (by omega) h64 _ wx (Nv_below (hi j (by omega)) hb) (Nat.le_trans hlo hb.size)).mono fun e w' he => ?_
      exact he
    · unfold FP
      rw [er]
      exact he
theorem read_all (lo : Nat) {t : Nd} (ht : Wf t) :
    (∀ (h : Nat) (u : V4) (w : World), h ≤ 65 → Nv (· < lo) w t u → lo ≤ w.heap.size → wn t ≤ 4194304 → Calls Tryd.prog 31 #[v4 u, .int .i64 (h : Int)] w (RP lo h t w)) ∧
    (t.kind = 3 → ∀ (h : Nat) (u : V4) (w : World), Nv (· < lo) w t u → lo ≤ w.heap.size → wn t ≤ 4194304 → Calls Tryd.prog 51 #[v4 u, .int .i64 (h : Int)] w (FP lo h t w)) := by
  induction ht with
  | mk k p v ks _ ih =>
    have HF : k = 3 → ∀ (h : Nat) (u : V4) (w : World), Nv (· < lo) w (.mk k p v ks) u → lo ≤ w.heap.size → wn (.mk k p v ks) ≤ 4194304 → Calls Tryd.prog 51 #[v4 u, .int .i64 (h : Int)] w (FP lo h (.mk k p v ks) w) := by
      intro hk h u w hu hlo hw
      subst hk
      exact rfork_all lo h p v ks u w hu hlo (fun j hj h64 x wx hx hl => (ih j hj).1 (h + 1) x wx (by omega) hx hl (wn_kid hw hj))
    refine ⟨fun h u w h65 hu hlo hw => ?_, HF⟩
    have hu' := hu
    cases hu with
    | mk _ _ _ _ pv vv kv vs hp hv hl hk hi =>
      have hp' := hp
      have hv' := hv
      have sp := Bs_sl hp
      obtain ⟨a1, c1, rfl, -, -⟩ := hp
      obtain ⟨a2, c2, rfl, -, -⟩ := hv
      obtain ⟨a3, c3, rfl, -, hq⟩ := hk
      have hz : p.length ≤ 4194304 := by unfold wn at hw; omega
      obtain ⟨ax, cx, ex, -, vw⟩ := sp
      injection ex with e1 e2 e3
      subst e1
      by_cases k0 : k = 0
      · subst k0
        refine (read_none a1 a2 a3 _ c1 _ c2 _ c3 h w).mono fun e w' he => ⟨_, by rw [rd_zero]; exact he.1, fun _ => .none p v ks _, he.2⟩
      by_cases k1 : k = 1
      · subst k1
        cases hpt : ptb p with
        | true =>
          refine (read_leaf_ok a1 a2 a3 _ c1 _ c2 _ c3 h w p v rfl hz rfl (by omega) vw hpt).mono fun e w' he => ⟨_, by rw [rd_one, hpt, Bool.true_and]; exact he.1, fun _ => ?_, he.2⟩
          exact .leaf p v ks _ _ _ (Bs_lo (Bs_below hp' he.2)) (Bs_lo (Bs_below hv' he.2))
        | false => exact rp_bad (by rw [rd_one, hpt]; rfl) ((read_leaf_no a1 a2 a3 _ c1 _ c2 _ c3 h w p v rfl hz rfl (by omega) vw hpt).mono fun e w' he => ⟨⟨_, he.1⟩, he.2⟩)
      by_cases k2 : k = 2
      · subst k2
        show Calls Tryd.prog _ #[.agg #[.int .i64 2, _, _, _], _] w _
        refine read_road a1 a2 a3 _ c1 _ c2 _ c3 h w (rd h (.mk 2 p v ks)) (fun x w' => rd h (.mk 2 p v ks) = true → In lo w' (.mk 2 p v ks) x (fun y => w.heap.size ≤ y)) ?_
        intro wx hbx
        have vwx := Sp.Vw_below vw hbx
        have key : Calls Tryd.prog 50 #[.agg #[.int .i64 2, .slice a1 p.length c1, .slice a2 v.length c2, .slice a3 vs.length c3], .int .i64 (h : Int)] wx (RP lo h (.mk 2 p v ks) wx) := by
          by_cases p0 : p = []
          · subst p0
            exact rp_bad (by rw [rd_two]; simp) (rroad_empty a1 a2 a3 c1 _ c2 _ c3 h wx)
          have hp0 : 0 < p.length := List.length_pos_iff.2 p0
          cases hpt : ptb p with
          | false => exact rp_bad (by rw [rd_two, hpt]; simp) (rroad_path a1 a2 a3 _ c1 _ c2 _ c3 h wx p rfl hz hp0 vwx hpt)
          | true =>
            by_cases hk1 : ks.length = 1
            case neg => exact rp_bad (by rw [rd_two, decide_eq_false hk1]; simp) (rroad_kids a1 a2 a3 _ c1 _ c2 _ c3 h wx p rfl hz hp0 vwx hpt (by omega))
            obtain ⟨t, rfl⟩ := List.length_eq_one_iff.1 hk1
            have el : vs.length = 1 := hl
            obtain ⟨gk, off, rfl, hgl, hgk, hc⟩ := hq (by omega)
            obtain ⟨y0, y1, y2, y3⟩ := hc 0 (by omega)
            have hn := hi 0 (by simp)
            rw [List.getD_cons_zero] at hn
            obtain ⟨kk, b1, m1, d1, b2, m2, d2, b3, m3, d3, eF⟩ := Nv_form hn
            rw [eF] at y0 y1 y2 y3
            simp only [Nat.mul_zero, Nat.add_zero] at y0 y1 y2 y3
            have z0 := (hbx.cell (p := ⟨gk, off, none⟩) hgk).trans y0
            have z1 := (hbx.cell (p := ⟨gk, off + 1, none⟩) hgk).trans y1
            have z2 := (hbx.cell (p := ⟨gk, off + 2, none⟩) hgk).trans y2
            have z3 := (hbx.cell (p := ⟨gk, off + 3, none⟩) hgk).trans y3
            have hgx : gk < wx.heap.size := Nat.lt_of_lt_of_le hgk hbx.size
            have ekk : t.kind = kk := by
              rw [eF] at hn
              cases hn
              rfl
            rw [el]
            by_cases hkk : kk = 3
            case neg => exact rp_bad (by rw [rd_two, rd1, decide_eq_false (show ¬ t.kind = 3 by rw [ekk]; exact hkk)]; simp) (rroad_kind a1 a2 _ c1 _ c2 c3 h gk off wx p rfl hz hp0 vwx hpt kk hgx z0 hkk)
            subst hkk
            have er : rd h (.mk 2 p v [t]) = rd (h + p.length) t := by
              rw [rd_two, rd1, hpt, decide_eq_true (show p ≠ [] from p0), decide_eq_true ekk]
              simp
            have GBt : ∀ (x : Option Addr) (w1 w2 : World), (rd (h + p.length) t = true → ∃ g, x = some ⟨g, 0, none⟩ ∧ In lo w1 t (.iface 99 (.pointer (some ⟨g, 0, none⟩))) (fun y => wx.heap.size ≤ y)) → Below w1.heap.size w1 w2 → rd (h + p.length) t = true → ∃ g, x = some ⟨g, 0, none⟩ ∧ In lo w2 t (.iface 99 (.pointer (some ⟨g, 0, none⟩))) (fun y => wx.heap.size ≤ y) := fun x w1 w2 hx hb hr => by
              obtain ⟨g, h1, h2⟩ := hx hr
              exact ⟨g, h1, In_below h2 hb⟩
            have KF := (ih 0 (by simp)).2
            rw [List.getD_cons_zero] at KF
            refine (rroad_fork a1 a2 _ c1 _ c2 c3 h gk off wx p rfl hz hp0 vwx hpt (by omega) b1 b2 b3 m1 d1 m2 d2 m3 d3 hgx z0 z1 z2 z3 (rd (h + p.length) t) _ GBt ?_).mono fun e w' he => ?_
            · intro wy hby
              have hn2 : Nv (· < lo) wy t (.int .i64 3, .slice b1 m1 d1, .slice b2 m2 d2, .slice b3 m3 d3) := by
                rw [eF] at hn
                exact Nv_below (Nv_below hn hbx) hby
              refine (KF ekk (h + p.length) _ wy hn2 (Nat.le_trans hlo (Nat.le_trans hbx.size hby.size)) (by have := wn_kid (j := 0) hw (by simp); rwa [List.getD_cons_zero] at this)).mono fun e w' he => ?_
              obtain ⟨x, h1, h2, h3⟩ := he
              refine ⟨x, h1, fun hr => ?_, h3⟩
              obtain ⟨g, h4, h5⟩ := h2 hr
              exact ⟨g, h4, In_mono h5 (fun y hy => Nat.le_trans hby.size hy)⟩
            · obtain ⟨x, h1, h2, h3⟩ := he
              refine ⟨_, by rw [er]; exact h1, fun hr => ?_, h3⟩
              rw [er] at hr
              obtain ⟨g, rfl, h5⟩ := h2 hr
              exact .road p v t _ g _ (Bs_lo (Bs_below (Bs_below hp' hbx) h3)) h5
        refine key.mono fun e w' he => ?_
        obtain ⟨x, h1, h2, h3⟩ := he
        exact ⟨x, h1, fun hr => In_mono (h2 hr) (fun y hy => Nat.le_trans hbx.size hy), h3⟩
      by_cases k3 : k = 3
      · subst k3
        show Calls Tryd.prog _ #[.agg #[.int .i64 3, _, _, _], _] w _
        refine (read_fork a1 a2 a3 _ c1 _ c2 _ c3 h w (rd h (.mk 3 p v ks)) (fun x w' => rd h (.mk 3 p v ks) = true → ∃ g, x = some ⟨g, 0, none⟩ ∧ In lo w' (.mk 3 p v ks) (.iface 99 (.pointer (some ⟨g, 0, none⟩))) (fun y => w.heap.size ≤ y)) ?_).mono fun e w' he => ?_
        · intro wx hbx
          refine (HF rfl h _ wx (Nv_below hu' hbx) (Nat.le_trans hlo hbx.size) hw).mono fun e w' he => ?_
          obtain ⟨x, h1, h2, h3⟩ := he
          refine ⟨x, h1, fun hr => ?_, h3⟩
          obtain ⟨g, h4, h5⟩ := h2 hr
          exact ⟨g, h4, In_mono h5 (fun y hy => Nat.le_trans hbx.size hy)⟩
        · obtain ⟨x, h1, h2, h3⟩ := he
          refine ⟨_, h1, fun hr => ?_, h3⟩
          obtain ⟨g, rfl, h5⟩ := h2 hr
          exact h5
      · exact rp_bad (rd_else h k p v ks k0 k1 k2 k3) ((read_other k a1 a2 a3 _ c1 _ c2 _ c3 h w k0 k1 k2 k3).mono fun e w' he => ⟨⟨_, he.1⟩, he.2⟩)
end Tr
end Go.Proofs.YtefgamhnikeekaaDoor
namespace Go.Proofs.YtefgamhnikeekaaDoor
namespace Tr
open Nb Go.RowKit
structure NB (h : Nat) (u : V4) (t : Nd) (lo : Nat) (W wx : World) : Prop where
  bx : Bx h u wx
  n : Nv (· < lo) wx t u
  l : lo ≤ wx.heap.size
  b : Below W.heap.size W wx
theorem NB_new {u : V4} {t : Nd} {lo : Nat} {w : World} (hn : Nv (· < lo) w t u) (hl : lo ≤ w.heap.size) : NB w.heap.size u t lo w (w.alloc (.cells #[u.1, u.2.1, u.2.2.1, u.2.2.2] 32)) := by
  have b : Below w.heap.size w (w.alloc (.cells #[u.1, u.2.1, u.2.2.1, u.2.2.2] 32)) := (Below.refl _ _).alloc (Nat.le_refl _) _
  exact ⟨Bx_new w u, Nv_below hn b, Nat.le_trans hl b.size, b⟩
set_option maxHeartbeats 1000000 in
set_option maxRecDepth 100000 in
theorem right_any (t : Nd) (lo : Nat) (x : V4) (w : World) (hx : Nv (· < lo) w t x) (hlo : lo ≤ w.heap.size) (hw : wn t ≤ 4194304) :
    Calls Tryd.prog 16 #[v4 x] w fun e w' => e = .returned (.bool (rd 0 t)) ∧ Below w.heap.size w w' := by
  obtain ⟨k, a1, n1, c1, a2, m2, c2, a3, n3, c3, rfl⟩ := Nv_form hx
  have N0 := NB_new hx hlo
  obtain ⟨_, q0, q1, q2, q3⟩ := N0.bx
  dsimp only at q0 q1 q2 q3
  have KR : Hid (∀ wx : World, NB w.heap.size (.int .i64 k, .slice a1 n1 c1, .slice a2 m2 c2, .slice a3 n3 c3) t lo w wx → Calls Tryd.prog 31 #[.agg #[.int .i64 k, .slice a1 n1 c1, .slice a2 m2 c2, .slice a3 n3 c3], .int .i64 0] wx fun e w' => ∃ y, e = .returned (.tuple #[y, .bool (rd 0 t)]) ∧ Below wx.heap.size wx w') := fun wx hn => by
    refine ((read_all lo (wf_any t)).1 0 (.int .i64 k, .slice a1 n1 c1, .slice a2 m2 c2, .slice a3 n3 c3) wx (by omega) hn.n hn.l hw).mono fun e w' he => ?_
    obtain ⟨y, h1, _, h3⟩ := he
    exact ⟨y, h1, h3⟩
  have HN : Hid (NB w.heap.size (.int .i64 k, .slice a1 n1 c1, .slice a2 m2 c2, .slice a3 n3 c3) t lo w (w.alloc (.cells #[.int .i64 k, .slice a1 n1 c1, .slice a2 m2 c2, .slice a3 n3 c3] 32))) := N0
  clear N0 hx hlo hw
  show Calls Tryd.prog _ #[.agg #[.int .i64 k, .slice a1 n1 c1, .slice a2 m2 c2, .slice a3 n3 c3]] w _
  generalize rd 0 t = r at *
  go_enter Tryd.func16, Tryd.ntmps16
  go_wp2_with fail
  refine (KR.out _ HN.out).mono ?_
  rintro e w1 ⟨y, rfl, hb1⟩
  have HZ : Hid (Below w.heap.size w w1) := HN.out.b.trans (hb1.mono HN.out.b.size)
  clear hb1
  go_wp2_with fail
  go_ret
  exact ⟨rfl, HZ.out⟩
end Tr
end Go.Proofs.YtefgamhnikeekaaDoor
namespace Go.Proofs.YtefgamhnikeekaaDoor
namespace Rt
open Nb Sp Pk Rs Go.RowKit
theorem right_hr {t : Nd} (h : Tr.Right t) : Hr t := ⟨h.1, fun q => by
  by_cases e : Tr.gt t q = []
  · rw [e]; simp
  · have := h.2 q e
    unfold Tr.Okr at this
    simp at this
    omega⟩
theorem rd_gr (t : Nd) : Tr.rd 0 t = Tr.gr t := by
  rw [Bool.eq_iff_iff, Tr.rd_right, Tr.gr_right]
theorem fr2_new {wx W w' : World} {o : Obj} (hW : W = wx.alloc o) (f : Fr2 W w' wx.heap.size none) : Below wx.heap.size wx w' := by
  have hb : Below wx.heap.size wx W := hW ▸ (Below.refl _ _).alloc (Nat.le_refl _) _
  have hs := hb.size
  exact ⟨f.os.trans hb.os, f.tape.trans hb.tape, f.output.trans hb.output, Nat.le_trans hb.size f.size, fun j hj => (f.block j (by omega) (by omega) nofun).trans (hb.block j hj)⟩
theorem codes_any (t : Nd) (S : Nat → Prop) (x : Tr.V4) (w : World) (hx : Tr.Nv S w t x) (hw : Tr.wn t ≤ 1048576) :
    Calls Tryd.prog 7 #[Tr.v4 x] w fun e w' => ∃ v, e = .returned (.tuple #[v, .int .i64 (coe t)]) ∧ CO w.heap.size (fun _ => True) (cod t) v w' ∧ Below w.heap.size w w' := by
  have KG : ∀ wx : World, Below w.heap.size w wx → Calls Tryd.prog 16 #[Tr.v4 x] wx fun e w' => e = .returned (.bool (Tr.gr t)) ∧ Below wx.heap.size wx w' := fun wx hb => by
    have := Tr.right_any t wx.heap.size x wx (Tr.Nv_mono (Tr.Nv_below hx hb) (fun k _ h => h)) (Nat.le_refl _) (by omega)
    rwa [rd_gr] at this
  have KN := fun (hr : Hr t) (wx : World) (hb : Below w.heap.size w wx) => node_any (Tr.wf_any t) hw hr S x w hx wx.heap.size (fun i => i ≠ wx.heap.size) [] (.slice none 0 0) (wx.alloc (.cells #[.slice none 0 0] 49)) (hb.trans ((Below.refl _ _).alloc (by exact hb.size) _)) hb.size
  have hcd := cds_wn t
  cases hx with
  | mk k p v ks pv vv kv vs hp hv hl hk hi =>
    obtain ⟨a1, c1, rfl, _⟩ := id hp
    obtain ⟨a2, c2, rfl, _⟩ := id hv
    obtain ⟨a3, c3, rfl, _, _⟩ := id hk
    cases hg : Tr.gr (.mk k p v ks)
    · have e1 : cod (.mk k p v ks) = [] := by unfold cod; rw [hg]; rfl
      have e2 : coe (.mk k p v ks) = 1 := by unfold coe; rw [hg]; rfl
      rw [hg] at KG
      rw [e1, e2]
      exact codes_no a1 a2 a3 _ c1 _ c2 _ c3 w k KG
    · have e1 : cod (.mk k p v ks) = cds (.mk k p v ks) := by unfold cod; rw [hg]; rfl
      have e2 : coe (.mk k p v ks) = 0 := by unfold coe; rw [hg]; rfl
      have hr := right_hr ((Tr.gr_right _).1 hg)
      rw [hg] at KG
      rw [e1, e2]
      by_cases k0 : k = 0
      · subst k0
        have es : shN (.mk 0 p v ks) = zS := by rw [shN, if_neg (by decide), if_neg (by decide)]
        have hsh := hr_shape hr
        rw [es] at hsh
        have e3 : cds (.mk 0 p v ks) = [hc zS] := by rw [cds, if_neg (by decide), cd_eq, es]
        rw [e3]
        exact codes_none a1 a2 a3 _ c1 _ c2 _ c3 w (hc zS) (fun wx => write_sh zS hsh (by decide) (.int .i64 0, .slice none 0 0, .slice none 0 0, .slice none 0 0) wx ⟨rfl, Sl_nil _, Sl_nil _, ⟨none, 0, rfl, fun h => absurd h (by decide)⟩⟩ wx.heap.size (Nat.le_refl _)) KG
      · refine codes_yes a1 a2 a3 _ c1 _ c2 _ c3 w k k0 _ (fun wx hb => ?_) KG
        have ec : ccs (.mk k p v ks) = cds (.mk k p v ks) := if_neg (show ¬ (Tr.Nd.mk k p v ks).kind = 0 from k0)
        have hn := heap_alloc_new wx (.cells #[.slice none 0 0] 49)
        have hsz : (wx.alloc (.cells #[.slice none 0 0] 49)).heap.size = wx.heap.size + 1 := by simp
        refine (KN hr wx hb ⟨by omega, by simp only [World.cell?, hn]; rfl, fun o => by simp only [World.frozen?, hn]; simp, CO_nil _ _ _, nofun⟩ (fun i hi => by omega) (fun i hi => hi) (by rw [ec]; simp only [List.length_nil]; omega)).mono ?_
        rintro e w' ⟨sv, cv, rfl, hW, _, hF, _⟩
        rw [ec, List.nil_append] at hW
        exact ⟨sv, cv, rfl, hW.c, CO_mono hW.co (fun _ _ _ _ => trivial), fr2_new rfl hF⟩
theorem root_any (t : Nd) (S : Nat → Prop) (x : Tr.V4) (w : World) (hx : Tr.Nv S w t x) (hw : Tr.wn t ≤ 1048576) :
    Calls Tryd.prog 9 #[Tr.v4 x] w fun e w' => e = .returned (.tuple #[Hv (rof t), .int .i64 (coe t)]) ∧ Below w.heap.size w w' := root_of t S x w hx hw (fun wx hb => codes_any t S x wx (Tr.Nv_below hx hb) hw)
end Rt
end Go.Proofs.YtefgamhnikeekaaDoor
namespace Go.Proofs.YtefgamhnikeekaaDoor
namespace Hh
open Go.RowKit Sp
set_option maxRecDepth 100000 in
theorem ld {K : Value → World → Prop} {a : Act} {o : Oper} {s g : Nat} {F : Nat → Int} {w : World} (ho : o.op = .load 36 (.tmp s)) (ha : a.eval (.tmp s) = .pointer (some ⟨g, 0, none⟩))
    (hc : Sp.CK .u8 g 32 F w) (hK : K (Hv F) w) : RS.upv Tryd.prog K ((execOp a.eval o).run Tryd.prog w) := by
  obtain ⟨dst, op, ty, pos, after, guard⟩ := o
  simp only at ho
  subst ho
  generalize a.eval = ρ at *
  unfold execOp
  simp only [ha, Instr.loadAt, Instr.sureAddr, Sem.run_bind, Sem.run_pure, Result.andThen_ok, run_loadVar_mid w g 0 36 (h32 F) _ (range32 hc) Tryd.underlying36 rfl info32]
  exact hK
theorem eq {K : Value → World → Prop} {a : Act} {o : Oper} {X Y : Operand} {F G : Nat → Int} {b : Bool} {w : World} (ho : o.op = .binOp .eql 36 X Y 36) (hx : a.eval X = Hv F) (hy : a.eval Y = Hv G)
    (hb : same 32 F G = b) (hK : K (.bool b) w) : RS.upv Tryd.prog K ((execOp a.eval o).run Tryd.prog w) := by
  obtain ⟨dst, op, ty, pos, after, guard⟩ := o
  simp only at ho
  subst ho
  generalize a.eval = ρ at *
  have e1 := eq32 F G w
  rw [hb] at e1
  have g1 := eq_guard32 .eql X Y F G w
  go_simp
  exact hK
end Hh
end Go.Proofs.YtefgamhnikeekaaDoor
namespace Go.Proofs.YtefgamhnikeekaaDoor
namespace RF
open RS
variable {P : Program} {ops : Array Oper} {Q : Exit → Act → World → Prop}
theorem go {o : Oper} {rest : List Oper} {a : Act} {w : World} (hw : Region.wanted o (yielded ops a.tmps) = true) (h : upv P (fun v w' => wpList P ops Q rest (a.put o.dst v) w') ((execOp a.eval o).run P w)) : wpList P ops Q (o :: rest) a w := by
  unfold wpList
  rw [if_pos hw]
  exact .inl (upv_upon (K := fun a' w' => wpList P ops Q rest a' w') h)
end RF
end Go.Proofs.YtefgamhnikeekaaDoor
namespace Go.Proofs.YtefgamhnikeekaaDoor
namespace Rt
open Nb Sp Pk Rs Go.RowKit
set_option maxHeartbeats 4000000 in
set_option maxRecDepth 100000 in
theorem law_whole (t : Nd) (S : Nat → Prop) (x : Tr.V4) (w : World) (hx : Tr.Nv S w t x) (hw : Tr.wn t ≤ 1048576) :
    Calls Tryd.prog 4 #[Tr.v4 x] w fun e w' => e = .returned (.bool true) ∧ Below w.heap.size w w' := by
  have hln : (cod t).length ≤ 1048576 := by
    have := cds_wn t
    unfold cod
    split
    · omega
    · simp
  have K1 := fun (wx : World) (hb : Below w.heap.size w wx) => codes_any t S x wx (Tr.Nv_below hx hb) hw
  have K2 := fun (wx : World) (hb : Below w.heap.size w wx) => hcodes_any t S x wx (Tr.Nv_below hx hb) hw
  have K3 := fun (wx : World) (hb : Below w.heap.size w wx) => root_any t S x wx (Tr.Nv_below hx hb) hw
  have K4 := fun (wx : World) (hb : Below w.heap.size w wx) => hroot_any t S x wx (Tr.Nv_below hx hb) hw
  obtain ⟨k, a1, n1, c1, a2, n2, c2, a3, n3, c3, rfl⟩ := Tr.Nv_form hx
  clear hx hw
  have KA : Hid (∀ wx, Below w.heap.size w wx → Calls Tryd.prog 7 #[.agg #[.int .i64 k, .slice a1 n1 c1, .slice a2 n2 c2, .slice a3 n3 c3]] wx fun e w' => ∃ v, e = .returned (.tuple #[v, .int .i64 (coe t)]) ∧ Ls (cod t) v w' ∧ Below wx.heap.size wx w') := fun wx hb => (K1 wx hb).mono (fun e w' ⟨v, h1, h2, h3⟩ => ⟨v, h1, CO_ls h2, h3⟩)
  have KB : Hid (∀ wx, Below w.heap.size w wx → Calls Tryd.prog 8 #[.agg #[.int .i64 k, .slice a1 n1 c1, .slice a2 n2 c2, .slice a3 n3 c3]] wx fun e w' => ∃ v, e = .returned (.tuple #[v, .int .i64 (coe t)]) ∧ Ls (cod t) v w' ∧ Below wx.heap.size wx w') := fun wx hb => (K2 wx hb).mono (fun e w' ⟨v, h1, h2, h3⟩ => ⟨v, h1, CO_ls h2, h3⟩)
  have KC : Hid (∀ wx, Below w.heap.size w wx → Calls Tryd.prog 9 #[.agg #[.int .i64 k, .slice a1 n1 c1, .slice a2 n2 c2, .slice a3 n3 c3]] wx fun e w' => e = .returned (.tuple #[Hv (rof t), .int .i64 (coe t)]) ∧ Below wx.heap.size wx w') := K3
  have KD : Hid (∀ wx, Below w.heap.size w wx → Calls Tryd.prog 10 #[.agg #[.int .i64 k, .slice a1 n1 c1, .slice a2 n2 c2, .slice a3 n3 c3]] wx fun e w' => e = .returned (.tuple #[Hv (rof t), .int .i64 (coe t)]) ∧ Below wx.heap.size wx w') := K4
  have KT : Hid (∀ (v u : Value) (wx : World), Ls (cod t) v wx → Ls (cod t) u wx → Calls Tryd.prog 11 #[v, u] wx fun e w' => e = .returned (.bool true) ∧ Below wx.heap.size wx w') := fun v u wx h1 h2 => by
    have := sametexts_any (cod t) (cod t) v u wx h1 h2 hln
    rwa [decide_eq_true rfl] at this
  clear K1 K2 K3 K4 hln
  generalize coe t = E at *
  generalize rof t = F at *
  generalize cod t = L at *
  have HA := heap_alloc_new w (.cells #[.int .i64 k, .slice a1 n1 c1, .slice a2 n2 c2, .slice a3 n3 c3] 32)
  have b0 : Below w.heap.size w (w.alloc (.cells #[.int .i64 k, .slice a1 n1 c1, .slice a2 n2 c2, .slice a3 n3 c3] 32)) := (Below.refl _ _).alloc (Nat.le_refl _) _
  have hh : w.heap.size < (w.alloc (.cells #[.int .i64 k, .slice a1 n1 c1, .slice a2 n2 c2, .slice a3 n3 c3] 32)).heap.size := by simp
  have p0 : (w.alloc (.cells #[.int .i64 k, .slice a1 n1 c1, .slice a2 n2 c2, .slice a3 n3 c3] 32)).cell? ⟨w.heap.size, 0, none⟩ = some (.int .i64 k) := by simp only [World.cell?, HA]; rfl
  have p1 : (w.alloc (.cells #[.int .i64 k, .slice a1 n1 c1, .slice a2 n2 c2, .slice a3 n3 c3] 32)).cell? ⟨w.heap.size, 1, none⟩ = some (.slice a1 n1 c1) := by simp only [World.cell?, HA]; rfl
  have p2 : (w.alloc (.cells #[.int .i64 k, .slice a1 n1 c1, .slice a2 n2 c2, .slice a3 n3 c3] 32)).cell? ⟨w.heap.size, 2, none⟩ = some (.slice a2 n2 c2) := by simp only [World.cell?, HA]; rfl
  have p3 : (w.alloc (.cells #[.int .i64 k, .slice a1 n1 c1, .slice a2 n2 c2, .slice a3 n3 c3] 32)).cell? ⟨w.heap.size, 3, none⟩ = some (.slice a3 n3 c3) := by simp only [World.cell?, HA]; rfl
  clear HA
  show Calls Tryd.prog 4 #[.agg #[.int .i64 k, .slice a1 n1 c1, .slice a2 n2 c2, .slice a3 n3 c3]] w _
  go_enter Tryd.func4, Tryd.ntmps4
  go_upto_region 1 with fail
  generalize w.alloc (.cells #[.int .i64 k, .slice a1 n1 c1, .slice a2 n2 c2, .slice a3 n3 c3] 32) = W0 at b0 hh p0 p1 p2 p3 ⊢
  obtain ⟨h, eh⟩ : ∃ h, h = w.heap.size := ⟨_, rfl⟩
  rw [← eh] at hh p0 p1 p2 p3 ⊢
  have EH : Hid (h = w.heap.size) := eh
  clear eh
  go_wp2_with fail
  refine (KA.out _ b0).mono ?_
  rintro e w1 ⟨v1, rfl, l1, hb⟩
  have b1 := b0.trans (hb.mono b0.size)
  replace p0 := (hb.cell (p := ⟨h, 0, none⟩) hh).trans p0
  replace p1 := (hb.cell (p := ⟨h, 1, none⟩) hh).trans p1
  replace p2 := (hb.cell (p := ⟨h, 2, none⟩) hh).trans p2
  replace p3 := (hb.cell (p := ⟨h, 3, none⟩) hh).trans p3
  replace hh := Nat.lt_of_lt_of_le hh hb.size
  clear b0 hb KA
  go_wp2_with fail
  refine (KB.out _ b1).mono ?_
  rintro e w2 ⟨v2, rfl, l2, hb⟩
  have b2 := b1.trans (hb.mono b1.size)
  replace l1 := Ls_below l1 hb
  replace p0 := (hb.cell (p := ⟨h, 0, none⟩) hh).trans p0
  replace p1 := (hb.cell (p := ⟨h, 1, none⟩) hh).trans p1
  replace p2 := (hb.cell (p := ⟨h, 2, none⟩) hh).trans p2
  replace p3 := (hb.cell (p := ⟨h, 3, none⟩) hh).trans p3
  replace hh := Nat.lt_of_lt_of_le hh hb.size
  clear b1 hb KB
  go_wp2_with fail
  refine (KC.out _ b2).mono ?_
  rintro e w3 ⟨rfl, hb⟩
  have b3 := b2.trans (hb.mono b2.size)
  replace l1 := Ls_below l1 hb
  replace l2 := Ls_below l2 hb
  replace p0 := (hb.cell (p := ⟨h, 0, none⟩) hh).trans p0
  replace p1 := (hb.cell (p := ⟨h, 1, none⟩) hh).trans p1
  replace p2 := (hb.cell (p := ⟨h, 2, none⟩) hh).trans p2
  replace p3 := (hb.cell (p := ⟨h, 3, none⟩) hh).trans p3
  replace hh := Nat.lt_of_lt_of_le hh hb.size
  clear b2 hb KC
  have thZ := there_new w3 36
  have bZ : Below w3.heap.size w3 (w3.alloc (.cells Z32 36)) := (Below.refl _ _).alloc (Nat.le_refl _) _
  have BZ : Hid (Below w3.heap.size w3 (w3.alloc (.cells Z32 36)) ∧ w3.heap.size < (w3.alloc (.cells Z32 36)).heap.size) := ⟨bZ, by simp⟩
  clear bZ
  unfold Z32 at thZ BZ
  go_wp2_with (refine wpList_stH rfl rfl rfl rfl thZ ?_)
  intro w4 g4 cz
  have hb : Below w3.heap.size w3 w4 := BZ.out.1.trans ⟨g4.os, g4.tape, g4.output, g4.size, fun i hi => g4.block i (by have := BZ.out.2; omega) (fun e => by injection e with e; omega)⟩
  have hg3 : w3.heap.size < w4.heap.size := Nat.lt_of_lt_of_le BZ.out.2 g4.size
  have b4 := b3.trans (hb.mono b3.size)
  replace l1 := Ls_below l1 hb
  replace l2 := Ls_below l2 hb
  replace p0 := (hb.cell (p := ⟨h, 0, none⟩) hh).trans p0
  replace p1 := (hb.cell (p := ⟨h, 1, none⟩) hh).trans p1
  replace p2 := (hb.cell (p := ⟨h, 2, none⟩) hh).trans p2
  replace p3 := (hb.cell (p := ⟨h, 3, none⟩) hh).trans p3
  replace hh := Nat.lt_of_lt_of_le hh hb.size
  clear b3 hb g4 thZ BZ
  obtain ⟨g7, e7⟩ : ∃ g7, g7 = w3.heap.size := ⟨_, rfl⟩
  rw [← e7] at cz hg3 ⊢
  have C7 : Hid (Sp.CK .u8 g7 32 F w4 ∧ g7 < w4.heap.size) := ⟨cz, hg3⟩
  clear cz hg3 e7
  go_wp2_with fail
  refine (KD.out _ b4).mono ?_
  rintro e w5 ⟨rfl, hb⟩
  have b5 := b4.trans (hb.mono b4.size)
  have HL1 : Hid (Ls L v1 w5) := Ls_below l1 hb
  have HL2 : Hid (Ls L v2 w5) := Ls_below l2 hb
  have C7' : Hid (Sp.CK .u8 g7 32 F w5 ∧ g7 < w5.heap.size) := ⟨Sp.CK_below C7.out.1 hb C7.out.2, Nat.lt_of_lt_of_le C7.out.2 hb.size⟩
  clear b4 hb KD C7 l1 l2 p0 p1 p2 p3 hh
  have thZ := there_new w5 36
  have bZ : Below w5.heap.size w5 (w5.alloc (.cells Z32 36)) := (Below.refl _ _).alloc (Nat.le_refl _) _
  have BZ : Hid (Below w5.heap.size w5 (w5.alloc (.cells Z32 36)) ∧ w5.heap.size < (w5.alloc (.cells Z32 36)).heap.size) := ⟨bZ, by simp⟩
  clear bZ
  unfold Z32 at thZ BZ
  go_wp2_with (refine wpList_stH rfl rfl rfl rfl thZ ?_)
  intro w6 g6 cz
  have hb : Below w5.heap.size w5 w6 := BZ.out.1.trans ⟨g6.os, g6.tape, g6.output, g6.size, fun i hi => g6.block i (by have := BZ.out.2; omega) (fun e => by injection e with e; omega)⟩
  have hg5 : w5.heap.size < w6.heap.size := Nat.lt_of_lt_of_le BZ.out.2 g6.size
  have b6 := b5.trans (hb.mono b5.size)
  have l1 := Ls_below HL1.out hb
  have l2 := Ls_below HL2.out hb
  have k7 := Sp.CK_below C7'.out.1 hb C7'.out.2
  have q7 := Nat.lt_of_lt_of_le C7'.out.2 hb.size
  have k9 : Sp.CK .u8 w5.heap.size 32 F w6 := cz
  clear b5 hb g6 thZ BZ HL1 HL2 C7' cz
  generalize w5.heap.size = g9 at k9 hg5 ⊢
  go_upto_region 5 with fail
  refine wp_region_lit ?_
  refine RF.go (by kernel_rfl) ?_
  go_simp
  try simp only [Act.put, List.setIfInBounds_toArray, List.set_cons_succ, List.set_cons_zero]
  refine RF.go (by kernel_rfl) ?_
  go_simp
  try simp only [Act.put, List.setIfInBounds_toArray, List.set_cons_succ, List.set_cons_zero]
  refine RF.go (by kernel_rfl) ?_
  go_simp
  try simp only [Act.put, List.setIfInBounds_toArray, List.set_cons_succ, List.set_cons_zero]
  refine RF.go (by kernel_rfl) ?_
  go_simp
  try simp only [Act.put, List.setIfInBounds_toArray, List.set_cons_succ, List.set_cons_zero]
  refine RF.go (by kernel_rfl) ?_
  go_simp
  try simp only [Act.put, List.setIfInBounds_toArray, List.set_cons_succ, List.set_cons_zero]
  refine RF.go (by kernel_rfl) ?_
  go_simp
  try simp only [Act.put, List.setIfInBounds_toArray, List.set_cons_succ, List.set_cons_zero]
  refine RF.go (by kernel_rfl) ?_
  go_simp
  refine (KT.out _ _ _ l1 l2).mono (fun e w7 he => ⟨_, he.1, ?_⟩)
  replace b6 := b6.trans (he.2.mono b6.size)
  replace k7 := Sp.CK_below k7 he.2 q7
  replace k9 := Sp.CK_below k9 he.2 hg5
  clear he l1 l2
  try simp only [Act.put, List.setIfInBounds_toArray, List.set_cons_succ, List.set_cons_zero]
  refine RF.go (by kernel_rfl) ?_
  go_simp
  try simp only [Act.put, List.setIfInBounds_toArray, List.set_cons_succ, List.set_cons_zero]
  refine RF.go (by kernel_rfl) ?_
  go_simp
  try simp only [Act.put, List.setIfInBounds_toArray, List.set_cons_succ, List.set_cons_zero]
  refine RF.go (by kernel_rfl) ?_
  go_simp
  try simp only [Act.put, List.setIfInBounds_toArray, List.set_cons_succ, List.set_cons_zero]
  refine RF.go (by kernel_rfl) ?_
  go_simp
  try simp only [Act.put, List.setIfInBounds_toArray, List.set_cons_succ, List.set_cons_zero]
  refine RF.go (by kernel_rfl) ?_
  go_simp
  try simp only [Act.put, List.setIfInBounds_toArray, List.set_cons_succ, List.set_cons_zero]
  refine RF.go (by kernel_rfl) ?_
  go_simp
  try simp only [Act.put, List.setIfInBounds_toArray, List.set_cons_succ, List.set_cons_zero]
  refine RF.go (by kernel_rfl) ?_
  go_simp
  try simp only [Act.put, List.setIfInBounds_toArray, List.set_cons_succ, List.set_cons_zero]
  refine RF.go (by kernel_rfl) ?_
  refine Hh.ld rfl rfl k7 ?_
  try simp only [Act.put, List.setIfInBounds_toArray, List.set_cons_succ, List.set_cons_zero]
  refine RF.go (by kernel_rfl) ?_
  refine Hh.ld rfl rfl k9 ?_
  try simp only [Act.put, List.setIfInBounds_toArray, List.set_cons_succ, List.set_cons_zero]
  refine RF.go (by kernel_rfl) ?_
  refine Hh.eq (b := true) rfl rfl rfl (same_self _ _) ?_
  try simp only [Act.put, List.setIfInBounds_toArray, List.set_cons_succ, List.set_cons_zero]
  refine RF.go (by kernel_rfl) ?_
  go_simp
  try simp only [Act.put, List.setIfInBounds_toArray, List.set_cons_succ, List.set_cons_zero]
  refine RF.go (by kernel_rfl) ?_
  go_simp
  try simp only [Act.put, List.setIfInBounds_toArray, List.set_cons_succ, List.set_cons_zero]
  refine wpList_nil ?_
  clear k7 k9
  go_wp2_with fail
  go_ret
  exact ⟨rfl, b6⟩
end Rt
end Go.Proofs.YtefgamhnikeekaaDoor
namespace Go.Proofs.YtefgamhnikeekaaDoor
namespace Cd
open Go.ChangeShapes Go.WideShapes Go.ChangeAt Go.RowKit
theorem own : ownKnob Tryd.prog.godebug = none := by kernel_rfl
theorem laidOut : laidOutB Tryd.prog = true := by kernel_rfl
def lay0 : Obj → Obj
  | .cells _ t frozen => .cells (Go.Pinned.utf8FirstZ.map fun n => .int .u8 (n : Int)).toArray t frozen
  | o => o
def lay1 : Obj → Obj
  | .cells _ t frozen => .cells #[.int .u8 128, .int .u8 191, .int .u8 160, .int .u8 191, .int .u8 128, .int .u8 159, .int .u8 144, .int .u8 191, .int .u8 128, .int .u8 143, .int .u8 0, .int .u8 0, .int .u8 0, .int .u8 0, .int .u8 0, .int .u8 0, .int .u8 0, .int .u8 0, .int .u8 0, .int .u8 0, .int .u8 0, .int .u8 0, .int .u8 0, .int .u8 0, .int .u8 0, .int .u8 0, .int .u8 0, .int .u8 0, .int .u8 0, .int .u8 0, .int .u8 0, .int .u8 0] t frozen
  | o => o
noncomputable def laidWorld (os : Os) : World :=
  { World.holding Tryd.prog os ⟨#[], #[], []⟩ with heap := ((World.holding Tryd.prog os ⟨#[], #[], []⟩).heap.modify 0 lay0).modify 1 lay1 }
theorem small1 {H : Type} (d0 : DataW H) (gs : List (DataW H)) (hk : Rows.uptoSmall H ([d0] ++ gs) = true) : Rows.uptoBulk d0 ≤ 1048576 := by
  have h : Rows.uptoBulkAll ([d0] ++ gs) ≤ 1048576 := of_decide_eq_true hk
  simp only [List.cons_append, List.nil_append, Rows.uptoBulkAll] at h
  omega
end Cd
end Go.Proofs.YtefgamhnikeekaaDoor
