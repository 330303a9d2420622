/- lampbearerref.GRight, over what grown does. -/
import Derived.Test.YthlgneadcagleabPackB
import Derived.Deep.Cut
import Derived.Deep.MidRow
import Derived.Test.YthlgneadcagleabPackC
import Derived.Test.YthlgneadcagleabPackA
import Derived.ProofKit
import Derived.OpenShut
import Derived.ShutString
import Derived.ChangeOld
import Derived.Lib.SmallJoins
import Derived.SizedLaws
namespace Go.Proofs.Ythlgneadcagleab
namespace RI
theorem wpOp_skip {P : Program} {ops : Array Oper} {Q : Exit → Act → World → Prop} {i : Nat} {o : Oper} {K : Act → World → Prop} {a : Act} {w : World} (ho : ops[i]? = some o) (hw : Region.wanted o (yielded ops a.tmps) = false) (h : K (a.put o.dst undef) w) : wpOp P ops Q i K a w := by
  unfold wpOp
  rw [ho]
  simp only [hw]
  exact h
end RI
namespace Tr
open Nb Go.RowKit
/-- What grows of routes. -/
def grw (l : Rt) : Nd := grow 65 l
def okb (r : By × By) : Bool := decide (r.1.length % 2 = 0) && decide (r.1.length ≤ 64) && decide (r.2 ≠ []) && decide (r.2.length ≤ 1024)
theorem okb_iff (r : By × By) : okb r = true ↔ Okr r.1 r.2 := by
  unfold okb Okr
  simp only [Bool.and_eq_true, decide_eq_true_eq, and_assoc]
/-- The four tests. -/
theorem ok_ways (p v : By) (h : okb (p, v) = true) : (p.length : Int).tmod 2 = 0 ∧ p.length ≤ 64 ∧ 0 < v.length ∧ v.length ≤ 1024 := by
  have k := (okb_iff (p, v)).1 h
  obtain ⟨k1, k2, k3, k4⟩ := k
  have k5 : 0 < v.length := List.length_pos_iff.2 k3
  dsimp only at k1 k2 k4
  refine ⟨?_, k2, k5, k4⟩
  rw [Int.tmod_eq_emod_of_nonneg (by omega)]
  omega
theorem bad_ways (p v : By) (h : okb (p, v) = false) : (p.length : Int).tmod 2 = 1 ∨ ((p.length : Int).tmod 2 = 0 ∧ 64 < p.length) ∨ ((p.length : Int).tmod 2 = 0 ∧ p.length ≤ 64 ∧ v.length = 0) ∨ ((p.length : Int).tmod 2 = 0 ∧ p.length ≤ 64 ∧ 0 < v.length ∧ 1024 < v.length) := by
  rw [Int.tmod_eq_emod_of_nonneg (by omega)]
  by_cases t1 : p.length % 2 = 1
  · exact .inl (by omega)
  by_cases t2 : 64 < p.length
  · exact .inr (.inl ⟨by omega, t2⟩)
  by_cases t3 : v.length = 0
  · exact .inr (.inr (.inl ⟨by omega, by omega, t3⟩))
  by_cases t4 : 1024 < v.length
  · exact .inr (.inr (.inr ⟨by omega, by omega, by omega, t4⟩))
  · exfalso
    have : okb (p, v) = true := (okb_iff (p, v)).2 ⟨by show p.length % 2 = 0; omega, by show p.length ≤ 64; omega, fun e => t3 (by have e : v = [] := e; rw [e]; rfl), by show v.length ≤ 1024; omega⟩
    rw [this] at h
    cases h
/-- What GRight answers. -/
def gr (t : Nd) : Bool := match rt t with
  | none => false
  | some l => l.all okb && sn t (grw l)
theorem gr_right (t : Nd) : gr t = true ↔ Right t := by
  rw [right_iff]
  unfold gr
  cases h : rt t with
  | none => simp
  | some l =>
    simp only [Bool.and_eq_true, List.all_eq_true, Option.some.injEq, exists_eq_left', okb_iff, sn_bn, grw]
inductive GRF (W0 : World) (k : Int) (a1 a2 a3 : Option Addr) (n1 c1 n2 c2 n3 c3 : Nat) (la : Option Addr) (n lc g0 j : Nat) (v6 v16 v17 v18 v19 v20 v21 v22 v23 v24 v25 v26 v27 v28 v29 v30 v31 v32 v33 v34 v35 v36 v37 v38 v39 v40 v41 : Value) (d : Nat → Bool) (x : Act) (wx : World) : Prop where
  | mk (u2 u42 u43 u44 u45 u46 u47 u48 : Value) (hx : x = { tmps := #[.agg #[.int .i64 k, .slice a1 n1 c1, .slice a2 n2 c2, .slice a3 n3 c3], .pointer (some ⟨g0, 0, none⟩), u2, .slice la n lc, .bool false, undef, v6, .tuple #[.slice la n lc, .bool false], .agg #[.int .i64 k, .slice a1 n1 c1, .slice a2 n2 c2, .slice a3 n3 c3], .tuple #[.slice la n lc, .bool false], .slice la n lc, .bool false, .slice la n lc, .int .i64 (n : Int), .int .i64 (j : Int), .bool false, v16, v17, v18, v19, v20, v21, v22, v23, v24, v25, v26, v27, v28, v29, v30, v31, v32, v33, v34, v35, v36, v37, v38, v39, v40, v41, u42, u43, u44, u45, u46, u47, u48], defers := [] }) (hw : Below W0.heap.size W0 wx) (p0 : d 0 = true → u42 = .bool false) (p1 : d 1 = true → u43 = .bool false) (p2 : d 2 = true → u44 = undef) (p3 : d 3 = true → u45 = undef) (p4 : d 4 = true → u46 = undef) (p5 : d 5 = true → u47 = undef) (p6 : d 6 = true → u48 = .bool false) (p7 : d 7 = true → u2 = .bool false) : GRF W0 k a1 a2 a3 n1 c1 n2 c2 n3 c3 la n lc g0 j v6 v16 v17 v18 v19 v20 v21 v22 v23 v24 v25 v26 v27 v28 v29 v30 v31 v32 v33 v34 v35 v36 v37 v38 v39 v40 v41 d x wx
inductive GRT (W0 : World) (k : Int) (a1 a2 a3 : Option Addr) (n1 c1 n2 c2 n3 c3 : Nat) (la : Option Addr) (n lc g0 j : Nat) (T : Nd) (R : Bool) (v6 v16 v17 v18 v19 v20 v21 v22 v23 v24 v25 v26 v27 v28 v29 v30 v31 v32 v33 v34 v35 v36 v37 v38 v39 v40 v41 : Value) (d : Nat → Bool) (x : Act) (wx : World) : Prop where
  | mk (u2 u42 u43 u44 u45 u46 u47 u48 : Value) (hx : x = { tmps := #[.agg #[.int .i64 k, .slice a1 n1 c1, .slice a2 n2 c2, .slice a3 n3 c3], .pointer (some ⟨g0, 0, none⟩), u2, .slice la n lc, .bool true, undef, v6, .tuple #[.slice la n lc, .bool true], .agg #[.int .i64 k, .slice a1 n1 c1, .slice a2 n2 c2, .slice a3 n3 c3], .tuple #[.slice la n lc, .bool true], .slice la n lc, .bool true, .slice la n lc, .int .i64 (n : Int), .int .i64 (j : Int), .bool false, v16, v17, v18, v19, v20, v21, v22, v23, v24, v25, v26, v27, v28, v29, v30, v31, v32, v33, v34, v35, v36, v37, v38, v39, v40, v41, u42, u43, u44, u45, u46, u47, u48], defers := [] }) (hw : Below W0.heap.size W0 wx) (p0 : d 0 = true → u42 = .bool true) (p1 : d 1 = true → u43 = .bool true) (p2 : d 2 = true → u44 = .agg #[.int .i64 k, .slice a1 n1 c1, .slice a2 n2 c2, .slice a3 n3 c3]) (p3 : d 3 = true → u45 = .slice la n lc) (p5 : d 5 = true → u47 = .bool R) (p6 : d 6 = true → u48 = .bool R) (p7 : d 7 = true → u2 = .bool R) (z4 : d 4 = true → ∃ y : V4, u46 = v4 y ∧ Nv (fun _ => True) wx T y) : GRT W0 k a1 a2 a3 n1 c1 n2 c2 n3 c3 la n lc g0 j T R v6 v16 v17 v18 v19 v20 v21 v22 v23 v24 v25 v26 v27 v28 v29 v30 v31 v32 v33 v34 v35 v36 v37 v38 v39 v40 v41 d x wx
theorem all_or (l : Rt) : l.all okb = true ∨ ∃ i, i < l.length ∧ (∀ j, j < i → okb (l.getD j n2) = true) ∧ okb (l.getD i n2) = false := by
  induction l with
  | nil => exact .inl rfl
  | cons r l ih =>
    cases h : okb r with
    | false => exact .inr ⟨0, by simp, fun j hj => absurd hj (by omega), h⟩
    | true =>
      rcases ih with ih | ⟨i, h1, h2, h3⟩
      · exact .inl (by rw [List.all_cons, h, ih]; rfl)
      · refine .inr ⟨i + 1, by simpa using h1, fun j hj => ?_, h3⟩
        cases j with
        | zero => exact h
        | succ j => exact h2 j (by omega)
end Tr
end Go.Proofs.Ythlgneadcagleab
/- lampbearerref.grown: of nothing, and of one. -/
namespace Go.Proofs.Ythlgneadcagleab
namespace Tr
open Nb Go.RowKit
theorem infoNd : (Try.prog.info? 25).map (·.size) = some 4 := by kernel_rfl
/-- A slice of bytes, its room told. -/
def SlC (b : By) (v : Value) (w : World) : Prop := ∃ (ao : Option Addr) (cap : Nat), v = .slice ao b.length cap ∧ b.length ≤ cap ∧ (cap : Int) ≤ 9223372036854775807 ∧ Sp.Vw b ao w
theorem SlC_below {b : By} {v : Value} {w w' : World} (h : SlC b v w) (hb : Below w.heap.size w w') : SlC b v w' := by
  obtain ⟨ao, cap, h1, h2, h3, h4⟩ := h
  exact ⟨ao, cap, h1, h2, h3, Sp.Vw_below h4 hb⟩
theorem st_slc (l : By) (hl : l.length ≤ 4194304) (w : World) : ∃ c W, (convert 9 22 (.string (st l))).run Try.prog w = .ok (.slice (some ⟨w.heap.size, 0, none⟩) l.length c) W ∧ SlC l (.slice (some ⟨w.heap.size, 0, none⟩) l.length c) W ∧ W.heap.size = w.heap.size + 1 ∧ Below w.heap.size w W := by
  obtain ⟨c, W, h1, h2, h3, h4⟩ := st_sl l w
  have h := Lib.run_convert_string_bytes w 9 22 5 (st l) Try.underlying9 Try.underlying22 Try.underlying5
  rw [st_size, h1] at h
  injection h with e1 e2
  injection e1 with _ _ e3
  have hm : c ≤ maxLen := by rw [e3]; exact grownCap_le_maxLen _ _ _ _ (by unfold maxLen; omega)
  obtain ⟨ao, cap, k1, k2, k3⟩ := h2
  injection k1 with f1 f2 f3
  subst f1 f3
  exact ⟨c, W, h1, ⟨_, _, rfl, k2, by unfold maxLen at hm; omega, k3⟩, h3, h4⟩
/-- A variable of a node at block G. -/
structure B4 (G : Nat) (w : World) : Prop where
  hi : G < w.heap.size
  c : ∀ o, o < 4 → (w.cell? ⟨G, o, none⟩).isSome = true
  f : ∀ o, w.frozen? ⟨G, o, none⟩ = false
theorem B4_gb {G : Nat} {w w' : World} {r : Option Nat} (h : B4 G w) (hb : w.grownBy w' r) (hr : some G ≠ r) : B4 G w' := by
  have hbk : w'.heap[G]? = w.heap[G]? := hb.block G h.hi hr
  exact ⟨Nat.lt_of_lt_of_le h.hi hb.size, fun o ho => by rw [World.cell?_of_block (a := ⟨G, o, none⟩) hbk]; exact h.c o ho, fun o => (World.frozen?_of_block (a := ⟨G, o, none⟩) hbk).trans (h.f o)⟩
theorem B4_new (w : World) : B4 w.heap.size (w.alloc (.cells #[.int .i64 0, .slice none 0 0, .slice none 0 0, .slice none 0 0] 25)) := by
  have hn := heap_alloc_new w (.cells #[.int .i64 0, .slice none 0 0, .slice none 0 0, .slice none 0 0] 25)
  refine ⟨by simp, fun o ho => ?_, fun o => by simp only [World.frozen?, hn]; simp⟩
  simp only [World.cell?, hn]
  have : o = 0 ∨ o = 1 ∨ o = 2 ∨ o = 3 := by omega
  rcases this with rfl | rfl | rfl | rfl <;> rfl
theorem gb_refl (w : World) (r : Option Nat) : w.grownBy w r := ⟨rfl, rfl, rfl, Nat.le_refl _, fun _ _ _ => rfl⟩
theorem gb_trans {a b c : World} {r : Option Nat} (h : a.grownBy b r) (k : b.grownBy c r) : a.grownBy c r :=
  ⟨k.os.trans h.os, k.tape.trans h.tape, k.output.trans h.output, Nat.le_trans h.size k.size, fun j hj hne => (k.block j (Nat.lt_of_lt_of_le hj h.size) hne).trans (h.block j hj hne)⟩
theorem gb_set (a : World) (g o : Nat) (v : Value) : a.grownBy (a.setCell ⟨g, o, none⟩ v) (some g) := ⟨rfl, rfl, rfl, by simp [World.setCell], fun k _ hne => Below.heap_setCell _ _ _ _ (fun e => hne (by rw [e]))⟩
theorem gb_sets (G : Nat) : ∀ (vs : List Value) (o : Nat) (w : World), w.grownBy (w.setCells G o vs) (some G)
  | [], _, w => gb_refl w _
  | v :: vs, o, w => gb_trans (gb_set w G o v) (gb_sets G vs (o + 1) (w.setCell ⟨G, o, none⟩ v))
/-- A node is laid into its variable. -/
theorem wp_st4 {op : Oper} {a : Act} {w : World} {K : Act → World → Prop} {Q : Exit → Act → World → Prop} {x y : Operand} {G : Nat} {k : Int} {a1 a2 a3 : Option Addr} {n1 c1 n2 c2 n3 c3 : Nat} (ho : op.op = .store 25 x y)
    (hx : a.eval x = .pointer (some ⟨G, 0, none⟩)) (hy : a.eval y = .agg #[.int .i64 k, .slice a1 n1 c1, .slice a2 n2 c2, .slice a3 n3 c3]) (hB : B4 G w)
    (h : ∀ w', w.grownBy w' (some G) → w'.cell? ⟨G, 0, none⟩ = some (.int .i64 k) → w'.cell? ⟨G, 1, none⟩ = some (.slice a1 n1 c1) → w'.cell? ⟨G, 2, none⟩ = some (.slice a2 n2 c2) → w'.cell? ⟨G, 3, none⟩ = some (.slice a3 n3 c3) → K (a.put op.dst undef) w') : op.wp Try.prog a w K Q := by
  have ht : w.there G 0 4 := fun j hj => by rw [Nat.zero_add]; exact ⟨hB.c j hj, hB.f j⟩
  have hs := World.rangeAt_setCells_same w G 0 [.int .i64 k, .slice a1 n1 c1, .slice a2 n2 c2, .slice a3 n3 c3] ht
  refine wp_store_mid 25 x y ho G 0 #[.int .i64 k, .slice a1 n1 c1, .slice a2 n2 c2, .slice a3 n3 c3] hx hy ht infoNd (all_oneCell_toArray (cs := [.int .i64 k, .slice a1 n1 c1, .slice a2 n2 c2, .slice a3 n3 c3]) (fun v hv => by simp only [List.mem_cons, List.not_mem_nil, or_false] at hv; rcases hv with rfl | rfl | rfl | rfl <;> rfl)) ?_
  exact h _ (gb_sets G _ 0 w) (hs 0 _ rfl) (hs 1 _ rfl) (hs 2 _ rfl) (hs 3 _ rfl)
theorem resN (f : Func) (tm : Array Value) (W : World) (g s : Nat) (p q r t : Value) (hf : f.results = #[.cell s 25]) (h : tm.getD s undef = .pointer (some ⟨g, 0, none⟩)) (c0 : W.cell? ⟨g, 0, none⟩ = some p) (c1 : W.cell? ⟨g, 1, none⟩ = some q) (c2 : W.cell? ⟨g, 2, none⟩ = some r) (c3 : W.cell? ⟨g, 3, none⟩ = some t) : (results f tm).run Try.prog W = .ok (.agg #[p, q, r, t]) W := by
  simp at h
  simp [results, hf, go_sem, h, c0, c1, c2, c3]
structure GW (w W0 : World) (g2 : Nat) (f11 : Bool) (wx : World) : Prop where
  a : f11 = false → Below W0.heap.size W0 wx
  v : f11 = false → B4 g2 wx
  b : Below w.heap.size w wx
  s : W0.heap.size ≤ wx.heap.size
inductive GLI (w W0 : World) (p v : By) (g off cap g2 : Nat) (X Y : ByteArray) (d : Nat → Bool) (x : Act) (wx : World) : Prop where
  | mk (u16 u17 u18 u19 u20 u21 u22 u23 u24 u25 u26 : Value) (hx : x = { tmps := #[.slice (some ⟨g, off, none⟩) 1 cap, undef, .pointer (some ⟨g2, 0, none⟩), undef, undef, undef, undef, undef, undef, .slice (some ⟨g, off, none⟩) 1 cap, .int .i64 1, .bool false, undef, .slice (some ⟨g, off, none⟩) 1 cap, .int .i64 1, .bool true, u16, u17, u18, u19, u20, u21, u22, u23, u24, u25, u26, undef, undef, undef, undef, undef, undef, undef, undef, undef, undef, undef, undef, undef, undef, undef, undef, undef, undef, undef, undef, undef, undef, undef, undef, undef, undef, undef, undef, undef, undef, undef, undef, undef, undef, undef, undef, undef, undef, undef, undef, undef, undef, undef, undef, undef, undef, undef, undef, undef, undef, undef, undef, undef, undef, undef, undef, undef, undef, undef, undef, undef, undef, undef, undef, undef, undef, undef, undef, undef, undef, undef, undef, undef], defers := [] }) (hw : GW w W0 g2 (d 11) wx) (p0 : d 0 = true → u16 = .slice (some ⟨g, off, none⟩) 1 cap) (p1 : d 1 = true → u17 = .pointer (some ⟨g, off, none⟩)) (p2 : d 2 = true → u18 = .pointer (some ⟨g, off, none⟩)) (p3 : d 3 = true → u19 = .string X) (p5 : d 5 = true → u21 = .slice (some ⟨g, off, none⟩) 1 cap) (p6 : d 6 = true → u22 = .pointer (some ⟨g, off, none⟩)) (p7 : d 7 = true → u23 = .pointer (some ⟨g, off + 1, none⟩)) (p8 : d 8 = true → u24 = .string Y) (z4 : d 4 = true → ∃ a c, u20 = .slice a p.length c ∧ Bs (W0.heap.size ≤ ·) p u20 wx) (z9 : d 9 = true → ∃ a c, u25 = .slice a v.length c ∧ Bs (W0.heap.size ≤ ·) v u25 wx) (z10 : d 10 = true → ∃ a1 c1 a2 c2, u26 = .agg #[.int .i64 1, .slice a1 p.length c1, .slice a2 v.length c2, .slice none 0 0] ∧ Bs (W0.heap.size ≤ ·) p (.slice a1 p.length c1) wx ∧ Bs (W0.heap.size ≤ ·) v (.slice a2 v.length c2) wx) (y10 : d 10 = true → d 4 = true ∧ d 9 = true) (z11 : d 11 = true → ∃ a1 c1 a2 c2, wx.cell? ⟨g2, 0, none⟩ = some (.int .i64 1) ∧ wx.cell? ⟨g2, 1, none⟩ = some (.slice a1 p.length c1) ∧ wx.cell? ⟨g2, 2, none⟩ = some (.slice a2 v.length c2) ∧ wx.cell? ⟨g2, 3, none⟩ = some (.slice none 0 0) ∧ Bs (W0.heap.size ≤ ·) p (.slice a1 p.length c1) wx ∧ Bs (W0.heap.size ≤ ·) v (.slice a2 v.length c2) wx) (y11 : d 11 = true → d 3 = true ∧ d 4 = true ∧ d 8 = true ∧ d 9 = true ∧ d 10 = true) : GLI w W0 p v g off cap g2 X Y d x wx
end Tr
end Go.Proofs.Ythlgneadcagleab
/- lampbearerref.grown: a road. -/
namespace Go.Proofs.Ythlgneadcagleab
namespace Tr
open Nb Go.RowKit
theorem ks_lit {B : Nat} {w : World} {k : Int} {b1 b2 b3 : Option Addr} {m1 e1 m2 e2 m3 e3 : Nat} (h : B ≤ w.heap.size) : Ks (B ≤ ·) [(.int .i64 k, .slice b1 m1 e1, .slice b2 m2 e2, .slice b3 m3 e3)] (.slice (some ⟨w.heap.size, 0, none⟩) 1 1) (w.alloc (.cells #[.int .i64 k, .slice b1 m1 e1, .slice b2 m2 e2, .slice b3 m3 e3] 25)) := by
  have HA := heap_alloc_new w (.cells #[.int .i64 k, .slice b1 m1 e1, .slice b2 m2 e2, .slice b3 m3 e3] 25)
  refine ⟨_, _, rfl, Nat.le_refl _, fun _ => ⟨_, _, rfl, h, by simp, fun j hj => ?_⟩⟩
  have e : j = 0 := by simpa using hj
  subst e
  refine ⟨?_, ?_, ?_, ?_⟩ <;> (simp only [World.cell?, HA]; rfl)
theorem st_take (l : By) (c : Nat) : (st l).extract 0 c = st (l.take c) := by
  unfold st
  apply ByteArray.ext
  simp [ByteArray.extract, ByteArray.copySlice]
inductive GC5 (W0 : World) (p q : By) (g off n m cap g2 c : Nat) (X Y : ByteArray) (d : Nat → Bool) (x : Act) (wx : World) : Prop where
  | mk (u3 u27 u28 u29 u30 u31 u32 u33 u34 u35 u36 u37 u38 u39 u40 : Value) (hx : x = { tmps := #[.slice (some ⟨g, off, none⟩) n cap, undef, .pointer (some ⟨g2, 0, none⟩), u3, undef, undef, undef, undef, undef, .slice (some ⟨g, off, none⟩) n cap, .int .i64 (n : Int), .bool false, undef, .slice (some ⟨g, off, none⟩) n cap, .int .i64 (n : Int), .bool false, undef, undef, undef, undef, undef, undef, undef, undef, undef, undef, undef, u27, u28, u29, u30, u31, u32, u33, u34, u35, u36, u37, u38, u39, u40, undef, undef, undef, undef, undef, undef, undef, undef, undef, undef, undef, undef, undef, undef, undef, undef, undef, undef, undef, undef, undef, undef, undef, undef, undef, undef, undef, undef, undef, undef, undef, undef, undef, undef, undef, undef, undef, undef, undef, undef, undef, undef, undef, undef, undef, undef, undef, undef, undef, undef, undef, undef, undef, undef, undef, undef, undef, undef, undef], defers := [] }) (hw : Below W0.heap.size W0 wx) (p0 : d 0 = true → u27 = .slice (some ⟨g, off, none⟩) n cap) (p1 : d 1 = true → u28 = .pointer (some ⟨g, off, none⟩)) (p2 : d 2 = true → u29 = .pointer (some ⟨g, off, none⟩)) (p3 : d 3 = true → u30 = .string X) (p5 : d 5 = true → u32 = .slice (some ⟨g, off, none⟩) n cap) (p6 : d 6 = true → u33 = .slice (some ⟨g, off, none⟩) n cap) (p7 : d 7 = true → u34 = .int .i64 (n : Int)) (p8 : d 8 = true → u35 = .int .i64 (m : Int)) (p9 : d 9 = true → u36 = .pointer (some ⟨g, off + m * 2, none⟩)) (p10 : d 10 = true → u37 = .pointer (some ⟨g, off + m * 2, none⟩)) (p11 : d 11 = true → u38 = .string Y) (p13 : d 13 = true → u40 = .int .i64 (c : Int)) (p14 : d 14 = true → u3 = .int .i64 (c : Int)) (z4 : d 4 = true → SlC p u31 wx) (z12 : d 12 = true → SlC q u39 wx) : GC5 W0 p q g off n m cap g2 c X Y d x wx
inductive GR7 (w W0 : World) (pp : By) (lr : Rt) (T : Nd) (g off n cap g2 c : Nat) (X Z : ByteArray) (v27 v28 v29 v30 v31 v32 v33 v34 v35 v36 v37 v38 v39 v40 : Value) (d : Nat → Bool) (x : Act) (wx : World) : Prop where
  | mk (u43 u44 u45 u46 u47 u48 u49 u50 u51 u52 u53 u54 u55 : Value) (hx : x = { tmps := #[.slice (some ⟨g, off, none⟩) n cap, undef, .pointer (some ⟨g2, 0, none⟩), .int .i64 (c : Int), undef, undef, undef, undef, undef, .slice (some ⟨g, off, none⟩) n cap, .int .i64 (n : Int), .bool false, undef, .slice (some ⟨g, off, none⟩) n cap, .int .i64 (n : Int), .bool false, undef, undef, undef, undef, undef, undef, undef, undef, undef, undef, undef, v27, v28, v29, v30, v31, v32, v33, v34, v35, v36, v37, v38, v39, v40, .int .i64 (c : Int), .bool true, u43, u44, u45, u46, u47, u48, u49, u50, u51, u52, u53, u54, u55, undef, undef, undef, undef, undef, undef, undef, undef, undef, undef, undef, undef, undef, undef, undef, undef, undef, undef, undef, undef, undef, undef, undef, undef, undef, undef, undef, undef, undef, undef, undef, undef, undef, undef, undef, undef, undef, undef, undef, undef, undef, undef, undef, undef], defers := [] }) (hw : GW w W0 g2 (d 13) wx) (p0 : d 0 = true → u43 = .slice (some ⟨g, off, none⟩) n cap) (p1 : d 1 = true → u44 = .pointer (some ⟨g, off, none⟩)) (p2 : d 2 = true → u45 = .pointer (some ⟨g, off, none⟩)) (p3 : d 3 = true → u46 = .string X) (p4 : d 4 = true → u47 = .int .i64 (c : Int)) (p5 : d 5 = true → u48 = .string Z) (p7 : d 7 = true → u50 = .slice (some ⟨g, off, none⟩) n cap) (p8 : d 8 = true → u51 = .int .i64 (c : Int)) (z6 : d 6 = true → ∃ a c, u49 = .slice a pp.length c ∧ Bs (W0.heap.size ≤ ·) pp u49 wx) (z9 : d 9 = true → d 13 = false → Rv lr u52 wx) (z10 : d 10 = true → ∃ y, u53 = v4 y ∧ Nv (W0.heap.size ≤ ·) wx T y) (z11 : d 11 = true → ∃ a c y, u54 = .slice a 1 c ∧ Ks (W0.heap.size ≤ ·) [y] u54 wx ∧ Nv (W0.heap.size ≤ ·) wx T y) (z12 : d 12 = true → ∃ a1 c1 a3 c3 y, u55 = .agg #[.int .i64 2, .slice a1 pp.length c1, .slice none 0 0, .slice a3 1 c3] ∧ Bs (W0.heap.size ≤ ·) pp (.slice a1 pp.length c1) wx ∧ Ks (W0.heap.size ≤ ·) [y] (.slice a3 1 c3) wx ∧ Nv (W0.heap.size ≤ ·) wx T y) (z13 : d 13 = true → ∃ a1 c1 a3 c3 y, wx.cell? ⟨g2, 0, none⟩ = some (.int .i64 2) ∧ wx.cell? ⟨g2, 1, none⟩ = some (.slice a1 pp.length c1) ∧ wx.cell? ⟨g2, 2, none⟩ = some (.slice none 0 0) ∧ wx.cell? ⟨g2, 3, none⟩ = some (.slice a3 1 c3) ∧ Bs (W0.heap.size ≤ ·) pp (.slice a1 pp.length c1) wx ∧ Ks (W0.heap.size ≤ ·) [y] (.slice a3 1 c3) wx ∧ Nv (W0.heap.size ≤ ·) wx T y) (y10 : d 10 = true → d 9 = true) (y11 : d 11 = true → d 10 = true) (y12 : d 12 = true → d 6 = true ∧ d 11 = true) (y13 : d 13 = true → d 3 = true ∧ d 6 = true ∧ d 9 = true ∧ d 10 = true ∧ d 11 = true) : GR7 w W0 pp lr T g off n cap g2 c X Z v27 v28 v29 v30 v31 v32 v33 v34 v35 v36 v37 v38 v39 v40 d x wx
end Tr
end Go.Proofs.Ythlgneadcagleab
/- lampbearerref.grown: a fork, its parts in memory. -/
namespace Go.Proofs.Ythlgneadcagleab
namespace Tr
open Nb Go.RowKit
theorem wpl_app {P : Program} {ops : Array Oper} {rest : List Oper} {o : Oper} {a : Act} {Q : Exit → Act → World → Prop} {s x : Operand} {t : TypeId} {v v2 v' : Value} {w w' : World} (hgd : o.guard = none) (ho : o.op = .call { callee := .builtin .append, args := #[s, x], argTypes := #[t, t] }) (hs : a.eval s = v) (hx : a.eval x = v2)
    (hr : (Builtin.append_ #[t, t] o.type #[v, v2]).run P w = .ok v' w') (h : wpList P ops Q rest (a.put o.dst v') w') : wpList P ops Q (o :: rest) a w := by
  refine wpList_plain hgd fun _ hK => ?_
  unfold Oper.wp execOp
  simp only [ho, resolve, invoke, builtin, Sem.run_bind, Sem.run_pure, Result.andThen_ok, List.map_toArray, List.map_cons, List.map_nil, hs, hx, hr]
  exact hK _ _ h
/-- A node is laid among nodes. -/
theorem wp_st4o {op : Oper} {a : Act} {w : World} {K : Act → World → Prop} {Q : Exit → Act → World → Prop} {x y : Operand} {G o : Nat} {k : Int} {a1 a2 a3 : Option Addr} {n1 c1 n2 c2 n3 c3 : Nat} (ho : op.op = .store 25 x y)
    (hx : a.eval x = .pointer (some ⟨G, o, none⟩)) (hy : a.eval y = .agg #[.int .i64 k, .slice a1 n1 c1, .slice a2 n2 c2, .slice a3 n3 c3]) (ht : w.there G o 4)
    (h : ∀ w', w.grownBy w' (some G) → w'.cell? ⟨G, o, none⟩ = some (.int .i64 k) → w'.cell? ⟨G, o + 1, none⟩ = some (.slice a1 n1 c1) → w'.cell? ⟨G, o + 2, none⟩ = some (.slice a2 n2 c2) → w'.cell? ⟨G, o + 3, none⟩ = some (.slice a3 n3 c3) → (∀ z, z < o ∨ o + 4 ≤ z → w'.cell? ⟨G, z, none⟩ = w.cell? ⟨G, z, none⟩) → (∀ z, w'.frozen? ⟨G, z, none⟩ = w.frozen? ⟨G, z, none⟩) → K (a.put op.dst undef) w') : op.wp Try.prog a w K Q := by
  have hs := World.rangeAt_setCells_same w G o [.int .i64 k, .slice a1 n1 c1, .slice a2 n2 c2, .slice a3 n3 c3] ht
  refine wp_store_mid 25 x y ho G o #[.int .i64 k, .slice a1 n1 c1, .slice a2 n2 c2, .slice a3 n3 c3] hx hy ht infoNd (all_oneCell_toArray (cs := [.int .i64 k, .slice a1 n1 c1, .slice a2 n2 c2, .slice a3 n3 c3]) (fun v hv => by simp only [List.mem_cons, List.not_mem_nil, or_false] at hv; rcases hv with rfl | rfl | rfl | rfl <;> rfl)) ?_
  refine h _ (gb_sets G _ o w) (hs 0 _ rfl) (hs 1 _ rfl) (hs 2 _ rfl) (hs 3 _ rfl) (fun z hz => ?_) (fun z => by rw [World.frozen?_setCells])
  refine World.cell?_setCells_out G _ o w ⟨G, z, none⟩ (fun _ _ => ?_)
  rcases hz with hz | hz
  · left; exact hz
  · right; exact hz
theorem wpList_st4 {ops : Array Oper} {rest : List Oper} {op : Oper} {a : Act} {w : World} {Q : Exit → Act → World → Prop} {x y : Operand} {G : Nat} {k : Int} {a1 a2 a3 : Option Addr} {n1 c1 n2 c2 n3 c3 : Nat} (hgd : op.guard = none) (ho : op.op = .store 25 x y)
    (hx : a.eval x = .pointer (some ⟨G, 0, none⟩)) (hy : a.eval y = .agg #[.int .i64 k, .slice a1 n1 c1, .slice a2 n2 c2, .slice a3 n3 c3]) (hB : B4 G w)
    (h : ∀ w', w.grownBy w' (some G) → w'.cell? ⟨G, 0, none⟩ = some (.int .i64 k) → w'.cell? ⟨G, 1, none⟩ = some (.slice a1 n1 c1) → w'.cell? ⟨G, 2, none⟩ = some (.slice a2 n2 c2) → w'.cell? ⟨G, 3, none⟩ = some (.slice a3 n3 c3) → wpList Try.prog ops Q rest (a.put op.dst undef) w') : wpList Try.prog ops Q (op :: rest) a w :=
  wpList_plain hgd fun _ hK => wp_st4 ho hx hy hB (fun w' h1 h2 h3 h4 h5 => hK _ _ (h w' h1 h2 h3 h4 h5))
/-- The fork's variable. -/
def F4 (g4 gk : Nat) (vv : Value) (w : World) : Prop := g4 < w.heap.size ∧ w.cell? ⟨g4, 0, none⟩ = some (.int .i64 3) ∧ w.cell? ⟨g4, 1, none⟩ = some (.slice none 0 0) ∧ w.cell? ⟨g4, 2, none⟩ = some vv ∧ w.cell? ⟨g4, 3, none⟩ = some (.slice (some ⟨gk, 0, none⟩) 16 16) ∧ ∀ o, w.frozen? ⟨g4, o, none⟩ = false
theorem F4_gb {g4 gk : Nat} {vv : Value} {w w' : World} {r : Option Nat} (h : F4 g4 gk vv w) (hb : w.grownBy w' r) (hr : some g4 ≠ r) : F4 g4 gk vv w' := by
  obtain ⟨h1, h2, h3, h4, h5, h6⟩ := h
  have hbk : w'.heap[g4]? = w.heap[g4]? := hb.block g4 h1 hr
  exact ⟨Nat.lt_of_lt_of_le h1 hb.size, (World.cell?_of_block (a := ⟨g4, 0, none⟩) hbk).trans h2, (World.cell?_of_block (a := ⟨g4, 1, none⟩) hbk).trans h3, (World.cell?_of_block (a := ⟨g4, 2, none⟩) hbk).trans h4, (World.cell?_of_block (a := ⟨g4, 3, none⟩) hbk).trans h5, fun o => (World.frozen?_of_block (a := ⟨g4, o, none⟩) hbk).trans (h6 o)⟩
theorem there_gb {g o n : Nat} {w w' : World} {r : Option Nat} (h : w.there g o n) (hg : g < w.heap.size) (hb : w.grownBy w' r) (hr : some g ≠ r) : w'.there g o n := fun j hj => by
  have hbk : w'.heap[g]? = w.heap[g]? := hb.block g hg hr
  exact ⟨by rw [World.cell?_of_block (a := ⟨g, o + j, none⟩) hbk]; exact (h j hj).1, by rw [World.frozen?_of_block (a := ⟨g, o + j, none⟩) hbk]; exact (h j hj).2⟩
/-- The sixteen kids, the first i of them grown. -/
structure KB (B gk : Nat) (T : Nat → Nd) (i : Nat) (w : World) : Prop where
  hi : gk < w.heap.size
  t : w.there gk 0 64
  k : ∃ Y : Nat → V4, ∀ j, j < i → (w.cell? ⟨gk, 4 * j, none⟩ = some (Y j).1 ∧ w.cell? ⟨gk, 4 * j + 1, none⟩ = some (Y j).2.1 ∧ w.cell? ⟨gk, 4 * j + 2, none⟩ = some (Y j).2.2.1 ∧ w.cell? ⟨gk, 4 * j + 3, none⟩ = some (Y j).2.2.2) ∧ Nv (B ≤ ·) w (T j) (Y j)
theorem KB_gb {B gk : Nat} {T : Nat → Nd} {i : Nat} {w w' : World} {r : Option Nat} (h : KB B gk T i w) (hb : w.grownBy w' r) (hr : some gk ≠ r) (hB : ∀ k, B ≤ k → some k ≠ r) : KB B gk T i w' := by
  obtain ⟨Y, hY⟩ := h.k
  have hbk : w'.heap[gk]? = w.heap[gk]? := hb.block gk h.hi hr
  refine ⟨Nat.lt_of_lt_of_le h.hi hb.size, there_gb h.t h.hi hb hr, Y, fun j hj => ?_⟩
  obtain ⟨⟨c0, c1, c2, c3⟩, hn⟩ := hY j hj
  exact ⟨⟨(World.cell?_of_block (a := ⟨gk, 4 * j, none⟩) hbk).trans c0, (World.cell?_of_block (a := ⟨gk, 4 * j + 1, none⟩) hbk).trans c1, (World.cell?_of_block (a := ⟨gk, 4 * j + 2, none⟩) hbk).trans c2, (World.cell?_of_block (a := ⟨gk, 4 * j + 3, none⟩) hbk).trans c3⟩, Nv_gb hn hb hB⟩
/-- What stands behind i rounds. -/
structure GO (w : World) (B g2 g4 gk : Nat) (bv : By) (vv : Value) (T : Nat → Nd) (i : Nat) (wr : World) : Prop where
  b : Below w.heap.size w wr
  s : B ≤ wr.heap.size
  v : B4 g2 wr
  f : F4 g4 gk vv wr
  k : KB B gk T i wr
  u : Bs (B ≤ ·) bv vv wr
theorem GO_below {w : World} {B g2 g4 gk : Nat} {v : By} {vv : Value} {T : Nat → Nd} {i : Nat} {wr w' : World} (h : GO w B g2 g4 gk v vv T i wr) (hb : Below wr.heap.size wr w') : GO w B g2 g4 gk v vv T i w' :=
  ⟨h.b.trans (hb.mono h.b.size), Nat.le_trans h.s hb.size, B4_gb (r := none) h.v (gb_below hb) (fun e => by cases e), F4_gb (r := none) h.f (gb_below hb) (fun e => by cases e), KB_gb (r := none) h.k (gb_below hb) (fun e => by cases e) (fun k _ e => by cases e), Bs_below h.u hb⟩
theorem GO_step {w : World} {B g2 g4 gk : Nat} {v : By} {vv : Value} {T : Nat → Nd} {i : Nat} {wr w' : World} {y : V4} (h : GO w B g2 g4 gk v vv T i wr) (hi : i < 16) (h2 : g2 ≠ gk) (h4 : g4 ≠ gk) (hk : w.heap.size ≤ gk) (hkB : gk < B) (hy : Nv (B ≤ ·) wr (T i) y) (hb : wr.grownBy w' (some gk))
    (c0 : w'.cell? ⟨gk, i * 4, none⟩ = some y.1) (c1 : w'.cell? ⟨gk, i * 4 + 1, none⟩ = some y.2.1) (c2 : w'.cell? ⟨gk, i * 4 + 2, none⟩ = some y.2.2.1) (c3 : w'.cell? ⟨gk, i * 4 + 3, none⟩ = some y.2.2.2) (co : ∀ z, z < i * 4 ∨ i * 4 + 4 ≤ z → w'.cell? ⟨gk, z, none⟩ = wr.cell? ⟨gk, z, none⟩) (cf : ∀ z, w'.frozen? ⟨gk, z, none⟩ = wr.frozen? ⟨gk, z, none⟩) : GO w B g2 g4 gk v vv T (i + 1) w' := by
  have NE : ∀ k, B ≤ k → some k ≠ some gk := fun k hk e => by injection e with e; omega
  refine ⟨h.b.grown hb h.b.size (fun k e => by injection e with e; omega), Nat.le_trans h.s hb.size, B4_gb h.v hb (fun e => by injection e with e; exact h2 e), F4_gb h.f hb (fun e => by injection e with e; exact h4 e), ⟨Nat.lt_of_lt_of_le h.k.hi hb.size, fun j hj => ⟨?_, ?_⟩, ?_⟩, Bs_gb h.u hb NE⟩
  · rw [Nat.zero_add]
    by_cases e : j < i * 4 ∨ i * 4 + 4 ≤ j
    · rw [co j e]; have := (h.k.t j hj).1; rwa [Nat.zero_add] at this
    · have : j = i * 4 ∨ j = i * 4 + 1 ∨ j = i * 4 + 2 ∨ j = i * 4 + 3 := by omega
      rcases this with rfl | rfl | rfl | rfl
      · rw [c0]; rfl
      · rw [c1]; rfl
      · rw [c2]; rfl
      · rw [c3]; rfl
  · rw [Nat.zero_add, cf]; have := (h.k.t j hj).2; rwa [Nat.zero_add] at this
  · obtain ⟨Y, hY⟩ := h.k.k
    refine ⟨fun j => if j = i then y else Y j, fun j hj => ?_⟩
    by_cases e : j = i
    · subst e
      simp only [if_true]
      rw [Nat.mul_comm 4 j]
      exact ⟨⟨c0, c1, c2, c3⟩, Nv_gb hy hb NE⟩
    · simp only [if_neg e]
      obtain ⟨⟨d0, d1, d2, d3⟩, hn⟩ := hY j (by omega)
      exact ⟨⟨(co _ (by omega)).trans d0, (co _ (by omega)).trans d1, (co _ (by omega)).trans d2, (co _ (by omega)).trans d3⟩, Nv_gb hn hb NE⟩
/-- The node at the end. -/
theorem GO_end {w : World} {B g2 g4 gk : Nat} {v : By} {vv : Value} {T : Nat → Nd} {wr : World} {S : Nat → Prop} (h : GO w B g2 g4 gk v vv T 16 wr) (hB : ∀ k, B ≤ k → S k) (hk : S gk) : Nv S wr (.mk 3 [] v ((List.range 16).map T)) (.int .i64 3, .slice none 0 0, vv, .slice (some ⟨gk, 0, none⟩) 16 16) := by
  obtain ⟨Y, hY⟩ := h.k.k
  refine .mk 3 [] v _ _ _ _ ((List.range 16).map Y) (Bs_nil _ _) (Bs_mono h.u (fun k hk _ => hB k hk)) (by simp) ⟨_, _, rfl, by simp, fun _ => ⟨gk, 0, rfl, hk, h.k.hi, fun j hj => ?_⟩⟩ (fun j hj => ?_)
  · have hj16 : j < 16 := by simpa using hj
    rw [getD_range Y 16 j n4 hj16, Nat.zero_add]
    exact (hY j hj16).1
  · have hj16 : j < 16 := by simpa using hj
    rw [getD_range Y 16 j n4 hj16, getD_range T 16 j Nd.no hj16]
    exact Nv_mono (hY j hj16).2 (fun k hk _ => hB k hk)
theorem F4_set {g4 gk : Nat} {vv : Value} {w : World} (h : F4 g4 gk vv w) (x : Value) : F4 g4 gk x (w.setCell ⟨g4, 2, none⟩ x) := by
  obtain ⟨h1, h2, h3, h4, h5, h6⟩ := h
  have ne : ∀ o, o ≠ 2 → (⟨g4, 2, none⟩ : Addr) ≠ ⟨g4, o, none⟩ := fun o ho e => by injection e with _ e; exact ho e.symm
  refine ⟨by rw [World.setCell]; simpa using h1, ?_, ?_, ?_, ?_, fun o => ?_⟩
  · rw [World.cell?_setCell_other _ _ _ _ (ne 0 (by decide))]; exact h2
  · rw [World.cell?_setCell_other _ _ _ _ (ne 1 (by decide))]; exact h3
  · rw [World.cell?_setCell_same _ _ _ h4]
  · rw [World.cell?_setCell_other _ _ _ _ (ne 3 (by decide))]; exact h5
  · have := World.frozen?_setCells g4 [x] 2 w ⟨g4, o, none⟩
    rw [← h6 o, ← this]
    rfl
theorem prt_take (i : Nat) (M : Rt) (k : Nat) (h : k < M.length) : prt i (M.take (k + 1)) = prt i (M.take k) ++ (if ((M.getD k n2).1.headD 0).toNat = i then [M.getD k n2] else []) := by
  unfold prt
  rw [List.take_add_one, List.filter_append, List.getD_eq_getElem?_getD, List.getElem?_eq_getElem h]
  congr 1
  simp only [Option.toList_some, Option.getD_some, List.filter_cons, List.filter_nil, beq_iff_eq]
theorem infoNd2 : (Try.prog.info? 25).map (fun i => (i.zero, i.size, i.bytes)) = some (some (.agg #[.int .i64 0, .slice none 0 0, .slice none 0 0, .slice none 0 0]), 4, 80) := by kernel_rfl
/-- make([]api.Node, 16). -/
theorem made16 (w : World) : ∃ w', (Instr.makeSlice 23 (.int .i64 16) (.int .i64 16)).run Try.prog w = .ok (.slice (some ⟨w.heap.size, 0, none⟩) 16 16) w' ∧ w'.heap.size = w.heap.size + 1 ∧ w'.there w.heap.size 0 64 ∧ Below w.heap.size w w' := by
  obtain ⟨i0, hi, hz0, hz1, hz2⟩ := info_parts infoNd2
  have hr := run_make (P := Try.prog) w 23 25 i0 _ Try.underlying23 hi hz0 .i64 .i64 16 16 (by omega) (Int.le_refl _) (by rw [hz2]; decide) (by decide)
  refine ⟨_, hr, by simp, fun j hj => ?_, (Below.refl _ _).alloc (Nat.le_refl _) _⟩
  have hn := heap_alloc_new w (.cells (madeCells (Value.agg #[.int .i64 0, .slice none 0 0, .slice none 0 0, .slice none 0 0]).cells ((16 : Int).toNat * i0.size)) 25)
  have hs : j < (madeCells (Value.agg #[.int .i64 0, .slice none 0 0, .slice none 0 0, .slice none 0 0]).cells ((16 : Int).toNat * i0.size)).size := by rw [size_madeCells, hz1]; exact hj
  constructor
  · simp only [World.cell?, hn, Nat.zero_add]
    simp
    exact hs
  · simp only [World.frozen?, hn]
    simp
end Tr
end Go.Proofs.Ythlgneadcagleab
/- Calls through package tree's interface; plain of a none, a leaf, a road. -/
namespace Go.Proofs.Ythlgneadcagleab
namespace Tr
open Nb Go.RowKit
/-- A call of a method by its name. -/
def Inv (name : String) (x : Value) (args : Array Value) (w : World) (R : Ending → World → Prop) : Prop := ∃ f vs, (∀ W : World, (callMethod x name args).run Try.prog W = .ok (.enter f vs) W) ∧ Calls Try.prog f vs w R
theorem Inv.mono {name : String} {x : Value} {args : Array Value} {w : World} {R R' : Ending → World → Prop} (h : Inv name x args w R) (hm : ∀ e w', R e w' → R' e w') : Inv name x args w R' := by
  obtain ⟨f, vs, h1, h2⟩ := h
  exact ⟨f, vs, h1, h2.mono hm⟩
theorem wp_inv {o : Oper} {a : Act} {w : World} {K : Act → World → Prop} {Q : Exit → Act → World → Prop} {x : Operand} {name : String} {args : Array Operand} {ats : Array TypeId} {xv : Value} {vs : Array Value} (ho : o.op = .call { callee := .invoke x name, args := args, argTypes := ats }) (hx : a.eval x = xv) (ha : args.map a.eval = vs)
    (h : Inv name xv vs w (fun e w' => ∃ v, e = .returned v ∧ K (a.put o.dst v) w')) : o.wp Try.prog a w K Q := by
  obtain ⟨f, bs, h1, h2⟩ := h
  have he : (execOp a.eval o).run Try.prog w = .ok (.enter f bs) w := by
    unfold execOp
    simp only [ho, resolve, invoke, Sem.run_bind, Sem.run_pure, Result.andThen_ok, hx, ha]
    have e1 : (#[xv] ++ vs)[0]? = some xv := by rw [Array.getElem?_append_left (by simp)]; rfl
    have e2 : (#[xv] ++ vs).extract 1 (#[xv] ++ vs).size = vs := by
      apply Array.ext'
      simp
    simp only [e1, e2, h1 w]
  unfold Oper.wp
  rw [he]
  show Calls _ _ _ _ _
  refine h2.mono ?_
  rintro e w' ⟨v, rfl, hk⟩
  exact hk
theorem wpList_inv {ops : Array Oper} {rest : List Oper} {o : Oper} {a : Act} {w : World} {Q : Exit → Act → World → Prop} {x : Operand} {name : String} {args : Array Operand} {ats : Array TypeId} {xv : Value} {vs : Array Value} (hgd : o.guard = none) (ho : o.op = .call { callee := .invoke x name, args := args, argTypes := ats }) (hx : a.eval x = xv) (ha : args.map a.eval = vs)
    (h : Inv name xv vs w (fun e w' => ∃ v, e = .returned v ∧ wpList Try.prog ops Q rest (a.put o.dst v) w')) : wpList Try.prog ops Q (o :: rest) a w :=
  wpList_plain hgd fun _ hK => wp_inv ho hx ha (h.mono fun _ _ ⟨v, h1, h2⟩ => ⟨v, h1, hK _ _ h2⟩)
theorem pl_none (v : Value) (W : World) : (callMethod (.iface 65 v) "lampbearer/tree.plain" #[]).run Try.prog W = .ok (.enter 65 #[v]) W := by kernel_rfl
theorem pl_leaf (v : Value) (W : World) : (callMethod (.iface 67 v) "lampbearer/tree.plain" #[]).run Try.prog W = .ok (.enter 68 #[v]) W := by kernel_rfl
theorem pl_road (v : Value) (W : World) : (callMethod (.iface 75 v) "lampbearer/tree.plain" #[]).run Try.prog W = .ok (.enter 74 #[v]) W := by kernel_rfl
theorem pl_fork (a : Option Addr) (W : World) : (callMethod (.iface 69 (.pointer a)) "lampbearer/tree.plain" #[]).run Try.prog W = .ok (.enter 71 #[.pointer a]) W := by kernel_rfl
/-- A plain node comes out. -/
def PN (w : World) (t : Nd) (e : Ending) (w' : World) : Prop := ∃ u : V4, e = .returned (v4 u) ∧ Nv (w.heap.size ≤ ·) w' t u ∧ Below w.heap.size w w'
set_option maxHeartbeats 1000000 in
set_option maxRecDepth 100000 in
theorem plain_none (w : World) : Calls Try.prog 65 #[.agg #[]] w (PN w Nd.no) := by
  have b1 : Below w.heap.size w (w.alloc (.cells #[] 65)) := (Below.refl _ _).alloc (Nat.le_refl _) _
  have hs1 : (w.alloc (.cells #[] 65)).heap.size = w.heap.size + 1 := by simp
  have BV := B4_new (w.alloc (.cells #[] 65))
  have HB : Below w.heap.size w ((w.alloc (.cells #[] 65)).alloc (.cells #[.int .i64 0, .slice none 0 0, .slice none 0 0, .slice none 0 0] 25)) := b1.alloc (by omega) _
  rw [hs1] at BV
  go_enter Try.func65, Try.ntmps65
  go_wp2_with (refine wpList_st4 rfl rfl rfl rfl BV ?_; intro w9 gb9 s0 s1 s2 s3)
  have B9 : Below w.heap.size w w9 := HB.grown gb9 HB.size (fun k e => by injection e with e; omega)
  exact bodyPost_ret (v := .agg #[.int .i64 0, .slice none 0 0, .slice none 0 0, .slice none 0 0]) (resN _ _ _ (w.heap.size + 1) 2 _ _ _ _ rfl rfl s0 s1 s2 s3) rfl ⟨(.int .i64 0, .slice none 0 0, .slice none 0 0, .slice none 0 0), rfl, Nv_no _ _, B9⟩
structure PW2 (w W0 : World) (g2 : Nat) (f : Bool) (wx : World) : Prop where
  a : f = false → Below W0.heap.size W0 wx
  v : f = false → B4 g2 wx
  b : Below w.heap.size w wx
  s : W0.heap.size ≤ wx.heap.size
theorem clone_call {S : Nat → Prop} {p : By} {u : Value} {w : World} (hp : Bs S p u w) (hl : p.length ≤ 4194304) : Calls Try.prog 23 #[u] w fun e w' => ∃ a c, e = .returned (.slice a p.length c) ∧ Bs (w.heap.size ≤ ·) p (.slice a p.length c) w' ∧ Below w.heap.size w w' := by
  refine (clone_bs hp hl).mono fun e w' he => ?_
  obtain ⟨v, h1, h2, h3⟩ := he
  obtain ⟨a, c, rfl, _⟩ := Bs_form h2
  exact ⟨a, c, h1, Bs_mono h2 (fun k hk _ => hk.1), h3⟩
inductive PLI (w W0 : World) (p v : By) (a1 a2 : Option Addr) (n1 c1 n2 c2 g1 g2 : Nat) (d : Nat → Bool) (x : Act) (wx : World) : Prop where
  | mk (u3 u4 u5 u6 u7 u8 u9 : Value) (hx : x = { tmps := #[.agg #[.slice a1 n1 c1, .slice a2 n2 c2], .pointer (some ⟨g1, 0, none⟩), .pointer (some ⟨g2, 0, none⟩), u3, u4, u5, u6, u7, u8, u9], defers := [] }) (hw : PW2 w W0 g2 (d 7) wx) (p0 : d 0 = true → u3 = .pointer (some ⟨g1, 0, none⟩)) (p1 : d 1 = true → u4 = .slice a1 n1 c1) (p3 : d 3 = true → u6 = .pointer (some ⟨g1, 1, none⟩)) (p4 : d 4 = true → u7 = .slice a2 n2 c2) (z2 : d 2 = true → ∃ a c, u5 = .slice a p.length c ∧ Bs (W0.heap.size ≤ ·) p (.slice a p.length c) wx) (z5 : d 5 = true → ∃ a c, u8 = .slice a v.length c ∧ Bs (W0.heap.size ≤ ·) v (.slice a v.length c) wx) (z6 : d 6 = true → ∃ a c b e, u9 = .agg #[.int .i64 1, .slice a p.length c, .slice b v.length e, .slice none 0 0] ∧ Bs (W0.heap.size ≤ ·) p (.slice a p.length c) wx ∧ Bs (W0.heap.size ≤ ·) v (.slice b v.length e) wx) (z7 : d 7 = true → ∃ a c b e, wx.cell? ⟨g2, 0, none⟩ = some (.int .i64 1) ∧ wx.cell? ⟨g2, 1, none⟩ = some (.slice a p.length c) ∧ wx.cell? ⟨g2, 2, none⟩ = some (.slice b v.length e) ∧ wx.cell? ⟨g2, 3, none⟩ = some (.slice none 0 0) ∧ Bs (W0.heap.size ≤ ·) p (.slice a p.length c) wx ∧ Bs (W0.heap.size ≤ ·) v (.slice b v.length e) wx) (yL : d 7 = true → d 1 = true ∧ d 2 = true ∧ d 4 = true ∧ d 5 = true) : PLI w W0 p v  a1 a2 n1 c1 n2 c2 g1 g2 d x wx
set_option maxHeartbeats 4000000 in
set_option maxRecDepth 100000 in
theorem plain_leaf (p v : By) (a1 a2 : Option Addr) (c1 c2 : Nat) (w : World) (S : Nat → Prop) (hp : Bs S p (.slice a1 p.length c1) w) (hv : Bs S v (.slice a2 v.length c2) w) (hpl : p.length ≤ 4194304) (hvl : v.length ≤ 4194304) :
    Calls Try.prog 68 #[.agg #[.slice a1 p.length c1, .slice a2 v.length c2]] w (PN w (.mk 1 p v [])) := by
  have b1 : Below w.heap.size w (w.alloc (.cells #[.slice a1 p.length c1, .slice a2 v.length c2] 67)) := (Below.refl _ _).alloc (Nat.le_refl _) _
  have hs1 : (w.alloc (.cells #[.slice a1 p.length c1, .slice a2 v.length c2] 67)).heap.size = w.heap.size + 1 := by simp
  have b2 : Below (w.alloc (.cells #[.slice a1 p.length c1, .slice a2 v.length c2] 67)).heap.size (w.alloc (.cells #[.slice a1 p.length c1, .slice a2 v.length c2] 67)) ((w.alloc (.cells #[.slice a1 p.length c1, .slice a2 v.length c2] 67)).alloc (.cells #[.int .i64 0, .slice none 0 0, .slice none 0 0, .slice none 0 0] 25)) := (Below.refl _ _).alloc (Nat.le_refl _) _
  have HB : Below w.heap.size w ((w.alloc (.cells #[.slice a1 p.length c1, .slice a2 v.length c2] 67)).alloc (.cells #[.int .i64 0, .slice none 0 0, .slice none 0 0, .slice none 0 0] 25)) := b1.trans (b2.mono b1.size)
  have HA := heap_alloc_new w (.cells #[.slice a1 p.length c1, .slice a2 v.length c2] 67)
  have q0 : (w.alloc (.cells #[.slice a1 p.length c1, .slice a2 v.length c2] 67)).cell? ⟨w.heap.size, 0, none⟩ = some (.slice a1 p.length c1) := by simp only [World.cell?, HA]; rfl
  have q1 : (w.alloc (.cells #[.slice a1 p.length c1, .slice a2 v.length c2] 67)).cell? ⟨w.heap.size, 1, none⟩ = some (.slice a2 v.length c2) := by simp only [World.cell?, HA]; rfl
  have Q0 : Hid (((w.alloc (.cells #[.slice a1 p.length c1, .slice a2 v.length c2] 67)).alloc (.cells #[.int .i64 0, .slice none 0 0, .slice none 0 0, .slice none 0 0] 25)).cell? ⟨w.heap.size, 0, none⟩ = some (.slice a1 p.length c1)) := (b2.cell (p := ⟨w.heap.size, 0, none⟩) (by show w.heap.size < _; omega)).trans q0
  have Q1 : Hid (((w.alloc (.cells #[.slice a1 p.length c1, .slice a2 v.length c2] 67)).alloc (.cells #[.int .i64 0, .slice none 0 0, .slice none 0 0, .slice none 0 0] 25)).cell? ⟨w.heap.size, 1, none⟩ = some (.slice a2 v.length c2)) := (b2.cell (p := ⟨w.heap.size, 1, none⟩) (by show w.heap.size < _; omega)).trans q1
  have BV := B4_new (w.alloc (.cells #[.slice a1 p.length c1, .slice a2 v.length c2] 67))
  rw [hs1] at BV
  have hs2 : ((w.alloc (.cells #[.slice a1 p.length c1, .slice a2 v.length c2] 67)).alloc (.cells #[.int .i64 0, .slice none 0 0, .slice none 0 0, .slice none 0 0] 25)).heap.size = w.heap.size + 1 + 1 := by simp
  have HG1 : Hid (w.heap.size < ((w.alloc (.cells #[.slice a1 p.length c1, .slice a2 v.length c2] 67)).alloc (.cells #[.int .i64 0, .slice none 0 0, .slice none 0 0, .slice none 0 0] 25)).heap.size) := by show _ < _; omega
  have HG2 : Hid (w.heap.size + 1 < ((w.alloc (.cells #[.slice a1 p.length c1, .slice a2 v.length c2] 67)).alloc (.cells #[.int .i64 0, .slice none 0 0, .slice none 0 0, .slice none 0 0] 25)).heap.size) := by show _ < _; omega
  have HG2B : Hid (w.heap.size ≤ w.heap.size + 1) := by show _ ≤ _; omega
  have HGL : Hid (w.heap.size ≤ ((w.alloc (.cells #[.slice a1 p.length c1, .slice a2 v.length c2] 67)).alloc (.cells #[.int .i64 0, .slice none 0 0, .slice none 0 0, .slice none 0 0] 25)).heap.size) := HB.size
  have KC1 : Hid (∀ wx : World, Below ((w.alloc (.cells #[.slice a1 p.length c1, .slice a2 v.length c2] 67)).alloc (.cells #[.int .i64 0, .slice none 0 0, .slice none 0 0, .slice none 0 0] 25)).heap.size ((w.alloc (.cells #[.slice a1 p.length c1, .slice a2 v.length c2] 67)).alloc (.cells #[.int .i64 0, .slice none 0 0, .slice none 0 0, .slice none 0 0] 25)) wx → Calls Try.prog 23 #[.slice a1 p.length c1] wx fun e w' => ∃ a c, e = .returned (.slice a p.length c) ∧ Bs (wx.heap.size ≤ ·) p (.slice a p.length c) w' ∧ Below wx.heap.size wx w') := fun wx hb => clone_call (Bs_below hp (HB.trans (hb.mono HB.size))) hpl
  have KC2 : Hid (∀ wx : World, Below ((w.alloc (.cells #[.slice a1 p.length c1, .slice a2 v.length c2] 67)).alloc (.cells #[.int .i64 0, .slice none 0 0, .slice none 0 0, .slice none 0 0] 25)).heap.size ((w.alloc (.cells #[.slice a1 p.length c1, .slice a2 v.length c2] 67)).alloc (.cells #[.int .i64 0, .slice none 0 0, .slice none 0 0, .slice none 0 0] 25)) wx → Calls Try.prog 23 #[.slice a2 v.length c2] wx fun e w' => ∃ a c, e = .returned (.slice a v.length c) ∧ Bs (wx.heap.size ≤ ·) v (.slice a v.length c) w' ∧ Below wx.heap.size wx w') := fun wx hb => clone_call (Bs_below hv (HB.trans (hb.mono HB.size))) hvl
  clear HA q0 q1 b1 b2 hp hv hpl hvl
  unfold PN
  go_enter Try.func68, Try.ntmps68
  go_upto_region 1 with fail
  clear hs1 hs2
  generalize ((w.alloc (.cells #[.slice a1 p.length c1, .slice a2 v.length c2] 67)).alloc (.cells #[.int .i64 0, .slice none 0 0, .slice none 0 0, .slice none 0 0] 25)) = W1 at *
  have hw0 : PW2 w W1 (w.heap.size + 1) false W1.drew := ⟨fun _ => (Below.refl _ _).drew, fun _ => B4_gb (r := none) BV (gb_below (Below.refl _ _).drew) (fun e => by cases e), HB.drew, Nat.le_refl _⟩
  generalize hg2 : w.heap.size + 1 = g2 at *
  obtain ⟨g1, eg1⟩ : ∃ g1, g1 = w.heap.size := ⟨_, rfl⟩
  rw [← eg1] at Q0 Q1 HG1
  have E1 : Hid (g1 = w.heap.size) := eg1
  rw [← eg1]
  clear eg1
  refine RI.wp_region_inv (PLI w W1 p v  a1 a2 p.length c1 v.length c2 g1 g2) (by kernel_rfl) (by kernel_rfl) ?_ ?_ ?_
  · exact ⟨undef, undef, undef, undef, undef, undef, undef, rfl, hw0, nofun, nofun, nofun, nofun, nofun, nofun, nofun, nofun, nofun⟩
  · skip
    intro d x wx i hI hi hm
    obtain ⟨u3, u4, u5, u6, u7, u8, u9, rfl, hw, p0, p1, p3, p4, z2, z5, z6, z7, yL⟩ := hI
    have hi' : i = 0 ∨ i = 1 ∨ i = 2 ∨ i = 3 ∨ i = 4 ∨ i = 5 ∨ i = 6 ∨ i = 7 := by simp at hi; omega
    have hd := hm.2
    have hf := hm.1
    clear hm hi
    rcases hi' with rfl | rfl | rfl | rfl | rfl | rfl | rfl | rfl
    · refine RI.wpOp_plain rfl rfl ?_
      go_simp
      exact ⟨_, u4, u5, u6, u7, u8, u9, rfl, hw, fun _ => rfl, p1, p3, p4, z2, z5, z6, z7, yL⟩
    · have hd := hd _ rfl
      simp [Region.binds] at hd
      obtain rfl := p0 (by simp [hd])
      refine RI.wpOp_plain rfl rfl ?_
      have hL : d 7 = false := by cases h : d 7 with | false => rfl | true => exact absurd (yL h).1 (by simp [hf])
      have x0 := ((hw.a hL).cell (p := ⟨g1, 0, none⟩) HG1.out).trans Q0.out
      go_simp
      exact ⟨_, _, u5, u6, u7, u8, u9, rfl, hw, p0, fun _ => rfl, p3, p4, z2, z5, z6, z7, (fun h => absurd h (by simp [RI.don, hL]))⟩
    · have hd := hd _ rfl
      simp [Region.binds] at hd
      obtain rfl := p1 (by simp [hd])
      refine RI.wpOp_plain rfl rfl ?_
      have hL : d 7 = false := by cases h : d 7 with | false => rfl | true => exact absurd (yL h).2.1 (by simp [hf])
      have kc := KC1.out _ (hw.a hL)
      go_simp
      refine (kc).mono ?_
      rintro e w1 ⟨a, c, rfl, hs1, hb1⟩
      exact ⟨u3, _, _, u6, u7, u8, u9, rfl, ⟨fun h => (hw.a h).trans (hb1.mono hw.s), fun h => B4_gb (r := none) (hw.v h) (gb_below hb1) (fun e => by cases e), hw.b.trans (hb1.mono hw.b.size), Nat.le_trans hw.s hb1.size⟩, p0, p1, p3, p4, fun _ => ⟨_, _, rfl, Bs_mono hs1 (fun k h _ => Nat.le_trans hw.s h)⟩, (fun h => (z5 h).imp fun a ha => ha.imp fun c hc => ⟨hc.1, Bs_below hc.2 hb1⟩), (fun h => (z6 h).imp fun a ha => ha.imp fun c hc => hc.imp fun b hb => hb.imp fun e he => ⟨he.1, Bs_below he.2.1 hb1, Bs_below he.2.2 hb1⟩), ((fun h => absurd h (by simp [RI.don, hL]))), (fun h => absurd h (by simp [RI.don, hL]))⟩
    · refine RI.wpOp_plain rfl rfl ?_
      go_simp
      exact ⟨u3, u4, u5, _, u7, u8, u9, rfl, hw, p0, p1, fun _ => rfl, p4, z2, z5, z6, z7, yL⟩
    · have hd := hd _ rfl
      simp [Region.binds] at hd
      obtain rfl := p3 (by simp [hd])
      refine RI.wpOp_plain rfl rfl ?_
      have hL : d 7 = false := by cases h : d 7 with | false => rfl | true => exact absurd (yL h).2.2.1 (by simp [hf])
      have x0 := ((hw.a hL).cell (p := ⟨g1, 1, none⟩) HG1.out).trans Q1.out
      go_simp
      exact ⟨u3, u4, u5, _, _, u8, u9, rfl, hw, p0, p1, p3, fun _ => rfl, z2, z5, z6, z7, (fun h => absurd h (by simp [RI.don, hL]))⟩
    · have hd := hd _ rfl
      simp [Region.binds] at hd
      obtain rfl := p4 (by simp [hd])
      refine RI.wpOp_plain rfl rfl ?_
      have hL : d 7 = false := by cases h : d 7 with | false => rfl | true => exact absurd (yL h).2.2.2 (by simp [hf])
      have kc := KC2.out _ (hw.a hL)
      go_simp
      refine (kc).mono ?_
      rintro e w1 ⟨a, c, rfl, hs1, hb1⟩
      exact ⟨u3, u4, u5, u6, _, _, u9, rfl, ⟨fun h => (hw.a h).trans (hb1.mono hw.s), fun h => B4_gb (r := none) (hw.v h) (gb_below hb1) (fun e => by cases e), hw.b.trans (hb1.mono hw.b.size), Nat.le_trans hw.s hb1.size⟩, p0, p1, p3, p4, (fun h => (z2 h).imp fun a ha => ha.imp fun c hc => ⟨hc.1, Bs_below hc.2 hb1⟩), fun _ => ⟨_, _, rfl, Bs_mono hs1 (fun k h _ => Nat.le_trans hw.s h)⟩, (fun h => (z6 h).imp fun a ha => ha.imp fun c hc => hc.imp fun b hb => hb.imp fun e he => ⟨he.1, Bs_below he.2.1 hb1, Bs_below he.2.2 hb1⟩), ((fun h => absurd h (by simp [RI.don, hL]))), (fun h => absurd h (by simp [RI.don, hL]))⟩
    · have hd := hd _ rfl
      simp [Region.binds] at hd
      refine RI.wpOp_plain rfl rfl ?_
      obtain ⟨qa, qc, rfl, hb6⟩ := z2 (by simp [hd])
      obtain ⟨ra, rc, rfl, hb7⟩ := z5 (by simp [hd])
      go_simp
      exact ⟨u3, u4, _, u6, u7, _, _, rfl, hw, p0, p1, p3, p4, z2, z5, fun _ => ⟨_, _, _, _, rfl, hb6, hb7⟩, z7, yL⟩
    · have hd := hd _ rfl
      simp [Region.binds] at hd
      obtain rfl := p0 (by simp [hd])
      obtain rfl := p1 (by simp [hd])
      obtain rfl := p3 (by simp [hd])
      obtain rfl := p4 (by simp [hd])
      refine RI.wpOp_plain rfl rfl ?_
      obtain ⟨qa, qc, ra, rc, rfl, hb6, hb7⟩ := z6 (by simp [hd])
      refine wp_st4 rfl rfl rfl (hw.v hf) ?_
      intro w1 gb1 s0 s1 s2 s3
      have NE : ∀ k, W1.heap.size ≤ k → some k ≠ some g2 := fun k hk e => by injection e with e; have := HG2.out; omega
      simp only [Act.put]
      exact ⟨_, _, u5, _, _, u8, _, rfl, ⟨nofun, nofun, hw.b.grown gb1 hw.b.size (fun k e => by injection e with e; have := HG2B.out; omega), Nat.le_trans hw.s gb1.size⟩, p0, p1, p3, p4, fun h => (z2 h).imp fun a ha => ha.imp fun c hc => ⟨hc.1, Bs_gb hc.2 gb1 NE⟩, fun h => (z5 h).imp fun a ha => ha.imp fun c hc => ⟨hc.1, Bs_gb hc.2 gb1 NE⟩, fun _ => ⟨_, _, _, _, rfl, Bs_gb hb6 gb1 NE, Bs_gb hb7 gb1 NE⟩, fun _ => ⟨_, _, _, _, s0, s1, s2, s3, Bs_gb hb6 gb1 NE, Bs_gb hb7 gb1 NE⟩, fun _ => ⟨by simp [RI.don, hd], by simp [RI.don, hd], by simp [RI.don, hd], by simp [RI.don, hd]⟩⟩
  · skip
    intro d x wx hI hd
    obtain ⟨u3, u4, u5, u6, u7, u8, u9, rfl, hw, p0, p1, p3, p4, z2, z5, z6, z7, yL⟩ := hI
    obtain ⟨qa, qc, ra, rc, s0, s1, s2, s3, t1, t2⟩ := z7 (hd 7 (by decide))
    have N : Hid (Nv (w.heap.size ≤ ·) wx (.mk 1 p v []) (.int .i64 1, .slice qa p.length qc, .slice ra v.length rc, .slice none 0 0)) := .mk 1 p v [] _ _ _ [] (Bs_mono t1 (fun k h _ => Nat.le_trans HGL.out h)) (Bs_mono t2 (fun k h _ => Nat.le_trans HGL.out h)) rfl (Ks_nil _ _) (fun j hj => absurd hj (by simp))
    have HBW : Hid (Below w.heap.size w wx) := hw.b
    clear hw t1 t2 p0 p1 p3 p4 z2 z5 z6 z7 yL
    go_wp2_with fail
    exact bodyPost_ret (v := .agg #[.int .i64 1, .slice qa p.length qc, .slice ra v.length rc, .slice none 0 0]) (resN _ _ _ g2 2 _ _ _ _ rfl rfl s0 s1 s2 s3) rfl ⟨(.int .i64 1, .slice qa p.length qc, .slice ra v.length rc, .slice none 0 0), rfl, by first | exact N.out | (rw [E1.out]; exact N.out), by first | exact HBW.out | (rw [E1.out]; exact HBW.out)⟩
inductive PRI (w W0 : World) (p : By) (t : Nd) (a1 : Option Addr) (n1 c1 gk g1 g2 : Nat) (d : Nat → Bool) (x : Act) (wx : World) : Prop where
  | mk (u3 u4 u5 u6 u7 u8 u9 u10 : Value) (hx : x = { tmps := #[.agg #[.slice a1 n1 c1, .pointer (some ⟨gk, 0, none⟩)], .pointer (some ⟨g1, 0, none⟩), .pointer (some ⟨g2, 0, none⟩), u3, u4, u5, u6, u7, u8, u9, u10], defers := [] }) (hw : PW2 w W0 g2 (d 8) wx) (p0 : d 0 = true → u3 = .pointer (some ⟨g1, 0, none⟩)) (p1 : d 1 = true → u4 = .slice a1 n1 c1) (p3 : d 3 = true → u6 = .pointer (some ⟨g1, 1, none⟩)) (p4 : d 4 = true → u7 = .pointer (some ⟨gk, 0, none⟩)) (z2 : d 2 = true → ∃ a c, u5 = .slice a p.length c ∧ Bs (W0.heap.size ≤ ·) p (.slice a p.length c) wx) (z5 : d 5 = true → ∃ y, u8 = v4 y ∧ Nv (W0.heap.size ≤ ·) wx t y) (z6 : d 6 = true → ∃ a c y, u9 = .slice a 1 c ∧ Ks (W0.heap.size ≤ ·) [y] u9 wx ∧ Nv (W0.heap.size ≤ ·) wx t y) (z7 : d 7 = true → ∃ a1 c1 a3 c3 y, u10 = .agg #[.int .i64 2, .slice a1 p.length c1, .slice none 0 0, .slice a3 1 c3] ∧ Bs (W0.heap.size ≤ ·) p (.slice a1 p.length c1) wx ∧ Ks (W0.heap.size ≤ ·) [y] (.slice a3 1 c3) wx ∧ Nv (W0.heap.size ≤ ·) wx t y) (z8 : d 8 = true → ∃ a1 c1 a3 c3 y, wx.cell? ⟨g2, 0, none⟩ = some (.int .i64 2) ∧ wx.cell? ⟨g2, 1, none⟩ = some (.slice a1 p.length c1) ∧ wx.cell? ⟨g2, 2, none⟩ = some (.slice none 0 0) ∧ wx.cell? ⟨g2, 3, none⟩ = some (.slice a3 1 c3) ∧ Bs (W0.heap.size ≤ ·) p (.slice a1 p.length c1) wx ∧ Ks (W0.heap.size ≤ ·) [y] (.slice a3 1 c3) wx ∧ Nv (W0.heap.size ≤ ·) wx t y) (yL : d 8 = true → d 1 = true ∧ d 2 = true ∧ d 4 = true ∧ d 5 = true ∧ d 6 = true) : PRI w W0 p  t a1  n1 c1 gk g1 g2 d x wx
set_option maxHeartbeats 4000000 in
set_option maxRecDepth 100000 in
theorem plain_road (p : By) (t : Nd) (a1 : Option Addr) (c1 gk : Nat) (w : World) (S : Nat → Prop) (hp : Bs S p (.slice a1 p.length c1) w) (hpl : p.length ≤ 4194304) (KF0 : ∀ wx : World, Below w.heap.size w wx → Calls Try.prog 71 #[.pointer (some ⟨gk, 0, none⟩)] wx (PN wx t)) :
    Calls Try.prog 74 #[.agg #[.slice a1 p.length c1, .pointer (some ⟨gk, 0, none⟩)]] w (PN w (.mk 2 p [] [t])) := by
  have b1 : Below w.heap.size w (w.alloc (.cells #[.slice a1 p.length c1, .pointer (some ⟨gk, 0, none⟩)] 75)) := (Below.refl _ _).alloc (Nat.le_refl _) _
  have hs1 : (w.alloc (.cells #[.slice a1 p.length c1, .pointer (some ⟨gk, 0, none⟩)] 75)).heap.size = w.heap.size + 1 := by simp
  have b2 : Below (w.alloc (.cells #[.slice a1 p.length c1, .pointer (some ⟨gk, 0, none⟩)] 75)).heap.size (w.alloc (.cells #[.slice a1 p.length c1, .pointer (some ⟨gk, 0, none⟩)] 75)) ((w.alloc (.cells #[.slice a1 p.length c1, .pointer (some ⟨gk, 0, none⟩)] 75)).alloc (.cells #[.int .i64 0, .slice none 0 0, .slice none 0 0, .slice none 0 0] 25)) := (Below.refl _ _).alloc (Nat.le_refl _) _
  have HB : Below w.heap.size w ((w.alloc (.cells #[.slice a1 p.length c1, .pointer (some ⟨gk, 0, none⟩)] 75)).alloc (.cells #[.int .i64 0, .slice none 0 0, .slice none 0 0, .slice none 0 0] 25)) := b1.trans (b2.mono b1.size)
  have HA := heap_alloc_new w (.cells #[.slice a1 p.length c1, .pointer (some ⟨gk, 0, none⟩)] 75)
  have q0 : (w.alloc (.cells #[.slice a1 p.length c1, .pointer (some ⟨gk, 0, none⟩)] 75)).cell? ⟨w.heap.size, 0, none⟩ = some (.slice a1 p.length c1) := by simp only [World.cell?, HA]; rfl
  have q1 : (w.alloc (.cells #[.slice a1 p.length c1, .pointer (some ⟨gk, 0, none⟩)] 75)).cell? ⟨w.heap.size, 1, none⟩ = some (.pointer (some ⟨gk, 0, none⟩)) := by simp only [World.cell?, HA]; rfl
  have Q0 : Hid (((w.alloc (.cells #[.slice a1 p.length c1, .pointer (some ⟨gk, 0, none⟩)] 75)).alloc (.cells #[.int .i64 0, .slice none 0 0, .slice none 0 0, .slice none 0 0] 25)).cell? ⟨w.heap.size, 0, none⟩ = some (.slice a1 p.length c1)) := (b2.cell (p := ⟨w.heap.size, 0, none⟩) (by show w.heap.size < _; omega)).trans q0
  have Q1 : Hid (((w.alloc (.cells #[.slice a1 p.length c1, .pointer (some ⟨gk, 0, none⟩)] 75)).alloc (.cells #[.int .i64 0, .slice none 0 0, .slice none 0 0, .slice none 0 0] 25)).cell? ⟨w.heap.size, 1, none⟩ = some (.pointer (some ⟨gk, 0, none⟩))) := (b2.cell (p := ⟨w.heap.size, 1, none⟩) (by show w.heap.size < _; omega)).trans q1
  have BV := B4_new (w.alloc (.cells #[.slice a1 p.length c1, .pointer (some ⟨gk, 0, none⟩)] 75))
  rw [hs1] at BV
  have hs2 : ((w.alloc (.cells #[.slice a1 p.length c1, .pointer (some ⟨gk, 0, none⟩)] 75)).alloc (.cells #[.int .i64 0, .slice none 0 0, .slice none 0 0, .slice none 0 0] 25)).heap.size = w.heap.size + 1 + 1 := by simp
  have HG1 : Hid (w.heap.size < ((w.alloc (.cells #[.slice a1 p.length c1, .pointer (some ⟨gk, 0, none⟩)] 75)).alloc (.cells #[.int .i64 0, .slice none 0 0, .slice none 0 0, .slice none 0 0] 25)).heap.size) := by show _ < _; omega
  have HG2 : Hid (w.heap.size + 1 < ((w.alloc (.cells #[.slice a1 p.length c1, .pointer (some ⟨gk, 0, none⟩)] 75)).alloc (.cells #[.int .i64 0, .slice none 0 0, .slice none 0 0, .slice none 0 0] 25)).heap.size) := by show _ < _; omega
  have HG2B : Hid (w.heap.size ≤ w.heap.size + 1) := by show _ ≤ _; omega
  have HGL : Hid (w.heap.size ≤ ((w.alloc (.cells #[.slice a1 p.length c1, .pointer (some ⟨gk, 0, none⟩)] 75)).alloc (.cells #[.int .i64 0, .slice none 0 0, .slice none 0 0, .slice none 0 0] 25)).heap.size) := HB.size
  have KC1 : Hid (∀ wx : World, Below ((w.alloc (.cells #[.slice a1 p.length c1, .pointer (some ⟨gk, 0, none⟩)] 75)).alloc (.cells #[.int .i64 0, .slice none 0 0, .slice none 0 0, .slice none 0 0] 25)).heap.size ((w.alloc (.cells #[.slice a1 p.length c1, .pointer (some ⟨gk, 0, none⟩)] 75)).alloc (.cells #[.int .i64 0, .slice none 0 0, .slice none 0 0, .slice none 0 0] 25)) wx → Calls Try.prog 23 #[.slice a1 p.length c1] wx fun e w' => ∃ a c, e = .returned (.slice a p.length c) ∧ Bs (wx.heap.size ≤ ·) p (.slice a p.length c) w' ∧ Below wx.heap.size wx w') := fun wx hb => clone_call (Bs_below hp (HB.trans (hb.mono HB.size))) hpl
  have KC2 : Hid (∀ wx : World, Below ((w.alloc (.cells #[.slice a1 p.length c1, .pointer (some ⟨gk, 0, none⟩)] 75)).alloc (.cells #[.int .i64 0, .slice none 0 0, .slice none 0 0, .slice none 0 0] 25)).heap.size ((w.alloc (.cells #[.slice a1 p.length c1, .pointer (some ⟨gk, 0, none⟩)] 75)).alloc (.cells #[.int .i64 0, .slice none 0 0, .slice none 0 0, .slice none 0 0] 25)) wx → Calls Try.prog 71 #[.pointer (some ⟨gk, 0, none⟩)] wx fun e w' => ∃ y : V4, e = .returned (v4 y) ∧ Nv (wx.heap.size ≤ ·) w' t y ∧ Below wx.heap.size wx w') := fun wx hb => KF0 wx (HB.trans (hb.mono HB.size))
  clear HA q0 q1 b1 b2 hp hpl KF0
  unfold PN
  go_enter Try.func74, Try.ntmps74
  go_upto_region 1 with fail
  clear hs1 hs2
  generalize ((w.alloc (.cells #[.slice a1 p.length c1, .pointer (some ⟨gk, 0, none⟩)] 75)).alloc (.cells #[.int .i64 0, .slice none 0 0, .slice none 0 0, .slice none 0 0] 25)) = W1 at *
  have hw0 : PW2 w W1 (w.heap.size + 1) false W1.drew := ⟨fun _ => (Below.refl _ _).drew, fun _ => B4_gb (r := none) BV (gb_below (Below.refl _ _).drew) (fun e => by cases e), HB.drew, Nat.le_refl _⟩
  generalize hg2 : w.heap.size + 1 = g2 at *
  obtain ⟨g1, eg1⟩ : ∃ g1, g1 = w.heap.size := ⟨_, rfl⟩
  rw [← eg1] at Q0 Q1 HG1
  have E1 : Hid (g1 = w.heap.size) := eg1
  rw [← eg1]
  clear eg1
  refine RI.wp_region_inv (PRI w W1 p  t a1  p.length c1 gk g1 g2) (by kernel_rfl) (by kernel_rfl) ?_ ?_ ?_
  · exact ⟨undef, undef, undef, undef, undef, undef, undef, undef, rfl, hw0, nofun, nofun, nofun, nofun, nofun, nofun, nofun, nofun, nofun, nofun⟩
  · skip
    intro d x wx i hI hi hm
    obtain ⟨u3, u4, u5, u6, u7, u8, u9, u10, rfl, hw, p0, p1, p3, p4, z2, z5, z6, z7, z8, yL⟩ := hI
    have hi' : i = 0 ∨ i = 1 ∨ i = 2 ∨ i = 3 ∨ i = 4 ∨ i = 5 ∨ i = 6 ∨ i = 7 ∨ i = 8 := by simp at hi; omega
    have hd := hm.2
    have hf := hm.1
    clear hm hi
    rcases hi' with rfl | rfl | rfl | rfl | rfl | rfl | rfl | rfl | rfl
    · refine RI.wpOp_plain rfl rfl ?_
      go_simp
      exact ⟨_, u4, u5, u6, u7, u8, u9, u10, rfl, hw, fun _ => rfl, p1, p3, p4, z2, z5, z6, z7, z8, yL⟩
    · have hd := hd _ rfl
      simp [Region.binds] at hd
      obtain rfl := p0 (by simp [hd])
      refine RI.wpOp_plain rfl rfl ?_
      have hL : d 8 = false := by cases h : d 8 with | false => rfl | true => exact absurd (yL h).1 (by simp [hf])
      have x0 := ((hw.a hL).cell (p := ⟨g1, 0, none⟩) HG1.out).trans Q0.out
      go_simp
      exact ⟨_, _, u5, u6, u7, u8, u9, u10, rfl, hw, p0, fun _ => rfl, p3, p4, z2, z5, z6, z7, z8, (fun h => absurd h (by simp [RI.don, hL]))⟩
    · have hd := hd _ rfl
      simp [Region.binds] at hd
      obtain rfl := p1 (by simp [hd])
      refine RI.wpOp_plain rfl rfl ?_
      have hL : d 8 = false := by cases h : d 8 with | false => rfl | true => exact absurd (yL h).2.1 (by simp [hf])
      have kc := KC1.out _ (hw.a hL)
      go_simp
      refine (kc).mono ?_
      rintro e w1 ⟨a, c, rfl, hs1, hb1⟩
      exact ⟨u3, _, _, u6, u7, u8, u9, u10, rfl, ⟨fun h => (hw.a h).trans (hb1.mono hw.s), fun h => B4_gb (r := none) (hw.v h) (gb_below hb1) (fun e => by cases e), hw.b.trans (hb1.mono hw.b.size), Nat.le_trans hw.s hb1.size⟩, p0, p1, p3, p4, fun _ => ⟨_, _, rfl, Bs_mono hs1 (fun k h _ => Nat.le_trans hw.s h)⟩, (fun h => (z5 h).imp fun y hy => ⟨hy.1, Nv_below hy.2 hb1⟩), (fun h => (z6 h).imp fun a ha => ha.imp fun c hc => hc.imp fun y hy => ⟨hy.1, Ks_below hy.2.1 hb1, Nv_below hy.2.2 hb1⟩), (fun h => (z7 h).imp fun a ha => ha.imp fun c hc => hc.imp fun b hb => hb.imp fun e he => he.imp fun y hy => ⟨hy.1, Bs_below hy.2.1 hb1, Ks_below hy.2.2.1 hb1, Nv_below hy.2.2.2 hb1⟩), ((fun h => absurd h (by simp [RI.don, hL]))), (fun h => absurd h (by simp [RI.don, hL]))⟩
    · refine RI.wpOp_plain rfl rfl ?_
      go_simp
      exact ⟨u3, u4, u5, _, u7, u8, u9, u10, rfl, hw, p0, p1, fun _ => rfl, p4, z2, z5, z6, z7, z8, yL⟩
    · have hd := hd _ rfl
      simp [Region.binds] at hd
      obtain rfl := p3 (by simp [hd])
      refine RI.wpOp_plain rfl rfl ?_
      have hL : d 8 = false := by cases h : d 8 with | false => rfl | true => exact absurd (yL h).2.2.1 (by simp [hf])
      have x0 := ((hw.a hL).cell (p := ⟨g1, 1, none⟩) HG1.out).trans Q1.out
      go_simp
      exact ⟨u3, u4, u5, _, _, u8, u9, u10, rfl, hw, p0, p1, p3, fun _ => rfl, z2, z5, z6, z7, z8, (fun h => absurd h (by simp [RI.don, hL]))⟩
    · have hd := hd _ rfl
      simp [Region.binds] at hd
      obtain rfl := p4 (by simp [hd])
      refine RI.wpOp_plain rfl rfl ?_
      have hL : d 8 = false := by cases h : d 8 with | false => rfl | true => exact absurd (yL h).2.2.2.1 (by simp [hf])
      have kc := KC2.out _ (hw.a hL)
      go_simp
      refine (kc).mono ?_
      rintro e w1 ⟨y, rfl, hy, hb1⟩
      exact ⟨u3, u4, u5, u6, _, _, u9, u10, rfl, ⟨fun h => (hw.a h).trans (hb1.mono hw.s), fun h => B4_gb (r := none) (hw.v h) (gb_below hb1) (fun e => by cases e), hw.b.trans (hb1.mono hw.b.size), Nat.le_trans hw.s hb1.size⟩, p0, p1, p3, p4, (fun h => (z2 h).imp fun a ha => ha.imp fun c hc => ⟨hc.1, Bs_below hc.2 hb1⟩), fun _ => ⟨y, rfl, Nv_mono hy (fun k h _ => Nat.le_trans hw.s h)⟩, (fun h => (z6 h).imp fun a ha => ha.imp fun c hc => hc.imp fun y hy => ⟨hy.1, Ks_below hy.2.1 hb1, Nv_below hy.2.2 hb1⟩), (fun h => (z7 h).imp fun a ha => ha.imp fun c hc => hc.imp fun b hb => hb.imp fun e he => he.imp fun y hy => ⟨hy.1, Bs_below hy.2.1 hb1, Ks_below hy.2.2.1 hb1, Nv_below hy.2.2.2 hb1⟩), ((fun h => absurd h (by simp [RI.don, hL]))), (fun h => absurd h (by simp [RI.don, hL]))⟩
    · have hd := hd _ rfl
      simp [Region.binds] at hd
      refine RI.wpOp_plain rfl rfl ?_
      have hL : d 8 = false := by cases h : d 8 with | false => rfl | true => exact absurd (yL h).2.2.2.2 (by simp [hf])
      obtain ⟨y, rfl, hy⟩ := z5 (by simp [hd])
      obtain ⟨yk, b1, m1, e1, b2, m2, e2, b3, m3, e3, rfl⟩ := Nv_form hy
      dsimp only [v4]
      have hb1 : Below wx.heap.size wx (wx.alloc (.cells #[.int .i64 yk, .slice b1 m1 e1, .slice b2 m2 e2, .slice b3 m3 e3] 25)) := (Below.refl _ _).alloc (Nat.le_refl _) _
      go_simp
      exact ⟨u3, u4, u5, u6, u7, _, _, u10, rfl, ⟨fun h => (hw.a h).trans (hb1.mono hw.s), fun h => B4_gb (r := none) (hw.v h) (gb_below hb1) (fun e => by cases e), hw.b.trans (hb1.mono hw.b.size), Nat.le_trans hw.s hb1.size⟩, p0, p1, p3, p4, (fun h => (z2 h).imp fun a ha => ha.imp fun c hc => ⟨hc.1, Bs_below hc.2 hb1⟩), (fun h => (z5 h).imp fun y hy => ⟨hy.1, Nv_below hy.2 hb1⟩), fun _ => ⟨_, _, _, rfl, ks_lit hw.s, Nv_below hy hb1⟩, (fun h => (z7 h).imp fun a ha => ha.imp fun c hc => hc.imp fun b hb => hb.imp fun e he => he.imp fun y hy => ⟨hy.1, Bs_below hy.2.1 hb1, Ks_below hy.2.2.1 hb1, Nv_below hy.2.2.2 hb1⟩), ((fun h => absurd h (by simp [RI.don, hL]))), (fun h => absurd h (by simp [RI.don, hL]))⟩
    · have hd := hd _ rfl
      simp [Region.binds] at hd
      refine RI.wpOp_plain rfl rfl ?_
      obtain ⟨qa, qc, rfl, hb6⟩ := z2 (by simp [hd])
      obtain ⟨ra, rc, y, rfl, hk11, hn11⟩ := z6 (by simp [hd])
      go_simp
      exact ⟨u3, u4, _, u6, u7, u8, _, _, rfl, hw, p0, p1, p3, p4, z2, z5, z6, fun _ => ⟨_, _, _, _, _, rfl, hb6, hk11, hn11⟩, z8, yL⟩
    · have hd := hd _ rfl
      simp [Region.binds] at hd
      obtain rfl := p0 (by simp [hd])
      obtain rfl := p1 (by simp [hd])
      obtain rfl := p3 (by simp [hd])
      obtain rfl := p4 (by simp [hd])
      refine RI.wpOp_plain rfl rfl ?_
      obtain ⟨qa, qc, ra, rc, y, rfl, hb6, hk11, hn11⟩ := z7 (by simp [hd])
      refine wp_st4 rfl rfl rfl (hw.v hf) ?_
      intro w1 gb1 s0 s1 s2 s3
      have NE : ∀ k, W1.heap.size ≤ k → some k ≠ some g2 := fun k hk e => by injection e with e; have := HG2.out; omega
      simp only [Act.put]
      exact ⟨_, _, u5, _, _, u8, u9, _, rfl, ⟨nofun, nofun, hw.b.grown gb1 hw.b.size (fun k e => by injection e with e; have := HG2B.out; omega), Nat.le_trans hw.s gb1.size⟩, p0, p1, p3, p4, fun h => (z2 h).imp fun a ha => ha.imp fun c hc => ⟨hc.1, Bs_gb hc.2 gb1 NE⟩, fun h => (z5 h).imp fun y hy => ⟨hy.1, Nv_gb hy.2 gb1 NE⟩, fun h => (z6 h).imp fun a ha => ha.imp fun c hc => hc.imp fun y hy => ⟨hy.1, Ks_gb hy.2.1 gb1 NE, Nv_gb hy.2.2 gb1 NE⟩, fun _ => ⟨_, _, _, _, _, rfl, Bs_gb hb6 gb1 NE, Ks_gb hk11 gb1 NE, Nv_gb hn11 gb1 NE⟩, fun _ => ⟨_, _, _, _, _, s0, s1, s2, s3, Bs_gb hb6 gb1 NE, Ks_gb hk11 gb1 NE, Nv_gb hn11 gb1 NE⟩, fun _ => ⟨by simp [RI.don, hd], by simp [RI.don, hd], by simp [RI.don, hd], by simp [RI.don, hd], by simp [RI.don, hd]⟩⟩
  · skip
    intro d x wx hI hd
    obtain ⟨u3, u4, u5, u6, u7, u8, u9, u10, rfl, hw, p0, p1, p3, p4, z2, z5, z6, z7, z8, yL⟩ := hI
    obtain ⟨qa, qc, ra, rc, y, s0, s1, s2, s3, t1, t2, t3⟩ := z8 (hd 8 (by decide))
    have N : Hid (Nv (w.heap.size ≤ ·) wx (.mk 2 p [] [t]) (.int .i64 2, .slice qa p.length qc, .slice none 0 0, .slice ra 1 rc)) := .mk 2 p [] [t] _ _ _ [y] (Bs_mono t1 (fun k h _ => Nat.le_trans HGL.out h)) (Bs_nil _ _) rfl (Ks_mono t2 (fun k h _ => Nat.le_trans HGL.out h)) (fun j hj => by
      have e : j = 0 := by simpa using hj
      subst e
      exact Nv_mono t3 (fun k h _ => Nat.le_trans HGL.out h))
    have HBW : Hid (Below w.heap.size w wx) := hw.b
    clear hw t1 t2 t3 p0 p1 p3 p4 z2 z5 z6 z7 z8 yL
    go_wp2_with fail
    exact bodyPost_ret (v := .agg #[.int .i64 2, .slice qa p.length qc, .slice none 0 0, .slice ra 1 rc]) (resN _ _ _ g2 2 _ _ _ _ rfl rfl s0 s1 s2 s3) rfl ⟨(.int .i64 2, .slice qa p.length qc, .slice none 0 0, .slice ra 1 rc), rfl, by first | exact N.out | (rw [E1.out]; exact N.out), by first | exact HBW.out | (rw [E1.out]; exact HBW.out)⟩
end Tr
end Go.Proofs.Ythlgneadcagleab
/- get of every tree. -/
namespace Go.Proofs.Ythlgneadcagleab
namespace Tr
open Nb Go.RowKit
theorem ge_none (v p : Value) (W : World) : (callMethod (.iface 65 v) "lampbearer/tree.get" #[p]).run Try.prog W = .ok (.enter 64 #[v, p]) W := by kernel_rfl
theorem ge_leaf (v p : Value) (W : World) : (callMethod (.iface 67 v) "lampbearer/tree.get" #[p]).run Try.prog W = .ok (.enter 67 #[v, p]) W := by kernel_rfl
theorem ge_road (v p : Value) (W : World) : (callMethod (.iface 75 v) "lampbearer/tree.get" #[p]).run Try.prog W = .ok (.enter 73 #[v, p]) W := by kernel_rfl
theorem ge_fork (a : Option Addr) (p : Value) (W : World) : (callMethod (.iface 69 (.pointer a)) "lampbearer/tree.get" #[p]).run Try.prog W = .ok (.enter 70 #[.pointer a, p]) W := by kernel_rfl
/-- A value comes out. -/
def GV2 (lo : Nat) (w : World) (b : By) (e : Ending) (w' : World) : Prop := ∃ a c, e = .returned (.slice a b.length c) ∧ Bs (Sb lo w') b (.slice a b.length c) w' ∧ Below w.heap.size w w'
set_option maxHeartbeats 1000000 in
set_option maxRecDepth 100000 in
theorem get_none (lo : Nat) (pv : Value) (w : World) : Calls Try.prog 64 #[.agg #[], pv] w (GV2 lo w []) := by
  have HB : Below w.heap.size w (w.alloc (.cells #[] 65)) := (Below.refl _ _).alloc (Nat.le_refl _) _
  unfold GV2
  go_enter Try.func64, Try.ntmps64
  go_wp2_with fail
  go_ret
  exact ⟨none, 0, rfl, Bs_nil _ _, HB⟩
set_option maxHeartbeats 1000000 in
set_option maxRecDepth 100000 in
theorem get_leaf (lo : Nat) (p v q : By) (a1 a2 a3 : Option Addr) (c1 c2 c3 : Nat) (w : World) (hp : Bs (Sb lo w) p (.slice a1 p.length c1) w) (hv : Bs (Sb lo w) v (.slice a2 v.length c2) w) (hq : Bs (Sb lo w) q (.slice a3 q.length c3) w) :
    Calls Try.prog 67 #[.agg #[.slice a1 p.length c1, .slice a2 v.length c2], .slice a3 q.length c3] w (GV2 lo w (if q = p then v else [])) := by
  have HB : Below w.heap.size w (w.alloc (.cells #[.slice a1 p.length c1, .slice a2 v.length c2] 67)) := (Below.refl _ _).alloc (Nat.le_refl _) _
  have HA := heap_alloc_new w (.cells #[.slice a1 p.length c1, .slice a2 v.length c2] 67)
  have q0 : (w.alloc (.cells #[.slice a1 p.length c1, .slice a2 v.length c2] 67)).cell? ⟨w.heap.size, 0, none⟩ = some (.slice a1 p.length c1) := by simp only [World.cell?, HA]; rfl
  have q1 : (w.alloc (.cells #[.slice a1 p.length c1, .slice a2 v.length c2] 67)).cell? ⟨w.heap.size, 1, none⟩ = some (.slice a2 v.length c2) := by simp only [World.cell?, HA]; rfl
  have hch := ch_below (lo := lo) (G := fun _ => False) HB
  have KE := equal_bs (Bs_ch hp hch) (Bs_ch hq hch)
  have HV : Hid (Bs (Sb lo (w.alloc (.cells #[.slice a1 p.length c1, .slice a2 v.length c2] 67))) v (.slice a2 v.length c2) (w.alloc (.cells #[.slice a1 p.length c1, .slice a2 v.length c2] 67))) := Bs_ch hv hch
  have HBB : Hid (Below w.heap.size w (w.alloc (.cells #[.slice a1 p.length c1, .slice a2 v.length c2] 67))) := HB
  unfold GV2
  by_cases e : q = p
  · rw [if_pos e]
    rw [show (p == q) = true from beq_iff_eq.2 e.symm] at KE
    have KE2 : Hid (Calls Try.prog 33 #[.slice a1 p.length c1, .slice a3 q.length c3] (w.alloc (.cells #[.slice a1 p.length c1, .slice a2 v.length c2] 67)) fun e w' => e = .returned (.bool true) ∧ w' = (w.alloc (.cells #[.slice a1 p.length c1, .slice a2 v.length c2] 67))) := KE
    clear HA hch KE hp hv hq e HB
    generalize p.length = n1 at *
    generalize q.length = n3 at *
    go_enter Try.func67, Try.ntmps67
    go_wp2_with fail
    refine KE2.out.mono ?_
    rintro e w1 ⟨rfl, rfl⟩
    go_wp2_with fail
    go_ret
    exact ⟨a2, c2, rfl, HV.out, HBB.out⟩
  · rw [if_neg e]
    rw [show (p == q) = false from beq_eq_false_iff_ne.2 (fun h => e h.symm)] at KE
    have KE2 : Hid (Calls Try.prog 33 #[.slice a1 p.length c1, .slice a3 q.length c3] (w.alloc (.cells #[.slice a1 p.length c1, .slice a2 v.length c2] 67)) fun e w' => e = .returned (.bool false) ∧ w' = (w.alloc (.cells #[.slice a1 p.length c1, .slice a2 v.length c2] 67))) := KE
    clear HA hch KE hp hv hq e HB
    generalize p.length = n1 at *
    generalize q.length = n3 at *
    go_enter Try.func67, Try.ntmps67
    go_wp2_with fail
    refine KE2.out.mono ?_
    rintro e w1 ⟨rfl, rfl⟩
    go_wp2_with fail
    go_ret
    exact ⟨none, 0, rfl, Bs_nil _ _, HBB.out⟩
set_option maxHeartbeats 1000000 in
set_option maxRecDepth 100000 in
theorem get_road_no (lo : Nat) (a1 a3 : Option Addr) (n1 c1 n3 c3 gk : Nat) (w : World) (KC : ∀ W : World, Below w.heap.size w W → Calls Try.prog 35 #[.slice a3 n3 c3, .slice a1 n1 c1] W fun e w' => (∃ r, e = .returned (.tuple #[r, .bool false])) ∧ w' = W) :
    Calls Try.prog 73 #[.agg #[.slice a1 n1 c1, .pointer (some ⟨gk, 0, none⟩)], .slice a3 n3 c3] w (GV2 lo w []) := by
  have HB : Below w.heap.size w (w.alloc (.cells #[.slice a1 n1 c1, .pointer (some ⟨gk, 0, none⟩)] 75)) := (Below.refl _ _).alloc (Nat.le_refl _) _
  have HA := heap_alloc_new w (.cells #[.slice a1 n1 c1, .pointer (some ⟨gk, 0, none⟩)] 75)
  have q0 : (w.alloc (.cells #[.slice a1 n1 c1, .pointer (some ⟨gk, 0, none⟩)] 75)).cell? ⟨w.heap.size, 0, none⟩ = some (.slice a1 n1 c1) := by simp only [World.cell?, HA]; rfl
  have q1 : (w.alloc (.cells #[.slice a1 n1 c1, .pointer (some ⟨gk, 0, none⟩)] 75)).cell? ⟨w.heap.size, 1, none⟩ = some (.pointer (some ⟨gk, 0, none⟩)) := by simp only [World.cell?, HA]; rfl
  have KE2 : Hid (Calls Try.prog 35 #[.slice a3 n3 c3, .slice a1 n1 c1] (w.alloc (.cells #[.slice a1 n1 c1, .pointer (some ⟨gk, 0, none⟩)] 75)) fun e w' => (∃ r, e = .returned (.tuple #[r, .bool false])) ∧ w' = (w.alloc (.cells #[.slice a1 n1 c1, .pointer (some ⟨gk, 0, none⟩)] 75))) := KC _ HB
  have HBB : Hid (Below w.heap.size w (w.alloc (.cells #[.slice a1 n1 c1, .pointer (some ⟨gk, 0, none⟩)] 75))) := HB
  clear HA HB KC
  unfold GV2
  go_enter Try.func73, Try.ntmps73
  go_wp2_with fail
  refine KE2.out.mono ?_
  rintro e w1 ⟨⟨r, rfl⟩, rfl⟩
  go_wp2_with fail
  go_ret
  exact ⟨none, 0, rfl, Bs_nil _ _, HBB.out⟩
set_option maxHeartbeats 1000000 in
set_option maxRecDepth 100000 in
theorem get_road_yes (lo : Nat) (b : By) (a1 a3 ar : Option Addr) (n1 c1 n3 c3 nr cr gk : Nat) (w : World) (KC : ∀ W : World, Below w.heap.size w W → Calls Try.prog 35 #[.slice a3 n3 c3, .slice a1 n1 c1] W fun e w' => e = .returned (.tuple #[.slice ar nr cr, .bool true]) ∧ w' = W)
    (KG0 : ∀ W : World, Below w.heap.size w W → Calls Try.prog 70 #[.pointer (some ⟨gk, 0, none⟩), .slice ar nr cr] W (GV2 lo W b)) :
    Calls Try.prog 73 #[.agg #[.slice a1 n1 c1, .pointer (some ⟨gk, 0, none⟩)], .slice a3 n3 c3] w (GV2 lo w b) := by
  have HB : Below w.heap.size w (w.alloc (.cells #[.slice a1 n1 c1, .pointer (some ⟨gk, 0, none⟩)] 75)) := (Below.refl _ _).alloc (Nat.le_refl _) _
  have HA := heap_alloc_new w (.cells #[.slice a1 n1 c1, .pointer (some ⟨gk, 0, none⟩)] 75)
  have q0 : (w.alloc (.cells #[.slice a1 n1 c1, .pointer (some ⟨gk, 0, none⟩)] 75)).cell? ⟨w.heap.size, 0, none⟩ = some (.slice a1 n1 c1) := by simp only [World.cell?, HA]; rfl
  have q1 : (w.alloc (.cells #[.slice a1 n1 c1, .pointer (some ⟨gk, 0, none⟩)] 75)).cell? ⟨w.heap.size, 1, none⟩ = some (.pointer (some ⟨gk, 0, none⟩)) := by simp only [World.cell?, HA]; rfl
  have KE2 : Hid (Calls Try.prog 35 #[.slice a3 n3 c3, .slice a1 n1 c1] (w.alloc (.cells #[.slice a1 n1 c1, .pointer (some ⟨gk, 0, none⟩)] 75)) fun e w' => e = .returned (.tuple #[.slice ar nr cr, .bool true]) ∧ w' = (w.alloc (.cells #[.slice a1 n1 c1, .pointer (some ⟨gk, 0, none⟩)] 75))) := KC _ HB
  have KG : Hid (Calls Try.prog 70 #[.pointer (some ⟨gk, 0, none⟩), .slice ar nr cr] (w.alloc (.cells #[.slice a1 n1 c1, .pointer (some ⟨gk, 0, none⟩)] 75)) (GV2 lo (w.alloc (.cells #[.slice a1 n1 c1, .pointer (some ⟨gk, 0, none⟩)] 75)) b)) := KG0 _ HB
  have HBB : Hid (Below w.heap.size w (w.alloc (.cells #[.slice a1 n1 c1, .pointer (some ⟨gk, 0, none⟩)] 75))) := HB
  clear HA HB KC KG0
  go_enter Try.func73, Try.ntmps73
  go_wp2_with fail
  refine KE2.out.mono ?_
  rintro e w1 ⟨rfl, rfl⟩
  go_wp2_with fail
  refine KG.out.mono ?_
  rintro e w2 ⟨a, c, rfl, hb, hb2⟩
  have HR : Hid (Bs (Sb lo w2) b (.slice a b.length c) w2) := hb
  have HZ : Hid (Below w.heap.size w w2) := HBB.out.trans (hb2.mono HBB.out.size)
  clear hb hb2
  go_wp2_with fail
  go_ret
  exact ⟨a, c, rfl, HR.out, HZ.out⟩
inductive GFI (W0 : World) (lo : Nat) (b : By) (g gq oq nq cq cN ty : Nat) (yy : Value) (d : Nat → Bool) (x : Act) (wx : World) : Prop where
  | mk (u4 u12 u13 u14 u15 u16 u17 u18 u19 u20 u21 u22 u23 u24 : Value) (hx : x = { tmps := #[.pointer (some ⟨g, 0, none⟩), .slice (some ⟨gq, oq, none⟩) nq cq, undef, undef, u4, .slice (some ⟨gq, oq, none⟩) nq cq, .int .i64 (nq : Int), .bool false, undef, undef, undef, undef, u12, u13, u14, u15, u16, u17, u18, u19, u20, u21, u22, u23, u24], defers := [] }) (hw : Below W0.heap.size W0 wx) (p0 : d 0 = true → u12 = .pointer (some ⟨g, 0, none⟩)) (p1 : d 1 = true → u13 = .slice (some ⟨gq, oq, none⟩) nq cq) (p2 : d 2 = true → u14 = .pointer (some ⟨gq, oq, none⟩)) (p3 : d 3 = true → u15 = .int .u8 (cN : Int)) (p4 : d 4 = true → u16 = .pointer (some ⟨g, 0, none⟩)) (p5 : d 5 = true → u17 = .pointer (some ⟨g, 1, none⟩)) (p6 : d 6 = true → u18 = .pointer (some ⟨g, 1 + cN, none⟩)) (p7 : d 7 = true → u19 = .iface ty yy) (p8 : d 8 = true → u20 = .slice (some ⟨gq, oq, none⟩) nq cq) (p9 : d 9 = true → u21 = sfrom (some ⟨gq, oq, none⟩) nq cq 1) (p10 : d 10 = true → u22 = .iface ty yy) (p11 : d 11 = true → u23 = .iface ty yy) (z12 : d 12 = true → ∃ a c, u24 = .slice a b.length c ∧ Bs (Sb lo wx) b (.slice a b.length c) wx) (z13 : d 13 = true → ∃ a c, u4 = .slice a b.length c ∧ Bs (Sb lo wx) b (.slice a b.length c) wx) : GFI W0 lo b g gq oq nq cq cN ty yy d x wx
set_option maxHeartbeats 2000000 in
set_option maxRecDepth 100000 in
theorem get_fork_cons (lo : Nat) (b : By) (g gq oq nq cq cN ty : Nat) (yy : Value) (w : World) (h0 : 0 < nq) (hc16 : cN < 16) (hgq : gq < w.heap.size) (hg : g < w.heap.size) (q0 : w.cell? ⟨gq, oq, none⟩ = some (.int .u8 (cN : Int))) (q1 : w.cell? ⟨g, 1 + cN, none⟩ = some (.iface ty yy))
    (KI : Hid (∀ wx : World, Below w.heap.size w wx → Inv "lampbearer/tree.get" (.iface ty yy) #[sfrom (some ⟨gq, oq, none⟩) nq cq 1] wx (GV2 lo wx b))) :
    Calls Try.prog 70 #[.pointer (some ⟨g, 0, none⟩), .slice (some ⟨gq, oq, none⟩) nq cq] w (GV2 lo w b) := by
  have e0 : ((nq : Int) == 0) = false := beq_eq_false_iff_ne.2 (by omega)
  have e0' : (nq == 0) = false := beq_eq_false_iff_ne.2 (by omega)
  have HN1 : Hid (1 ≤ nq) := h0
  have HI0 : Hid ((0 : Int) < (nq : Int)) := by show _ < _; omega
  have HI1 : Hid (0 < nq) := h0
  have HC0 : Hid ((0 : Int) ≤ (cN : Int)) := by show _ ≤ _; omega
  have HC1 : Hid ((cN : Int) < 16) := by show _ < _; omega
  have HGQ : Hid (gq < w.heap.size) := hgq
  have HGG : Hid (g < w.heap.size) := hg
  have Q0 : Hid (w.cell? ⟨gq, oq, none⟩ = some (.int .u8 (cN : Int))) := q0
  have Q1 : Hid (w.cell? ⟨g, 1 + cN, none⟩ = some (.iface ty yy)) := q1
  have hw0 : Below w.heap.size w w.drew := (Below.refl _ _).drew
  clear h0 hc16 hgq hg q0 q1
  unfold GV2
  go_enter Try.func70, Try.ntmps70
  go_upto_region 3 with fail
  refine RI.wp_region_inv (GFI w lo b g gq oq nq cq cN ty yy) (by kernel_rfl) (by kernel_rfl) ?_ ?_ ?_
  · exact ⟨.slice none 0 0, undef, undef, undef, undef, undef, undef, undef, undef, undef, undef, undef, undef, undef, rfl, hw0, nofun, nofun, nofun, nofun, nofun, nofun, nofun, nofun, nofun, nofun, nofun, nofun, nofun, nofun⟩
  · skip
    intro d x wx i hI hi hm
    obtain ⟨u4, u12, u13, u14, u15, u16, u17, u18, u19, u20, u21, u22, u23, u24, rfl, hw, p0, p1, p2, p3, p4, p5, p6, p7, p8, p9, p10, p11, z12, z13⟩ := hI
    have hi' : i = 0 ∨ i = 1 ∨ i = 2 ∨ i = 3 ∨ i = 4 ∨ i = 5 ∨ i = 6 ∨ i = 7 ∨ i = 8 ∨ i = 9 ∨ i = 10 ∨ i = 11 ∨ i = 12 ∨ i = 13 := by simp at hi; omega
    have hd := hm.2
    have hf := hm.1
    clear hm hi
    rcases hi' with rfl | rfl | rfl | rfl | rfl | rfl | rfl | rfl | rfl | rfl | rfl | rfl | rfl | rfl
    · refine RI.wpOp_plain rfl rfl ?_
      go_simp
      exact ⟨u4, _, u13, u14, u15, u16, u17, u18, u19, u20, u21, u22, u23, u24, rfl, hw, fun _ => rfl, p1, p2, p3, p4, p5, p6, p7, p8, p9, p10, p11, z12, z13⟩
    · refine RI.wpOp_plain rfl rfl ?_
      go_simp
      exact ⟨u4, u12, _, u14, u15, u16, u17, u18, u19, u20, u21, u22, u23, u24, rfl, hw, p0, fun _ => rfl, p2, p3, p4, p5, p6, p7, p8, p9, p10, p11, z12, z13⟩
    · have hd := hd _ rfl
      simp [Region.binds] at hd
      obtain rfl := p1 (by simp [hd])
      refine RI.wpOp_plain rfl rfl ?_
      have e1 := HI0.out
      have e2 := HI1.out
      go_simp
      exact ⟨u4, u12, _, _, u15, u16, u17, u18, u19, u20, u21, u22, u23, u24, rfl, hw, p0, p1, fun _ => rfl, p3, p4, p5, p6, p7, p8, p9, p10, p11, z12, z13⟩
    · have hd := hd _ rfl
      simp [Region.binds] at hd
      obtain rfl := p2 (by simp [hd])
      refine RI.wpOp_plain rfl rfl ?_
      have x0 := (hw.cell (p := ⟨gq, oq, none⟩) HGQ.out).trans Q0.out
      go_simp
      exact ⟨u4, u12, u13, _, _, u16, u17, u18, u19, u20, u21, u22, u23, u24, rfl, hw, p0, p1, p2, fun _ => rfl, p4, p5, p6, p7, p8, p9, p10, p11, z12, z13⟩
    · have hd := hd _ rfl
      simp [Region.binds] at hd
      obtain rfl := p0 (by simp [hd])
      refine RI.wpOp_plain rfl rfl ?_
      go_simp
      exact ⟨u4, _, u13, u14, u15, _, u17, u18, u19, u20, u21, u22, u23, u24, rfl, hw, p0, p1, p2, p3, fun _ => rfl, p5, p6, p7, p8, p9, p10, p11, z12, z13⟩
    · have hd := hd _ rfl
      simp [Region.binds] at hd
      obtain rfl := p4 (by simp [hd])
      refine RI.wpOp_plain rfl rfl ?_
      go_simp
      exact ⟨u4, u12, u13, u14, u15, _, _, u18, u19, u20, u21, u22, u23, u24, rfl, hw, p0, p1, p2, p3, p4, fun _ => rfl, p6, p7, p8, p9, p10, p11, z12, z13⟩
    · have hd := hd _ rfl
      simp [Region.binds] at hd
      obtain rfl := p3 (by simp [hd])
      obtain rfl := p5 (by simp [hd])
      refine RI.wpOp_plain rfl rfl ?_
      have e1 := HC0.out
      have e2 := HC1.out
      go_simp
      exact ⟨u4, u12, u13, u14, _, u16, _, _, u19, u20, u21, u22, u23, u24, rfl, hw, p0, p1, p2, p3, p4, p5, fun _ => rfl, p7, p8, p9, p10, p11, z12, z13⟩
    · have hd := hd _ rfl
      simp [Region.binds] at hd
      obtain rfl := p6 (by simp [hd])
      refine RI.wpOp_plain rfl rfl ?_
      have x0 := (hw.cell (p := ⟨g, 1 + cN, none⟩) HGG.out).trans Q1.out
      go_simp
      exact ⟨u4, u12, u13, u14, u15, u16, u17, _, _, u20, u21, u22, u23, u24, rfl, hw, p0, p1, p2, p3, p4, p5, p6, fun _ => rfl, p8, p9, p10, p11, z12, z13⟩
    · refine RI.wpOp_plain rfl rfl ?_
      go_simp
      exact ⟨u4, u12, u13, u14, u15, u16, u17, u18, u19, _, u21, u22, u23, u24, rfl, hw, p0, p1, p2, p3, p4, p5, p6, p7, fun _ => rfl, p9, p10, p11, z12, z13⟩
    · have hd := hd _ rfl
      simp [Region.binds] at hd
      obtain rfl := p8 (by simp [hd])
      refine RI.wpOp_plain rfl rfl ?_
      refine wp_sl rfl rfl rfl rfl (run_from (some ⟨gq, oq, none⟩) nq cq 1 HN1.out _) ?_
      simp only [Act.put]
      exact ⟨u4, u12, u13, u14, u15, u16, u17, u18, u19, _, _, u22, u23, u24, rfl, hw, p0, p1, p2, p3, p4, p5, p6, p7, p8, fun _ => rfl, p10, p11, z12, z13⟩
    · have hd := hd _ rfl
      simp [Region.binds] at hd
      obtain rfl := p7 (by simp [hd])
      refine RI.wpOp_plain rfl rfl ?_
      go_simp
      exact ⟨u4, u12, u13, u14, u15, u16, u17, u18, _, u20, u21, _, u23, u24, rfl, hw, p0, p1, p2, p3, p4, p5, p6, p7, p8, p9, fun _ => rfl, p11, z12, z13⟩
    · have hd := hd _ rfl
      simp [Region.binds] at hd
      obtain rfl := p7 (by simp [hd])
      obtain rfl := p10 (by simp [hd])
      refine RI.wpOp_plain rfl rfl ?_
      go_simp
      exact ⟨u4, u12, u13, u14, u15, u16, u17, u18, _, u20, u21, _, _, u24, rfl, hw, p0, p1, p2, p3, p4, p5, p6, p7, p8, p9, p10, fun _ => rfl, z12, z13⟩
    · have hd := hd _ rfl
      simp [Region.binds] at hd
      obtain rfl := p9 (by simp [hd])
      obtain rfl := p11 (by simp [hd])
      refine RI.wpOp_plain rfl rfl ?_
      refine wp_inv (xv := .iface ty yy) (vs := #[sfrom (some ⟨gq, oq, none⟩) nq cq 1]) rfl rfl (by simp only [List.map_toArray, List.map_cons, List.map_nil]; rfl) ((KI.out _ hw).mono ?_)
      rintro e w1 ⟨xa, xc, rfl, hx, hb1⟩
      refine ⟨_, rfl, ?_⟩
      simp only [Act.put]
      exact ⟨u4, u12, u13, u14, u15, u16, u17, u18, u19, u20, _, u22, _, _, rfl, hw.trans (hb1.mono hw.size), p0, p1, p2, p3, p4, p5, p6, p7, p8, p9, p10, p11, fun _ => ⟨_, _, rfl, hx⟩, (fun h => (z13 h).imp fun a ha => ha.imp fun c hc => ⟨hc.1, Bs_ch hc.2 (ch_below (G := fun _ => False) hb1)⟩)⟩
    · have hd := hd _ rfl
      simp [Region.binds] at hd
      obtain rfl := p0 (by simp [hd])
      obtain rfl := p1 (by simp [hd])
      obtain rfl := p2 (by simp [hd])
      obtain rfl := p3 (by simp [hd])
      obtain rfl := p4 (by simp [hd])
      obtain rfl := p5 (by simp [hd])
      obtain rfl := p6 (by simp [hd])
      obtain rfl := p7 (by simp [hd])
      obtain rfl := p8 (by simp [hd])
      obtain rfl := p9 (by simp [hd])
      obtain rfl := p10 (by simp [hd])
      obtain rfl := p11 (by simp [hd])
      refine RI.wpOp_plain rfl rfl ?_
      obtain ⟨xa, xc, rfl, hx⟩ := z12 (by simp [hd])
      go_simp
      exact ⟨_, _, _, _, _, _, _, _, _, _, _, _, _, _, rfl, hw, p0, p1, p2, p3, p4, p5, p6, p7, p8, p9, p10, p11, z12, fun _ => ⟨_, _, rfl, hx⟩⟩
  · skip
    intro d x wx hI hd
    obtain ⟨u4, u12, u13, u14, u15, u16, u17, u18, u19, u20, u21, u22, u23, u24, rfl, hw, p0, p1, p2, p3, p4, p5, p6, p7, p8, p9, p10, p11, z12, z13⟩ := hI
    obtain ⟨xa, xc, rfl, hx⟩ := z13 (hd 13 (by decide))
    have HR : Hid (Bs (Sb lo wx) b (.slice xa b.length xc) wx) := hx
    have HZ : Hid (Below w.heap.size w wx) := hw
    clear hw hx p0 p1 p2 p3 p4 p5 p6 p7 p8 p9 p10 p11 z12 z13
    go_wp2_with fail
    go_ret
    exact ⟨xa, xc, rfl, HR.out, HZ.out⟩
set_option maxHeartbeats 1000000 in
set_option maxRecDepth 100000 in
theorem get_fork_nil (lo : Nat) (v : By) (g cv c3 : Nat) (av a3 : Option Addr) (w : World) (q0 : w.cell? ⟨g, 0, none⟩ = some (.slice av v.length cv)) (hv : Bs (Sb lo w) v (.slice av v.length cv) w) :
    Calls Try.prog 70 #[.pointer (some ⟨g, 0, none⟩), .slice a3 0 c3] w (GV2 lo w v) := by
  have HV : Hid (Bs (Sb lo w) v (.slice av v.length cv) w) := hv
  clear hv
  unfold GV2
  go_enter Try.func70, Try.ntmps70
  go_wp2_with fail
  go_ret
  exact ⟨av, cv, rfl, HV.out, Below.refl _ _⟩
/-- get, at every tree. -/
theorem get_all (lo : Nat) : ∀ (n : Nat) (t : Nd) (q : By) (x qv : Value) (F : Nat → Prop) (w : World), q.length ≤ n → In lo w t x F → Rs t → Bs (Sb lo w) q qv w → Pt q → Inv "lampbearer/tree.get" x #[qv] w (GV2 lo w (gt t q)) := by
  intro n
  induction n with
  | zero =>
    intro t q x qv F w hn ht hs hq hpt
    have hq0 : q = [] := List.length_eq_zero_iff.1 (by omega)
    cases ht with
    | none p v ks F =>
      rw [gt_zero 0 p v ks q (by decide) (by decide) (by decide)]
      exact ⟨_, _, fun W => ge_none _ _ W, get_none lo qv w⟩
    | leaf p v ks pv vv F hp hv =>
      obtain ⟨a1, c1, rfl, _⟩ := Bs_form hp
      obtain ⟨a2, c2, rfl, _⟩ := Bs_form hv
      obtain ⟨a3, c3, rfl, _⟩ := Bs_form hq
      rw [gt_leaf]
      exact ⟨_, _, fun W => ge_leaf _ _ W, get_leaf lo p v q a1 a2 a3 c1 c2 c3 w hp hv hq⟩
    | road p v t pv g F hp hk =>
      cases hs with
      | road _ _ _ hpp hp0 hk3 hst =>
        have hnp : ¬ p <+: q := fun h => by
          have := h.length_le
          have := List.length_pos_iff.2 hp0
          omega
        obtain ⟨a1, c1, rfl, _⟩ := Bs_form hp
        obtain ⟨a3, c3, rfl, _⟩ := Bs_form hq
        rw [gt_road, if_neg (fun h => hnp (List.isPrefixOf_iff_prefix.1 h))]
        exact ⟨_, _, fun W => ge_road _ _ W, get_road_no lo a1 a3 _ c1 _ c3 g w (fun W hW => cut_no (Bs_ch hq (ch_below (G := fun _ => False) hW)) (Bs_ch hp (ch_below (G := fun _ => False) hW)) hnp)⟩
    | fork p v ks g c F D hl16 hlo hb hc hFg hv hi hg hD hs' =>
      obtain ⟨a3, c3, rfl, _⟩ := Bs_form hq
      obtain ⟨av, cv, ev, _⟩ := Bs_form hv
      subst hq0
      rw [gt_fork_nil]
      rw [ev] at hv
      exact ⟨_, _, fun W => ge_fork _ _ W, get_fork_nil lo v g cv c3 av a3 w (by rw [cell_fork hb 0 (by omega), ev]) hv⟩
  | succ n IH =>
    intro t q x qv F w hn ht hs hq hpt
    cases ht with
    | none p v ks F =>
      rw [gt_zero 0 p v ks q (by decide) (by decide) (by decide)]
      exact ⟨_, _, fun W => ge_none _ _ W, get_none lo qv w⟩
    | leaf p v ks pv vv F hp hv =>
      obtain ⟨a1, c1, rfl, _⟩ := Bs_form hp
      obtain ⟨a2, c2, rfl, _⟩ := Bs_form hv
      obtain ⟨a3, c3, rfl, _⟩ := Bs_form hq
      rw [gt_leaf]
      exact ⟨_, _, fun W => ge_leaf _ _ W, get_leaf lo p v q a1 a2 a3 c1 c2 c3 w hp hv hq⟩
    | road p v t pv g F hp hk =>
      cases hs with
      | road _ _ _ hpp hp0 hk3 hst =>
        obtain ⟨a1, c1, rfl, _⟩ := Bs_form hp
        obtain ⟨a3, c3, rfl, _⟩ := Bs_form hq
        by_cases hpre : p <+: q
        · obtain ⟨r, hr⟩ := hpre
          have hdr : q.drop p.length = r := by rw [← hr, List.drop_left]
          have hlq : q.length = p.length + r.length := by rw [← hr, List.length_append]
          have hp1 := List.length_pos_iff.2 hp0
          rw [← hr, gt_road_at]
          refine ⟨_, _, fun W => ge_road _ _ W, ?_⟩
          rw [hr]
          refine get_road_yes lo (gt t r) a1 a3 _ _ c1 _ c3 _ _ g w (fun W hW => cut_yes (Bs_ch hq (ch_below (G := fun _ => False) hW)) (Bs_ch hp (ch_below (G := fun _ => False) hW)) hp0 ⟨r, hr⟩) (fun W hW => ?_)
          have hbs := Bs_from (c := p.length) (Bs_ch hq (ch_below (G := fun _ => False) hW)) (by omega)
          rw [hdr] at hbs
          obtain ⟨f, vs, j1, j2⟩ := IH t r _ _ F W (by omega) (In_below hk hW) hst hbs (fun c hc => hpt c (by rw [← hr]; exact List.mem_append_right _ hc))
          have j3 := (j1 W).symm.trans (ge_fork (some ⟨g, 0, none⟩) _ W)
          injection j3 with j3 _
          injection j3 with j4 j5
          subst j4 j5
          exact j2
        · rw [gt_road, if_neg (fun h => hpre (List.isPrefixOf_iff_prefix.1 h))]
          exact ⟨_, _, fun W => ge_road _ _ W, get_road_no lo a1 a3 _ c1 _ c3 g w (fun W hW => cut_no (Bs_ch hq (ch_below (G := fun _ => False) hW)) (Bs_ch hp (ch_below (G := fun _ => False) hW)) hpre)⟩
    | fork p v ks g c F D hl16 hlo hb hc hFg hv hi hg hD hs' =>
      cases hs with
      | fork _ _ _ _ hks h2 =>
        obtain ⟨a3, c3, rfl, _⟩ := Bs_form hq
        cases hqq : q with
        | nil =>
          obtain ⟨av, cv, ev, _⟩ := Bs_form hv
          rw [gt_fork_nil]
          rw [ev] at hv
          exact ⟨_, _, fun W => ge_fork _ _ W, get_fork_nil lo v g cv c3 av a3 w (by rw [cell_fork hb 0 (by omega), ev]) hv⟩
        | cons cb r =>
          have hlen : q.length = r.length + 1 := by rw [hqq]; rfl
          have hc16 : cb.toNat < 16 := hpt cb (by rw [hqq]; exact List.mem_cons_self ..)
          rw [gt_fork_cons, ← hqq]
          have hk := hi cb.toNat hc16
          obtain ⟨ty, yy, ey⟩ := In_form hk
          rw [ey] at hk
          have hq' := hq
          obtain ⟨ax, cx, ex, _, h3⟩ := hq
          injection ex with e1 _ _
          subst e1
          obtain ⟨gq, oq, rfl, _, hlt, hcell⟩ := h3 (by omega)
          have hx0 := hcell 0 (by omega)
          have hbz : Sp.bz q 0 = (cb.toNat : Int) := by rw [hqq]; rfl
          rw [Nat.add_zero, hbz] at hx0
          have hdr : q.drop 1 = r := by rw [hqq]; rfl
          refine ⟨_, _, fun W => ge_fork _ _ W, get_fork_cons lo (gt (ks.getD cb.toNat Nd.no) r) g gq oq q.length c3 cb.toNat ty yy w (by omega) hc16 hlt (Pk.lt_of_heap hb) hx0 (by rw [cell_fork hb (1 + cb.toNat) (by omega), Nat.add_comm, ey]) (fun W hW => ?_)⟩
          have hbs := Bs_from (c := 1) (Bs_ch hq' (ch_below (G := fun _ => False) hW)) (by omega)
          rw [hdr] at hbs
          exact IH _ r _ _ (D cb.toNat) W (by omega) (In_below hk hW) (hks _ hc16) hbs (fun c hc => hpt c (by rw [hqq]; exact List.mem_cons_of_mem _ hc))
end Tr
end Go.Proofs.Ythlgneadcagleab
/- tree.read at every node: just the trees are read. -/
namespace Go.Proofs.Ythlgneadcagleab
namespace Tr
open Nb Go.RowKit
def RP (lo h : Nat) (t : Nd) (w : World) (e : Ending) (w' : World) : Prop := ∃ x, e = .returned (.tuple #[x, .bool (rd h t)]) ∧ (rd h t = true → In lo w' t x (fun y => w.heap.size ≤ y)) ∧ Below w.heap.size w w'
def FP (lo h : Nat) (t : Nd) (w : World) (e : Ending) (w' : World) : Prop := ∃ x, e = .returned (.tuple #[.pointer x, .bool (rd h t)]) ∧ (rd h t = true → ∃ g, x = some ⟨g, 0, none⟩ ∧ In lo w' t (.iface 69 (.pointer (some ⟨g, 0, none⟩))) (fun y => w.heap.size ≤ y)) ∧ Below w.heap.size w w'
theorem rda_range (ks : List Nd) (h : Nat) (hl : ks.length = 16) : rda h ks = (List.range 16).all (fun j => rd h (ks.getD j Nd.no)) := by
  rw [Bool.eq_iff_iff, rda_iff, List.all_eq_true, hl]
  constructor
  · intro hh j hj; exact hh j (List.mem_range.1 hj)
  · intro hh j hj; exact hh j (List.mem_range.2 hj)
theorem rd_three (h : Nat) (p v : By) (ks : List Nd) : rd h (.mk 3 p v ks) = (decide (h ≤ 64) && decide (ks.length = 16) && (decide (v = []) || may v h) && rda (h + 1) ks && decide (2 ≤ pts v ks)) := by
  rw [rd, if_neg (by decide), if_neg (by decide), if_neg (by decide), if_pos rfl]
theorem rd_two (h : Nat) (p v : By) (ks : List Nd) : rd h (.mk 2 p v ks) = (decide (p ≠ []) && ptb p && decide (ks.length = 1) && rd1 (h + p.length) ks) := by
  rw [rd, if_neg (by decide), if_neg (by decide), if_pos rfl]
theorem rd_one (h : Nat) (p v : By) (ks : List Nd) : rd h (.mk 1 p v ks) = (ptb p && may v (h + p.length)) := by
  rw [rd, if_neg (by decide), if_pos rfl]
theorem rd_zero (h : Nat) (p v : By) (ks : List Nd) : rd h (.mk 0 p v ks) = true := by
  rw [rd, if_pos rfl]
theorem rd_else (h : Nat) (k : Int) (p v : By) (ks : List Nd) (h0 : k ≠ 0) (h1 : k ≠ 1) (h2 : k ≠ 2) (h3 : k ≠ 3) : rd h (.mk k p v ks) = false := by
  rw [rd, if_neg h0, if_neg h1, if_neg h2, if_neg h3]
theorem fp_bad {lo h : Nat} {t : Nd} {w : World} (hr : rd h t = false) {f : FuncId} {a : Array Value} (hc : Calls Try.prog f a w fun e w' => e = .returned (.tuple #[.pointer none, .bool false]) ∧ Below w.heap.size w w') : Calls Try.prog f a w (FP lo h t w) :=
  hc.mono fun e w' he => ⟨none, by rw [hr]; exact he.1, fun hh => absurd (hr.symm.trans hh) (by decide), he.2⟩
theorem rp_bad {lo h : Nat} {t : Nd} {w : World} (hr : rd h t = false) {f : FuncId} {a : Array Value} (hc : Calls Try.prog f a w fun e w' => (∃ x, e = .returned (.tuple #[x, .bool false])) ∧ Below w.heap.size w w') : Calls Try.prog f a w (RP lo h t w) :=
  hc.mono fun e w' ⟨⟨x, h1⟩, h2⟩ => ⟨x, by rw [hr]; exact h1, fun hh => absurd (hr.symm.trans hh) (by decide), h2⟩
theorem wn_kid {k : Int} {p v : By} {ks : List Nd} {j N : Nat} (h : wn (.mk k p v ks) ≤ N) (hj : j < ks.length) : wn (ks.getD j Nd.no) ≤ N := by
  have := wnk_one ks j hj
  unfold wn at h
  omega
/-- readFork, over its kids. -/
theorem rfork_all (lo h : Nat) (p v : By) (ks : List Nd) (u : V4) (w : World) (hu : Nv (· < lo) w (.mk 3 p v ks) u) (hlo : lo ≤ w.heap.size)
    (KR : ∀ j, j < ks.length → h ≤ 64 → ∀ (x : V4) (wx : World), Nv (· < lo) wx (ks.getD j Nd.no) x → lo ≤ wx.heap.size → Calls Try.prog 17 #[v4 x, .int .i64 ((h + 1 : Nat) : Int)] wx (RP lo (h + 1) (ks.getD j Nd.no) wx)) :
    Calls Try.prog 32 #[v4 u, .int .i64 (h : Int)] w (FP lo h (.mk 3 p v ks) w) := by
  cases hu with
  | mk _ _ _ _ pv vv kv vs hp hv hl hk hi =>
    have hv' := hv
    obtain ⟨a1, c1, rfl, -, -⟩ := hp
    obtain ⟨a2, c2, rfl, -, -⟩ := hv
    obtain ⟨a3, c3, rfl, -, hq⟩ := hk
    show Calls Try.prog _ #[.agg #[.int .i64 3, _, _, _], _] w _
    by_cases h64 : h ≤ 64
    case neg =>
      exact fp_bad (by rw [rd_three, decide_eq_false h64]; simp) (rfork_deep a1 a2 a3 _ c1 _ c2 _ c3 h w (by omega))
    by_cases h16 : ks.length = 16
    case neg =>
      exact fp_bad (by rw [rd_three, decide_eq_false h16]; simp) (rfork_kids a1 a2 a3 _ c1 _ c2 _ c3 h w h64 (by omega))
    by_cases hmv : v = [] ∨ may v h = true
    case neg =>
      have h1 : v ≠ [] := fun e => hmv (.inl e)
      have h2 : may v h = false := by cases e : may v h with | false => rfl | true => exact absurd (.inr e) hmv
      exact fp_bad (by rw [rd_three, decide_eq_false h1, h2]; simp) (rfork_value a1 a2 a3 _ c1 _ c2 _ c3 h w h64 (by omega) v rfl h1 h2)
    obtain ⟨gk, off, rfl, hgl, hgk, hc⟩ := hq (by omega)
    have er : rd h (.mk 3 p v ks) = ((List.range 16).all (fun j => rd (h + 1) (ks.getD j Nd.no)) && decide (2 ≤ pts v ks)) := by
      rw [rd_three, decide_eq_true h64, decide_eq_true h16, ← rda_range ks _ h16]
      have : (decide (v = []) || may v h) = true := by
        rcases hmv with e | e
        · rw [decide_eq_true e]; rfl
        · rw [e]; simp
      rw [this]
      simp
    have el : vs.length = 16 := by omega
    rw [el]
    refine (rfork_ok a1 a2 _ c1 _ c2 c3 h gk off w lo hlo ks vs p v h16 h64 rfl hmv hv' hgk (fun j hj => hc j (by omega)) (fun j => rd (h + 1) (ks.getD j Nd.no)) (fun j hj => Nv_form (hi j (by omega))) ?_).mono fun e w' he => ?_
    · intro j hj wx hb
      refine (KR j (by omega) h64 _ wx (Nv_below (hi j (by omega)) hb) (Nat.le_trans hlo hb.size)).mono fun e w' he => ?_
      exact he
    · unfold FP
      rw [er]
      exact he
theorem read_all (lo : Nat) {t : Nd} (ht : Wf t) :
    (∀ (h : Nat) (u : V4) (w : World), h ≤ 65 → Nv (· < lo) w t u → lo ≤ w.heap.size → wn t ≤ 4194304 → Calls Try.prog 17 #[v4 u, .int .i64 (h : Int)] w (RP lo h t w)) ∧
    (t.kind = 3 → ∀ (h : Nat) (u : V4) (w : World), Nv (· < lo) w t u → lo ≤ w.heap.size → wn t ≤ 4194304 → Calls Try.prog 32 #[v4 u, .int .i64 (h : Int)] w (FP lo h t w)) := by
  induction ht with
  | mk k p v ks _ ih =>
    have HF : k = 3 → ∀ (h : Nat) (u : V4) (w : World), Nv (· < lo) w (.mk k p v ks) u → lo ≤ w.heap.size → wn (.mk k p v ks) ≤ 4194304 → Calls Try.prog 32 #[v4 u, .int .i64 (h : Int)] w (FP lo h (.mk k p v ks) w) := by
      intro hk h u w hu hlo hw
      subst hk
      exact rfork_all lo h p v ks u w hu hlo (fun j hj h64 x wx hx hl => (ih j hj).1 (h + 1) x wx (by omega) hx hl (wn_kid hw hj))
    refine ⟨fun h u w h65 hu hlo hw => ?_, HF⟩
    have hu' := hu
    cases hu with
    | mk _ _ _ _ pv vv kv vs hp hv hl hk hi =>
      have hp' := hp
      have hv' := hv
      have sp := Bs_sl hp
      obtain ⟨a1, c1, rfl, -, -⟩ := hp
      obtain ⟨a2, c2, rfl, -, -⟩ := hv
      obtain ⟨a3, c3, rfl, -, hq⟩ := hk
      have hz : p.length ≤ 4194304 := by unfold wn at hw; omega
      obtain ⟨ax, cx, ex, -, vw⟩ := sp
      injection ex with e1 e2 e3
      subst e1
      by_cases k0 : k = 0
      · subst k0
        refine (read_none a1 a2 a3 _ c1 _ c2 _ c3 h w).mono fun e w' he => ⟨_, by rw [rd_zero]; exact he.1, fun _ => .none p v ks _, he.2⟩
      by_cases k1 : k = 1
      · subst k1
        cases hpt : ptb p with
        | true =>
          refine (read_leaf_ok a1 a2 a3 _ c1 _ c2 _ c3 h w p v rfl hz rfl (by omega) vw hpt).mono fun e w' he => ⟨_, by rw [rd_one, hpt, Bool.true_and]; exact he.1, fun _ => ?_, he.2⟩
          exact .leaf p v ks _ _ _ (Bs_lo (Bs_below hp' he.2)) (Bs_lo (Bs_below hv' he.2))
        | false => exact rp_bad (by rw [rd_one, hpt]; rfl) ((read_leaf_no a1 a2 a3 _ c1 _ c2 _ c3 h w p v rfl hz rfl (by omega) vw hpt).mono fun e w' he => ⟨⟨_, he.1⟩, he.2⟩)
      by_cases k2 : k = 2
      · subst k2
        show Calls Try.prog _ #[.agg #[.int .i64 2, _, _, _], _] w _
        refine read_road a1 a2 a3 _ c1 _ c2 _ c3 h w (rd h (.mk 2 p v ks)) (fun x w' => rd h (.mk 2 p v ks) = true → In lo w' (.mk 2 p v ks) x (fun y => w.heap.size ≤ y)) ?_
        intro wx hbx
        have vwx := Sp.Vw_below vw hbx
        have key : Calls Try.prog 31 #[.agg #[.int .i64 2, .slice a1 p.length c1, .slice a2 v.length c2, .slice a3 vs.length c3], .int .i64 (h : Int)] wx (RP lo h (.mk 2 p v ks) wx) := by
          by_cases p0 : p = []
          · subst p0
            exact rp_bad (by rw [rd_two]; simp) (rroad_empty a1 a2 a3 c1 _ c2 _ c3 h wx)
          have hp0 : 0 < p.length := List.length_pos_iff.2 p0
          cases hpt : ptb p with
          | false => exact rp_bad (by rw [rd_two, hpt]; simp) (rroad_path a1 a2 a3 _ c1 _ c2 _ c3 h wx p rfl hz hp0 vwx hpt)
          | true =>
            by_cases hk1 : ks.length = 1
            case neg => exact rp_bad (by rw [rd_two, decide_eq_false hk1]; simp) (rroad_kids a1 a2 a3 _ c1 _ c2 _ c3 h wx p rfl hz hp0 vwx hpt (by omega))
            obtain ⟨t, rfl⟩ := List.length_eq_one_iff.1 hk1
            have el : vs.length = 1 := hl
            obtain ⟨gk, off, rfl, hgl, hgk, hc⟩ := hq (by omega)
            obtain ⟨y0, y1, y2, y3⟩ := hc 0 (by omega)
            have hn := hi 0 (by simp)
            rw [List.getD_cons_zero] at hn
            obtain ⟨kk, b1, m1, d1, b2, m2, d2, b3, m3, d3, eF⟩ := Nv_form hn
            rw [eF] at y0 y1 y2 y3
            simp only [Nat.mul_zero, Nat.add_zero] at y0 y1 y2 y3
            have z0 := (hbx.cell (p := ⟨gk, off, none⟩) hgk).trans y0
            have z1 := (hbx.cell (p := ⟨gk, off + 1, none⟩) hgk).trans y1
            have z2 := (hbx.cell (p := ⟨gk, off + 2, none⟩) hgk).trans y2
            have z3 := (hbx.cell (p := ⟨gk, off + 3, none⟩) hgk).trans y3
            have hgx : gk < wx.heap.size := Nat.lt_of_lt_of_le hgk hbx.size
            have ekk : t.kind = kk := by
              rw [eF] at hn
              cases hn
              rfl
            rw [el]
            by_cases hkk : kk = 3
            case neg => exact rp_bad (by rw [rd_two, rd1, decide_eq_false (show ¬ t.kind = 3 by rw [ekk]; exact hkk)]; simp) (rroad_kind a1 a2 _ c1 _ c2 c3 h gk off wx p rfl hz hp0 vwx hpt kk hgx z0 hkk)
            subst hkk
            have er : rd h (.mk 2 p v [t]) = rd (h + p.length) t := by
              rw [rd_two, rd1, hpt, decide_eq_true (show p ≠ [] from p0), decide_eq_true ekk]
              simp
            have GBt : ∀ (x : Option Addr) (w1 w2 : World), (rd (h + p.length) t = true → ∃ g, x = some ⟨g, 0, none⟩ ∧ In lo w1 t (.iface 69 (.pointer (some ⟨g, 0, none⟩))) (fun y => wx.heap.size ≤ y)) → Below w1.heap.size w1 w2 → rd (h + p.length) t = true → ∃ g, x = some ⟨g, 0, none⟩ ∧ In lo w2 t (.iface 69 (.pointer (some ⟨g, 0, none⟩))) (fun y => wx.heap.size ≤ y) := fun x w1 w2 hx hb hr => by
              obtain ⟨g, h1, h2⟩ := hx hr
              exact ⟨g, h1, In_below h2 hb⟩
            have KF := (ih 0 (by simp)).2
            rw [List.getD_cons_zero] at KF
            refine (rroad_fork a1 a2 _ c1 _ c2 c3 h gk off wx p rfl hz hp0 vwx hpt (by omega) b1 b2 b3 m1 d1 m2 d2 m3 d3 hgx z0 z1 z2 z3 (rd (h + p.length) t) _ GBt ?_).mono fun e w' he => ?_
            · intro wy hby
              have hn2 : Nv (· < lo) wy t (.int .i64 3, .slice b1 m1 d1, .slice b2 m2 d2, .slice b3 m3 d3) := by
                rw [eF] at hn
                exact Nv_below (Nv_below hn hbx) hby
              refine (KF ekk (h + p.length) _ wy hn2 (Nat.le_trans hlo (Nat.le_trans hbx.size hby.size)) (by have := wn_kid (j := 0) hw (by simp); rwa [List.getD_cons_zero] at this)).mono fun e w' he => ?_
              obtain ⟨x, h1, h2, h3⟩ := he
              refine ⟨x, h1, fun hr => ?_, h3⟩
              obtain ⟨g, h4, h5⟩ := h2 hr
              exact ⟨g, h4, In_mono h5 (fun y hy => Nat.le_trans hby.size hy)⟩
            · obtain ⟨x, h1, h2, h3⟩ := he
              refine ⟨_, by rw [er]; exact h1, fun hr => ?_, h3⟩
              rw [er] at hr
              obtain ⟨g, rfl, h5⟩ := h2 hr
              exact .road p v t _ g _ (Bs_lo (Bs_below (Bs_below hp' hbx) h3)) h5
        refine key.mono fun e w' he => ?_
        obtain ⟨x, h1, h2, h3⟩ := he
        exact ⟨x, h1, fun hr => In_mono (h2 hr) (fun y hy => Nat.le_trans hbx.size hy), h3⟩
      by_cases k3 : k = 3
      · subst k3
        show Calls Try.prog _ #[.agg #[.int .i64 3, _, _, _], _] w _
        refine (read_fork a1 a2 a3 _ c1 _ c2 _ c3 h w (rd h (.mk 3 p v ks)) (fun x w' => rd h (.mk 3 p v ks) = true → ∃ g, x = some ⟨g, 0, none⟩ ∧ In lo w' (.mk 3 p v ks) (.iface 69 (.pointer (some ⟨g, 0, none⟩))) (fun y => w.heap.size ≤ y)) ?_).mono fun e w' he => ?_
        · intro wx hbx
          refine (HF rfl h _ wx (Nv_below hu' hbx) (Nat.le_trans hlo hbx.size) hw).mono fun e w' he => ?_
          obtain ⟨x, h1, h2, h3⟩ := he
          refine ⟨x, h1, fun hr => ?_, h3⟩
          obtain ⟨g, h4, h5⟩ := h2 hr
          exact ⟨g, h4, In_mono h5 (fun y hy => Nat.le_trans hbx.size hy)⟩
        · obtain ⟨x, h1, h2, h3⟩ := he
          refine ⟨_, h1, fun hr => ?_, h3⟩
          obtain ⟨g, rfl, h5⟩ := h2 hr
          exact h5
      · exact rp_bad (rd_else h k p v ks k0 k1 k2 k3) ((read_other k a1 a2 a3 _ c1 _ c2 _ c3 h w k0 k1 k2 k3).mono fun e w' he => ⟨⟨_, he.1⟩, he.2⟩)
end Tr
end Go.Proofs.Ythlgneadcagleab
/- nib.Halves, lampbearerref.NHalves. -/
namespace Go.Proofs.Ythlgneadcagleab
namespace Nb
open Go.RowKit
theorem and15 : ∀ x : Fin 256, bits .and .u8 ((x.val : Nat) : Int) 15 = ((x.val % 16 : Nat) : Int) := by decide +kernel
theorem hv_take (b : List UInt8) (k : Nat) (h : k < b.length) : hv (b.take (k + 1)) = hv (b.take k) ++ [UInt8.ofNat ((b.getD k 0).toNat / 16), UInt8.ofNat ((b.getD k 0).toNat % 16)] := by
  induction b generalizing k with
  | nil => simp at h
  | cons c r ih =>
    cases k with
    | zero => simp [hv]
    | succ k =>
      rw [List.take_succ_cons, List.take_succ_cons, hv, hv, ih k (by simp only [List.length_cons] at h; omega)]
      simp
theorem bcs_hv (b : List UInt8) (k : Nat) (h : k < b.length) : Pk.bcs (hv (b.take k)) ++ [.int .u8 (Sp.bz b k / 16), .int .u8 (Sp.bz b k % 16)] = Pk.bcs (hv (b.take (k + 1))) := by
  have hl := UInt8.toNat_lt (b.getD k 0)
  rw [hv_take b k h, Pk.bcs_app]
  congr 1
  simp only [Pk.bcs, List.map_cons, List.map_nil]
  rw [of_lt _ (by omega), of_lt _ (by omega)]
  simp only [Sp.bz]
  congr 2
theorem room2 (k n : Nat) (h : k < n) (hn : Hid (n ≤ 2097152)) : 2 * k + 2 ≤ maxLen ∧ (2 * k + 2) * 1 ≤ 140737488355328 := by
  have := hn.out
  unfold maxLen
  omega
theorem take_len (b : List UInt8) (k : Nat) (h : k ≤ b.length) : (hv (b.take k)).length = 2 * k := by rw [hv_len, List.length_take]; omega
set_option maxHeartbeats 1000000 in
set_option maxRecDepth 100000 in
theorem halves_any (b : List UInt8) (ao : Option Addr) (cap : Nat) (w : World) (hn : Hid (b.length ≤ 2097152)) (vw : Sp.Vw b ao w) :
    Calls Try.prog 20 #[.slice ao b.length cap] w fun e w' => ∃ v, e = .returned v ∧ w'.ownsRow w.heap.size 5 1 v (hv b).length (Pk.bcs (hv b)) ∧ Below w.heap.size w w' := by
  obtain ⟨i0, hi, hz0, hz1, hz2⟩ := info_parts Pk.Try.infoU8'
  have hmk : ∃ w', (Instr.makeSlice 22 (.int .i64 0) (.int .i64 (2 * (b.length : Int)))).run Try.prog w = .ok (.slice (some ⟨w.heap.size, 0, none⟩) 0 (2 * b.length)) w' ∧ w'.ownsRow w.heap.size 5 1 (.slice (some ⟨w.heap.size, 0, none⟩) 0 (2 * b.length)) 0 [] ∧ w.grownBy w' none := by
    have hn' := hn.out
    have h := run_make_own (P := Try.prog) w w.heap.size 22 5 i0 (.int .u8 0) 1 Try.underlying22 hi hz0 hz1 .i64 .i64 (2 * b.length) (by rw [hz2]; omega) (by unfold maxLen; omega) (Nat.le_refl _)
    rwa [show ((2 * b.length : Nat) : Int) = 2 * (b.length : Int) by omega] at h
  have hw2 : Hid (wrap64 (2 * (b.length : Int)) = 2 * (b.length : Int)) := by
    have hn' := hn.out
    show _ = _
    unfold wrap64; omega
  obtain ⟨w1, hr, o1, hgr⟩ := hmk
  have b1 : Below w.heap.size w w1 := (Below.refl _ _).grown hgr (Nat.le_refl _) (fun k hk => by cases hk)
  have HV : Hid (Sp.Vw b ao w) := vw
  clear vw
  go_enter Try.func20, Try.ntmps20
  have hw := hw2.out
  go_wp2_with fail
  clear hw hw2 hr hgr
  go_loopw [3, 12] (fun v i wr => ∃ k : Nat, k ≤ b.length ∧ i = .int .i64 (k : Int) ∧ wr.ownsRow w.heap.size 5 1 v (2 * k) (Pk.bcs (hv (b.take k))) ∧ Below w.heap.size w wr) (fun _ i _ => ((b.length : Int) - intOf i).toNat)
  case atStart => exact ⟨0, Nat.zero_le _, rfl, o1, b1⟩
  case round =>
    clear o1 b1
    obtain ⟨k, hk, rfl, o2, b2⟩ := hrel
    by_cases h1 : k < b.length
    · have d1 : decide ((k : Int) < (b.length : Int)) = true := decide_eq_true (by omega)
      obtain ⟨g, off, rfl, hg, hc⟩ := HV.out (by omega)
      have c0 := (b2.cell (p := ⟨g, off + k, none⟩) hg).trans (hc k h1)
      have hw := stp k (by have := hn.out; show _ ≤ _; omega)
      have hand : bits .and .u8 (Sp.bz b k) 15 = Sp.bz b k % 16 := by
        have h := and15 ⟨(Sp.bz b k).toNat, by have := Sp.bz_lt b k; omega⟩
        dsimp only at h
        rw [Int.toNat_of_nonneg (Sp.bz_nn b k)] at h
        rw [h]
        have := Sp.bz_nn b k
        omega
      have HE : Hid (Pk.bcs (hv (b.take k)) ++ [.int .u8 (Sp.bz b k / 16), .int .u8 (Sp.bz b k % 16)] = Pk.bcs (hv (b.take (k + 1)))) := bcs_hv b k h1
      have HR := room2 k b.length h1 hn
      have HR1 : Hid (2 * k + 2 ≤ maxLen) := HR.1
      have HR2 : Hid ((2 * k + 2) * 1 ≤ 140737488355328) := HR.2
      have HX : Hid (0 ≤ Sp.bz b k ∧ Sp.bz b k < 256) := ⟨Sp.bz_nn b k, Sp.bz_lt b k⟩
      clear HR hc
      generalize Sp.bz b k = X at *
      generalize Pk.bcs (hv (b.take k)) = L1 at *
      go_wp2_with (at_builtin; refine wpList_append_own _ rfl _ _ 22 rfl w.heap.size 5 i0 (.int .u8 0) 1 1 Try.underlying22 hi hz0 hz1 hz2 rfl (by decide) _ (2 * k) _ rfl (o2.alloc _) ⟨wr.heap.size, 0, none⟩ 2 2 [.int .u8 (X / 16), .int .u8 (X % 16)] rfl rfl ?c1 ?c2 HR1.out HR2.out ?c5 ?_)
      case c1 =>
        intro j u hj
        match j, hj with
        | 0, hj => cases hj; simp [go_sem]
        | 1, hj => cases hj; simp [go_sem]
      case c2 =>
        intro u hu
        simp only [List.mem_cons, List.not_mem_nil, or_false] at hu
        rcases hu with rfl | rfl <;> rfl
      case c5 => have := b2.size; simp; omega
      intro v' w4 hown' hgrow _
      have b4 : Below w.heap.size w w4 := (b2.alloc b2.size _).grown hgrow (by have := b2.size; simp; omega) (fun k hk => (o2.lt k hk).1)
      have R : Hid (w4.ownsRow w.heap.size 5 1 v' (2 * (k + 1)) (Pk.bcs (hv (b.take (k + 1))))) := by
        have e := hown'
        rw [HE.out] at e
        exact e
      clear hown' hgrow o2 b2
      go_wp2_with fail
      have hw := hw.out
      go_roundw
      case rel => exact ⟨k + 1, h1, step_v k _ hw, R.out, b4⟩
      case measure => exact msr k b.length h1 _ hw
    · have hkl : k = b.length := by omega
      subst hkl
      rw [List.take_length] at o2
      go_wp2_with fail
      go_ret
      exact ⟨_, rfl, by rw [hv_len]; exact o2, b2⟩
end Nb
end Go.Proofs.Ythlgneadcagleab
/- tree.Get. -/
namespace Go.Proofs.Ythlgneadcagleab
namespace Tr
open Nb Go.RowKit
theorem na_none (v : Value) (W : World) : (nilAhead (Try.prog.types.size + Made.depth) 65 v "lampbearer/tree.get").run Try.prog W = .ok (some false) W := by kernel_rfl
theorem na_leaf (v : Value) (W : World) : (nilAhead (Try.prog.types.size + Made.depth) 67 v "lampbearer/tree.get").run Try.prog W = .ok (some false) W := by kernel_rfl
theorem na_road (v : Value) (W : World) : (nilAhead (Try.prog.types.size + Made.depth) 75 v "lampbearer/tree.get").run Try.prog W = .ok (some false) W := by kernel_rfl
theorem na_fork (a : Addr) (W : World) : (nilAhead (Try.prog.types.size + Made.depth) 69 (.pointer (some a)) "lampbearer/tree.get").run Try.prog W = .ok (some false) W := by kernel_rfl
theorem na_in {lo : Nat} {w : World} {t : Nd} {ty : TypeId} {yy : Value} {F : Nat → Prop} (h : In lo w t (.iface ty yy) F) (W : World) : (nilAhead (Try.prog.types.size + Made.depth) ty yy "lampbearer/tree.get").run Try.prog W = .ok (some false) W := by
  cases h with
  | none p v ks F => exact na_none _ W
  | leaf p v ks pv vv F hp hv => exact na_leaf _ W
  | road p v t pv g F hp hk => exact na_road _ W
  | fork p v ks g c F D hl hlo hb hc hFg hv hi hg hD hs => exact na_fork _ W
set_option maxRecDepth 100000 in
theorem wp_nilm {o : Oper} {a : Act} {w : World} {K : Act → World → Prop} {Q : Exit → Act → World → Prop} {x : Operand} {ty : TypeId} {yy : Value} (ho : o.op = .nilCheck x) (hx : a.eval x = .func (.method "lampbearer/tree.get") #[.iface ty yy] #[]) (hn : (nilAhead (Try.prog.types.size + Made.depth) ty yy "lampbearer/tree.get").run Try.prog w = .ok (some false) w)
    (h : K (a.put o.dst (.func (.method "lampbearer/tree.get") #[.iface ty yy] #[])) w) : o.wp Try.prog a w K Q := by
  have he : (execOp a.eval o).run Try.prog w = .ok (.value (.func (.method "lampbearer/tree.get") #[.iface ty yy] #[])) w := by
    unfold execOp
    simp only [ho, hx]
    have h0 : (#[Value.iface ty yy] : Array Value)[0]? = some (.iface ty yy) := rfl
    have hn2 : (nilAhead (Try.prog.types.size + 100) ty yy "lampbearer/tree.get").run Try.prog w = .ok (some false) w := hn
    simp only [h0, go_sem, Sem.run_bind, Result.andThen_ok, run_program, hn2]
    rfl
  unfold Oper.wp
  rw [he]
  exact h
set_option maxHeartbeats 1000000 in
set_option maxRecDepth 100000 in
theorem iskey_any (ak : Option Addr) (nk ck : Nat) (w : World) : Calls Try.prog 22 #[.slice ak nk ck] w fun e w' => e = .returned (.bool (decide (nk ≤ 32))) ∧ w' = w := by
  have e : decide (nk ≤ 32) = decide ((nk : Int) ≤ 32) := by rw [decide_eq_decide]; omega
  rw [e]
  clear e
  go_enter Try.func22, Try.ntmps22
  go_wp2_with fail
  go_ret
  exact ⟨rfl, rfl⟩
theorem halves_bs {S : Nat → Prop} {lo : Nat} {b : By} {v : Value} {w : World} (hb : Bs S b v w) (hl : b.length ≤ 2097152) : Calls Try.prog 20 #[v] w fun e w' => ∃ a n c, e = .returned (.slice a n c) ∧ Bs (Sb lo w') (hv b) (.slice a n c) w' ∧ Below w.heap.size w w' := by
  obtain ⟨ao, cap, h1, _, vw⟩ := Bs_sl hb
  subst h1
  refine (halves_any b ao cap w hl vw).mono fun e w' he => ?_
  obtain ⟨v, h1, h2, h3⟩ := he
  have h4 := own_bs h2
  obtain ⟨a, c, rfl, _⟩ := Bs_form h4
  exact ⟨a, _, c, h1, Bs_mono h4 (fun k hk _ => .inr hk.2), h3⟩
set_option maxHeartbeats 2000000 in
set_option maxRecDepth 100000 in
theorem get_form (k : Int) (a1 a2 a3 ak : Option Addr) (n1 c1 m2 c2 n3 c3 nk ck : Nat) (w : World) (KR0 : ∀ wx : World, Below w.heap.size w wx → Calls Try.prog 17 #[.agg #[.int .i64 k, .slice a1 n1 c1, .slice a2 m2 c2, .slice a3 n3 c3], .int .i64 0] wx fun e w' => ∃ y, e = .returned (.tuple #[y, .bool false]) ∧ Below wx.heap.size wx w') :
    Calls Try.prog 10 #[.agg #[.int .i64 k, .slice a1 n1 c1, .slice a2 m2 c2, .slice a3 n3 c3], .slice ak nk ck] w fun e w' => e = .returned (.tuple #[.slice none 0 0, .int .i64 1]) ∧ Below w.heap.size w w' := by
  have HB : Below w.heap.size w (w.alloc (.cells #[.int .i64 k, .slice a1 n1 c1, .slice a2 m2 c2, .slice a3 n3 c3] 25)) := (Below.refl _ _).alloc (Nat.le_refl _) _
  obtain ⟨_, q0, q1, q2, q3⟩ := Bx_new w (.int .i64 k, .slice a1 n1 c1, .slice a2 m2 c2, .slice a3 n3 c3)
  dsimp only at q0 q1 q2 q3
  have KR : Hid (Calls Try.prog 17 #[.agg #[.int .i64 k, .slice a1 n1 c1, .slice a2 m2 c2, .slice a3 n3 c3], .int .i64 0] (w.alloc (.cells #[.int .i64 k, .slice a1 n1 c1, .slice a2 m2 c2, .slice a3 n3 c3] 25)) fun e w' => ∃ y, e = .returned (.tuple #[y, .bool false]) ∧ Below (w.alloc (.cells #[.int .i64 k, .slice a1 n1 c1, .slice a2 m2 c2, .slice a3 n3 c3] 25)).heap.size (w.alloc (.cells #[.int .i64 k, .slice a1 n1 c1, .slice a2 m2 c2, .slice a3 n3 c3] 25)) w') := KR0 _ HB
  have HBB : Hid (Below w.heap.size w (w.alloc (.cells #[.int .i64 k, .slice a1 n1 c1, .slice a2 m2 c2, .slice a3 n3 c3] 25))) := HB
  clear KR0 HB
  go_enter Try.func10, Try.ntmps10
  go_wp2_with fail
  refine KR.out.mono ?_
  rintro e w1 ⟨y, rfl, hb1⟩
  have HZ : Hid (Below w.heap.size w w1) := HBB.out.trans (hb1.mono HBB.out.size)
  clear hb1
  go_wp2_with fail
  go_ret2
  exact ⟨rfl, HZ.out⟩
set_option maxHeartbeats 2000000 in
set_option maxRecDepth 100000 in
theorem get_key (k : Int) (a1 a2 a3 ak : Option Addr) (n1 c1 m2 c2 n3 c3 nk ck : Nat) (w : World) (KR0 : ∀ wx : World, Below w.heap.size w wx → Calls Try.prog 17 #[.agg #[.int .i64 k, .slice a1 n1 c1, .slice a2 m2 c2, .slice a3 n3 c3], .int .i64 0] wx fun e w' => ∃ y, e = .returned (.tuple #[y, .bool true]) ∧ Below wx.heap.size wx w') (hk : ¬ nk ≤ 32) :
    Calls Try.prog 10 #[.agg #[.int .i64 k, .slice a1 n1 c1, .slice a2 m2 c2, .slice a3 n3 c3], .slice ak nk ck] w fun e w' => e = .returned (.tuple #[.slice none 0 0, .int .i64 3]) ∧ Below w.heap.size w w' := by
  have HB : Below w.heap.size w (w.alloc (.cells #[.int .i64 k, .slice a1 n1 c1, .slice a2 m2 c2, .slice a3 n3 c3] 25)) := (Below.refl _ _).alloc (Nat.le_refl _) _
  obtain ⟨_, q0, q1, q2, q3⟩ := Bx_new w (.int .i64 k, .slice a1 n1 c1, .slice a2 m2 c2, .slice a3 n3 c3)
  dsimp only at q0 q1 q2 q3
  have KR : Hid (Calls Try.prog 17 #[.agg #[.int .i64 k, .slice a1 n1 c1, .slice a2 m2 c2, .slice a3 n3 c3], .int .i64 0] (w.alloc (.cells #[.int .i64 k, .slice a1 n1 c1, .slice a2 m2 c2, .slice a3 n3 c3] 25)) fun e w' => ∃ y, e = .returned (.tuple #[y, .bool true]) ∧ Below (w.alloc (.cells #[.int .i64 k, .slice a1 n1 c1, .slice a2 m2 c2, .slice a3 n3 c3] 25)).heap.size (w.alloc (.cells #[.int .i64 k, .slice a1 n1 c1, .slice a2 m2 c2, .slice a3 n3 c3] 25)) w') := KR0 _ HB
  have HBB : Hid (Below w.heap.size w (w.alloc (.cells #[.int .i64 k, .slice a1 n1 c1, .slice a2 m2 c2, .slice a3 n3 c3] 25))) := HB
  have KK : Hid (∀ wx : World, Calls Try.prog 22 #[.slice ak nk ck] wx fun e w' => e = .returned (.bool false) ∧ w' = wx) := fun wx => by
    have := iskey_any ak nk ck wx
    rwa [decide_eq_false hk] at this
  clear KR0 HB hk
  go_enter Try.func10, Try.ntmps10
  go_wp2_with fail
  refine KR.out.mono ?_
  rintro e w1 ⟨y, rfl, hb1⟩
  have HZ : Hid (Below w.heap.size w w1) := HBB.out.trans (hb1.mono HBB.out.size)
  clear hb1
  go_wp2_with fail
  refine (KK.out _).mono ?_
  rintro e w2 ⟨rfl, rfl⟩
  go_wp2_with fail
  go_ret2
  exact ⟨rfl, HZ.out⟩
inductive GGI (W0 : World) (lo : Nat) (b kh : By) (ty : Nat) (yy : Value) (k : Int) (a1 a2 a3 ak : Option Addr) (n1 c1 m2 c2 n3 c3 nk ck g2 : Nat) (d : Nat → Bool) (x : Act) (wx : World) : Prop where
  | mk (u4 u5 u18 u19 u20 u21 u22 u23 u24 u25 : Value) (hx : x = { tmps := #[.agg #[.int .i64 k, .slice a1 n1 c1, .slice a2 m2 c2, .slice a3 n3 c3], .slice ak nk ck, .pointer (some ⟨g2, 0, none⟩), undef, u4, u5, .iface ty yy, .bool true, .tuple #[.iface ty yy, .bool true], .agg #[.int .i64 k, .slice a1 n1 c1, .slice a2 m2 c2, .slice a3 n3 c3], .tuple #[.iface ty yy, .bool true], .iface ty yy, .bool true, .bool true, .bool false, .slice ak nk ck, .bool true, .bool false, u18, u19, u20, u21, u22, u23, u24, u25], defers := [] }) (hw : Below W0.heap.size W0 wx) (p0 : d 0 = true → u18 = .iface ty yy) (p1 : d 1 = true → u19 = .slice ak nk ck) (p3 : d 3 = true → u21 = .func (.method "lampbearer/tree.get") #[.iface ty yy] #[]) (p4 : d 4 = true → u22 = .func (.method "lampbearer/tree.get") #[.iface ty yy] #[]) (p5 : d 5 = true → u23 = .iface ty yy) (p9 : d 9 = true → u5 = .int .i64 0) (z2 : d 2 = true → ∃ a n c, u20 = .slice a n c ∧ Bs (Sb lo wx) kh (.slice a n c) wx) (z6 : d 6 = true → ∃ a c, u24 = .slice a b.length c ∧ Bs (Sb lo wx) b (.slice a b.length c) wx) (z7 : d 7 = true → ∃ a c, u25 = .slice a b.length c ∧ Bs (Sb lo wx) b (.slice a b.length c) wx) (z8 : d 8 = true → ∃ a c, u4 = .slice a b.length c ∧ Bs (Sb lo wx) b (.slice a b.length c) wx) : GGI W0 lo b kh ty yy k a1 a2 a3 ak n1 c1 m2 c2 n3 c3 nk ck g2 d x wx
set_option maxHeartbeats 2000000 in
set_option maxRecDepth 100000 in
theorem get_value (k : Int) (a1 a2 a3 ak : Option Addr) (n1 c1 m2 c2 n3 c3 nk ck : Nat) (w : World) (lo : Nat) (b kh : By) (t : Nd) (F : Nat → Prop) (KR0 : ∀ wx : World, Below w.heap.size w wx → Calls Try.prog 17 #[.agg #[.int .i64 k, .slice a1 n1 c1, .slice a2 m2 c2, .slice a3 n3 c3], .int .i64 0] wx fun e w' => ∃ y, e = .returned (.tuple #[y, .bool true]) ∧ In lo w' t y F ∧ Below wx.heap.size wx w') (hk : nk ≤ 32)
    (KH0 : ∀ wx : World, Below w.heap.size w wx → Calls Try.prog 20 #[.slice ak nk ck] wx fun e w' => ∃ a n c, e = .returned (.slice a n c) ∧ Bs (Sb lo w') kh (.slice a n c) w' ∧ Below wx.heap.size wx w')
    (KI0 : ∀ (ty : Nat) (yy kv : Value) (wx : World), In lo wx t (.iface ty yy) F → Bs (Sb lo wx) kh kv wx → Inv "lampbearer/tree.get" (.iface ty yy) #[kv] wx (GV2 lo wx b))
    (KC : Hid (∀ (v : Value) (wx : World), Bs (Sb lo wx) b v wx → Calls Try.prog 23 #[v] wx fun e w' => ∃ a c, e = .returned (.slice a b.length c) ∧ Bs (Sb lo w') b (.slice a b.length c) w' ∧ Below wx.heap.size wx w')) :
    Calls Try.prog 10 #[.agg #[.int .i64 k, .slice a1 n1 c1, .slice a2 m2 c2, .slice a3 n3 c3], .slice ak nk ck] w fun e w' => (∃ a c, e = .returned (.tuple #[.slice a b.length c, .int .i64 0]) ∧ Bs (Sb lo w') b (.slice a b.length c) w') ∧ Below w.heap.size w w' := by
  have HB : Below w.heap.size w (w.alloc (.cells #[.int .i64 k, .slice a1 n1 c1, .slice a2 m2 c2, .slice a3 n3 c3] 25)) := (Below.refl _ _).alloc (Nat.le_refl _) _
  obtain ⟨_, q0, q1, q2, q3⟩ := Bx_new w (.int .i64 k, .slice a1 n1 c1, .slice a2 m2 c2, .slice a3 n3 c3)
  dsimp only at q0 q1 q2 q3
  have KR : Hid (Calls Try.prog 17 #[.agg #[.int .i64 k, .slice a1 n1 c1, .slice a2 m2 c2, .slice a3 n3 c3], .int .i64 0] (w.alloc (.cells #[.int .i64 k, .slice a1 n1 c1, .slice a2 m2 c2, .slice a3 n3 c3] 25)) fun e w' => ∃ y, e = .returned (.tuple #[y, .bool true]) ∧ In lo w' t y F ∧ Below (w.alloc (.cells #[.int .i64 k, .slice a1 n1 c1, .slice a2 m2 c2, .slice a3 n3 c3] 25)).heap.size (w.alloc (.cells #[.int .i64 k, .slice a1 n1 c1, .slice a2 m2 c2, .slice a3 n3 c3] 25)) w') := KR0 _ HB
  have HBB : Hid (Below w.heap.size w (w.alloc (.cells #[.int .i64 k, .slice a1 n1 c1, .slice a2 m2 c2, .slice a3 n3 c3] 25))) := HB
  have KK : Hid (∀ wx : World, Calls Try.prog 22 #[.slice ak nk ck] wx fun e w' => e = .returned (.bool true) ∧ w' = wx) := fun wx => by
    have := iskey_any ak nk ck wx
    rwa [decide_eq_true hk] at this
  have KH1 : Hid (∀ wx : World, Below w.heap.size w wx → Calls Try.prog 20 #[.slice ak nk ck] wx fun e w' => ∃ a n c, e = .returned (.slice a n c) ∧ Bs (Sb lo w') kh (.slice a n c) w' ∧ Below wx.heap.size wx w') := KH0
  have KI1 : Hid (∀ (ty : Nat) (yy kv : Value) (wx : World), In lo wx t (.iface ty yy) F → Bs (Sb lo wx) kh kv wx → Inv "lampbearer/tree.get" (.iface ty yy) #[kv] wx (GV2 lo wx b)) := KI0
  clear KR0 HB hk KH0 KI0
  go_enter Try.func10, Try.ntmps10
  go_wp2_with fail
  refine KR.out.mono ?_
  rintro e w1 ⟨y, rfl, hin, hb1⟩
  obtain ⟨ty, yy, rfl⟩ := In_form hin
  have HNA : Hid (∀ W : World, (nilAhead (Try.prog.types.size + Made.depth) ty yy "lampbearer/tree.get").run Try.prog W = .ok (some false) W) := fun W => na_in hin W
  have HZ : Hid (Below w.heap.size w w1) := HBB.out.trans (hb1.mono HBB.out.size)
  have KI : Hid (∀ (kv : Value) (wx : World), Below w1.heap.size w1 wx → Bs (Sb lo wx) kh kv wx → Inv "lampbearer/tree.get" (.iface ty yy) #[kv] wx (GV2 lo wx b)) := fun kv wx hb hk => KI1.out ty yy kv wx (In_below hin hb) hk
  have KH : Hid (∀ wx : World, Below w1.heap.size w1 wx → Calls Try.prog 20 #[.slice ak nk ck] wx fun e w' => ∃ a n c, e = .returned (.slice a n c) ∧ Bs (Sb lo w') kh (.slice a n c) w' ∧ Below wx.heap.size wx w') := fun wx hb => KH1.out wx (HZ.out.trans (hb.mono HZ.out.size))
  have hw0 : Below w1.heap.size w1 w1.drew := (Below.refl _ _).drew
  clear hb1 hin KI1 KH1
  go_wp2_with fail
  refine (KK.out _).mono ?_
  rintro e w2 ⟨rfl, rfl⟩
  go_upto_region 6 with fail
  generalize hg2 : w.heap.size = g2 at *
  refine RI.wp_region_inv (GGI w2 lo b kh ty yy k a1 a2 a3 ak n1 c1 m2 c2 n3 c3 nk ck g2) (by kernel_rfl) (by kernel_rfl) ?_ ?_ ?_
  · exact ⟨.slice none 0 0, .int .i64 0, undef, undef, undef, undef, undef, undef, undef, undef, rfl, hw0, nofun, nofun, nofun, nofun, nofun, nofun, nofun, nofun, nofun, nofun⟩
  · skip
    intro d x wx i hI hi hm
    obtain ⟨u4, u5, u18, u19, u20, u21, u22, u23, u24, u25, rfl, hw, p0, p1, p3, p4, p5, p9, z2, z6, z7, z8⟩ := hI
    have hi' : i = 0 ∨ i = 1 ∨ i = 2 ∨ i = 3 ∨ i = 4 ∨ i = 5 ∨ i = 6 ∨ i = 7 ∨ i = 8 ∨ i = 9 := by simp at hi; omega
    have hd := hm.2
    have hf := hm.1
    clear hm hi
    rcases hi' with rfl | rfl | rfl | rfl | rfl | rfl | rfl | rfl | rfl | rfl
    · refine RI.wpOp_plain rfl rfl ?_
      go_simp
      exact ⟨u4, u5, _, u19, u20, u21, u22, u23, u24, u25, rfl, hw, fun _ => rfl, p1, p3, p4, p5, p9, z2, z6, z7, z8⟩
    · refine RI.wpOp_plain rfl rfl ?_
      go_simp
      exact ⟨u4, u5, u18, _, u20, u21, u22, u23, u24, u25, rfl, hw, p0, fun _ => rfl, p3, p4, p5, p9, z2, z6, z7, z8⟩
    · have hd := hd _ rfl
      simp [Region.binds] at hd
      obtain rfl := p1 (by simp [hd])
      refine RI.wpOp_plain rfl rfl ?_
      go_simp
      refine (KH.out _ hw).mono ?_
      rintro e w1 ⟨ha, hn, hc, rfl, hkh, hb1⟩
      exact ⟨u4, u5, u18, _, _, u21, u22, u23, u24, u25, rfl, hw.trans (hb1.mono hw.size), p0, p1, p3, p4, p5, p9, fun _ => ⟨_, _, _, rfl, hkh⟩, (fun h => (z6 h).imp fun a ha => ha.imp fun c hc => ⟨hc.1, Bs_ch hc.2 (ch_below (G := fun _ => False) hb1)⟩), (fun h => (z7 h).imp fun a ha => ha.imp fun c hc => ⟨hc.1, Bs_ch hc.2 (ch_below (G := fun _ => False) hb1)⟩), (fun h => (z8 h).imp fun a ha => ha.imp fun c hc => ⟨hc.1, Bs_ch hc.2 (ch_below (G := fun _ => False) hb1)⟩)⟩
    · have hd := hd _ rfl
      simp [Region.binds] at hd
      obtain rfl := p0 (by simp [hd])
      refine RI.wpOp_plain rfl rfl ?_
      go_simp
      exact ⟨u4, u5, _, u19, u20, _, u22, u23, u24, u25, rfl, hw, p0, p1, fun _ => rfl, p4, p5, p9, z2, z6, z7, z8⟩
    · have hd := hd _ rfl
      simp [Region.binds] at hd
      obtain rfl := p3 (by simp [hd])
      refine RI.wpOp_plain rfl rfl ?_
      refine wp_nilm rfl rfl (HNA.out _) ?_
      simp only [Act.put]
      exact ⟨u4, u5, u18, u19, u20, _, _, u23, u24, u25, rfl, hw, p0, p1, p3, fun _ => rfl, p5, p9, z2, z6, z7, z8⟩
    · have hd := hd _ rfl
      simp [Region.binds] at hd
      obtain rfl := p0 (by simp [hd])
      obtain rfl := p3 (by simp [hd])
      obtain rfl := p4 (by simp [hd])
      refine RI.wpOp_plain rfl rfl ?_
      go_simp
      exact ⟨u4, u5, _, u19, u20, _, _, _, u24, u25, rfl, hw, p0, p1, p3, p4, fun _ => rfl, p9, z2, z6, z7, z8⟩
    · have hd := hd _ rfl
      simp [Region.binds] at hd
      obtain rfl := p5 (by simp [hd])
      refine RI.wpOp_plain rfl rfl ?_
      obtain ⟨ha, hn, hc, rfl, hkh⟩ := z2 (by simp [hd])
      refine wp_inv (xv := .iface ty yy) (vs := #[.slice ha hn hc]) rfl rfl (by simp only [List.map_toArray, List.map_cons, List.map_nil]; rfl) ((KI.out _ _ hw hkh).mono ?_)
      rintro e w1 ⟨xa, xc, rfl, hx, hb1⟩
      refine ⟨_, rfl, ?_⟩
      simp only [Act.put]
      exact ⟨u4, u5, u18, u19, _, u21, u22, _, _, u25, rfl, hw.trans (hb1.mono hw.size), p0, p1, p3, p4, p5, p9, (fun h => (z2 h).imp fun a ha => ha.imp fun n hn => hn.imp fun c hc => ⟨hc.1, Bs_ch hc.2 (ch_below (G := fun _ => False) hb1)⟩), fun _ => ⟨_, _, rfl, hx⟩, (fun h => (z7 h).imp fun a ha => ha.imp fun c hc => ⟨hc.1, Bs_ch hc.2 (ch_below (G := fun _ => False) hb1)⟩), (fun h => (z8 h).imp fun a ha => ha.imp fun c hc => ⟨hc.1, Bs_ch hc.2 (ch_below (G := fun _ => False) hb1)⟩)⟩
    · have hd := hd _ rfl
      simp [Region.binds] at hd
      refine RI.wpOp_plain rfl rfl ?_
      obtain ⟨xa, xc, rfl, hx⟩ := z6 (by simp [hd])
      go_simp
      refine (KC.out _ _ hx).mono ?_
      rintro e w1 ⟨xa, xc, rfl, hx, hb1⟩
      exact ⟨u4, u5, u18, u19, u20, u21, u22, u23, _, _, rfl, hw.trans (hb1.mono hw.size), p0, p1, p3, p4, p5, p9, (fun h => (z2 h).imp fun a ha => ha.imp fun n hn => hn.imp fun c hc => ⟨hc.1, Bs_ch hc.2 (ch_below (G := fun _ => False) hb1)⟩), (fun h => (z6 h).imp fun a ha => ha.imp fun c hc => ⟨hc.1, Bs_ch hc.2 (ch_below (G := fun _ => False) hb1)⟩), fun _ => ⟨_, _, rfl, hx⟩, (fun h => (z8 h).imp fun a ha => ha.imp fun c hc => ⟨hc.1, Bs_ch hc.2 (ch_below (G := fun _ => False) hb1)⟩)⟩
    · have hd := hd _ rfl
      simp [Region.binds] at hd
      obtain rfl := p0 (by simp [hd])
      obtain rfl := p1 (by simp [hd])
      obtain rfl := p3 (by simp [hd])
      obtain rfl := p4 (by simp [hd])
      obtain rfl := p5 (by simp [hd])
      refine RI.wpOp_plain rfl rfl ?_
      obtain ⟨xa, xc, rfl, hx⟩ := z7 (by simp [hd])
      go_simp
      exact ⟨_, u5, _, _, u20, _, _, _, u24, _, rfl, hw, p0, p1, p3, p4, p5, p9, z2, z6, z7, fun _ => ⟨_, _, rfl, hx⟩⟩
    · have hd := hd _ rfl
      simp [Region.binds] at hd
      obtain rfl := p0 (by simp [hd])
      obtain rfl := p1 (by simp [hd])
      obtain rfl := p3 (by simp [hd])
      obtain rfl := p4 (by simp [hd])
      obtain rfl := p5 (by simp [hd])
      refine RI.wpOp_plain rfl rfl ?_
      go_simp
      exact ⟨u4, _, _, _, u20, _, _, _, u24, u25, rfl, hw, p0, p1, p3, p4, p5, fun _ => rfl, z2, z6, z7, z8⟩
  · skip
    intro d x wx hI hd
    obtain ⟨u4, u5, u18, u19, u20, u21, u22, u23, u24, u25, rfl, hw, p0, p1, p3, p4, p5, p9, z2, z6, z7, z8⟩ := hI
    obtain ⟨xa, xc, rfl, hx⟩ := z8 (hd 8 (by decide))
    obtain rfl := p9 (hd 9 (by decide))
    have HR : Hid (Bs (Sb lo wx) b (.slice xa b.length xc) wx) := hx
    have HZ2 : Hid (Below g2 w wx) := by show Below _ _ _; exact HZ.out.trans (hw.mono (by have := HZ.out.size; omega))
    clear hw hx p0 p1 p3 p4 p5 z2 z6 z7 z8
    go_wp2_with fail
    go_ret2
    exact ⟨⟨xa, xc, rfl, HR.out⟩, HZ2.out⟩
end Tr
end Go.Proofs.Ythlgneadcagleab
/- (*tree.fork).plain; plain of every tree. -/
namespace Go.Proofs.Ythlgneadcagleab
namespace Tr
open Nb Go.RowKit
theorem wpList_st4o {ops : Array Oper} {rest : List Oper} {op : Oper} {a : Act} {w : World} {Q : Exit → Act → World → Prop} {x y : Operand} {G o : Nat} {k : Int} {a1 a2 a3 : Option Addr} {n1 c1 n2 c2 n3 c3 : Nat} (hgd : op.guard = none) (ho : op.op = .store 25 x y)
    (hx : a.eval x = .pointer (some ⟨G, o, none⟩)) (hy : a.eval y = .agg #[.int .i64 k, .slice a1 n1 c1, .slice a2 n2 c2, .slice a3 n3 c3]) (ht : w.there G o 4)
    (h : ∀ w', w.grownBy w' (some G) → w'.cell? ⟨G, o, none⟩ = some (.int .i64 k) → w'.cell? ⟨G, o + 1, none⟩ = some (.slice a1 n1 c1) → w'.cell? ⟨G, o + 2, none⟩ = some (.slice a2 n2 c2) → w'.cell? ⟨G, o + 3, none⟩ = some (.slice a3 n3 c3) → (∀ z, z < o ∨ o + 4 ≤ z → w'.cell? ⟨G, z, none⟩ = w.cell? ⟨G, z, none⟩) → (∀ z, w'.frozen? ⟨G, z, none⟩ = w.frozen? ⟨G, z, none⟩) → wpList Try.prog ops Q rest (a.put op.dst undef) w') : wpList Try.prog ops Q (op :: rest) a w :=
  wpList_plain hgd fun _ hK => wp_st4o ho hx hy ht (fun w' h1 h2 h3 h4 h5 h6 h7 => hK _ _ (h w' h1 h2 h3 h4 h5 h6 h7))
/-- What stands behind i rounds of plain. -/
structure GP (w : World) (B g2 gk : Nat) (T : Nat → Nd) (i : Nat) (wr : World) : Prop where
  b : Below w.heap.size w wr
  s : B ≤ wr.heap.size
  v : B4 g2 wr
  k : KB B gk T i wr
theorem GP_below {w : World} {B g2 gk : Nat} {T : Nat → Nd} {i : Nat} {wr w' : World} (h : GP w B g2 gk T i wr) (hb : Below wr.heap.size wr w') : GP w B g2 gk T i w' :=
  ⟨h.b.trans (hb.mono h.b.size), Nat.le_trans h.s hb.size, B4_gb (r := none) h.v (gb_below hb) (fun e => by cases e), KB_gb (r := none) h.k (gb_below hb) (fun e => by cases e) (fun k _ e => by cases e)⟩
theorem GP_step {w : World} {B g2 gk : Nat} {T : Nat → Nd} {i : Nat} {wr w' : World} {y : V4} (h : GP w B g2 gk T i wr) (hi : i < 16) (h2 : g2 ≠ gk) (hk : w.heap.size ≤ gk) (hkB : gk < B) (hy : Nv (B ≤ ·) wr (T i) y) (hb : wr.grownBy w' (some gk))
    (c0 : w'.cell? ⟨gk, i * 4, none⟩ = some y.1) (c1 : w'.cell? ⟨gk, i * 4 + 1, none⟩ = some y.2.1) (c2 : w'.cell? ⟨gk, i * 4 + 2, none⟩ = some y.2.2.1) (c3 : w'.cell? ⟨gk, i * 4 + 3, none⟩ = some y.2.2.2) (co : ∀ z, z < i * 4 ∨ i * 4 + 4 ≤ z → w'.cell? ⟨gk, z, none⟩ = wr.cell? ⟨gk, z, none⟩) (cf : ∀ z, w'.frozen? ⟨gk, z, none⟩ = wr.frozen? ⟨gk, z, none⟩) : GP w B g2 gk T (i + 1) w' := by
  have NE : ∀ k, B ≤ k → some k ≠ some gk := fun k hk e => by injection e with e; omega
  refine ⟨h.b.grown hb h.b.size (fun k e => by injection e with e; omega), Nat.le_trans h.s hb.size, B4_gb h.v hb (fun e => by injection e with e; exact h2 e), Nat.lt_of_lt_of_le h.k.hi hb.size, fun j hj => ⟨?_, ?_⟩, ?_⟩
  · rw [Nat.zero_add]
    by_cases e : j < i * 4 ∨ i * 4 + 4 ≤ j
    · rw [co j e]; have := (h.k.t j hj).1; rwa [Nat.zero_add] at this
    · have : j = i * 4 ∨ j = i * 4 + 1 ∨ j = i * 4 + 2 ∨ j = i * 4 + 3 := by omega
      rcases this with rfl | rfl | rfl | rfl
      · rw [c0]; rfl
      · rw [c1]; rfl
      · rw [c2]; rfl
      · rw [c3]; rfl
  · rw [Nat.zero_add, cf]; have := (h.k.t j hj).2; rwa [Nat.zero_add] at this
  · obtain ⟨Y, hY⟩ := h.k.k
    refine ⟨fun j => if j = i then y else Y j, fun j hj => ?_⟩
    by_cases e : j = i
    · subst e
      simp only [if_true]
      rw [Nat.mul_comm 4 j]
      exact ⟨⟨c0, c1, c2, c3⟩, Nv_gb hy hb NE⟩
    · simp only [if_neg e]
      obtain ⟨⟨d0, d1, d2, d3⟩, hn⟩ := hY j (by omega)
      exact ⟨⟨(co _ (by omega)).trans d0, (co _ (by omega)).trans d1, (co _ (by omega)).trans d2, (co _ (by omega)).trans d3⟩, Nv_gb hn hb NE⟩
theorem there_sub4 {w : World} {g i : Nat} (h : w.there g 0 64) (hi : i < 16) : w.there g (i * 4) 4 := fun j hj => by
  have := h (i * 4 + j) (by omega)
  rwa [Nat.zero_add] at this
theorem GP_end {w : World} {B g2 gk : Nat} {v : By} {vv : Value} {T : Nat → Nd} {wr : World} {S : Nat → Prop} (h : GP w B g2 gk T 16 wr) (hv : Bs S v vv wr) (hB : ∀ k, B ≤ k → S k) (hk : S gk) : Nv S wr (.mk 3 [] v ((List.range 16).map T)) (.int .i64 3, .slice none 0 0, vv, .slice (some ⟨gk, 0, none⟩) 16 16) := by
  obtain ⟨Y, hY⟩ := h.k.k
  refine .mk 3 [] v _ _ _ _ ((List.range 16).map Y) (Bs_nil _ _) hv (by simp) ⟨_, _, rfl, by simp, fun _ => ⟨gk, 0, rfl, hk, h.k.hi, fun j hj => ?_⟩⟩ (fun j hj => ?_)
  · have hj16 : j < 16 := by simpa using hj
    rw [getD_range Y 16 j n4 hj16, Nat.zero_add]
    exact (hY j hj16).1
  · have hj16 : j < 16 := by simpa using hj
    rw [getD_range Y 16 j n4 hj16, getD_range T 16 j Nd.no hj16]
    exact Nv_mono (hY j hj16).2 (fun k hk _ => hB k hk)
set_option maxHeartbeats 4000000 in
set_option maxRecDepth 100000 in
theorem plain_fork (v : By) (T : Nat → Nd) (g : Nat) (c : Array Value) (w : World) (av : Option Addr) (cv : Nat) (S : Nat → Prop) (hb : w.heap[g]? = some (.cells c 86 (0, 0))) (hc : c.size = 17) (ev : c.getD 0 undef = .slice av v.length cv) (hv : Bs S v (.slice av v.length cv) w) (hvl : v.length ≤ 4194304)
    (KI : Hid (∀ (j : Nat) (wx : World), j < 16 → Below w.heap.size w wx → Inv "lampbearer/tree.plain" (c.getD (j + 1) undef) #[] wx (PN wx (T j)))) :
    Calls Try.prog 71 #[.pointer (some ⟨g, 0, none⟩)] w (PN w (.mk 3 [] v ((List.range 16).map T))) := by
  have b1 : Below w.heap.size w (w.alloc (.cells #[.int .i64 0, .slice none 0 0, .slice none 0 0, .slice none 0 0] 25)) := (Below.refl _ _).alloc (Nat.le_refl _) _
  have hs1 : (w.alloc (.cells #[.int .i64 0, .slice none 0 0, .slice none 0 0, .slice none 0 0] 25)).heap.size = w.heap.size + 1 := by simp
  have BV := B4_new w
  obtain ⟨w8, hr8, hs8, ht8, hb8⟩ := made16 (w.alloc (.cells #[.int .i64 0, .slice none 0 0, .slice none 0 0, .slice none 0 0] 25))
  rw [hs1] at hr8 ht8 hs8
  have HB8 : Below w.heap.size w w8 := b1.trans (hb8.mono b1.size)
  have G0 : Hid (GP w w8.heap.size w.heap.size (w.heap.size + 1) T 0 w8) := ⟨HB8, Nat.le_refl _, B4_gb (r := none) BV (gb_below hb8) (fun e => by cases e), by omega, ht8, fun _ => n4, fun j hj => absurd hj (by omega)⟩
  have R : w8.rangeAt g 1 (c.toList.drop 1) := range16 (by rw [HB8.block g (Pk.lt_of_heap hb)]; exact hb) hc
  have RL : (Try.prog.info? 84).map (·.size) = some (c.toList.drop 1).length := by rw [info16]; simp [hc]
  have HX : Hid (∀ (j : Nat) (w : World), j < 16 → (Instr.index 84 (.agg (c.toList.drop 1).toArray) (.int .i64 (j : Int))).run Try.prog w = .ok (c.getD (j + 1) undef) w) := fun j w hj => run_index16 _ j _ hj (by
    have h1 : j + 1 < c.size := by omega
    rw [List.getElem?_drop, Nat.add_comm]
    simp [h1]) w
  have c0 : Hid (∀ wx : World, Below w.heap.size w wx → wx.cell? ⟨g, 0, none⟩ = some (.slice av v.length cv)) := fun wx hx => by rw [cell_fork (by rw [hx.block g (Pk.lt_of_heap hb)]; exact hb) 0 (by omega), ev]
  have KC : Hid (∀ wx : World, Below w.heap.size w wx → Calls Try.prog 23 #[.slice av v.length cv] wx fun e w' => ∃ a c, e = .returned (.slice a v.length c) ∧ Bs (wx.heap.size ≤ ·) v (.slice a v.length c) w' ∧ Below wx.heap.size wx w') := fun wx hx => clone_call (Bs_below hv hx) hvl
  have HSZ : Hid (w8.heap.size = w.heap.size + 1 + 1) := hs8
  generalize c.toList.drop 1 = L at R RL HX
  clear hb hc ev hv hvl b1 BV HB8 ht8 hb8 hs8 hs1
  unfold PN
  go_enter Try.func71, Try.ntmps71
  go_wp2_with (refine wpList_load_mid rfl 84 (.tmp 9) rfl g 1 rfl L _ R Try.underlying84 rfl RL ?_)
  clear R RL hr8
  generalize hgk : w.heap.size + 1 = gk at *
  go_loopw [11] (fun i wr => ∃ k : Nat, k ≤ 16 ∧ i = .int .i64 (k : Int) ∧ GP w w8.heap.size w.heap.size gk T k wr) (fun i _ => ((16 : Int) - intOf i).toNat)
  case atStart => exact ⟨0, Nat.zero_le _, rfl, G0.out⟩
  case round =>
    obtain ⟨k, hk16, rfl, hG⟩ := hrel
    by_cases hlt : k < 16
    · have d1 : decide ((k : Int) < 16) = true := decide_eq_true (by omega)
      have d2 : (0 : Int) ≤ (k : Int) := by omega
      have d3 : (k : Int) < 16 := by omega
      have hx := fun w => HX.out k w hlt
      have HKI : Hid (∀ wx : World, Below w.heap.size w wx → Inv "lampbearer/tree.plain" (c.getD (k + 1) undef) #[] wx (PN wx (T k))) := fun wx h => KI.out k wx hlt h
      have HG : Hid (GP w w8.heap.size w.heap.size gk T k wr) := hG
      generalize c.getD (k + 1) undef = xk at *
      clear hG
      go_upto_region 5 with fail
      refine wp_region_lit ?_
      iterate 9 go_step
      refine wpList_inv (xv := xk) (vs := #[]) rfl rfl rfl (by simp) ((HKI.out _ HG.out.b).mono ?_)
      rintro e w1 ⟨u, rfl, hu, hb1⟩
      refine ⟨_, rfl, ?_⟩
      obtain ⟨kk, b1, m1, e1, b2, m2, e2, b3, m3, e3, rfl⟩ := Nv_form hu
      have HG1 : GP w w8.heap.size w.heap.size gk T k w1 := GP_below HG.out hb1
      have HU : Hid (Nv (w8.heap.size ≤ ·) w1 (T k) (.int .i64 kk, .slice b1 m1 e1, .slice b2 m2 e2, .slice b3 m3 e3)) := Nv_mono hu (fun z hz _ => Nat.le_trans HG.out.s hz)
      have ht := there_sub4 HG1.k.t hlt
      have HGK : Hid (GP w w8.heap.size w.heap.size gk T k w1) := HG1
      clear hu hb1 HG1 HG HKI
      dsimp only [v4]
      go_wp2_with (refine wpList_st4o rfl rfl rfl rfl ht ?_; intro w2 gb2 s0 s1 s2 s3 so sf)
      have HN : Hid (GP w w8.heap.size w.heap.size gk T (k + 1) w2) := GP_step HGK.out hlt (by omega) (by omega) (by have := HSZ.out; omega) HU.out gb2 s0 s1 s2 s3 so sf
      clear s0 s1 s2 s3 so sf gb2 ht
      go_wp2_with fail
      exact ⟨⟨k + 1, hlt, by rw [Int.natCast_succ], HN.out⟩, by simp only [intOf]; omega⟩
    · have d1 : decide ((k : Int) < 16) = false := decide_eq_false (by omega)
      have ek : k = 16 := by omega
      subst ek
      have HG : Hid (GP w w8.heap.size w.heap.size gk T 16 wr) := hG
      have cr := c0.out wr hG.b
      clear hG d1
      go_wp2_with fail
      refine (KC.out _ HG.out.b).mono ?_
      rintro e w1 ⟨a, ca, rfl, hbs, hb1⟩
      have HG1 : GP w w8.heap.size w.heap.size gk T 16 w1 := GP_below HG.out hb1
      have HNV : Hid (Nv (gk ≤ ·) w1 (.mk 3 [] v ((List.range 16).map T)) (.int .i64 3, .slice none 0 0, .slice a v.length ca, .slice (some ⟨gk, 0, none⟩) 16 16)) := GP_end HG1 (Bs_mono hbs (fun z hz _ => by have := HG.out.s; have := HSZ.out; show gk ≤ z; omega)) (fun z hz => by have := HSZ.out; show gk ≤ z; omega) (Nat.le_refl _)
      have hv2 := HG1.v
      have HGE : Hid (GP w w8.heap.size w.heap.size gk T 16 w1) := HG1
      clear hbs hb1 HG1 HG
      go_wp2_with (refine wpList_st4 rfl rfl rfl rfl hv2 ?_; intro w9 gb9 s0 s1 s2 s3)
      have N9 : Nv (w.heap.size ≤ ·) w9 (.mk 3 [] v ((List.range 16).map T)) (.int .i64 3, .slice none 0 0, .slice a v.length ca, .slice (some ⟨gk, 0, none⟩) 16 16) := Nv_mono (Nv_gb HNV.out gb9 (fun z hz e => by injection e with e; have : gk ≤ z := hz; omega)) (fun z hz _ => by have : gk ≤ z := hz; show w.heap.size ≤ z; omega)
      have B9 : Below w.heap.size w w9 := HGE.out.b.grown gb9 HGE.out.b.size (fun z e => by injection e with e; omega)
      exact bodyPost_ret (v := .agg #[.int .i64 3, .slice none 0 0, .slice a v.length ca, .slice (some ⟨gk, 0, none⟩) 16 16]) (resN _ _ _ w.heap.size 2 _ _ _ _ rfl rfl s0 s1 s2 s3) rfl ⟨(.int .i64 3, .slice none 0 0, .slice a v.length ca, .slice (some ⟨gk, 0, none⟩) 16 16), rfl, N9, B9⟩
/-- No value is longer. -/
def Lv (M : Nat) (t : Nd) : Prop := ∀ q, (gt t q).length ≤ M
theorem lv_kid {M : Nat} {p v : By} {ks : List Nd} (h : Lv M (.mk 3 p v ks)) {j : Nat} (hj : j < 16) : Lv M (ks.getD j Nd.no) := fun q => by
  have := h (UInt8.ofNat j :: q)
  rwa [gt_fork_cons, u8_toNat j hj] at this
theorem bns_range (ks : List Nd) (hl : ks.length = 16) : (List.range 16).map (fun j => bn (ks.getD j Nd.no)) = bns ks := by
  apply List.ext_getElem
  · rw [bns_len, hl]; simp
  · intro i h1 h2
    have hi : i < 16 := by simpa using h1
    have := bns_getD ks i
    rw [List.getD_eq_getElem?_getD, List.getElem?_eq_getElem h2] at this
    simp only [List.getElem_map, List.getElem_range]
    rw [← this]
    rfl
/-- plain, at every tree. -/
theorem plain_all {lo N M : Nat} {t : Nd} {x : Value} {F : Nat → Prop} {w : World} (ht : In lo w t x F) (hN : N ≤ 65536) (hM : M ≤ 4194304) : Rs t → Ln N t → Lv M t → ∀ wx : World, Below w.heap.size w wx → Inv "lampbearer/tree.plain" x #[] wx (PN wx (bn t)) := by
  induction ht with
  | none p v ks F =>
    intro _ _ _ wx hx
    refine ⟨_, _, fun W => pl_none _ W, (plain_none wx).mono fun e w' he => ?_⟩
    have e0 : bn (.mk 0 p v ks) = Nd.no := by unfold bn; simp [Nd.no]
    rw [e0]; exact he
  | leaf p v ks pv vv F hp hv =>
    intro hs hl hlv wx hx
    cases hs with
    | leaf _ _ _ hpp hv0 =>
      have e0 : bn (.mk 1 p v ks) = .mk 1 p v [] := by unfold bn; simp
      rw [e0]
      obtain ⟨a1, c1, rfl, _⟩ := Bs_form hp
      obtain ⟨a2, c2, rfl, _⟩ := Bs_form hv
      have h1 := hl p (by rw [gt_leaf, if_pos rfl]; exact hv0)
      have h2 := hlv p
      rw [gt_leaf, if_pos rfl] at h2
      exact ⟨_, _, fun W => pl_leaf _ W, plain_leaf p v a1 a2 c1 c2 wx (Sb lo w) (Bs_below hp hx) (Bs_below hv hx) (by omega) (by omega)⟩
  | road p v t pv g F hp hk ih =>
    intro hs hl hlv wx hx
    cases hs with
    | road _ _ _ hpp hp0 hk3 hst =>
      have e0 : bn (.mk 2 p v [t]) = .mk 2 p [] [bn t] := by rw [bn, if_neg (by decide), if_pos rfl, bns, bns]
      rw [e0]
      obtain ⟨a1, c1, rfl, _⟩ := Bs_form hp
      have h1 : p.length ≤ N := pl_le (.road p v t hpp hp0 hk3 hst) hl (by show (2 : Int) ≠ 3; decide) (by show (2 : Int) ≠ 0; decide)
      refine ⟨_, _, fun W => pl_road _ W, plain_road p (bn t) a1 c1 g wx (Sb lo w) (Bs_below hp hx) (by omega) (fun W hW => ?_)⟩
      obtain ⟨f, vs, j1, j2⟩ := ih hst (fun q hq => by
        have := hl (p ++ q) (by rw [gt_road_at]; exact hq)
        rw [List.length_append] at this
        omega) (fun q => by have := hlv (p ++ q); rwa [gt_road_at] at this) W (hx.trans (hW.mono hx.size))
      have j3 := (j1 W).symm.trans (pl_fork (some ⟨g, 0, none⟩) W)
      injection j3 with j3 _
      injection j3 with j4 j5
      subst j4 j5
      exact j2
  | fork p v ks g c F D hl16 hlo hb hc hFg hv hi hg hD hs' ih =>
    intro hs hl hlv wx hx
    cases hs with
    | fork _ _ _ _ hks h2 =>
      have e0 : bn (.mk 3 p v ks) = .mk 3 [] v ((List.range 16).map (fun j => bn (ks.getD j Nd.no))) := by rw [bns_range ks hl16]; unfold bn; simp
      rw [e0]
      obtain ⟨av, cv, ev, _⟩ := Bs_form hv
      have hv' := hv
      rw [ev] at hv'
      have h3 := hlv []
      rw [gt_fork_nil] at h3
      exact ⟨_, _, fun W => pl_fork _ W, plain_fork v _ g c wx av cv (Sb lo w) (by rw [hx.block g (Pk.lt_of_heap hb)]; exact hb) hc ev (Bs_below hv' hx) (by omega) (fun j W hj hW => ih j hj (hks j hj) (ln_kid hl hj) (lv_kid hlv hj) W (hx.trans (hW.mono hx.size)))⟩
end Tr
end Go.Proofs.Ythlgneadcagleab
/- tree.Put, form by form. -/
namespace Go.Proofs.Ythlgneadcagleab
namespace Tr
open Nb Go.RowKit
theorem resN2 (f : Func) (tm : Array Value) (W : World) (g s z : Nat) (p q r t v : Value) (hf : f.results = #[.cell s 25, .tmp z]) (h : tm.getD s undef = .pointer (some ⟨g, 0, none⟩)) (h2 : tm.getD z undef = v) (c0 : W.cell? ⟨g, 0, none⟩ = some p) (c1 : W.cell? ⟨g, 1, none⟩ = some q) (c2 : W.cell? ⟨g, 2, none⟩ = some r) (c3 : W.cell? ⟨g, 3, none⟩ = some t) : (results f tm).run Try.prog W = .ok (.tuple #[.agg #[p, q, r, t], v]) W := by
  simp at h h2
  simp [results, hf, go_sem, h, h2, c0, c1, c2, c3]
theorem upon_inv {o : Oper} {a : Act} {w : World} {K : Act → World → Prop} {Q : Exit → Act → World → Prop} {name : String} {x : Value} {args : Array Value} {r : Result Next} {R : Ending → World → Prop} (hr : (callMethod x name args).run Try.prog w = r) (h : Inv name x args w R) (hm : ∀ e w', R e w' → ∃ v, e = .returned v ∧ K (a.put o.dst v) w') : o.upon Try.prog a K Q r := by
  obtain ⟨f, vs, h1, h2⟩ := h
  rw [← hr, h1]
  refine h2.mono fun e w' he => ?_
  obtain ⟨v, rfl, h3⟩ := hm e w' he
  exact h3
theorem B4_blk {G : Nat} {w w' : World} (h : B4 G w) (hs : w.heap.size ≤ w'.heap.size) (hb : w'.heap[G]? = w.heap[G]?) : B4 G w' :=
  ⟨Nat.lt_of_lt_of_le h.hi hs, fun o ho => by rw [World.cell?_of_block (a := ⟨G, o, none⟩) hb]; exact h.c o ho, fun o => (World.frozen?_of_block (a := ⟨G, o, none⟩) hb).trans (h.f o)⟩
/-- What is wrong with putting. -/
def mp (nk nv : Nat) : Int := if nk ≤ 32 then (if nv ≤ 1024 then 0 else 2) else 3
set_option maxHeartbeats 1000000 in
set_option maxRecDepth 100000 in
theorem mayput_any (ak av : Option Addr) (nk ck nv cv : Nat) (w : World) : Calls Try.prog 18 #[.slice ak nk ck, .slice av nv cv] w fun e w' => e = .returned (.int .i64 (mp nk nv)) ∧ w' = w := by
  have KK : Hid (∀ wx : World, Calls Try.prog 22 #[.slice ak nk ck] wx fun e w' => e = .returned (.bool (decide (nk ≤ 32))) ∧ w' = wx) := fun wx => iskey_any ak nk ck wx
  unfold mp
  by_cases h1 : nk ≤ 32
  · rw [if_pos h1]
    rw [decide_eq_true h1] at KK
    by_cases h2 : nv ≤ 1024
    · rw [if_pos h2]
      have d0 : decide ((1024 : Int) < (nv : Int)) = false := decide_eq_false (by omega)
      clear h1 h2
      go_enter Try.func18, Try.ntmps18
      go_wp2_with fail
      refine (KK.out _).mono ?_
      rintro e w1 ⟨rfl, rfl⟩
      go_wp2_with fail
      go_ret
      exact ⟨rfl, rfl⟩
    · rw [if_neg h2]
      have d0 : decide ((1024 : Int) < (nv : Int)) = true := decide_eq_true (by omega)
      clear h1 h2
      go_enter Try.func18, Try.ntmps18
      go_wp2_with fail
      refine (KK.out _).mono ?_
      rintro e w1 ⟨rfl, rfl⟩
      go_wp2_with fail
      go_ret
      exact ⟨rfl, rfl⟩
  · rw [if_neg h1]
    rw [decide_eq_false h1] at KK
    clear h1
    go_enter Try.func18, Try.ntmps18
    go_wp2_with fail
    refine (KK.out _).mono ?_
    rintro e w1 ⟨rfl, rfl⟩
    go_wp2_with fail
    go_ret
    exact ⟨rfl, rfl⟩
set_option maxHeartbeats 2000000 in
set_option maxRecDepth 100000 in
theorem put_form (k : Int) (a1 a2 a3 ak av : Option Addr) (n1 c1 m2 c2 n3 c3 nk ck nv cv : Nat) (w : World) (KR0 : ∀ wx : World, Below w.heap.size w wx → Calls Try.prog 17 #[.agg #[.int .i64 k, .slice a1 n1 c1, .slice a2 m2 c2, .slice a3 n3 c3], .int .i64 0] wx fun e w' => ∃ y, e = .returned (.tuple #[y, .bool false]) ∧ Below wx.heap.size wx w') :
    Calls Try.prog 8 #[.agg #[.int .i64 k, .slice a1 n1 c1, .slice a2 m2 c2, .slice a3 n3 c3], .slice ak nk ck, .slice av nv cv] w fun e w' => e = .returned (.tuple #[.agg #[.int .i64 0, .slice none 0 0, .slice none 0 0, .slice none 0 0], .int .i64 1]) ∧ Below w.heap.size w w' := by
  have b1 : Below w.heap.size w (w.alloc (.cells #[.int .i64 k, .slice a1 n1 c1, .slice a2 m2 c2, .slice a3 n3 c3] 25)) := (Below.refl _ _).alloc (Nat.le_refl _) _
  have hs1 : (w.alloc (.cells #[.int .i64 k, .slice a1 n1 c1, .slice a2 m2 c2, .slice a3 n3 c3] 25)).heap.size = w.heap.size + 1 := by simp
  have b2 : Below (w.alloc (.cells #[.int .i64 k, .slice a1 n1 c1, .slice a2 m2 c2, .slice a3 n3 c3] 25)).heap.size (w.alloc (.cells #[.int .i64 k, .slice a1 n1 c1, .slice a2 m2 c2, .slice a3 n3 c3] 25)) ((w.alloc (.cells #[.int .i64 k, .slice a1 n1 c1, .slice a2 m2 c2, .slice a3 n3 c3] 25)).alloc (.cells #[.int .i64 0, .slice none 0 0, .slice none 0 0, .slice none 0 0] 25)) := (Below.refl _ _).alloc (Nat.le_refl _) _
  have HB : Below w.heap.size w ((w.alloc (.cells #[.int .i64 k, .slice a1 n1 c1, .slice a2 m2 c2, .slice a3 n3 c3] 25)).alloc (.cells #[.int .i64 0, .slice none 0 0, .slice none 0 0, .slice none 0 0] 25)) := b1.trans (b2.mono b1.size)
  have hs2 : ((w.alloc (.cells #[.int .i64 k, .slice a1 n1 c1, .slice a2 m2 c2, .slice a3 n3 c3] 25)).alloc (.cells #[.int .i64 0, .slice none 0 0, .slice none 0 0, .slice none 0 0] 25)).heap.size = w.heap.size + 1 + 1 := by simp
  obtain ⟨_, q0, q1, q2, q3⟩ := Bx_new w (.int .i64 k, .slice a1 n1 c1, .slice a2 m2 c2, .slice a3 n3 c3)
  dsimp only at q0 q1 q2 q3
  replace q0 := (b2.cell (p := ⟨w.heap.size, 0, none⟩) (by show w.heap.size < _; omega)).trans q0
  replace q1 := (b2.cell (p := ⟨w.heap.size, 1, none⟩) (by show w.heap.size < _; omega)).trans q1
  replace q2 := (b2.cell (p := ⟨w.heap.size, 2, none⟩) (by show w.heap.size < _; omega)).trans q2
  replace q3 := (b2.cell (p := ⟨w.heap.size, 3, none⟩) (by show w.heap.size < _; omega)).trans q3
  have BV : B4 (w.heap.size + 1) ((w.alloc (.cells #[.int .i64 k, .slice a1 n1 c1, .slice a2 m2 c2, .slice a3 n3 c3] 25)).alloc (.cells #[.int .i64 0, .slice none 0 0, .slice none 0 0, .slice none 0 0] 25)) := by
    have := B4_new (w.alloc (.cells #[.int .i64 k, .slice a1 n1 c1, .slice a2 m2 c2, .slice a3 n3 c3] 25))
    rwa [hs1] at this
  have HBV : Hid (B4 (w.heap.size + 1) ((w.alloc (.cells #[.int .i64 k, .slice a1 n1 c1, .slice a2 m2 c2, .slice a3 n3 c3] 25)).alloc (.cells #[.int .i64 0, .slice none 0 0, .slice none 0 0, .slice none 0 0] 25))) := BV
  have HBB : Hid (Below w.heap.size w ((w.alloc (.cells #[.int .i64 k, .slice a1 n1 c1, .slice a2 m2 c2, .slice a3 n3 c3] 25)).alloc (.cells #[.int .i64 0, .slice none 0 0, .slice none 0 0, .slice none 0 0] 25))) := HB
  have KR : Hid (Calls Try.prog 17 #[.agg #[.int .i64 k, .slice a1 n1 c1, .slice a2 m2 c2, .slice a3 n3 c3], .int .i64 0] ((w.alloc (.cells #[.int .i64 k, .slice a1 n1 c1, .slice a2 m2 c2, .slice a3 n3 c3] 25)).alloc (.cells #[.int .i64 0, .slice none 0 0, .slice none 0 0, .slice none 0 0] 25)) fun e w' => ∃ y, e = .returned (.tuple #[y, .bool false]) ∧ Below ((w.alloc (.cells #[.int .i64 k, .slice a1 n1 c1, .slice a2 m2 c2, .slice a3 n3 c3] 25)).alloc (.cells #[.int .i64 0, .slice none 0 0, .slice none 0 0, .slice none 0 0] 25)).heap.size ((w.alloc (.cells #[.int .i64 k, .slice a1 n1 c1, .slice a2 m2 c2, .slice a3 n3 c3] 25)).alloc (.cells #[.int .i64 0, .slice none 0 0, .slice none 0 0, .slice none 0 0] 25)) w') := KR0 _ HB
  clear KR0 HB b1 b2 hs1 hs2 BV
  go_enter Try.func8, Try.ntmps8
  go_wp2_with fail
  refine KR.out.mono ?_
  rintro e w1 ⟨y, rfl, hb1⟩
  have HZ : Hid (Below w.heap.size w w1) := HBB.out.trans (hb1.mono HBB.out.size)
  have hbv : B4 (w.heap.size + 1) w1 := B4_gb (r := none) HBV.out (gb_below hb1) (fun e => by cases e)
  clear hb1 q0 q1 q2 q3
  go_wp2_with (refine wpList_st4 rfl rfl rfl rfl hbv ?_; intro w9 gb9 s0 s1 s2 s3)
  have B9 : Below w.heap.size w w9 := HZ.out.grown gb9 HZ.out.size (fun k e => by injection e with e; omega)
  exact bodyPost_ret (v := .tuple #[.agg #[.int .i64 0, .slice none 0 0, .slice none 0 0, .slice none 0 0], .int .i64 1]) (resN2 _ _ _ (w.heap.size + 1) 6 7 _ _ _ _ _ rfl rfl rfl s0 s1 s2 s3) rfl ⟨rfl, B9⟩
set_option maxHeartbeats 2000000 in
set_option maxRecDepth 100000 in
theorem put_err (k : Int) (a1 a2 a3 ak av : Option Addr) (n1 c1 m2 c2 n3 c3 nk ck nv cv : Nat) (w : World) (KR0 : ∀ wx : World, Below w.heap.size w wx → Calls Try.prog 17 #[.agg #[.int .i64 k, .slice a1 n1 c1, .slice a2 m2 c2, .slice a3 n3 c3], .int .i64 0] wx fun e w' => ∃ y, e = .returned (.tuple #[y, .bool true]) ∧ Below wx.heap.size wx w') (er : Int) (hne : (er == 0) = false) (KM : Hid (∀ wx : World, Calls Try.prog 18 #[.slice ak nk ck, .slice av nv cv] wx fun e w' => e = .returned (.int .i64 er) ∧ w' = wx)) :
    Calls Try.prog 8 #[.agg #[.int .i64 k, .slice a1 n1 c1, .slice a2 m2 c2, .slice a3 n3 c3], .slice ak nk ck, .slice av nv cv] w fun e w' => e = .returned (.tuple #[.agg #[.int .i64 0, .slice none 0 0, .slice none 0 0, .slice none 0 0], .int .i64 er]) ∧ Below w.heap.size w w' := by
  have b1 : Below w.heap.size w (w.alloc (.cells #[.int .i64 k, .slice a1 n1 c1, .slice a2 m2 c2, .slice a3 n3 c3] 25)) := (Below.refl _ _).alloc (Nat.le_refl _) _
  have hs1 : (w.alloc (.cells #[.int .i64 k, .slice a1 n1 c1, .slice a2 m2 c2, .slice a3 n3 c3] 25)).heap.size = w.heap.size + 1 := by simp
  have b2 : Below (w.alloc (.cells #[.int .i64 k, .slice a1 n1 c1, .slice a2 m2 c2, .slice a3 n3 c3] 25)).heap.size (w.alloc (.cells #[.int .i64 k, .slice a1 n1 c1, .slice a2 m2 c2, .slice a3 n3 c3] 25)) ((w.alloc (.cells #[.int .i64 k, .slice a1 n1 c1, .slice a2 m2 c2, .slice a3 n3 c3] 25)).alloc (.cells #[.int .i64 0, .slice none 0 0, .slice none 0 0, .slice none 0 0] 25)) := (Below.refl _ _).alloc (Nat.le_refl _) _
  have HB : Below w.heap.size w ((w.alloc (.cells #[.int .i64 k, .slice a1 n1 c1, .slice a2 m2 c2, .slice a3 n3 c3] 25)).alloc (.cells #[.int .i64 0, .slice none 0 0, .slice none 0 0, .slice none 0 0] 25)) := b1.trans (b2.mono b1.size)
  have hs2 : ((w.alloc (.cells #[.int .i64 k, .slice a1 n1 c1, .slice a2 m2 c2, .slice a3 n3 c3] 25)).alloc (.cells #[.int .i64 0, .slice none 0 0, .slice none 0 0, .slice none 0 0] 25)).heap.size = w.heap.size + 1 + 1 := by simp
  obtain ⟨_, q0, q1, q2, q3⟩ := Bx_new w (.int .i64 k, .slice a1 n1 c1, .slice a2 m2 c2, .slice a3 n3 c3)
  dsimp only at q0 q1 q2 q3
  replace q0 := (b2.cell (p := ⟨w.heap.size, 0, none⟩) (by show w.heap.size < _; omega)).trans q0
  replace q1 := (b2.cell (p := ⟨w.heap.size, 1, none⟩) (by show w.heap.size < _; omega)).trans q1
  replace q2 := (b2.cell (p := ⟨w.heap.size, 2, none⟩) (by show w.heap.size < _; omega)).trans q2
  replace q3 := (b2.cell (p := ⟨w.heap.size, 3, none⟩) (by show w.heap.size < _; omega)).trans q3
  have BV : B4 (w.heap.size + 1) ((w.alloc (.cells #[.int .i64 k, .slice a1 n1 c1, .slice a2 m2 c2, .slice a3 n3 c3] 25)).alloc (.cells #[.int .i64 0, .slice none 0 0, .slice none 0 0, .slice none 0 0] 25)) := by
    have := B4_new (w.alloc (.cells #[.int .i64 k, .slice a1 n1 c1, .slice a2 m2 c2, .slice a3 n3 c3] 25))
    rwa [hs1] at this
  have HBV : Hid (B4 (w.heap.size + 1) ((w.alloc (.cells #[.int .i64 k, .slice a1 n1 c1, .slice a2 m2 c2, .slice a3 n3 c3] 25)).alloc (.cells #[.int .i64 0, .slice none 0 0, .slice none 0 0, .slice none 0 0] 25))) := BV
  have HBB : Hid (Below w.heap.size w ((w.alloc (.cells #[.int .i64 k, .slice a1 n1 c1, .slice a2 m2 c2, .slice a3 n3 c3] 25)).alloc (.cells #[.int .i64 0, .slice none 0 0, .slice none 0 0, .slice none 0 0] 25))) := HB
  have KR : Hid (Calls Try.prog 17 #[.agg #[.int .i64 k, .slice a1 n1 c1, .slice a2 m2 c2, .slice a3 n3 c3], .int .i64 0] ((w.alloc (.cells #[.int .i64 k, .slice a1 n1 c1, .slice a2 m2 c2, .slice a3 n3 c3] 25)).alloc (.cells #[.int .i64 0, .slice none 0 0, .slice none 0 0, .slice none 0 0] 25)) fun e w' => ∃ y, e = .returned (.tuple #[y, .bool true]) ∧ Below ((w.alloc (.cells #[.int .i64 k, .slice a1 n1 c1, .slice a2 m2 c2, .slice a3 n3 c3] 25)).alloc (.cells #[.int .i64 0, .slice none 0 0, .slice none 0 0, .slice none 0 0] 25)).heap.size ((w.alloc (.cells #[.int .i64 k, .slice a1 n1 c1, .slice a2 m2 c2, .slice a3 n3 c3] 25)).alloc (.cells #[.int .i64 0, .slice none 0 0, .slice none 0 0, .slice none 0 0] 25)) w') := KR0 _ HB
  clear KR0 HB b1 b2 hs1 hs2 BV
  go_enter Try.func8, Try.ntmps8
  go_wp2_with fail
  refine KR.out.mono ?_
  rintro e w1 ⟨y, rfl, hb1⟩
  have HZ : Hid (Below w.heap.size w w1) := HBB.out.trans (hb1.mono HBB.out.size)
  have hbv : Hid (B4 (w.heap.size + 1) w1) := B4_gb (r := none) HBV.out (gb_below hb1) (fun e => by cases e)
  clear hb1 q0 q1 q2 q3
  go_wp2_with fail
  refine (KM.out _).mono ?_
  rintro e w2 ⟨rfl, rfl⟩
  have hbv2 := hbv.out
  go_wp2_with (refine wpList_st4 rfl rfl rfl rfl hbv2 ?_; intro w9 gb9 s0 s1 s2 s3)
  have B9 : Below w.heap.size w w9 := HZ.out.grown gb9 HZ.out.size (fun k e => by injection e with e; omega)
  exact bodyPost_ret (v := .tuple #[.agg #[.int .i64 0, .slice none 0 0, .slice none 0 0, .slice none 0 0], .int .i64 er]) (resN2 _ _ _ (w.heap.size + 1) 6 7 _ _ _ _ _ rfl rfl rfl s0 s1 s2 s3) rfl ⟨rfl, B9⟩
set_option maxHeartbeats 2000000 in
set_option maxRecDepth 100000 in
theorem put_value (k : Int) (a1 a2 a3 ak av : Option Addr) (n1 c1 m2 c2 n3 c3 nk ck nv cv : Nat) (w : World) (kh x : By) (t : Nd) (KR0 : ∀ wx : World, Below w.heap.size w wx → Calls Try.prog 17 #[.agg #[.int .i64 k, .slice a1 n1 c1, .slice a2 m2 c2, .slice a3 n3 c3], .int .i64 0] wx fun e w' => ∃ y, e = .returned (.tuple #[y, .bool true]) ∧ In w.heap.size w' t y (fun z => wx.heap.size ≤ z) ∧ Below wx.heap.size wx w')
    (KM : Hid (∀ wx : World, Calls Try.prog 18 #[.slice ak nk ck, .slice av nv cv] wx fun e w' => e = .returned (.int .i64 0) ∧ w' = wx))
    (KH0 : Hid (∀ wx : World, Below w.heap.size w wx → Calls Try.prog 20 #[.slice ak nk ck] wx fun e w' => ∃ a n c, e = .returned (.slice a n c) ∧ Bs (Sb w.heap.size w') kh (.slice a n c) w' ∧ Below wx.heap.size wx w'))
    (KP0 : Hid (∀ (y pv : Value) (F : Nat → Prop) (wx : World), In w.heap.size wx t y F → Bs (Sb w.heap.size wx) kh pv wx → Below w.heap.size w wx → Calls Try.prog 19 #[y, pv, .slice av nv cv] wx fun e w' => ∃ y', e = .returned y' ∧ Kid w.heap.size wx t kh x F y' w'))
    (KQ0 : Hid (∀ (t' : Nd) (y : Value) (F : Nat → Prop) (wx : World), In w.heap.size wx t' y F → Rs t' → Up t' t kh x → Inv "lampbearer/tree.plain" y #[] wx (PN wx (bn t')))) :
    Calls Try.prog 8 #[.agg #[.int .i64 k, .slice a1 n1 c1, .slice a2 m2 c2, .slice a3 n3 c3], .slice ak nk ck, .slice av nv cv] w fun e w' => ∃ (t' : Nd) (u : V4), e = .returned (.tuple #[v4 u, .int .i64 0]) ∧ Nv (w.heap.size ≤ ·) w' (bn t') u ∧ Rs t' ∧ Up t' t kh x ∧ Below w.heap.size w w' := by
  have b1 : Below w.heap.size w (w.alloc (.cells #[.int .i64 k, .slice a1 n1 c1, .slice a2 m2 c2, .slice a3 n3 c3] 25)) := (Below.refl _ _).alloc (Nat.le_refl _) _
  have hs1 : (w.alloc (.cells #[.int .i64 k, .slice a1 n1 c1, .slice a2 m2 c2, .slice a3 n3 c3] 25)).heap.size = w.heap.size + 1 := by simp
  have b2 : Below (w.alloc (.cells #[.int .i64 k, .slice a1 n1 c1, .slice a2 m2 c2, .slice a3 n3 c3] 25)).heap.size (w.alloc (.cells #[.int .i64 k, .slice a1 n1 c1, .slice a2 m2 c2, .slice a3 n3 c3] 25)) ((w.alloc (.cells #[.int .i64 k, .slice a1 n1 c1, .slice a2 m2 c2, .slice a3 n3 c3] 25)).alloc (.cells #[.int .i64 0, .slice none 0 0, .slice none 0 0, .slice none 0 0] 25)) := (Below.refl _ _).alloc (Nat.le_refl _) _
  have HB : Below w.heap.size w ((w.alloc (.cells #[.int .i64 k, .slice a1 n1 c1, .slice a2 m2 c2, .slice a3 n3 c3] 25)).alloc (.cells #[.int .i64 0, .slice none 0 0, .slice none 0 0, .slice none 0 0] 25)) := b1.trans (b2.mono b1.size)
  have hs2 : ((w.alloc (.cells #[.int .i64 k, .slice a1 n1 c1, .slice a2 m2 c2, .slice a3 n3 c3] 25)).alloc (.cells #[.int .i64 0, .slice none 0 0, .slice none 0 0, .slice none 0 0] 25)).heap.size = w.heap.size + 1 + 1 := by simp
  obtain ⟨_, q0, q1, q2, q3⟩ := Bx_new w (.int .i64 k, .slice a1 n1 c1, .slice a2 m2 c2, .slice a3 n3 c3)
  dsimp only at q0 q1 q2 q3
  replace q0 := (b2.cell (p := ⟨w.heap.size, 0, none⟩) (by show w.heap.size < _; omega)).trans q0
  replace q1 := (b2.cell (p := ⟨w.heap.size, 1, none⟩) (by show w.heap.size < _; omega)).trans q1
  replace q2 := (b2.cell (p := ⟨w.heap.size, 2, none⟩) (by show w.heap.size < _; omega)).trans q2
  replace q3 := (b2.cell (p := ⟨w.heap.size, 3, none⟩) (by show w.heap.size < _; omega)).trans q3
  have BV : B4 (w.heap.size + 1) ((w.alloc (.cells #[.int .i64 k, .slice a1 n1 c1, .slice a2 m2 c2, .slice a3 n3 c3] 25)).alloc (.cells #[.int .i64 0, .slice none 0 0, .slice none 0 0, .slice none 0 0] 25)) := by
    have := B4_new (w.alloc (.cells #[.int .i64 k, .slice a1 n1 c1, .slice a2 m2 c2, .slice a3 n3 c3] 25))
    rwa [hs1] at this
  have HBV : Hid (B4 (w.heap.size + 1) ((w.alloc (.cells #[.int .i64 k, .slice a1 n1 c1, .slice a2 m2 c2, .slice a3 n3 c3] 25)).alloc (.cells #[.int .i64 0, .slice none 0 0, .slice none 0 0, .slice none 0 0] 25))) := BV
  have HBB : Hid (Below w.heap.size w ((w.alloc (.cells #[.int .i64 k, .slice a1 n1 c1, .slice a2 m2 c2, .slice a3 n3 c3] 25)).alloc (.cells #[.int .i64 0, .slice none 0 0, .slice none 0 0, .slice none 0 0] 25))) := HB
  have KR : Hid (Calls Try.prog 17 #[.agg #[.int .i64 k, .slice a1 n1 c1, .slice a2 m2 c2, .slice a3 n3 c3], .int .i64 0] ((w.alloc (.cells #[.int .i64 k, .slice a1 n1 c1, .slice a2 m2 c2, .slice a3 n3 c3] 25)).alloc (.cells #[.int .i64 0, .slice none 0 0, .slice none 0 0, .slice none 0 0] 25)) fun e w' => ∃ y, e = .returned (.tuple #[y, .bool true]) ∧ In w.heap.size w' t y (fun z => ((w.alloc (.cells #[.int .i64 k, .slice a1 n1 c1, .slice a2 m2 c2, .slice a3 n3 c3] 25)).alloc (.cells #[.int .i64 0, .slice none 0 0, .slice none 0 0, .slice none 0 0] 25)).heap.size ≤ z) ∧ Below ((w.alloc (.cells #[.int .i64 k, .slice a1 n1 c1, .slice a2 m2 c2, .slice a3 n3 c3] 25)).alloc (.cells #[.int .i64 0, .slice none 0 0, .slice none 0 0, .slice none 0 0] 25)).heap.size ((w.alloc (.cells #[.int .i64 k, .slice a1 n1 c1, .slice a2 m2 c2, .slice a3 n3 c3] 25)).alloc (.cells #[.int .i64 0, .slice none 0 0, .slice none 0 0, .slice none 0 0] 25)) w') := KR0 _ HB
  have HS2 : Hid (((w.alloc (.cells #[.int .i64 k, .slice a1 n1 c1, .slice a2 m2 c2, .slice a3 n3 c3] 25)).alloc (.cells #[.int .i64 0, .slice none 0 0, .slice none 0 0, .slice none 0 0] 25)).heap.size = w.heap.size + 1 + 1) := hs2
  clear KR0 HB b1 b2 hs1 hs2 BV
  go_enter Try.func8, Try.ntmps8
  go_wp2_with fail
  refine KR.out.mono ?_
  rintro e w1 ⟨y, rfl, hin, hb1⟩
  obtain ⟨ty, yy, rfl⟩ := In_form hin
  have HZ : Hid (Below w.heap.size w w1) := HBB.out.trans (hb1.mono HBB.out.size)
  have hbv : Hid (B4 (w.heap.size + 1) w1) := B4_gb (r := none) HBV.out (gb_below hb1) (fun e => by cases e)
  rw [HS2.out] at hin
  have HIN : Hid (In w.heap.size w1 t (.iface ty yy) (fun z => w.heap.size + 1 + 1 ≤ z)) := hin
  clear hb1 hin q0 q1 q2 q3 KR HBV HBB HS2
  go_wp2_with fail
  refine (KM.out _).mono ?_
  rintro e w2 ⟨rfl, rfl⟩
  go_wp2_with fail
  refine (KH0.out _ HZ.out).mono ?_
  rintro e w3 ⟨ha, hn, hc, rfl, hkh, hb3⟩
  have HZ3 : Hid (Below w.heap.size w w3) := HZ.out.trans (hb3.mono HZ.out.size)
  have HIN3 : Hid (In w.heap.size w3 t (.iface ty yy) (fun z => w.heap.size + 1 + 1 ≤ z)) := In_below HIN.out hb3
  have hbv3 : Hid (B4 (w.heap.size + 1) w3) := B4_gb (r := none) hbv.out (gb_below hb3) (fun e => by cases e)
  have HKH : Hid (Bs (Sb w.heap.size w3) kh (.slice ha hn hc) w3) := hkh
  clear hkh hb3 HZ hbv HIN
  go_wp2_with fail
  refine (KP0.out _ _ _ _ HIN3.out HKH.out HZ3.out).mono ?_
  rintro e w4 ⟨y', rfl, t', F', hin4, hrs, hup, hF, hch⟩
  obtain ⟨ty4, yy4, rfl⟩ := In_form hin4
  have HZ4 : Hid (Below w.heap.size w w4) := HZ3.out.trans (below_ch hch HZ3.out.size)
  have hbv4 : Hid (B4 (w.heap.size + 1) w4) := B4_blk hbv3.out hch.size (hch.block _ hbv3.out.hi (fun h => by have := h.1; omega))
  have HRS : Hid (Rs t') := hrs
  have HUP : Hid (Up t' t kh x) := hup
  have KQ : Hid (Inv "lampbearer/tree.plain" (.iface ty4 yy4) #[] w4 (PN w4 (bn t'))) := KQ0.out t' _ F' w4 hin4 hrs hup
  clear hin4 hrs hup hF hch HZ3 HIN3 HKH hbv3 KP0 KQ0 KH0
  go_wp2_with fail
  refine upon_inv (by simp only [callMethod]; go_simp) KQ.out ?_
  rintro e w5 ⟨u, rfl, hn5, hb5⟩
  obtain ⟨uk, ua1, un1, uc1, ua2, un2, uc2, ua3, un3, uc3, rfl⟩ := Nv_form hn5
  have hbv5 : B4 (w.heap.size + 1) w5 := B4_gb (r := none) hbv4.out (gb_below hb5) (fun e => by cases e)
  have HZ5 : Hid (Below w.heap.size w w5) := HZ4.out.trans (hb5.mono HZ4.out.size)
  have HG4 : Hid (w.heap.size + 1 < w4.heap.size) := hbv4.out.hi
  have HN5 : Hid (Nv (w4.heap.size ≤ ·) w5 (bn t') (.int .i64 uk, .slice ua1 un1 uc1, .slice ua2 un2 uc2, .slice ua3 un3 uc3)) := hn5
  clear hn5 hb5 hbv4 HZ4 KQ
  refine ⟨_, rfl, ?_⟩
  simp only [Act.put, v4]
  go_wp2_with (refine wpList_st4 rfl rfl rfl rfl hbv5 ?_; intro w9 gb9 s0 s1 s2 s3)
  have B9 : Below w.heap.size w w9 := HZ5.out.grown gb9 HZ5.out.size (fun k e => by injection e with e; omega)
  have N9 : Nv (w.heap.size ≤ ·) w9 (bn t') (.int .i64 uk, .slice ua1 un1 uc1, .slice ua2 un2 uc2, .slice ua3 un3 uc3) :=
    Nv_mono (Nv_gb HN5.out gb9 (fun k hk e => by injection e with e; have := HG4.out; omega)) (fun k hk _ => by have := HG4.out; omega)
  exact bodyPost_ret (v := .tuple #[.agg #[.int .i64 uk, .slice ua1 un1 uc1, .slice ua2 un2 uc2, .slice ua3 un3 uc3], .int .i64 0]) (resN2 _ _ _ (w.heap.size + 1) 6 7 _ _ _ _ _ rfl rfl rfl s0 s1 s2 s3) rfl ⟨t', (.int .i64 uk, .slice ua1 un1 uc1, .slice ua2 un2 uc2, .slice ua3 un3 uc3), rfl, N9, HRS.out, HUP.out, B9⟩
end Tr
end Go.Proofs.Ythlgneadcagleab
/- tree.Put at every argument. -/
namespace Go.Proofs.Ythlgneadcagleab
namespace Tr
open Nb Go.RowKit
/-- What is wrong with a put. -/
def pe (t : Nd) (b y : By) : Int := if rd 0 t = true then mp b.length y.length else 1
/-- What a put answers: a tree that has what it should, or nothing. -/
def PR (t : Nd) (b y : By) (r : Nd) : Prop := if pe t b y = 0 then ∃ t', r = bn t' ∧ Rs t' ∧ Up t' t (hv b) y else r = Nd.no
theorem mp_zero {n m : Nat} (h : mp n m = 0) : n ≤ 32 ∧ m ≤ 1024 := by
  unfold mp at h
  split at h
  · split at h
    · exact ⟨by assumption, by assumption⟩
    · cases h
  · cases h
theorem gt_len' {t : Nd} (h : Right t) (q : By) : (gt t q).length ≤ 1024 := by
  by_cases e : gt t q = []
  · rw [e]; exact Nat.zero_le _
  · exact (h.2 q e).2.2.2
theorem hv_len (b : By) : (hv b).length = 2 * b.length := by
  induction b with
  | nil => rfl
  | cons c r ih => rw [hv]; simp [ih]; omega
theorem tput_any (t : Nd) (S T T' : Nat → Prop) (x : V4) (w : World) (hx : Nv S w t x) (hw : wn t ≤ 4194304) (b : By) (kv : Value) (hb : Bs T b kv w) (y : By) (yv : Value) (hy : Bs T' y yv w) :
    Calls Try.prog 8 #[v4 x, kv, yv] w fun e w' => ∃ (r : Nd) (u : V4), e = .returned (.tuple #[v4 u, .int .i64 (pe t b y)]) ∧ Nv (w.heap.size ≤ ·) w' r u ∧ PR t b y r ∧ Below w.heap.size w w' := by
  have hx := Nv_mono (S' := (· < w.heap.size)) hx (fun k _ h => h)
  have hb := Bs_mono (S' := (· < w.heap.size)) hb (fun k _ h => h)
  have hy := Bs_mono (S' := (· < w.heap.size)) hy (fun k _ h => h)
  obtain ⟨k, a1, n1, c1, a2, m2, c2, a3, n3, c3, rfl⟩ := Nv_form hx
  obtain ⟨ak, ck, rfl, _⟩ := Bs_form hb
  obtain ⟨av, cv, rfl, _⟩ := Bs_form hy
  have KR : ∀ wx : World, Below w.heap.size w wx → Calls Try.prog 17 #[.agg #[.int .i64 k, .slice a1 n1 c1, .slice a2 m2 c2, .slice a3 n3 c3], .int .i64 0] wx (RP w.heap.size 0 t wx) := fun wx h => (read_all w.heap.size (wf_any t)).1 0 (.int .i64 k, .slice a1 n1 c1, .slice a2 m2 c2, .slice a3 n3 c3) wx (by omega) (Nv_below hx h) h.size hw
  cases hr : rd 0 t with
  | false =>
    have hp : pe t b y = 1 := by unfold pe; rw [hr]; rfl
    have hPR : PR t b y Nd.no := by unfold PR; rw [hp, if_neg (by decide)]
    rw [hp]
    refine (put_form k a1 a2 a3 ak av n1 c1 m2 c2 n3 c3 b.length ck y.length cv w (fun wx h => (KR wx h).mono fun e w' he => ?_)).mono fun e w' he => ?_
    · obtain ⟨z, h1, _, h3⟩ := he
      rw [hr] at h1
      exact ⟨z, h1, h3⟩
    · exact ⟨Nd.no, (.int .i64 0, .slice none 0 0, .slice none 0 0, .slice none 0 0), he.1, Nv_no _ _, hPR, he.2⟩
  | true =>
    have hp : pe t b y = mp b.length y.length := by unfold pe; rw [hr]; rfl
    by_cases hm : mp b.length y.length = 0
    · have hp0 : pe t b y = 0 := hp.trans hm
      have hR := (rd_right t).1 hr
      obtain ⟨l1, l2⟩ := mp_zero hm
      have hl := hv_len b
      refine (put_value k a1 a2 a3 ak av n1 c1 m2 c2 n3 c3 b.length ck y.length cv w (hv b) y t (fun wx h => (KR wx h).mono fun e w' he => ?_) (fun wx => ?_) (fun wx h => ?_) (fun z pv F wx hin hpv hbl => ?_) (fun t' z F wx hin hrs hup => ?_)).mono fun e w' he => ?_
      · obtain ⟨z, h1, h2, h3⟩ := he
        rw [hr] at h1
        exact ⟨z, h1, h2 hr, h3⟩
      · have := mayput_any ak av b.length ck y.length cv wx
        rwa [hm] at this
      · exact halves_bs (Bs_below hb h) (by omega)
      · exact put_all w.heap.size 64 (by omega) _ t (hv b) y z pv _ F wx (Nat.le_refl _) hin hR.1 (fun q hq => (hR.2 q hq).2.1) (by omega) hpv (Bs_lo (Bs_below hy hbl)) (pt_hv b) hbl.size
      · refine plain_all (N := 64) (M := 1024) hin (by omega) (by omega) hrs (fun q hq => ?_) (fun q => ?_) wx (Below.refl _ _)
        · rw [hup q] at hq
          split at hq
          · rename_i e; rw [e, hl]; omega
          · exact (hR.2 q hq).2.1
        · rw [hup q]
          split
          · exact l2
          · exact gt_len' hR q
      · obtain ⟨t', u, h1, h2, h3, h4, h5⟩ := he
        rw [hp0]
        exact ⟨bn t', u, h1, h2, by unfold PR; rw [if_pos hp0]; exact ⟨t', rfl, h3, h4⟩, h5⟩
    · have hPR : PR t b y Nd.no := by unfold PR; rw [hp, if_neg hm]
      rw [hp]
      refine (put_err k a1 a2 a3 ak av n1 c1 m2 c2 n3 c3 b.length ck y.length cv w (fun wx h => (KR wx h).mono fun e w' he => ?_) _ (beq_eq_false_iff_ne.2 hm) (fun wx => mayput_any ak av b.length ck y.length cv wx)).mono fun e w' he => ?_
      · obtain ⟨z, h1, _, h3⟩ := he
        rw [hr] at h1
        exact ⟨z, h1, h3⟩
      · exact ⟨Nd.no, (.int .i64 0, .slice none 0 0, .slice none 0 0, .slice none 0 0), he.1, Nv_no _ _, hPR, he.2⟩
end Tr
end Go.Proofs.Ythlgneadcagleab
/- Routes, one put: what is left, joined by the new one, in order. -/
namespace Go.Proofs.Ythlgneadcagleab
namespace Tr
open Nb Go.RowKit
/-- l2 has what l has, but y at p. -/
structure RPs (l : Rt) (p y : By) (l2 : Rt) : Prop where
  hs : Srt l2
  hp : Pts l2
  hv : VO l2
  hk : ∀ q, lk l2 q = if q = p then y else lk l q
/-- The routes but p's, and behind them the new one. -/
def rpm (l : Rt) (p y : By) : Rt := l.filter (fun r => decide (r.1 ≠ p)) ++ (if y = [] then [] else [(p, y)])
theorem rpm_mem {l : Rt} {p y : By} {r : By × By} : r ∈ rpm l p y ↔ (r ∈ l ∧ r.1 ≠ p) ∨ (y ≠ [] ∧ r = (p, y)) := by
  unfold rpm
  rw [List.mem_append, List.mem_filter]
  by_cases h : y = []
  · simp [h]
  · simp [h]
theorem less_ne {a b : By} (h : less a b) : a ≠ b := fun e => less_irrefl b (e ▸ h)
theorem rpm_keys {l : Rt} (hs : Srt l) (p y : By) : (rpm l p y).Pairwise fun a b => a.1 ≠ b.1 := by
  unfold rpm
  rw [List.pairwise_append]
  refine ⟨(hs.imp fun h => less_ne h).filter _, ?_, fun a ha b hb => ?_⟩
  · by_cases h : y = []
    · simp [h]
    · simp [h]
  · have h1 := (List.mem_filter.1 ha).2
    have h2 : a.1 ≠ p := of_decide_eq_true h1
    by_cases h : y = []
    · simp [h] at hb
    · simp [h] at hb
      rw [hb]
      exact h2
theorem rp_spec {l l2 : Rt} {p y : By} (hs : Srt l) (hp : Pts l) (hv : VO l) (hpt : Pt p) (hm : l2.Perm (rpm l p y)) (ho : l2.Pairwise fun a b => ¬ less b.1 a.1) : RPs l p y l2 := by
  have hk : l2.Pairwise fun a b => a.1 ≠ b.1 := (hm.pairwise_iff (fun h e => h e.symm)).2 (rpm_keys hs p y)
  have hS : Srt l2 := (ho.and hk).imp fun ⟨h1, h2⟩ => by
    rcases less_total _ _ with h | h | h
    · exact h
    · exact absurd h h2
    · exact absurd h h1
  have hmem : ∀ r, r ∈ l2 ↔ (r ∈ l ∧ r.1 ≠ p) ∨ (y ≠ [] ∧ r = (p, y)) := fun r => hm.mem_iff.trans rpm_mem
  refine ⟨hS, fun r hr => ?_, fun r hr => ?_, fun q => ?_⟩
  · rcases (hmem r).1 hr with h | h
    · exact hp r h.1
    · rw [h.2]; exact hpt
  · rcases (hmem r).1 hr with h | h
    · exact hv r h.1
    · rw [h.2]; exact h.1
  · by_cases e : q = p
    · subst e
      rw [if_pos rfl]
      by_cases hy : y = []
      · rw [hy]
        refine lk_out _ _ (fun r hr e => ?_)
        rcases (hmem r).1 hr with h | h
        · exact h.2 e
        · exact h.1 hy
      · exact lk_mem l2 (q, y) hS ((hmem _).2 (.inr ⟨hy, rfl⟩))
    · rw [if_neg e]
      by_cases hq : ∃ r ∈ l, r.1 = q
      · obtain ⟨r, hr, rfl⟩ := hq
        rw [lk_mem l r hs hr]
        exact lk_mem l2 r hS ((hmem r).2 (.inl ⟨hr, e⟩))
      · rw [lk_out l q (fun r hr h => hq ⟨r, hr, h⟩)]
        refine lk_out _ _ (fun r hr h => ?_)
        rcases (hmem r).1 hr with h2 | h2
        · exact hq ⟨r, h2.1, h⟩
        · rw [h2.2] at h; exact e h.symm
/-- The two puts are one. -/
theorem put_same {t t' : Nd} {l l2 : Rt} {p y : By} {n : Nat} (hl : rt t = some l) (h : RPs l p y l2) (hr : Rs t') (hu : ∀ q, gt t' q = if q = p then y else gt t q) (hn : ∀ r ∈ l2, r.1.length < n) : bn t' = bn (grow n l2) := by
  obtain ⟨g1, g2⟩ := grow_spec n l2 hn h.hs h.hp h.hv
  refine uniq hr _ g1 (fun q => ?_)
  rw [hu q, g2 q, h.hk q, (rt_spec hl).2.2 q]
end Tr
end Go.Proofs.Ythlgneadcagleab
/- Bytes that came in. -/
namespace Go.Proofs.Ythlgneadcagleab
namespace Sp
open Go.ChangeShapes Go.WideShapes Go.ChangeAt Go.RowKit Go.Joins
theorem ownK : ownKnob Try.prog.godebug = none := by kernel_rfl
theorem laidOutK : laidOutB Try.prog = true := by kernel_rfl
theorem cellsU8 : Try.prog.cellsOf 5 = 1 := by kernel_rfl
theorem bytesU8 : Try.prog.bytesOf 5 = 1 := by kernel_rfl
/-- Numbers as bytes. -/
def ub (zs : List Int) : List UInt8 := zs.map fun z => UInt8.ofNat z.toNat
theorem ub_length (zs : List Int) : (ub zs).length = zs.length := by simp [ub]
theorem ub_bz (zs : List Int) (hz : ∀ z ∈ zs, 0 ≤ z ∧ z < 256) (j : Nat) (h : j < zs.length) : bz (ub zs) j = zs.getD j 0 := by
  have hm := hz zs[j] (List.getElem_mem h)
  have h2 : j < (ub zs).length := by rw [ub_length]; exact h
  unfold bz
  rw [List.getD_eq_getElem?_getD, List.getD_eq_getElem?_getD, List.getElem?_eq_getElem h2, List.getElem?_eq_getElem h]
  simp only [Option.getD_some, ub, List.getElem_map, UInt8.toNat_ofNat']
  omega
set_option maxRecDepth 100000 in
theorem open_bytes {H : Type} {enc : TypeId × Value → H} {W : World} {r : Reach} {b0 : Nat} {v : Value} {d : DataW H} {p : List MemPlace}
    (hv : Value.okWide Try.prog W r b0 22 v) (h : DataW.Trod enc Try.prog W 0 (fun _ => true) true 22 v d p) :
    ∃ (l : List UInt8) (ao : Option Addr) (cap : Nat), v = .slice ao l.length cap ∧ l.length ≤ cap ∧ Vw l ao W ∧ (l = [] ∨ ∃ elems spare, d = .slice elems spare ∧ elems.length = l.length) := by
  obtain ⟨a0, len, cap, rfl⟩ := okWide_slice Try.underlying22 hv
  obtain ⟨fuel, hf⟩ := h
  rcases open_ints Try.underlying22 Try.underlying5 cellsU8 hf with ⟨hcs, hx⟩ | ⟨a, len', cap', zs, hcs, _, hl, hm, hz, hx, hcell, hwz⟩
  · simp [Value.cells] at hcs
    obtain ⟨rfl, rfl, rfl⟩ := hcs
    exact ⟨[], none, 0, rfl, Nat.le_refl _, Vw_nil _ _, .inl rfl⟩
  · simp [Value.cells] at hcs
    obtain ⟨rfl, rfl, rfl⟩ := hcs
    simp only [if_true] at hz
    have hb : ∀ z ∈ zs, 0 ≤ z ∧ z < 256 := fun z hz' => by have := bounds_u8 (hwz z hz'); omega
    have hb' : ∀ z ∈ zs.take len, 0 ≤ z ∧ z < 256 := fun z hz' => hb z (List.mem_of_mem_take hz')
    have hlt : (ub (zs.take len)).length = len := by rw [ub_length, List.length_take]; omega
    simp only [Prod.mk.injEq] at hx
    refine ⟨ub (zs.take len), some a, cap, by rw [hlt], by rw [hlt]; exact hl, ?_, .inr ⟨_, _, hx.1, by simp [lits, hlt]; omega⟩⟩
    intro h0
    rw [hlt] at h0
    obtain ⟨b, off, rfl, hc⟩ := ints_at hcell (by omega)
    refine ⟨b, off, rfl, ?_, fun j hj => ?_⟩
    · exact World.block_lt_of_cell? W ⟨b, off + 0, none⟩ (hc 0 (by omega))
    · rw [hlt] at hj
      rw [hc j (by omega), ub_bz _ hb' j (by rw [List.length_take]; omega)]
      simp [List.getD_eq_getElem?_getD, hj]
end Sp
end Go.Proofs.Ythlgneadcagleab
/- A slice of bytes that came in: its room too. -/
namespace Go.Proofs.Ythlgneadcagleab
namespace Sp
open Go.ChangeShapes Go.WideShapes Go.ChangeAt Go.RowKit
set_option maxRecDepth 100000 in
theorem open_bytes2 {H : Type} {enc : TypeId × Value → H} {W : World} {r : Reach} {b0 : Nat} {v : Value} {d : DataW H} {p : List MemPlace}
    (hv : Value.okWide Try.prog W r b0 22 v) (h : DataW.Trod enc Try.prog W 0 (fun _ => true) true 22 v d p) :
    ∃ (l : List UInt8) (ao : Option Addr) (cap : Nat), v = .slice ao l.length cap ∧ l.length ≤ cap ∧ (cap : Int) ≤ 9223372036854775807 ∧ Vw l ao W ∧ (l = [] ∨ ∃ elems spare, d = .slice elems spare ∧ elems.length = l.length) := by
  obtain ⟨l, ao, cap, rfl, h1, h2, h3⟩ := open_bytes hv h
  refine ⟨l, ao, cap, rfl, h1, ?_, h2, h3⟩
  obtain ⟨fuel, hf⟩ := h
  rcases open_ints Try.underlying22 Try.underlying5 cellsU8 hf with ⟨hcs, _⟩ | ⟨a, len', cap', zs, hcs, _, _, hm, _⟩
  · simp [Value.cells] at hcs
    omega
  · simp [Value.cells] at hcs
    obtain ⟨_, _, rfl⟩ := hcs
    unfold maxLen at hm
    omega
end Sp
end Go.Proofs.Ythlgneadcagleab
/- A node that came in. -/
namespace Go.Proofs.Ythlgneadcagleab
namespace Tr
open Nb Go.ChangeShapes Go.WideShapes Go.ChangeAt Go.RowKit
theorem wnk_many : ∀ ks : List Nd, ks.length ≤ wnk ks
  | [] => Nat.zero_le _
  | .mk k p v js :: r => by
    have := wnk_many r
    unfold wnk wn
    rw [List.length_cons]; omega
theorem sm_wn {t : Nd} (h : Wf t) : wn t ≤ 4194304 → Sm t := by
  induction h with
  | mk k p v ks _ ih =>
    intro hw
    unfold wn at hw
    have h1 := wnk_many ks
    exact .mk k p v ks (by omega) (fun j hj => ih j hj (by have := wnk_one ks j hj; omega))
theorem blk1 {H : Type} (d : DataW H) : 1 ≤ Rows.uptoBulk d := by
  unfold Rows.uptoBulk
  split <;> omega
theorem blkN {H : Type} : ∀ l : List (DataW H), l.length ≤ Rows.uptoBulkAll l
  | [] => Nat.zero_le _
  | d :: r => by
    have h1 := blk1 d
    have h2 := blkN r
    rw [Rows.uptoBulkAll, List.length_cons]
    omega
theorem wnk_blk {H : Type} (G : Nat → Nd) (D : Nat → DataW H) : ∀ l : List Nat, (∀ i, i ∈ l → wn (G i) ≤ Rows.uptoBulk (D i)) → wnk (l.map G) ≤ Rows.uptoBulkAll (l.map D)
  | [], _ => Nat.zero_le _
  | i :: r, h => by
    have h1 := h i (List.mem_cons_self ..)
    have h2 := wnk_blk G D r (fun j hj => h j (List.mem_cons_of_mem _ hj))
    rw [List.map_cons, List.map_cons, Rows.uptoBulkAll]
    unfold wnk
    omega
theorem cellsNd : Try.prog.cellsOf 25 = 4 := by kernel_rfl
set_option maxRecDepth 100000 in
/-- A text, by its cells. -/
theorem text_of {H : Type} {enc : TypeId × Value → H} {W : World} {fuel : Nat} {cs : List Value} {x : DataW H × List MemPlace} (hf : DataW.trod enc Try.prog W 0 (fun _ => true) true fuel 22 cs = some x) :
    ∃ (b : By) (v : Value), cs = [v] ∧ Bs (· < W.heap.size) b v W ∧ b.length + 1 ≤ Rows.uptoBulk x.1 := by
  rcases open_ints Try.underlying22 Try.underlying5 Sp.cellsU8 hf with ⟨hcs, hx⟩ | ⟨a, len, cap, zs, hcs, _, hl, hm, hz, hx, hcell, hwz⟩
  · subst hcs
    exact ⟨[], _, rfl, Bs_nil _ _, blk1 _⟩
  · subst hcs
    simp only [if_true] at hz
    have hb : ∀ z ∈ zs, 0 ≤ z ∧ z < 256 := fun z hz' => by have := bounds_u8 (hwz z hz'); omega
    have hb' : ∀ z ∈ zs.take len, 0 ≤ z ∧ z < 256 := fun z hz' => hb z (List.mem_of_mem_take hz')
    have hlt : (Sp.ub (zs.take len)).length = len := by rw [Sp.ub_length, List.length_take]; omega
    refine ⟨Sp.ub (zs.take len), _, rfl, ⟨some a, cap, by rw [hlt], by rw [hlt]; exact hl, fun h0 => ?_⟩, ?_⟩
    · rw [hlt] at h0
      obtain ⟨b, off, rfl, hc⟩ := ints_at hcell (by omega)
      have hbw : b < W.heap.size := World.block_lt_of_cell? W ⟨b, off + 0, none⟩ (hc 0 (by omega))
      refine ⟨b, off, rfl, hbw, hbw, fun j hj => ?_⟩
      rw [hlt] at hj
      rw [hc j (by omega), Sp.ub_bz _ hb' j (by rw [List.length_take]; omega)]
      simp [List.getD_eq_getElem?_getD, hj]
    · subst hx
      have h := blkN (lits (H := H) .u8 (zs.take len))
      have e : (lits (H := H) .u8 (zs.take len)).length = len := by simp [lits]; omega
      rw [e] at h
      rw [hlt]
      show _ ≤ Rows.uptoBulk (.slice (lits .u8 (zs.take len)) (lits .u8 (zs.drop len)))
      rw [Rows.uptoBulk]
      omega
set_option maxRecDepth 100000 in
/-- A node, by its cells. -/
theorem node_of {H : Type} {enc : TypeId × Value → H} {W : World} : ∀ (N fuel : Nat), fuel ≤ N → ∀ (cs : List Value) (x : DataW H × List MemPlace), DataW.trod enc Try.prog W 0 (fun _ => true) true fuel 25 cs = some x →
    ∃ (t : Nd) (u : V4), cs = [u.1, u.2.1, u.2.2.1, u.2.2.2] ∧ Nv (· < W.heap.size) W t u ∧ wn t ≤ Rows.uptoBulk x.1
  | 0, 0, _, cs, x, h => by simp [DataW.trod] at h
  | N + 1, fuel, hN, cs, x, h => by
    obtain ⟨xs, n, rfl, rfl, hl, hlen, hf⟩ := DataW.trod_struct Try.underlying25 h
    match xs, hlen with
    | [y0, y1, y2, y3], _ =>
      have f0 := hf 0 _ rfl
      have f1 := hf 1 _ rfl
      have f2 := hf 2 _ rfl
      have f3 := hf 3 _ rfl
      rw [cellsNd] at hl
      match cs, hl with
      | [c0, c1, c2, c3], _ =>
        simp only [List.getElem?_cons_zero, List.getElem?_cons_succ] at f0 f1 f2 f3
        obtain ⟨q, e0, hy0⟩ := DataW.trod_int Try.underlying3 f0
        obtain ⟨b1, v1, e1, ht1, hb1⟩ := text_of f1
        obtain ⟨b2, v2, e2, ht2, hb2⟩ := text_of f2
        injection e0 with e0 _
        injection e1 with e1 _
        injection e2 with e2 _
        subst e0 e1 e2
        have hB : Rows.uptoBulk (DataW.agg ([y0, y1, y2, y3].map (·.1))) = Rows.uptoBulk y0.1 + (Rows.uptoBulk y1.1 + (Rows.uptoBulk y2.1 + (Rows.uptoBulk y3.1 + 0))) + 1 := by
          rw [Rows.uptoBulk]
          rfl
        have h0 := blk1 y0.1
        rcases DataW.trod_slice Try.underlying23 f3 with ⟨hcs, hx⟩ | ⟨a, len, cap, elems, rest, m, rfl, hcs, hx, _, hle, _, hel, hat, _, _⟩
        · injection hcs with hcs _
          subst hcs
          have h3 := blk1 y3.1
          exact ⟨.mk q b1 b2 [], (.int .i64 q, c1, c2, .slice none 0 0), rfl, .mk q b1 b2 [] _ _ _ [] ht1 ht2 rfl (Ks_nil _ _) (fun j hj => absurd hj (by simp)), by
            rw [hB]; unfold wn wnk; omega⟩
        · injection hcs with hcs _
          subst hcs
          have HI : ∀ i, ∃ p : Nd × V4, i < len → (∃ cs', W.cells? 0 (a.add (i * 4)) 4 = some cs' ∧ cs' = [p.2.1, p.2.2.1, p.2.2.2.1, p.2.2.2.2]) ∧ Nv (· < W.heap.size) W p.1 p.2 ∧ wn p.1 ≤ Rows.uptoBulk (elems.getD i (.nil, [])).1 := fun i => by
            by_cases hi : i < len
            · have k := hat i hi
              rw [cellsNd] at k
              rw [List.getElem?_eq_getElem (by omega)] at k
              cases hc : W.cells? 0 (a.add (i * 4)) 4 with
              | none => rw [hc] at k; cases k
              | some cs' =>
                rw [hc] at k
                obtain ⟨t, u, e1, e2, e3⟩ := node_of N m (by omega) cs' _ k
                refine ⟨(t, u), fun _ => ⟨⟨cs', rfl, e1⟩, e2, ?_⟩⟩
                rw [List.getD_eq_getElem?_getD, List.getElem?_eq_getElem (by omega)]
                exact e3
            · exact ⟨(Nd.no, n4), fun h => absurd h hi⟩
          obtain ⟨F, hF⟩ := Classical.axiomOfChoice HI
          have hks : ((List.range len).map fun i => (F i).1).length = len := by simp
          have hvs : ((List.range len).map fun i => (F i).2).length = len := by simp
          refine ⟨.mk q b1 b2 ((List.range len).map fun i => (F i).1), (.int .i64 q, c1, c2, .slice (some a) len cap), rfl, .mk q b1 b2 _ _ _ _ ((List.range len).map fun i => (F i).2) ht1 ht2 (by rw [hvs, hks]) ⟨some a, cap, by rw [hvs], by rw [hvs]; exact hle, fun hp => ?_⟩ (fun j hj => ?_), ?_⟩
          · rw [hvs] at hp
            obtain ⟨bl, off, spot⟩ := a
            obtain ⟨cs', k1, k2⟩ := (hF 0 hp).1
            obtain ⟨_, _, k3⟩ := World.cells?_some k1
            have k4 := k3 0 (by decide)
            rw [k2] at k4
            have hspot : spot = none := by simpa [Addr.add] using World.cell?_spot k4
            subst hspot
            have hbw : bl < W.heap.size := World.block_lt_of_cell? W _ (by simpa [Go.WideShapes.add_plain] using k4)
            refine ⟨bl, off, rfl, hbw, hbw, fun j hj => ?_⟩
            rw [hvs] at hj
            rw [getD_range _ _ _ _ hj]
            obtain ⟨cs2, k5, k6⟩ := (hF j hj).1
            obtain ⟨_, _, k7⟩ := World.cells?_some k5
            rw [Go.WideShapes.add_plain] at k7
            have g0 := k7 0 (by decide)
            have g1 := k7 1 (by decide)
            have g2 := k7 2 (by decide)
            have g3 := k7 3 (by decide)
            rw [Go.WideShapes.add_plain, k6] at g0 g1 g2 g3
            rw [Nat.mul_comm 4 j]
            exact ⟨g0, g1, g2, g3⟩
          · rw [hks] at hj
            rw [getD_range _ _ _ _ hj, getD_range _ _ _ _ hj]
            exact (hF j hj).2.1
          · have hw := wnk_blk (fun i => (F i).1) (fun i => (elems.getD i (.nil, [])).1) (List.range len) (fun i hi => (hF i (List.mem_range.1 hi)).2.2)
            have e2 : (List.range len).map (fun i => (elems.getD i (.nil, [])).1) = elems.map (·.1) := by
              apply List.ext_getElem
              · simp [hel]
              · intro i h1 h2
                have : i < elems.length := by simpa using h2
                simp [this]
            rw [e2] at hw
            have hy3 : Rows.uptoBulk y3.1 = Rows.uptoBulkAll (elems.map (·.1)) + Rows.uptoBulkAll (rest.map (·.1)) + 1 := by
              rw [hx, Rows.uptoBulk]
            rw [hB, hy3]
            unfold wn
            omega
set_option maxRecDepth 100000 in
theorem open_node {H : Type} {enc : TypeId × Value → H} {W : World} {r : Reach} {b0 : Nat} {v : Value} {d : DataW H} {p : List MemPlace}
    (hv : Value.okWide Try.prog W r b0 25 v) (h : DataW.Trod enc Try.prog W 0 (fun _ => true) true 25 v d p) :
    ∃ (t : Nd) (u : V4), v = v4 u ∧ Nv (· < W.heap.size) W t u ∧ wn t ≤ Rows.uptoBulk d := by
  obtain ⟨cs, rfl, _⟩ := okWide_struct Try.underlying25 hv
  obtain ⟨fuel, hf⟩ := h
  obtain ⟨t, u, e1, e2, e3⟩ := node_of fuel fuel (Nat.le_refl _) _ _ hf
  refine ⟨t, u, ?_, e2, e3⟩
  have e4 : cs.toList = [u.1, u.2.1, u.2.2.1, u.2.2.2] := e1
  unfold v4
  rw [← e4]
end Tr
end Go.Proofs.Ythlgneadcagleab
/- Pairs in memory; pairs that came in. -/
namespace Go.Proofs.Ythlgneadcagleab
namespace Tr
open Nb Go.ChangeShapes Go.WideShapes Go.ChangeAt Go.RowKit
abbrev V2 := Value × Value
def m2 : V2 := (undef, undef)
/-- A slice of two values each, in a block of S. -/
def Pc (S : Nat → Prop) (vs : List V2) (v : Value) (w : World) : Prop := ∃ (ao : Option Addr) (cap : Nat), v = .slice ao vs.length cap ∧ vs.length ≤ cap ∧ (0 < vs.length → ∃ h off, ao = some ⟨h, off, none⟩ ∧ S h ∧ h < w.heap.size ∧ ∀ j, j < vs.length → w.cell? ⟨h, off + 2 * j, none⟩ = some (vs.getD j m2).1 ∧ w.cell? ⟨h, off + 2 * j + 1, none⟩ = some (vs.getD j m2).2)
/-- A slice of pairs, in blocks of S. -/
def Pv (S : Nat → Prop) (l : Rt) (v : Value) (w : World) : Prop := ∃ vs : List V2, vs.length = l.length ∧ Pc S vs v w ∧ ∀ j, j < l.length → Bs S (l.getD j n2).1 (vs.getD j m2).1 w ∧ Bs S (l.getD j n2).2 (vs.getD j m2).2 w
theorem Pc_gb {S : Nat → Prop} {vs : List V2} {v : Value} {w w' : World} {r : Option Nat} (h : Pc S vs v w) (hb : w.grownBy w' r) (hr : ∀ k, S k → some k ≠ r) : Pc S vs v w' := by
  obtain ⟨ao, cap, h1, h2, h4⟩ := h
  refine ⟨ao, cap, h1, h2, fun h0 => ?_⟩
  obtain ⟨k, off, e, hne, hlt, hc⟩ := h4 h0
  have hbk : w'.heap[k]? = w.heap[k]? := hb.block k hlt (hr k hne)
  exact ⟨k, off, e, hne, Nat.lt_of_lt_of_le hlt hb.size, fun j hj => ⟨(World.cell?_of_block (a := ⟨k, off + 2 * j, none⟩) hbk).trans (hc j hj).1, (World.cell?_of_block (a := ⟨k, off + 2 * j + 1, none⟩) hbk).trans (hc j hj).2⟩⟩
theorem Pv_gb {S : Nat → Prop} {l : Rt} {v : Value} {w w' : World} {r : Option Nat} (h : Pv S l v w) (hb : w.grownBy w' r) (hr : ∀ k, S k → some k ≠ r) : Pv S l v w' := by
  obtain ⟨vs, h1, h2, h3⟩ := h
  exact ⟨vs, h1, Pc_gb h2 hb hr, fun j hj => ⟨Bs_gb (h3 j hj).1 hb hr, Bs_gb (h3 j hj).2 hb hr⟩⟩
theorem Pv_below {S : Nat → Prop} {l : Rt} {v : Value} {w w' : World} (h : Pv S l v w) (hb : Below w.heap.size w w') : Pv S l v w' := Pv_gb (r := none) h (gb_below hb) (fun k _ e => by cases e)
theorem Pv_mono {S S' : Nat → Prop} {l : Rt} {v : Value} {w : World} (h : Pv S l v w) (hs : ∀ k, S k → k < w.heap.size → S' k) : Pv S' l v w := by
  obtain ⟨vs, h1, ⟨ao, cap, g1, g2, g4⟩, h3⟩ := h
  refine ⟨vs, h1, ⟨ao, cap, g1, g2, fun h0 => ?_⟩, fun j hj => ⟨Bs_mono (h3 j hj).1 hs, Bs_mono (h3 j hj).2 hs⟩⟩
  obtain ⟨k, off, e, hne, hlt, hc⟩ := g4 h0
  exact ⟨k, off, e, hs k hne hlt, hlt, hc⟩
theorem Pv_nil (S : Nat → Prop) (w : World) : Pv S [] (.slice none 0 0) w := ⟨[], rfl, ⟨none, 0, rfl, Nat.le_refl _, fun h => absurd h (by simp)⟩, fun j hj => absurd hj (by simp)⟩
theorem Pv_form {S : Nat → Prop} {l : Rt} {v : Value} {w : World} (h : Pv S l v w) : ∃ ao cap, v = .slice ao l.length cap ∧ l.length ≤ cap := by
  obtain ⟨vs, h1, ⟨ao, cap, g1, g2, _⟩, _⟩ := h
  rw [h1] at g1 g2
  exact ⟨ao, cap, g1, g2⟩
/-- One of them. -/
theorem Pv_at {S : Nat → Prop} {l : Rt} {ao : Option Addr} {n cap : Nat} {w : World} (h : Pv S l (.slice ao n cap) w) {j : Nat} (hj : j < l.length) : ∃ (g off : Nat) (kv vv : Value), ao = some ⟨g, off, none⟩ ∧ S g ∧ g < w.heap.size ∧ w.cell? ⟨g, off + 2 * j, none⟩ = some kv ∧ w.cell? ⟨g, off + 2 * j + 1, none⟩ = some vv ∧ Bs S (l.getD j n2).1 kv w ∧ Bs S (l.getD j n2).2 vv w := by
  obtain ⟨vs, h1, ⟨ao', cap', g1, g2, g4⟩, h3⟩ := h
  injection g1 with e1 e2 e3
  subst e1
  obtain ⟨k, off, e, hne, hlt, hc⟩ := g4 (by omega)
  exact ⟨k, off, _, _, e, hne, hlt, (hc j (by omega)).1, (hc j (by omega)).2, (h3 j hj).1, (h3 j hj).2⟩
theorem cellsPr : Try.prog.cellsOf 41 = 2 := by kernel_rfl
set_option maxRecDepth 100000 in
/-- A pair, by its cells. -/
theorem pair_of {H : Type} {enc : TypeId × Value → H} {W : World} {fuel : Nat} {cs : List Value} {x : DataW H × List MemPlace} (h : DataW.trod enc Try.prog W 0 (fun _ => true) true fuel 41 cs = some x) :
    ∃ (r : By × By) (u : V2), cs = [u.1, u.2] ∧ Bs (· < W.heap.size) r.1 u.1 W ∧ Bs (· < W.heap.size) r.2 u.2 W ∧ r.1.length + r.2.length + 1 ≤ Rows.uptoBulk x.1 := by
  obtain ⟨xs, n, rfl, rfl, hl, hlen, hf⟩ := DataW.trod_struct Try.underlying41 h
  match xs, hlen with
  | [y1, y2], _ =>
    have f1 := hf 0 _ rfl
    have f2 := hf 1 _ rfl
    rw [cellsPr] at hl
    match cs, hl with
    | [c1, c2], _ =>
      simp only [List.getElem?_cons_zero, List.getElem?_cons_succ] at f1 f2
      obtain ⟨b1, v1, e1, ht1, hb1⟩ := text_of f1
      obtain ⟨b2, v2, e2, ht2, hb2⟩ := text_of f2
      injection e1 with e1 _
      injection e2 with e2 _
      subst e1 e2
      have hB : Rows.uptoBulk (DataW.agg ([y1, y2].map (·.1))) = Rows.uptoBulk y1.1 + (Rows.uptoBulk y2.1 + 0) + 1 := by
        rw [Rows.uptoBulk]
        rfl
      refine ⟨(b1, b2), (c1, c2), rfl, ht1, ht2, ?_⟩
      rw [hB]
      show b1.length + b2.length + 1 ≤ _
      omega
theorem sum_blk {H : Type} (G : Nat → Nat) (D : Nat → DataW H) : ∀ l : List Nat, (∀ i, i ∈ l → G i ≤ Rows.uptoBulk (D i)) → (l.map G).sum ≤ Rows.uptoBulkAll (l.map D)
  | [], _ => Nat.zero_le _
  | i :: r, h => by
    have h1 := h i (List.mem_cons_self ..)
    have h2 := sum_blk G D r (fun j hj => h j (List.mem_cons_of_mem _ hj))
    rw [List.map_cons, List.map_cons, Rows.uptoBulkAll, List.sum_cons]
    omega
set_option maxRecDepth 100000 in
theorem open_pairs {H : Type} {enc : TypeId × Value → H} {W : World} {r : Reach} {b0 : Nat} {v : Value} {d : DataW H} {p : List MemPlace}
    (hv : Value.okWide Try.prog W r b0 36 v) (h : DataW.Trod enc Try.prog W 0 (fun _ => true) true 36 v d p) :
    ∃ l : Rt, Pv (· < W.heap.size) l v W ∧ l.length + 1 ≤ Rows.uptoBulk d := by
  obtain ⟨a0, len, cap, rfl⟩ := okWide_slice Try.underlying36 hv
  obtain ⟨fuel, hf⟩ := h
  rcases DataW.trod_slice Try.underlying36 hf with ⟨hcs, hx⟩ | ⟨a, len', cap', elems, rest, m, rfl, hcs, hx, _, hle, _, hel, hat, _, _⟩
  · simp [Value.cells] at hcs
    obtain ⟨rfl, rfl, rfl⟩ := hcs
    exact ⟨[], Pv_nil _ _, blk1 _⟩
  · simp [Value.cells] at hcs
    obtain ⟨rfl, rfl, rfl⟩ := hcs
    have HI : ∀ i, ∃ p : (By × By) × V2, i < len → (∃ cs', W.cells? 0 (a.add (i * 2)) 2 = some cs' ∧ cs' = [p.2.1, p.2.2]) ∧ Bs (· < W.heap.size) p.1.1 p.2.1 W ∧ Bs (· < W.heap.size) p.1.2 p.2.2 W := fun i => by
      by_cases hi : i < len
      · have k := hat i hi
        rw [cellsPr] at k
        rw [List.getElem?_eq_getElem (by omega)] at k
        cases hc : W.cells? 0 (a.add (i * 2)) 2 with
        | none => rw [hc] at k; cases k
        | some cs' =>
          rw [hc] at k
          obtain ⟨t, u, e1, e2, e3, _⟩ := pair_of k
          exact ⟨(t, u), fun _ => ⟨⟨cs', rfl, e1⟩, e2, e3⟩⟩
      · exact ⟨(n2, m2), fun h => absurd h hi⟩
    obtain ⟨F, hF⟩ := Classical.axiomOfChoice HI
    have hks : ((List.range len).map fun i => (F i).1).length = len := by simp
    have hvs : ((List.range len).map fun i => (F i).2).length = len := by simp
    refine ⟨(List.range len).map fun i => (F i).1, ⟨(List.range len).map fun i => (F i).2, by rw [hvs, hks], ⟨some a, cap, by rw [hvs], by rw [hvs]; exact hle, fun hp => ?_⟩, fun j hj => ?_⟩, ?_⟩
    · rw [hvs] at hp
      obtain ⟨bl, off, spot⟩ := a
      obtain ⟨cs', k1, k2⟩ := (hF 0 hp).1
      obtain ⟨_, _, k3⟩ := World.cells?_some k1
      have k4 := k3 0 (by decide)
      rw [k2] at k4
      have hspot : spot = none := by simpa [Addr.add] using World.cell?_spot k4
      subst hspot
      have hbw : bl < W.heap.size := World.block_lt_of_cell? W _ (by simpa [Go.WideShapes.add_plain] using k4)
      refine ⟨bl, off, rfl, hbw, hbw, fun j hj => ?_⟩
      rw [hvs] at hj
      rw [getD_range _ _ _ _ hj]
      obtain ⟨cs2, k5, k6⟩ := (hF j hj).1
      obtain ⟨_, _, k7⟩ := World.cells?_some k5
      rw [Go.WideShapes.add_plain] at k7
      have g0 := k7 0 (by decide)
      have g1 := k7 1 (by decide)
      rw [Go.WideShapes.add_plain, k6] at g0 g1
      rw [Nat.mul_comm 2 j]
      exact ⟨g0, g1⟩
    · rw [hks] at hj
      rw [getD_range _ _ _ _ hj, getD_range _ _ _ _ hj]
      exact (hF j hj).2
    · have hN := blkN (elems.map (·.1))
      have hd : Rows.uptoBulk d = Rows.uptoBulkAll (elems.map (·.1)) + Rows.uptoBulkAll (rest.map (·.1)) + 1 := by
        have : d = _ := congrArg Prod.fst hx
        rw [this, Rows.uptoBulk]
      rw [List.length_map, hel] at hN
      rw [hd, hks]
      omega
end Tr
end Go.Proofs.Ythlgneadcagleab
/- What many puts come to. -/
namespace Go.Proofs.Ythlgneadcagleab
namespace Tr
open Nb Go.RowKit
/-- The first error of many puts. -/
def oe : Rt → Int
  | [] => 0
  | r :: l => if mp r.1.length r.2.length = 0 then oe l else mp r.1.length r.2.length
/-- What is at a path behind many puts. -/
def vl (l : Rt) : By → By := l.foldl (fun f r q => if q = hv r.1 then r.2 else f q) (fun _ => [])
/-- What Of answers. -/
def OR (l : Rt) (r : Nd) : Prop := if oe l = 0 then ∃ t', r = bn t' ∧ Rs t' ∧ ∀ q, gt t' q = vl l q else r = Nd.no
theorem vl_snoc (l : Rt) (r : By × By) (q : By) : vl (l ++ [r]) q = if q = hv r.1 then r.2 else vl l q := by
  unfold vl
  rw [List.foldl_append]
  rfl
theorem vl_in (l : Rt) : ∀ q, vl l q ≠ [] → ∃ r ∈ l, q = hv r.1 ∧ vl l q = r.2 := by
  have h : ∀ m (f : By → By) q, (m.foldl (fun f r q => if q = hv r.1 then r.2 else f q) f) q = f q ∨ ∃ r ∈ (m : Rt), q = hv r.1 ∧ (m.foldl (fun f r q => if q = hv r.1 then r.2 else f q) f) q = r.2 := by
    intro m
    induction m with
    | nil => intro f q; exact .inl rfl
    | cons a m ih =>
      intro f q
      rw [List.foldl_cons]
      rcases ih (fun q => if q = hv a.1 then a.2 else f q) q with h | ⟨r, h1, h2, h3⟩
      · by_cases e : q = hv a.1
        · exact .inr ⟨a, List.mem_cons_self .., e, by rw [h, if_pos e]⟩
        · exact .inl (by rw [h, if_neg e])
      · exact .inr ⟨r, List.mem_cons_of_mem _ h1, h2, h3⟩
  intro q hq
  rcases h l (fun _ => []) q with h | h
  · exact absurd h hq
  · exact h
theorem oe_zero : ∀ l : Rt, (∀ r ∈ l, mp r.1.length r.2.length = 0) → oe l = 0
  | [], _ => rfl
  | r :: l, h => by
    rw [oe, if_pos (h r (List.mem_cons_self ..))]
    exact oe_zero l (fun x hx => h x (List.mem_cons_of_mem _ hx))
theorem oe_zero' : ∀ l : Rt, oe l = 0 → ∀ r ∈ l, mp r.1.length r.2.length = 0
  | a :: l, h, r, hr => by
    rw [oe] at h
    split at h
    · rcases List.mem_cons.1 hr with rfl | hr
      · assumption
      · exact oe_zero' l h r hr
    · exact absurd h (by assumption)
/-- The first one that fails tells. -/
theorem oe_at : ∀ (l : Rt) (k : Nat), k < l.length → (∀ r ∈ l.take k, mp r.1.length r.2.length = 0) → mp (l.getD k n2).1.length (l.getD k n2).2.length ≠ 0 → oe l = mp (l.getD k n2).1.length (l.getD k n2).2.length
  | a :: l, 0, _, _, h => by rw [List.getD_cons_zero] at *; rw [oe, if_neg h]
  | a :: l, k + 1, hk, hz, h => by
    rw [List.getD_cons_succ] at *
    rw [oe, if_pos (hz a (by simp))]
    exact oe_at l k (by simpa using hk) (fun r hr => hz r (by simp [hr])) h
theorem take_snoc (l : Rt) (k : Nat) (h : k < l.length) : l.take (k + 1) = l.take k ++ [l.getD k n2] := by
  rw [List.take_add_one, List.getElem?_eq_getElem h, List.getD_eq_getElem?_getD, List.getElem?_eq_getElem h]
  rfl
theorem vl_ln {l : Rt} (h : ∀ r ∈ l, mp r.1.length r.2.length = 0) : (∀ q, vl l q ≠ [] → q.length ≤ 64) ∧ ∀ q, (vl l q).length ≤ 1024 := by
  refine ⟨fun q hq => ?_, fun q => ?_⟩
  · obtain ⟨r, h1, h2, _⟩ := vl_in l q hq
    have := (mp_zero (h r h1)).1
    rw [h2, hv_len]; omega
  · by_cases hq : vl l q = []
    · rw [hq]; exact Nat.zero_le _
    · obtain ⟨r, h1, _, h3⟩ := vl_in l q hq
      rw [h3]
      exact (mp_zero (h r h1)).2
end Tr
end Go.Proofs.Ythlgneadcagleab
