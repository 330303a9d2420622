import Derived.Test.YthlgneadcagleaaPackD
import Derived.Test.YthlgneadcagleaaPackC
import Derived.Test.YthlgneadcagleaaPackB
namespace Go.Proofs.Ythlgneadcagleaa
namespace Tr
open Nb Go.RowKit
theorem wp_st4o {op : Oper} {a : Act} {w : World} {K : Act → World → Prop} {Q : Exit → Act → World → Prop} {x y : Operand} {G o : Nat} {k : Int} {a1 a2 a3 : Option Addr} {n1 c1 n2 c2 n3 c3 : Nat} (ho : op.op = .store 25 x y)
    (hx : a.eval x = .pointer (some ⟨G, o, none⟩)) (hy : a.eval y = .agg #[.int .i64 k, .slice a1 n1 c1, .slice a2 n2 c2, .slice a3 n3 c3]) (ht : w.there G o 4)
    (h : ∀ w', w.grownBy w' (some G) → w'.cell? ⟨G, o, none⟩ = some (.int .i64 k) → w'.cell? ⟨G, o + 1, none⟩ = some (.slice a1 n1 c1) → w'.cell? ⟨G, o + 2, none⟩ = some (.slice a2 n2 c2) → w'.cell? ⟨G, o + 3, none⟩ = some (.slice a3 n3 c3) → (∀ z, z < o ∨ o + 4 ≤ z → w'.cell? ⟨G, z, none⟩ = w.cell? ⟨G, z, none⟩) → (∀ z, w'.frozen? ⟨G, z, none⟩ = w.frozen? ⟨G, z, none⟩) → K (a.put op.dst undef) w') : op.wp Try.prog a w K Q := by
  have hs := World.rangeAt_setCells_same w G o [.int .i64 k, .slice a1 n1 c1, .slice a2 n2 c2, .slice a3 n3 c3] ht
  refine wp_store_mid 25 x y ho G o #[.int .i64 k, .slice a1 n1 c1, .slice a2 n2 c2, .slice a3 n3 c3] hx hy ht infoNd (all_oneCell_toArray (cs := [.int .i64 k, .slice a1 n1 c1, .slice a2 n2 c2, .slice a3 n3 c3]) (fun v hv => by simp only [List.mem_cons, List.not_mem_nil, or_false] at hv; rcases hv with rfl | rfl | rfl | rfl <;> rfl)) ?_
  refine h _ (gb_sets G _ o w) (hs 0 _ rfl) (hs 1 _ rfl) (hs 2 _ rfl) (hs 3 _ rfl) (fun z hz => ?_) (fun z => by rw [World.frozen?_setCells])
  refine World.cell?_setCells_out G _ o w ⟨G, z, none⟩ (fun _ _ => ?_)
  rcases hz with hz | hz
  · left; exact hz
  · right; exact hz
theorem wpList_st4 {ops : Array Oper} {rest : List Oper} {op : Oper} {a : Act} {w : World} {Q : Exit → Act → World → Prop} {x y : Operand} {G : Nat} {k : Int} {a1 a2 a3 : Option Addr} {n1 c1 n2 c2 n3 c3 : Nat} (hgd : op.guard = none) (ho : op.op = .store 25 x y)
    (hx : a.eval x = .pointer (some ⟨G, 0, none⟩)) (hy : a.eval y = .agg #[.int .i64 k, .slice a1 n1 c1, .slice a2 n2 c2, .slice a3 n3 c3]) (hB : B4 G w)
    (h : ∀ w', w.grownBy w' (some G) → w'.cell? ⟨G, 0, none⟩ = some (.int .i64 k) → w'.cell? ⟨G, 1, none⟩ = some (.slice a1 n1 c1) → w'.cell? ⟨G, 2, none⟩ = some (.slice a2 n2 c2) → w'.cell? ⟨G, 3, none⟩ = some (.slice a3 n3 c3) → wpList Try.prog ops Q rest (a.put op.dst undef) w') : wpList Try.prog ops Q (op :: rest) a w :=
  wpList_plain hgd fun _ hK => wp_st4 ho hx hy hB (fun w' h1 h2 h3 h4 h5 => hK _ _ (h w' h1 h2 h3 h4 h5))
theorem there_gb {g o n : Nat} {w w' : World} {r : Option Nat} (h : w.there g o n) (hg : g < w.heap.size) (hb : w.grownBy w' r) (hr : some g ≠ r) : w'.there g o n := fun j hj => by
  have hbk : w'.heap[g]? = w.heap[g]? := hb.block g hg hr
  exact ⟨by rw [World.cell?_of_block (a := ⟨g, o + j, none⟩) hbk]; exact (h j hj).1, by rw [World.frozen?_of_block (a := ⟨g, o + j, none⟩) hbk]; exact (h j hj).2⟩
structure KB (B gk : Nat) (T : Nat → Nd) (i : Nat) (w : World) : Prop where
  hi : gk < w.heap.size
  t : w.there gk 0 64
  k : ∃ Y : Nat → V4, ∀ j, j < i → (w.cell? ⟨gk, 4 * j, none⟩ = some (Y j).1 ∧ w.cell? ⟨gk, 4 * j + 1, none⟩ = some (Y j).2.1 ∧ w.cell? ⟨gk, 4 * j + 2, none⟩ = some (Y j).2.2.1 ∧ w.cell? ⟨gk, 4 * j + 3, none⟩ = some (Y j).2.2.2) ∧ Nv (B ≤ ·) w (T j) (Y j)
theorem KB_gb {B gk : Nat} {T : Nat → Nd} {i : Nat} {w w' : World} {r : Option Nat} (h : KB B gk T i w) (hb : w.grownBy w' r) (hr : some gk ≠ r) (hB : ∀ k, B ≤ k → some k ≠ r) : KB B gk T i w' := by
  obtain ⟨Y, hY⟩ := h.k
  have hbk : w'.heap[gk]? = w.heap[gk]? := hb.block gk h.hi hr
  refine ⟨Nat.lt_of_lt_of_le h.hi hb.size, there_gb h.t h.hi hb hr, Y, fun j hj => ?_⟩
  obtain ⟨⟨c0, c1, c2, c3⟩, hn⟩ := hY j hj
  exact ⟨⟨(World.cell?_of_block (a := ⟨gk, 4 * j, none⟩) hbk).trans c0, (World.cell?_of_block (a := ⟨gk, 4 * j + 1, none⟩) hbk).trans c1, (World.cell?_of_block (a := ⟨gk, 4 * j + 2, none⟩) hbk).trans c2, (World.cell?_of_block (a := ⟨gk, 4 * j + 3, none⟩) hbk).trans c3⟩, Nv_gb hn hb hB⟩
theorem infoNd2 : (Try.prog.info? 25).map (fun i => (i.zero, i.size, i.bytes)) = some (some (.agg #[.int .i64 0, .slice none 0 0, .slice none 0 0, .slice none 0 0]), 4, 80) := by kernel_rfl
theorem made16 (w : World) : ∃ w', (Instr.makeSlice 23 (.int .i64 16) (.int .i64 16)).run Try.prog w = .ok (.slice (some ⟨w.heap.size, 0, none⟩) 16 16) w' ∧ w'.heap.size = w.heap.size + 1 ∧ w'.there w.heap.size 0 64 ∧ Below w.heap.size w w' := by
  obtain ⟨i0, hi, hz0, hz1, hz2⟩ := info_parts infoNd2
  have hr := run_make (P := Try.prog) w 23 25 i0 _ Try.underlying23 hi hz0 .i64 .i64 16 16 (by omega) (Int.le_refl _) (by rw [hz2]; decide) (by decide)
  refine ⟨_, hr, by simp, fun j hj => ?_, (Below.refl _ _).alloc (Nat.le_refl _) _⟩
  have hn := heap_alloc_new w (.cells (madeCells (Value.agg #[.int .i64 0, .slice none 0 0, .slice none 0 0, .slice none 0 0]).cells ((16 : Int).toNat * i0.size)) 25)
  have hs : j < (madeCells (Value.agg #[.int .i64 0, .slice none 0 0, .slice none 0 0, .slice none 0 0]).cells ((16 : Int).toNat * i0.size)).size := by rw [size_madeCells, hz1]; exact hj
  constructor
  · simp only [World.cell?, hn, Nat.zero_add]
    simp
    exact hs
  · simp only [World.frozen?, hn]
    simp
end Tr
end Go.Proofs.Ythlgneadcagleaa
namespace Go.Proofs.Ythlgneadcagleaa
namespace Tr
open Nb Go.RowKit
def Inv (name : String) (x : Value) (args : Array Value) (w : World) (R : Ending → World → Prop) : Prop := ∃ f vs, (∀ W : World, (callMethod x name args).run Try.prog W = .ok (.enter f vs) W) ∧ Calls Try.prog f vs w R
theorem Inv.mono {name : String} {x : Value} {args : Array Value} {w : World} {R R' : Ending → World → Prop} (h : Inv name x args w R) (hm : ∀ e w', R e w' → R' e w') : Inv name x args w R' := by
  obtain ⟨f, vs, h1, h2⟩ := h
  exact ⟨f, vs, h1, h2.mono hm⟩
theorem wp_inv {o : Oper} {a : Act} {w : World} {K : Act → World → Prop} {Q : Exit → Act → World → Prop} {x : Operand} {name : String} {args : Array Operand} {ats : Array TypeId} {xv : Value} {vs : Array Value} (ho : o.op = .call { callee := .invoke x name, args := args, argTypes := ats }) (hx : a.eval x = xv) (ha : args.map a.eval = vs)
    (h : Inv name xv vs w (fun e w' => ∃ v, e = .returned v ∧ K (a.put o.dst v) w')) : o.wp Try.prog a w K Q := by
  obtain ⟨f, bs, h1, h2⟩ := h
  have he : (execOp a.eval o).run Try.prog w = .ok (.enter f bs) w := by
    unfold execOp
    simp only [ho, resolve, invoke, Sem.run_bind, Sem.run_pure, Result.andThen_ok, hx, ha]
    have e1 : (#[xv] ++ vs)[0]? = some xv := by rw [Array.getElem?_append_left (by simp)]; rfl
    have e2 : (#[xv] ++ vs).extract 1 (#[xv] ++ vs).size = vs := by
      apply Array.ext'
      simp
    simp only [e1, e2, h1 w]
  unfold Oper.wp
  rw [he]
  show Calls _ _ _ _ _
  refine h2.mono ?_
  rintro e w' ⟨v, rfl, hk⟩
  exact hk
theorem wpList_inv {ops : Array Oper} {rest : List Oper} {o : Oper} {a : Act} {w : World} {Q : Exit → Act → World → Prop} {x : Operand} {name : String} {args : Array Operand} {ats : Array TypeId} {xv : Value} {vs : Array Value} (hgd : o.guard = none) (ho : o.op = .call { callee := .invoke x name, args := args, argTypes := ats }) (hx : a.eval x = xv) (ha : args.map a.eval = vs)
    (h : Inv name xv vs w (fun e w' => ∃ v, e = .returned v ∧ wpList Try.prog ops Q rest (a.put o.dst v) w')) : wpList Try.prog ops Q (o :: rest) a w :=
  wpList_plain hgd fun _ hK => wp_inv ho hx ha (h.mono fun _ _ ⟨v, h1, h2⟩ => ⟨v, h1, hK _ _ h2⟩)
theorem pl_none (v : Value) (W : World) : (callMethod (.iface 69 v) "lampbearer/tree.plain" #[]).run Try.prog W = .ok (.enter 104 #[v]) W := by kernel_rfl
theorem pl_leaf (v : Value) (W : World) : (callMethod (.iface 71 v) "lampbearer/tree.plain" #[]).run Try.prog W = .ok (.enter 107 #[v]) W := by kernel_rfl
theorem pl_road (v : Value) (W : World) : (callMethod (.iface 82 v) "lampbearer/tree.plain" #[]).run Try.prog W = .ok (.enter 113 #[v]) W := by kernel_rfl
theorem pl_fork (a : Option Addr) (W : World) : (callMethod (.iface 73 (.pointer a)) "lampbearer/tree.plain" #[]).run Try.prog W = .ok (.enter 110 #[.pointer a]) W := by kernel_rfl
def PN (w : World) (t : Nd) (e : Ending) (w' : World) : Prop := ∃ u : V4, e = .returned (v4 u) ∧ Nv (w.heap.size ≤ ·) w' t u ∧ Below w.heap.size w w'
set_option maxHeartbeats 1000000 in
set_option maxRecDepth 100000 in
theorem plain_none (w : World) : Calls Try.prog 104 #[.agg #[]] w (PN w Nd.no) := by
  have b1 : Below w.heap.size w (w.alloc (.cells #[] 69)) := (Below.refl _ _).alloc (Nat.le_refl _) _
  have hs1 : (w.alloc (.cells #[] 69)).heap.size = w.heap.size + 1 := by simp
  have BV := B4_new (w.alloc (.cells #[] 69))
  have HB : Below w.heap.size w ((w.alloc (.cells #[] 69)).alloc (.cells #[.int .i64 0, .slice none 0 0, .slice none 0 0, .slice none 0 0] 25)) := b1.alloc (by omega) _
  rw [hs1] at BV
  go_enter Try.func104, Try.ntmps104
  go_wp2_with (refine wpList_st4 rfl rfl rfl rfl BV ?_; intro w9 gb9 s0 s1 s2 s3)
  have B9 : Below w.heap.size w w9 := HB.grown gb9 HB.size (fun k e => by injection e with e; omega)
  exact bodyPost_ret (v := .agg #[.int .i64 0, .slice none 0 0, .slice none 0 0, .slice none 0 0]) (resN _ _ _ (w.heap.size + 1) 2 _ _ _ _ rfl rfl s0 s1 s2 s3) rfl ⟨(.int .i64 0, .slice none 0 0, .slice none 0 0, .slice none 0 0), rfl, Nv_no _ _, B9⟩
structure PW2 (w W0 : World) (g2 : Nat) (f : Bool) (wx : World) : Prop where
  a : f = false → Below W0.heap.size W0 wx
  v : f = false → B4 g2 wx
  b : Below w.heap.size w wx
  s : W0.heap.size ≤ wx.heap.size
theorem clone_call {S : Nat → Prop} {p : By} {u : Value} {w : World} (hp : Bs S p u w) (hl : p.length ≤ 4194304) : Calls Try.prog 26 #[u] w fun e w' => ∃ a c, e = .returned (.slice a p.length c) ∧ Bs (w.heap.size ≤ ·) p (.slice a p.length c) w' ∧ Below w.heap.size w w' := by
  refine (clone_bs hp hl).mono fun e w' he => ?_
  obtain ⟨v, h1, h2, h3⟩ := he
  obtain ⟨a, c, rfl, _⟩ := Bs_form h2
  exact ⟨a, c, h1, Bs_mono h2 (fun k hk _ => hk.1), h3⟩
inductive PLI (w W0 : World) (p v : By) (a1 a2 : Option Addr) (n1 c1 n2 c2 g1 g2 : Nat) (d : Nat → Bool) (x : Act) (wx : World) : Prop where
  | mk (u3 u4 u5 u6 u7 u8 u9 : Value) (hx : x = { tmps := #[.agg #[.slice a1 n1 c1, .slice a2 n2 c2], .pointer (some ⟨g1, 0, none⟩), .pointer (some ⟨g2, 0, none⟩), u3, u4, u5, u6, u7, u8, u9], defers := [] }) (hw : PW2 w W0 g2 (d 7) wx) (p0 : d 0 = true → u3 = .pointer (some ⟨g1, 0, none⟩)) (p1 : d 1 = true → u4 = .slice a1 n1 c1) (p3 : d 3 = true → u6 = .pointer (some ⟨g1, 1, none⟩)) (p4 : d 4 = true → u7 = .slice a2 n2 c2) (z2 : d 2 = true → ∃ a c, u5 = .slice a p.length c ∧ Bs (W0.heap.size ≤ ·) p (.slice a p.length c) wx) (z5 : d 5 = true → ∃ a c, u8 = .slice a v.length c ∧ Bs (W0.heap.size ≤ ·) v (.slice a v.length c) wx) (z6 : d 6 = true → ∃ a c b e, u9 = .agg #[.int .i64 1, .slice a p.length c, .slice b v.length e, .slice none 0 0] ∧ Bs (W0.heap.size ≤ ·) p (.slice a p.length c) wx ∧ Bs (W0.heap.size ≤ ·) v (.slice b v.length e) wx) (z7 : d 7 = true → ∃ a c b e, wx.cell? ⟨g2, 0, none⟩ = some (.int .i64 1) ∧ wx.cell? ⟨g2, 1, none⟩ = some (.slice a p.length c) ∧ wx.cell? ⟨g2, 2, none⟩ = some (.slice b v.length e) ∧ wx.cell? ⟨g2, 3, none⟩ = some (.slice none 0 0) ∧ Bs (W0.heap.size ≤ ·) p (.slice a p.length c) wx ∧ Bs (W0.heap.size ≤ ·) v (.slice b v.length e) wx) (yL : d 7 = true → d 1 = true ∧ d 2 = true ∧ d 4 = true ∧ d 5 = true) : PLI w W0 p v  a1 a2 n1 c1 n2 c2 g1 g2 d x wx
set_option maxHeartbeats 4000000 in
set_option maxRecDepth 100000 in
theorem plain_leaf (p v : By) (a1 a2 : Option Addr) (c1 c2 : Nat) (w : World) (S : Nat → Prop) (hp : Bs S p (.slice a1 p.length c1) w) (hv : Bs S v (.slice a2 v.length c2) w) (hpl : p.length ≤ 4194304) (hvl : v.length ≤ 4194304) :
    Calls Try.prog 107 #[.agg #[.slice a1 p.length c1, .slice a2 v.length c2]] w (PN w (.mk 1 p v [])) := by
  have b1 : Below w.heap.size w (w.alloc (.cells #[.slice a1 p.length c1, .slice a2 v.length c2] 71)) := (Below.refl _ _).alloc (Nat.le_refl _) _
  have hs1 : (w.alloc (.cells #[.slice a1 p.length c1, .slice a2 v.length c2] 71)).heap.size = w.heap.size + 1 := by simp
  have b2 : Below (w.alloc (.cells #[.slice a1 p.length c1, .slice a2 v.length c2] 71)).heap.size (w.alloc (.cells #[.slice a1 p.length c1, .slice a2 v.length c2] 71)) ((w.alloc (.cells #[.slice a1 p.length c1, .slice a2 v.length c2] 71)).alloc (.cells #[.int .i64 0, .slice none 0 0, .slice none 0 0, .slice none 0 0] 25)) := (Below.refl _ _).alloc (Nat.le_refl _) _
  have HB : Below w.heap.size w ((w.alloc (.cells #[.slice a1 p.length c1, .slice a2 v.length c2] 71)).alloc (.cells #[.int .i64 0, .slice none 0 0, .slice none 0 0, .slice none 0 0] 25)) := b1.trans (b2.mono b1.size)
  have HA := heap_alloc_new w (.cells #[.slice a1 p.length c1, .slice a2 v.length c2] 71)
  have q0 : (w.alloc (.cells #[.slice a1 p.length c1, .slice a2 v.length c2] 71)).cell? ⟨w.heap.size, 0, none⟩ = some (.slice a1 p.length c1) := by simp only [World.cell?, HA]; rfl
  have q1 : (w.alloc (.cells #[.slice a1 p.length c1, .slice a2 v.length c2] 71)).cell? ⟨w.heap.size, 1, none⟩ = some (.slice a2 v.length c2) := by simp only [World.cell?, HA]; rfl
  have Q0 : Hid (((w.alloc (.cells #[.slice a1 p.length c1, .slice a2 v.length c2] 71)).alloc (.cells #[.int .i64 0, .slice none 0 0, .slice none 0 0, .slice none 0 0] 25)).cell? ⟨w.heap.size, 0, none⟩ = some (.slice a1 p.length c1)) := (b2.cell (p := ⟨w.heap.size, 0, none⟩) (by show w.heap.size < _; omega)).trans q0
  have Q1 : Hid (((w.alloc (.cells #[.slice a1 p.length c1, .slice a2 v.length c2] 71)).alloc (.cells #[.int .i64 0, .slice none 0 0, .slice none 0 0, .slice none 0 0] 25)).cell? ⟨w.heap.size, 1, none⟩ = some (.slice a2 v.length c2)) := (b2.cell (p := ⟨w.heap.size, 1, none⟩) (by show w.heap.size < _; omega)).trans q1
  have BV := B4_new (w.alloc (.cells #[.slice a1 p.length c1, .slice a2 v.length c2] 71))
  rw [hs1] at BV
  have hs2 : ((w.alloc (.cells #[.slice a1 p.length c1, .slice a2 v.length c2] 71)).alloc (.cells #[.int .i64 0, .slice none 0 0, .slice none 0 0, .slice none 0 0] 25)).heap.size = w.heap.size + 1 + 1 := by simp
  have HG1 : Hid (w.heap.size < ((w.alloc (.cells #[.slice a1 p.length c1, .slice a2 v.length c2] 71)).alloc (.cells #[.int .i64 0, .slice none 0 0, .slice none 0 0, .slice none 0 0] 25)).heap.size) := by show _ < _; omega
  have HG2 : Hid (w.heap.size + 1 < ((w.alloc (.cells #[.slice a1 p.length c1, .slice a2 v.length c2] 71)).alloc (.cells #[.int .i64 0, .slice none 0 0, .slice none 0 0, .slice none 0 0] 25)).heap.size) := by show _ < _; omega
  have HG2B : Hid (w.heap.size ≤ w.heap.size + 1) := by show _ ≤ _; omega
  have HGL : Hid (w.heap.size ≤ ((w.alloc (.cells #[.slice a1 p.length c1, .slice a2 v.length c2] 71)).alloc (.cells #[.int .i64 0, .slice none 0 0, .slice none 0 0, .slice none 0 0] 25)).heap.size) := HB.size
  have KC1 : Hid (∀ wx : World, Below ((w.alloc (.cells #[.slice a1 p.length c1, .slice a2 v.length c2] 71)).alloc (.cells #[.int .i64 0, .slice none 0 0, .slice none 0 0, .slice none 0 0] 25)).heap.size ((w.alloc (.cells #[.slice a1 p.length c1, .slice a2 v.length c2] 71)).alloc (.cells #[.int .i64 0, .slice none 0 0, .slice none 0 0, .slice none 0 0] 25)) wx → Calls Try.prog 26 #[.slice a1 p.length c1] wx fun e w' => ∃ a c, e = .returned (.slice a p.length c) ∧ Bs (wx.heap.size ≤ ·) p (.slice a p.length c) w' ∧ Below wx.heap.size wx w') := fun wx hb => clone_call (Bs_below hp (HB.trans (hb.mono HB.size))) hpl
  have KC2 : Hid (∀ wx : World, Below ((w.alloc (.cells #[.slice a1 p.length c1, .slice a2 v.length c2] 71)).alloc (.cells #[.int .i64 0, .slice none 0 0, .slice none 0 0, .slice none 0 0] 25)).heap.size ((w.alloc (.cells #[.slice a1 p.length c1, .slice a2 v.length c2] 71)).alloc (.cells #[.int .i64 0, .slice none 0 0, .slice none 0 0, .slice none 0 0] 25)) wx → Calls Try.prog 26 #[.slice a2 v.length c2] wx fun e w' => ∃ a c, e = .returned (.slice a v.length c) ∧ Bs (wx.heap.size ≤ ·) v (.slice a v.length c) w' ∧ Below wx.heap.size wx w') := fun wx hb => clone_call (Bs_below hv (HB.trans (hb.mono HB.size))) hvl
  clear HA q0 q1 b1 b2 hp hv hpl hvl
  unfold PN
  go_enter Try.func107, Try.ntmps107
  go_upto_region 1 with fail
  clear hs1 hs2
  generalize ((w.alloc (.cells #[.slice a1 p.length c1, .slice a2 v.length c2] 71)).alloc (.cells #[.int .i64 0, .slice none 0 0, .slice none 0 0, .slice none 0 0] 25)) = W1 at *
  have hw0 : PW2 w W1 (w.heap.size + 1) false W1.drew := ⟨fun _ => (Below.refl _ _).drew, fun _ => B4_gb (r := none) BV (gb_below (Below.refl _ _).drew) (fun e => by cases e), HB.drew, Nat.le_refl _⟩
  generalize hg2 : w.heap.size + 1 = g2 at *
  obtain ⟨g1, eg1⟩ : ∃ g1, g1 = w.heap.size := ⟨_, rfl⟩
  rw [← eg1] at Q0 Q1 HG1
  have E1 : Hid (g1 = w.heap.size) := eg1
  rw [← eg1]
  clear eg1
  refine RI.wp_region_inv (PLI w W1 p v  a1 a2 p.length c1 v.length c2 g1 g2) (by kernel_rfl) (by kernel_rfl) ?_ ?_ ?_
  · exact ⟨undef, undef, undef, undef, undef, undef, undef, rfl, hw0, nofun, nofun, nofun, nofun, nofun, nofun, nofun, nofun, nofun⟩
  · skip
    intro d x wx i hI hi hm
    obtain ⟨u3, u4, u5, u6, u7, u8, u9, rfl, hw, p0, p1, p3, p4, z2, z5, z6, z7, yL⟩ := hI
    have hi' : i = 0 ∨ i = 1 ∨ i = 2 ∨ i = 3 ∨ i = 4 ∨ i = 5 ∨ i = 6 ∨ i = 7 := by simp at hi; omega
    have hd := hm.2
    have hf := hm.1
    clear hm hi
    rcases hi' with rfl | rfl | rfl | rfl | rfl | rfl | rfl | rfl
    · refine RI.wpOp_plain rfl rfl ?_
      go_simp
      exact ⟨_, u4, u5, u6, u7, u8, u9, rfl, hw, fun _ => rfl, p1, p3, p4, z2, z5, z6, z7, yL⟩
    · have hd := hd _ rfl
      simp [Region.binds] at hd
      obtain rfl := p0 (by simp [hd])
      refine RI.wpOp_plain rfl rfl ?_
      have hL : d 7 = false := by cases h : d 7 with | false => rfl | true => exact absurd (yL h).1 (by simp [hf])
      have x0 := ((hw.a hL).cell (p := ⟨g1, 0, none⟩) HG1.out).trans Q0.out
      go_simp
      exact ⟨_, _, u5, u6, u7, u8, u9, rfl, hw, p0, fun _ => rfl, p3, p4, z2, z5, z6, z7, (fun h => absurd h (by simp [RI.don, hL]))⟩
    · have hd := hd _ rfl
      simp [Region.binds] at hd
      obtain rfl := p1 (by simp [hd])
      refine RI.wpOp_plain rfl rfl ?_
      have hL : d 7 = false := by cases h : d 7 with | false => rfl | true => exact absurd (yL h).2.1 (by simp [hf])
      have kc := KC1.out _ (hw.a hL)
      go_simp
      refine (kc).mono ?_
      rintro e w1 ⟨a, c, rfl, hs1, hb1⟩
      exact ⟨u3, _, _, u6, u7, u8, u9, rfl, ⟨fun h => (hw.a h).trans (hb1.mono hw.s), fun h => B4_gb (r := none) (hw.v h) (gb_below hb1) (fun e => by cases e), hw.b.trans (hb1.mono hw.b.size), Nat.le_trans hw.s hb1.size⟩, p0, p1, p3, p4, fun _ => ⟨_, _, rfl, Bs_mono hs1 (fun k h _ => Nat.le_trans hw.s h)⟩, (fun h => (z5 h).imp fun a ha => ha.imp fun c hc => ⟨hc.1, Bs_below hc.2 hb1⟩), (fun h => (z6 h).imp fun a ha => ha.imp fun c hc => hc.imp fun b hb => hb.imp fun e he => ⟨he.1, Bs_below he.2.1 hb1, Bs_below he.2.2 hb1⟩), ((fun h => absurd h (by simp [RI.don, hL]))), (fun h => absurd h (by simp [RI.don, hL]))⟩
    · refine RI.wpOp_plain rfl rfl ?_
      go_simp
      exact ⟨u3, u4, u5, _, u7, u8, u9, rfl, hw, p0, p1, fun _ => rfl, p4, z2, z5, z6, z7, yL⟩
    · have hd := hd _ rfl
      simp [Region.binds] at hd
      obtain rfl := p3 (by simp [hd])
      refine RI.wpOp_plain rfl rfl ?_
      have hL : d 7 = false := by cases h : d 7 with | false => rfl | true => exact absurd (yL h).2.2.1 (by simp [hf])
      have x0 := ((hw.a hL).cell (p := ⟨g1, 1, none⟩) HG1.out).trans Q1.out
      go_simp
      exact ⟨u3, u4, u5, _, _, u8, u9, rfl, hw, p0, p1, p3, fun _ => rfl, z2, z5, z6, z7, (fun h => absurd h (by simp [RI.don, hL]))⟩
    · have hd := hd _ rfl
      simp [Region.binds] at hd
      obtain rfl := p4 (by simp [hd])
      refine RI.wpOp_plain rfl rfl ?_
      have hL : d 7 = false := by cases h : d 7 with | false => rfl | true => exact absurd (yL h).2.2.2 (by simp [hf])
      have kc := KC2.out _ (hw.a hL)
      go_simp
      refine (kc).mono ?_
      rintro e w1 ⟨a, c, rfl, hs1, hb1⟩
      exact ⟨u3, u4, u5, u6, _, _, u9, rfl, ⟨fun h => (hw.a h).trans (hb1.mono hw.s), fun h => B4_gb (r := none) (hw.v h) (gb_below hb1) (fun e => by cases e), hw.b.trans (hb1.mono hw.b.size), Nat.le_trans hw.s hb1.size⟩, p0, p1, p3, p4, (fun h => (z2 h).imp fun a ha => ha.imp fun c hc => ⟨hc.1, Bs_below hc.2 hb1⟩), fun _ => ⟨_, _, rfl, Bs_mono hs1 (fun k h _ => Nat.le_trans hw.s h)⟩, (fun h => (z6 h).imp fun a ha => ha.imp fun c hc => hc.imp fun b hb => hb.imp fun e he => ⟨he.1, Bs_below he.2.1 hb1, Bs_below he.2.2 hb1⟩), ((fun h => absurd h (by simp [RI.don, hL]))), (fun h => absurd h (by simp [RI.don, hL]))⟩
    · have hd := hd _ rfl
      simp [Region.binds] at hd
      refine RI.wpOp_plain rfl rfl ?_
      obtain ⟨qa, qc, rfl, hb6⟩ := z2 (by simp [hd])
      obtain ⟨ra, rc, rfl, hb7⟩ := z5 (by simp [hd])
      go_simp
      exact ⟨u3, u4, _, u6, u7, _, _, rfl, hw, p0, p1, p3, p4, z2, z5, fun _ => ⟨_, _, _, _, rfl, hb6, hb7⟩, z7, yL⟩
    · have hd := hd _ rfl
      simp [Region.binds] at hd
      obtain rfl := p0 (by simp [hd])
      obtain rfl := p1 (by simp [hd])
      obtain rfl := p3 (by simp [hd])
      obtain rfl := p4 (by simp [hd])
      refine RI.wpOp_plain rfl rfl ?_
      obtain ⟨qa, qc, ra, rc, rfl, hb6, hb7⟩ := z6 (by simp [hd])
      refine wp_st4 rfl rfl rfl (hw.v hf) ?_
      intro w1 gb1 s0 s1 s2 s3
      have NE : ∀ k, W1.heap.size ≤ k → some k ≠ some g2 := fun k hk e => by injection e with e; have := HG2.out; omega
      simp only [Act.put]
      exact ⟨_, _, u5, _, _, u8, _, rfl, ⟨nofun, nofun, hw.b.grown gb1 hw.b.size (fun k e => by injection e with e; have := HG2B.out; omega), Nat.le_trans hw.s gb1.size⟩, p0, p1, p3, p4, fun h => (z2 h).imp fun a ha => ha.imp fun c hc => ⟨hc.1, Bs_gb hc.2 gb1 NE⟩, fun h => (z5 h).imp fun a ha => ha.imp fun c hc => ⟨hc.1, Bs_gb hc.2 gb1 NE⟩, fun _ => ⟨_, _, _, _, rfl, Bs_gb hb6 gb1 NE, Bs_gb hb7 gb1 NE⟩, fun _ => ⟨_, _, _, _, s0, s1, s2, s3, Bs_gb hb6 gb1 NE, Bs_gb hb7 gb1 NE⟩, fun _ => ⟨by simp [RI.don, hd], by simp [RI.don, hd], by simp [RI.don, hd], by simp [RI.don, hd]⟩⟩
  · skip
    intro d x wx hI hd
    obtain ⟨u3, u4, u5, u6, u7, u8, u9, rfl, hw, p0, p1, p3, p4, z2, z5, z6, z7, yL⟩ := hI
    obtain ⟨qa, qc, ra, rc, s0, s1, s2, s3, t1, t2⟩ := z7 (hd 7 (by decide))
    have N : Hid (Nv (w.heap.size ≤ ·) wx (.mk 1 p v []) (.int .i64 1, .slice qa p.length qc, .slice ra v.length rc, .slice none 0 0)) := .mk 1 p v [] _ _ _ [] (Bs_mono t1 (fun k h _ => Nat.le_trans HGL.out h)) (Bs_mono t2 (fun k h _ => Nat.le_trans HGL.out h)) rfl (Ks_nil _ _) (fun j hj => absurd hj (by simp))
    have HBW : Hid (Below w.heap.size w wx) := hw.b
    clear hw t1 t2 p0 p1 p3 p4 z2 z5 z6 z7 yL
    go_wp2_with fail
    exact bodyPost_ret (v := .agg #[.int .i64 1, .slice qa p.length qc, .slice ra v.length rc, .slice none 0 0]) (resN _ _ _ g2 2 _ _ _ _ rfl rfl s0 s1 s2 s3) rfl ⟨(.int .i64 1, .slice qa p.length qc, .slice ra v.length rc, .slice none 0 0), rfl, by first | exact N.out | (rw [E1.out]; exact N.out), by first | exact HBW.out | (rw [E1.out]; exact HBW.out)⟩
inductive PRI (w W0 : World) (p : By) (t : Nd) (a1 : Option Addr) (n1 c1 gk g1 g2 : Nat) (d : Nat → Bool) (x : Act) (wx : World) : Prop where
  | mk (u3 u4 u5 u6 u7 u8 u9 u10 : Value) (hx : x = { tmps := #[.agg #[.slice a1 n1 c1, .pointer (some ⟨gk, 0, none⟩)], .pointer (some ⟨g1, 0, none⟩), .pointer (some ⟨g2, 0, none⟩), u3, u4, u5, u6, u7, u8, u9, u10], defers := [] }) (hw : PW2 w W0 g2 (d 8) wx) (p0 : d 0 = true → u3 = .pointer (some ⟨g1, 0, none⟩)) (p1 : d 1 = true → u4 = .slice a1 n1 c1) (p3 : d 3 = true → u6 = .pointer (some ⟨g1, 1, none⟩)) (p4 : d 4 = true → u7 = .pointer (some ⟨gk, 0, none⟩)) (z2 : d 2 = true → ∃ a c, u5 = .slice a p.length c ∧ Bs (W0.heap.size ≤ ·) p (.slice a p.length c) wx) (z5 : d 5 = true → ∃ y, u8 = v4 y ∧ Nv (W0.heap.size ≤ ·) wx t y) (z6 : d 6 = true → ∃ a c y, u9 = .slice a 1 c ∧ Ks (W0.heap.size ≤ ·) [y] u9 wx ∧ Nv (W0.heap.size ≤ ·) wx t y) (z7 : d 7 = true → ∃ a1 c1 a3 c3 y, u10 = .agg #[.int .i64 2, .slice a1 p.length c1, .slice none 0 0, .slice a3 1 c3] ∧ Bs (W0.heap.size ≤ ·) p (.slice a1 p.length c1) wx ∧ Ks (W0.heap.size ≤ ·) [y] (.slice a3 1 c3) wx ∧ Nv (W0.heap.size ≤ ·) wx t y) (z8 : d 8 = true → ∃ a1 c1 a3 c3 y, wx.cell? ⟨g2, 0, none⟩ = some (.int .i64 2) ∧ wx.cell? ⟨g2, 1, none⟩ = some (.slice a1 p.length c1) ∧ wx.cell? ⟨g2, 2, none⟩ = some (.slice none 0 0) ∧ wx.cell? ⟨g2, 3, none⟩ = some (.slice a3 1 c3) ∧ Bs (W0.heap.size ≤ ·) p (.slice a1 p.length c1) wx ∧ Ks (W0.heap.size ≤ ·) [y] (.slice a3 1 c3) wx ∧ Nv (W0.heap.size ≤ ·) wx t y) (yL : d 8 = true → d 1 = true ∧ d 2 = true ∧ d 4 = true ∧ d 5 = true ∧ d 6 = true) : PRI w W0 p  t a1  n1 c1 gk g1 g2 d x wx
set_option maxHeartbeats 4000000 in
set_option maxRecDepth 100000 in
theorem plain_road (p : By) (t : Nd) (a1 : Option Addr) (c1 gk : Nat) (w : World) (S : Nat → Prop) (hp : Bs S p (.slice a1 p.length c1) w) (hpl : p.length ≤ 4194304) (KF0 : ∀ wx : World, Below w.heap.size w wx → Calls Try.prog 110 #[.pointer (some ⟨gk, 0, none⟩)] wx (PN wx t)) :
    Calls Try.prog 113 #[.agg #[.slice a1 p.length c1, .pointer (some ⟨gk, 0, none⟩)]] w (PN w (.mk 2 p [] [t])) := by
  have b1 : Below w.heap.size w (w.alloc (.cells #[.slice a1 p.length c1, .pointer (some ⟨gk, 0, none⟩)] 82)) := (Below.refl _ _).alloc (Nat.le_refl _) _
  have hs1 : (w.alloc (.cells #[.slice a1 p.length c1, .pointer (some ⟨gk, 0, none⟩)] 82)).heap.size = w.heap.size + 1 := by simp
  have b2 : Below (w.alloc (.cells #[.slice a1 p.length c1, .pointer (some ⟨gk, 0, none⟩)] 82)).heap.size (w.alloc (.cells #[.slice a1 p.length c1, .pointer (some ⟨gk, 0, none⟩)] 82)) ((w.alloc (.cells #[.slice a1 p.length c1, .pointer (some ⟨gk, 0, none⟩)] 82)).alloc (.cells #[.int .i64 0, .slice none 0 0, .slice none 0 0, .slice none 0 0] 25)) := (Below.refl _ _).alloc (Nat.le_refl _) _
  have HB : Below w.heap.size w ((w.alloc (.cells #[.slice a1 p.length c1, .pointer (some ⟨gk, 0, none⟩)] 82)).alloc (.cells #[.int .i64 0, .slice none 0 0, .slice none 0 0, .slice none 0 0] 25)) := b1.trans (b2.mono b1.size)
  have HA := heap_alloc_new w (.cells #[.slice a1 p.length c1, .pointer (some ⟨gk, 0, none⟩)] 82)
  have q0 : (w.alloc (.cells #[.slice a1 p.length c1, .pointer (some ⟨gk, 0, none⟩)] 82)).cell? ⟨w.heap.size, 0, none⟩ = some (.slice a1 p.length c1) := by simp only [World.cell?, HA]; rfl
  have q1 : (w.alloc (.cells #[.slice a1 p.length c1, .pointer (some ⟨gk, 0, none⟩)] 82)).cell? ⟨w.heap.size, 1, none⟩ = some (.pointer (some ⟨gk, 0, none⟩)) := by simp only [World.cell?, HA]; rfl
  have Q0 : Hid (((w.alloc (.cells #[.slice a1 p.length c1, .pointer (some ⟨gk, 0, none⟩)] 82)).alloc (.cells #[.int .i64 0, .slice none 0 0, .slice none 0 0, .slice none 0 0] 25)).cell? ⟨w.heap.size, 0, none⟩ = some (.slice a1 p.length c1)) := (b2.cell (p := ⟨w.heap.size, 0, none⟩) (by show w.heap.size < _; omega)).trans q0
  have Q1 : Hid (((w.alloc (.cells #[.slice a1 p.length c1, .pointer (some ⟨gk, 0, none⟩)] 82)).alloc (.cells #[.int .i64 0, .slice none 0 0, .slice none 0 0, .slice none 0 0] 25)).cell? ⟨w.heap.size, 1, none⟩ = some (.pointer (some ⟨gk, 0, none⟩))) := (b2.cell (p := ⟨w.heap.size, 1, none⟩) (by show w.heap.size < _; omega)).trans q1
  have BV := B4_new (w.alloc (.cells #[.slice a1 p.length c1, .pointer (some ⟨gk, 0, none⟩)] 82))
  rw [hs1] at BV
  have hs2 : ((w.alloc (.cells #[.slice a1 p.length c1, .pointer (some ⟨gk, 0, none⟩)] 82)).alloc (.cells #[.int .i64 0, .slice none 0 0, .slice none 0 0, .slice none 0 0] 25)).heap.size = w.heap.size + 1 + 1 := by simp
  have HG1 : Hid (w.heap.size < ((w.alloc (.cells #[.slice a1 p.length c1, .pointer (some ⟨gk, 0, none⟩)] 82)).alloc (.cells #[.int .i64 0, .slice none 0 0, .slice none 0 0, .slice none 0 0] 25)).heap.size) := by show _ < _; omega
  have HG2 : Hid (w.heap.size + 1 < ((w.alloc (.cells #[.slice a1 p.length c1, .pointer (some ⟨gk, 0, none⟩)] 82)).alloc (.cells #[.int .i64 0, .slice none 0 0, .slice none 0 0, .slice none 0 0] 25)).heap.size) := by show _ < _; omega
  have HG2B : Hid (w.heap.size ≤ w.heap.size + 1) := by show _ ≤ _; omega
  have HGL : Hid (w.heap.size ≤ ((w.alloc (.cells #[.slice a1 p.length c1, .pointer (some ⟨gk, 0, none⟩)] 82)).alloc (.cells #[.int .i64 0, .slice none 0 0, .slice none 0 0, .slice none 0 0] 25)).heap.size) := HB.size
  have KC1 : Hid (∀ wx : World, Below ((w.alloc (.cells #[.slice a1 p.length c1, .pointer (some ⟨gk, 0, none⟩)] 82)).alloc (.cells #[.int .i64 0, .slice none 0 0, .slice none 0 0, .slice none 0 0] 25)).heap.size ((w.alloc (.cells #[.slice a1 p.length c1, .pointer (some ⟨gk, 0, none⟩)] 82)).alloc (.cells #[.int .i64 0, .slice none 0 0, .slice none 0 0, .slice none 0 0] 25)) wx → Calls Try.prog 26 #[.slice a1 p.length c1] wx fun e w' => ∃ a c, e = .returned (.slice a p.length c) ∧ Bs (wx.heap.size ≤ ·) p (.slice a p.length c) w' ∧ Below wx.heap.size wx w') := fun wx hb => clone_call (Bs_below hp (HB.trans (hb.mono HB.size))) hpl
  have KC2 : Hid (∀ wx : World, Below ((w.alloc (.cells #[.slice a1 p.length c1, .pointer (some ⟨gk, 0, none⟩)] 82)).alloc (.cells #[.int .i64 0, .slice none 0 0, .slice none 0 0, .slice none 0 0] 25)).heap.size ((w.alloc (.cells #[.slice a1 p.length c1, .pointer (some ⟨gk, 0, none⟩)] 82)).alloc (.cells #[.int .i64 0, .slice none 0 0, .slice none 0 0, .slice none 0 0] 25)) wx → Calls Try.prog 110 #[.pointer (some ⟨gk, 0, none⟩)] wx fun e w' => ∃ y : V4, e = .returned (v4 y) ∧ Nv (wx.heap.size ≤ ·) w' t y ∧ Below wx.heap.size wx w') := fun wx hb => KF0 wx (HB.trans (hb.mono HB.size))
  clear HA q0 q1 b1 b2 hp hpl KF0
  unfold PN
  go_enter Try.func113, Try.ntmps113
  go_upto_region 1 with fail
  clear hs1 hs2
  generalize ((w.alloc (.cells #[.slice a1 p.length c1, .pointer (some ⟨gk, 0, none⟩)] 82)).alloc (.cells #[.int .i64 0, .slice none 0 0, .slice none 0 0, .slice none 0 0] 25)) = W1 at *
  have hw0 : PW2 w W1 (w.heap.size + 1) false W1.drew := ⟨fun _ => (Below.refl _ _).drew, fun _ => B4_gb (r := none) BV (gb_below (Below.refl _ _).drew) (fun e => by cases e), HB.drew, Nat.le_refl _⟩
  generalize hg2 : w.heap.size + 1 = g2 at *
  obtain ⟨g1, eg1⟩ : ∃ g1, g1 = w.heap.size := ⟨_, rfl⟩
  rw [← eg1] at Q0 Q1 HG1
  have E1 : Hid (g1 = w.heap.size) := eg1
  rw [← eg1]
  clear eg1
  refine RI.wp_region_inv (PRI w W1 p  t a1  p.length c1 gk g1 g2) (by kernel_rfl) (by kernel_rfl) ?_ ?_ ?_
  · exact ⟨undef, undef, undef, undef, undef, undef, undef, undef, rfl, hw0, nofun, nofun, nofun, nofun, nofun, nofun, nofun, nofun, nofun, nofun⟩
  · skip
    intro d x wx i hI hi hm
    obtain ⟨u3, u4, u5, u6, u7, u8, u9, u10, rfl, hw, p0, p1, p3, p4, z2, z5, z6, z7, z8, yL⟩ := hI
    have hi' : i = 0 ∨ i = 1 ∨ i = 2 ∨ i = 3 ∨ i = 4 ∨ i = 5 ∨ i = 6 ∨ i = 7 ∨ i = 8 := by simp at hi; omega
    have hd := hm.2
    have hf := hm.1
    clear hm hi
    rcases hi' with rfl | rfl | rfl | rfl | rfl | rfl | rfl | rfl | rfl
    · refine RI.wpOp_plain rfl rfl ?_
      go_simp
      exact ⟨_, u4, u5, u6, u7, u8, u9, u10, rfl, hw, fun _ => rfl, p1, p3, p4, z2, z5, z6, z7, z8, yL⟩
    · have hd := hd _ rfl
      simp [Region.binds] at hd
      obtain rfl := p0 (by simp [hd])
      refine RI.wpOp_plain rfl rfl ?_
      have hL : d 8 = false := by cases h : d 8 with | false => rfl | true => exact absurd (yL h).1 (by simp [hf])
      have x0 := ((hw.a hL).cell (p := ⟨g1, 0, none⟩) HG1.out).trans Q0.out
      go_simp
      exact ⟨_, _, u5, u6, u7, u8, u9, u10, rfl, hw, p0, fun _ => rfl, p3, p4, z2, z5, z6, z7, z8, (fun h => absurd h (by simp [RI.don, hL]))⟩
    · have hd := hd _ rfl
      simp [Region.binds] at hd
      obtain rfl := p1 (by simp [hd])
      refine RI.wpOp_plain rfl rfl ?_
      have hL : d 8 = false := by cases h : d 8 with | false => rfl | true => exact absurd (yL h).2.1 (by simp [hf])
      have kc := KC1.out _ (hw.a hL)
      go_simp
      refine (kc).mono ?_
      rintro e w1 ⟨a, c, rfl, hs1, hb1⟩
      exact ⟨u3, _, _, u6, u7, u8, u9, u10, rfl, ⟨fun h => (hw.a h).trans (hb1.mono hw.s), fun h => B4_gb (r := none) (hw.v h) (gb_below hb1) (fun e => by cases e), hw.b.trans (hb1.mono hw.b.size), Nat.le_trans hw.s hb1.size⟩, p0, p1, p3, p4, fun _ => ⟨_, _, rfl, Bs_mono hs1 (fun k h _ => Nat.le_trans hw.s h)⟩, (fun h => (z5 h).imp fun y hy => ⟨hy.1, Nv_below hy.2 hb1⟩), (fun h => (z6 h).imp fun a ha => ha.imp fun c hc => hc.imp fun y hy => ⟨hy.1, Ks_below hy.2.1 hb1, Nv_below hy.2.2 hb1⟩), (fun h => (z7 h).imp fun a ha => ha.imp fun c hc => hc.imp fun b hb => hb.imp fun e he => he.imp fun y hy => ⟨hy.1, Bs_below hy.2.1 hb1, Ks_below hy.2.2.1 hb1, Nv_below hy.2.2.2 hb1⟩), ((fun h => absurd h (by simp [RI.don, hL]))), (fun h => absurd h (by simp [RI.don, hL]))⟩
    · refine RI.wpOp_plain rfl rfl ?_
      go_simp
      exact ⟨u3, u4, u5, _, u7, u8, u9, u10, rfl, hw, p0, p1, fun _ => rfl, p4, z2, z5, z6, z7, z8, yL⟩
    · have hd := hd _ rfl
      simp [Region.binds] at hd
      obtain rfl := p3 (by simp [hd])
      refine RI.wpOp_plain rfl rfl ?_
      have hL : d 8 = false := by cases h : d 8 with | false => rfl | true => exact absurd (yL h).2.2.1 (by simp [hf])
      have x0 := ((hw.a hL).cell (p := ⟨g1, 1, none⟩) HG1.out).trans Q1.out
      go_simp
      exact ⟨u3, u4, u5, _, _, u8, u9, u10, rfl, hw, p0, p1, p3, fun _ => rfl, z2, z5, z6, z7, z8, (fun h => absurd h (by simp [RI.don, hL]))⟩
    · have hd := hd _ rfl
      simp [Region.binds] at hd
      obtain rfl := p4 (by simp [hd])
      refine RI.wpOp_plain rfl rfl ?_
      have hL : d 8 = false := by cases h : d 8 with | false => rfl | true => exact absurd (yL h).2.2.2.1 (by simp [hf])
      have kc := KC2.out _ (hw.a hL)
      go_simp
      refine (kc).mono ?_
      rintro e w1 ⟨y, rfl, hy, hb1⟩
      exact ⟨u3, u4, u5, u6, _, _, u9, u10, rfl, ⟨fun h => (hw.a h).trans (hb1.mono hw.s), fun h => B4_gb (r := none) (hw.v h) (gb_below hb1) (fun e => by cases e), hw.b.trans (hb1.mono hw.b.size), Nat.le_trans hw.s hb1.size⟩, p0, p1, p3, p4, (fun h => (z2 h).imp fun a ha => ha.imp fun c hc => ⟨hc.1, Bs_below hc.2 hb1⟩), fun _ => ⟨y, rfl, Nv_mono hy (fun k h _ => Nat.le_trans hw.s h)⟩, (fun h => (z6 h).imp fun a ha => ha.imp fun c hc => hc.imp fun y hy => ⟨hy.1, Ks_below hy.2.1 hb1, Nv_below hy.2.2 hb1⟩), (fun h => (z7 h).imp fun a ha => ha.imp fun c hc => hc.imp fun b hb => hb.imp fun e he => he.imp fun y hy => ⟨hy.1, Bs_below hy.2.1 hb1, Ks_below hy.2.2.1 hb1, Nv_below hy.2.2.2 hb1⟩), ((fun h => absurd h (by simp [RI.don, hL]))), (fun h => absurd h (by simp [RI.don, hL]))⟩
    · have hd := hd _ rfl
      simp [Region.binds] at hd
      refine RI.wpOp_plain rfl rfl ?_
      have hL : d 8 = false := by cases h : d 8 with | false => rfl | true => exact absurd (yL h).2.2.2.2 (by simp [hf])
      obtain ⟨y, rfl, hy⟩ := z5 (by simp [hd])
      obtain ⟨yk, b1, m1, e1, b2, m2, e2, b3, m3, e3, rfl⟩ := Nv_form hy
      dsimp only [v4]
      have hb1 : Below wx.heap.size wx (wx.alloc (.cells #[.int .i64 yk, .slice b1 m1 e1, .slice b2 m2 e2, .slice b3 m3 e3] 25)) := (Below.refl _ _).alloc (Nat.le_refl _) _
      go_simp
      exact ⟨u3, u4, u5, u6, u7, _, _, u10, rfl, ⟨fun h => (hw.a h).trans (hb1.mono hw.s), fun h => B4_gb (r := none) (hw.v h) (gb_below hb1) (fun e => by cases e), hw.b.trans (hb1.mono hw.b.size), Nat.le_trans hw.s hb1.size⟩, p0, p1, p3, p4, (fun h => (z2 h).imp fun a ha => ha.imp fun c hc => ⟨hc.1, Bs_below hc.2 hb1⟩), (fun h => (z5 h).imp fun y hy => ⟨hy.1, Nv_below hy.2 hb1⟩), fun _ => ⟨_, _, _, rfl, ks_lit hw.s, Nv_below hy hb1⟩, (fun h => (z7 h).imp fun a ha => ha.imp fun c hc => hc.imp fun b hb => hb.imp fun e he => he.imp fun y hy => ⟨hy.1, Bs_below hy.2.1 hb1, Ks_below hy.2.2.1 hb1, Nv_below hy.2.2.2 hb1⟩), ((fun h => absurd h (by simp [RI.don, hL]))), (fun h => absurd h (by simp [RI.don, hL]))⟩
    · have hd := hd _ rfl
      simp [Region.binds] at hd
      refine RI.wpOp_plain rfl rfl ?_
      obtain ⟨qa, qc, rfl, hb6⟩ := z2 (by simp [hd])
      obtain ⟨ra, rc, y, rfl, hk11, hn11⟩ := z6 (by simp [hd])
      go_simp
      exact ⟨u3, u4, _, u6, u7, u8, _, _, rfl, hw, p0, p1, p3, p4, z2, z5, z6, fun _ => ⟨_, _, _, _, _, rfl, hb6, hk11, hn11⟩, z8, yL⟩
    · have hd := hd _ rfl
      simp [Region.binds] at hd
      obtain rfl := p0 (by simp [hd])
      obtain rfl := p1 (by simp [hd])
      obtain rfl := p3 (by simp [hd])
      obtain rfl := p4 (by simp [hd])
      refine RI.wpOp_plain rfl rfl ?_
      obtain ⟨qa, qc, ra, rc, y, rfl, hb6, hk11, hn11⟩ := z7 (by simp [hd])
      refine wp_st4 rfl rfl rfl (hw.v hf) ?_
      intro w1 gb1 s0 s1 s2 s3
      have NE : ∀ k, W1.heap.size ≤ k → some k ≠ some g2 := fun k hk e => by injection e with e; have := HG2.out; omega
      simp only [Act.put]
      exact ⟨_, _, u5, _, _, u8, u9, _, rfl, ⟨nofun, nofun, hw.b.grown gb1 hw.b.size (fun k e => by injection e with e; have := HG2B.out; omega), Nat.le_trans hw.s gb1.size⟩, p0, p1, p3, p4, fun h => (z2 h).imp fun a ha => ha.imp fun c hc => ⟨hc.1, Bs_gb hc.2 gb1 NE⟩, fun h => (z5 h).imp fun y hy => ⟨hy.1, Nv_gb hy.2 gb1 NE⟩, fun h => (z6 h).imp fun a ha => ha.imp fun c hc => hc.imp fun y hy => ⟨hy.1, Ks_gb hy.2.1 gb1 NE, Nv_gb hy.2.2 gb1 NE⟩, fun _ => ⟨_, _, _, _, _, rfl, Bs_gb hb6 gb1 NE, Ks_gb hk11 gb1 NE, Nv_gb hn11 gb1 NE⟩, fun _ => ⟨_, _, _, _, _, s0, s1, s2, s3, Bs_gb hb6 gb1 NE, Ks_gb hk11 gb1 NE, Nv_gb hn11 gb1 NE⟩, fun _ => ⟨by simp [RI.don, hd], by simp [RI.don, hd], by simp [RI.don, hd], by simp [RI.don, hd], by simp [RI.don, hd]⟩⟩
  · skip
    intro d x wx hI hd
    obtain ⟨u3, u4, u5, u6, u7, u8, u9, u10, rfl, hw, p0, p1, p3, p4, z2, z5, z6, z7, z8, yL⟩ := hI
    obtain ⟨qa, qc, ra, rc, y, s0, s1, s2, s3, t1, t2, t3⟩ := z8 (hd 8 (by decide))
    have N : Hid (Nv (w.heap.size ≤ ·) wx (.mk 2 p [] [t]) (.int .i64 2, .slice qa p.length qc, .slice none 0 0, .slice ra 1 rc)) := .mk 2 p [] [t] _ _ _ [y] (Bs_mono t1 (fun k h _ => Nat.le_trans HGL.out h)) (Bs_nil _ _) rfl (Ks_mono t2 (fun k h _ => Nat.le_trans HGL.out h)) (fun j hj => by
      have e : j = 0 := by simpa using hj
      subst e
      exact Nv_mono t3 (fun k h _ => Nat.le_trans HGL.out h))
    have HBW : Hid (Below w.heap.size w wx) := hw.b
    clear hw t1 t2 t3 p0 p1 p3 p4 z2 z5 z6 z7 z8 yL
    go_wp2_with fail
    exact bodyPost_ret (v := .agg #[.int .i64 2, .slice qa p.length qc, .slice none 0 0, .slice ra 1 rc]) (resN _ _ _ g2 2 _ _ _ _ rfl rfl s0 s1 s2 s3) rfl ⟨(.int .i64 2, .slice qa p.length qc, .slice none 0 0, .slice ra 1 rc), rfl, by first | exact N.out | (rw [E1.out]; exact N.out), by first | exact HBW.out | (rw [E1.out]; exact HBW.out)⟩
end Tr
end Go.Proofs.Ythlgneadcagleaa
namespace Go.Proofs.Ythlgneadcagleaa
namespace Tr
open Nb Go.RowKit
theorem ge_none (v p : Value) (W : World) : (callMethod (.iface 69 v) "lampbearer/tree.get" #[p]).run Try.prog W = .ok (.enter 103 #[v, p]) W := by kernel_rfl
theorem ge_leaf (v p : Value) (W : World) : (callMethod (.iface 71 v) "lampbearer/tree.get" #[p]).run Try.prog W = .ok (.enter 106 #[v, p]) W := by kernel_rfl
theorem ge_road (v p : Value) (W : World) : (callMethod (.iface 82 v) "lampbearer/tree.get" #[p]).run Try.prog W = .ok (.enter 112 #[v, p]) W := by kernel_rfl
theorem ge_fork (a : Option Addr) (p : Value) (W : World) : (callMethod (.iface 73 (.pointer a)) "lampbearer/tree.get" #[p]).run Try.prog W = .ok (.enter 109 #[.pointer a, p]) W := by kernel_rfl
def GV2 (lo : Nat) (w : World) (b : By) (e : Ending) (w' : World) : Prop := ∃ a c, e = .returned (.slice a b.length c) ∧ Bs (Sb lo w') b (.slice a b.length c) w' ∧ Below w.heap.size w w'
set_option maxHeartbeats 1000000 in
set_option maxRecDepth 100000 in
theorem get_none (lo : Nat) (pv : Value) (w : World) : Calls Try.prog 103 #[.agg #[], pv] w (GV2 lo w []) := by
  have HB : Below w.heap.size w (w.alloc (.cells #[] 69)) := (Below.refl _ _).alloc (Nat.le_refl _) _
  unfold GV2
  go_enter Try.func103, Try.ntmps103
  go_wp2_with fail
  go_ret
  exact ⟨none, 0, rfl, Bs_nil _ _, HB⟩
set_option maxHeartbeats 1000000 in
set_option maxRecDepth 100000 in
theorem get_leaf (lo : Nat) (p v q : By) (a1 a2 a3 : Option Addr) (c1 c2 c3 : Nat) (w : World) (hp : Bs (Sb lo w) p (.slice a1 p.length c1) w) (hv : Bs (Sb lo w) v (.slice a2 v.length c2) w) (hq : Bs (Sb lo w) q (.slice a3 q.length c3) w) :
    Calls Try.prog 106 #[.agg #[.slice a1 p.length c1, .slice a2 v.length c2], .slice a3 q.length c3] w (GV2 lo w (if q = p then v else [])) := by
  have HB : Below w.heap.size w (w.alloc (.cells #[.slice a1 p.length c1, .slice a2 v.length c2] 71)) := (Below.refl _ _).alloc (Nat.le_refl _) _
  have HA := heap_alloc_new w (.cells #[.slice a1 p.length c1, .slice a2 v.length c2] 71)
  have q0 : (w.alloc (.cells #[.slice a1 p.length c1, .slice a2 v.length c2] 71)).cell? ⟨w.heap.size, 0, none⟩ = some (.slice a1 p.length c1) := by simp only [World.cell?, HA]; rfl
  have q1 : (w.alloc (.cells #[.slice a1 p.length c1, .slice a2 v.length c2] 71)).cell? ⟨w.heap.size, 1, none⟩ = some (.slice a2 v.length c2) := by simp only [World.cell?, HA]; rfl
  have hch := ch_below (lo := lo) (G := fun _ => False) HB
  have KE := equal_bs (Bs_ch hp hch) (Bs_ch hq hch)
  have HV : Hid (Bs (Sb lo (w.alloc (.cells #[.slice a1 p.length c1, .slice a2 v.length c2] 71))) v (.slice a2 v.length c2) (w.alloc (.cells #[.slice a1 p.length c1, .slice a2 v.length c2] 71))) := Bs_ch hv hch
  have HBB : Hid (Below w.heap.size w (w.alloc (.cells #[.slice a1 p.length c1, .slice a2 v.length c2] 71))) := HB
  unfold GV2
  by_cases e : q = p
  · rw [if_pos e]
    rw [show (p == q) = true from beq_iff_eq.2 e.symm] at KE
    have KE2 : Hid (Calls Try.prog 45 #[.slice a1 p.length c1, .slice a3 q.length c3] (w.alloc (.cells #[.slice a1 p.length c1, .slice a2 v.length c2] 71)) fun e w' => e = .returned (.bool true) ∧ w' = (w.alloc (.cells #[.slice a1 p.length c1, .slice a2 v.length c2] 71))) := KE
    clear HA hch KE hp hv hq e HB
    generalize p.length = n1 at *
    generalize q.length = n3 at *
    go_enter Try.func106, Try.ntmps106
    go_wp2_with fail
    refine KE2.out.mono ?_
    rintro e w1 ⟨rfl, rfl⟩
    go_wp2_with fail
    go_ret
    exact ⟨a2, c2, rfl, HV.out, HBB.out⟩
  · rw [if_neg e]
    rw [show (p == q) = false from beq_eq_false_iff_ne.2 (fun h => e h.symm)] at KE
    have KE2 : Hid (Calls Try.prog 45 #[.slice a1 p.length c1, .slice a3 q.length c3] (w.alloc (.cells #[.slice a1 p.length c1, .slice a2 v.length c2] 71)) fun e w' => e = .returned (.bool false) ∧ w' = (w.alloc (.cells #[.slice a1 p.length c1, .slice a2 v.length c2] 71))) := KE
    clear HA hch KE hp hv hq e HB
    generalize p.length = n1 at *
    generalize q.length = n3 at *
    go_enter Try.func106, Try.ntmps106
    go_wp2_with fail
    refine KE2.out.mono ?_
    rintro e w1 ⟨rfl, rfl⟩
    go_wp2_with fail
    go_ret
    exact ⟨none, 0, rfl, Bs_nil _ _, HBB.out⟩
set_option maxHeartbeats 1000000 in
set_option maxRecDepth 100000 in
theorem get_road_no (lo : Nat) (a1 a3 : Option Addr) (n1 c1 n3 c3 gk : Nat) (w : World) (KC : ∀ W : World, Below w.heap.size w W → Calls Try.prog 47 #[.slice a3 n3 c3, .slice a1 n1 c1] W fun e w' => (∃ r, e = .returned (.tuple #[r, .bool false])) ∧ w' = W) :
    Calls Try.prog 112 #[.agg #[.slice a1 n1 c1, .pointer (some ⟨gk, 0, none⟩)], .slice a3 n3 c3] w (GV2 lo w []) := by
  have HB : Below w.heap.size w (w.alloc (.cells #[.slice a1 n1 c1, .pointer (some ⟨gk, 0, none⟩)] 82)) := (Below.refl _ _).alloc (Nat.le_refl _) _
  have HA := heap_alloc_new w (.cells #[.slice a1 n1 c1, .pointer (some ⟨gk, 0, none⟩)] 82)
  have q0 : (w.alloc (.cells #[.slice a1 n1 c1, .pointer (some ⟨gk, 0, none⟩)] 82)).cell? ⟨w.heap.size, 0, none⟩ = some (.slice a1 n1 c1) := by simp only [World.cell?, HA]; rfl
  have q1 : (w.alloc (.cells #[.slice a1 n1 c1, .pointer (some ⟨gk, 0, none⟩)] 82)).cell? ⟨w.heap.size, 1, none⟩ = some (.pointer (some ⟨gk, 0, none⟩)) := by simp only [World.cell?, HA]; rfl
  have KE2 : Hid (Calls Try.prog 47 #[.slice a3 n3 c3, .slice a1 n1 c1] (w.alloc (.cells #[.slice a1 n1 c1, .pointer (some ⟨gk, 0, none⟩)] 82)) fun e w' => (∃ r, e = .returned (.tuple #[r, .bool false])) ∧ w' = (w.alloc (.cells #[.slice a1 n1 c1, .pointer (some ⟨gk, 0, none⟩)] 82))) := KC _ HB
  have HBB : Hid (Below w.heap.size w (w.alloc (.cells #[.slice a1 n1 c1, .pointer (some ⟨gk, 0, none⟩)] 82))) := HB
  clear HA HB KC
  unfold GV2
  go_enter Try.func112, Try.ntmps112
  go_wp2_with fail
  refine KE2.out.mono ?_
  rintro e w1 ⟨⟨r, rfl⟩, rfl⟩
  go_wp2_with fail
  go_ret
  exact ⟨none, 0, rfl, Bs_nil _ _, HBB.out⟩
set_option maxHeartbeats 1000000 in
set_option maxRecDepth 100000 in
theorem get_road_yes (lo : Nat) (b : By) (a1 a3 ar : Option Addr) (n1 c1 n3 c3 nr cr gk : Nat) (w : World) (KC : ∀ W : World, Below w.heap.size w W → Calls Try.prog 47 #[.slice a3 n3 c3, .slice a1 n1 c1] W fun e w' => e = .returned (.tuple #[.slice ar nr cr, .bool true]) ∧ w' = W)
    (KG0 : ∀ W : World, Below w.heap.size w W → Calls Try.prog 109 #[.pointer (some ⟨gk, 0, none⟩), .slice ar nr cr] W (GV2 lo W b)) :
    Calls Try.prog 112 #[.agg #[.slice a1 n1 c1, .pointer (some ⟨gk, 0, none⟩)], .slice a3 n3 c3] w (GV2 lo w b) := by
  have HB : Below w.heap.size w (w.alloc (.cells #[.slice a1 n1 c1, .pointer (some ⟨gk, 0, none⟩)] 82)) := (Below.refl _ _).alloc (Nat.le_refl _) _
  have HA := heap_alloc_new w (.cells #[.slice a1 n1 c1, .pointer (some ⟨gk, 0, none⟩)] 82)
  have q0 : (w.alloc (.cells #[.slice a1 n1 c1, .pointer (some ⟨gk, 0, none⟩)] 82)).cell? ⟨w.heap.size, 0, none⟩ = some (.slice a1 n1 c1) := by simp only [World.cell?, HA]; rfl
  have q1 : (w.alloc (.cells #[.slice a1 n1 c1, .pointer (some ⟨gk, 0, none⟩)] 82)).cell? ⟨w.heap.size, 1, none⟩ = some (.pointer (some ⟨gk, 0, none⟩)) := by simp only [World.cell?, HA]; rfl
  have KE2 : Hid (Calls Try.prog 47 #[.slice a3 n3 c3, .slice a1 n1 c1] (w.alloc (.cells #[.slice a1 n1 c1, .pointer (some ⟨gk, 0, none⟩)] 82)) fun e w' => e = .returned (.tuple #[.slice ar nr cr, .bool true]) ∧ w' = (w.alloc (.cells #[.slice a1 n1 c1, .pointer (some ⟨gk, 0, none⟩)] 82))) := KC _ HB
  have KG : Hid (Calls Try.prog 109 #[.pointer (some ⟨gk, 0, none⟩), .slice ar nr cr] (w.alloc (.cells #[.slice a1 n1 c1, .pointer (some ⟨gk, 0, none⟩)] 82)) (GV2 lo (w.alloc (.cells #[.slice a1 n1 c1, .pointer (some ⟨gk, 0, none⟩)] 82)) b)) := KG0 _ HB
  have HBB : Hid (Below w.heap.size w (w.alloc (.cells #[.slice a1 n1 c1, .pointer (some ⟨gk, 0, none⟩)] 82))) := HB
  clear HA HB KC KG0
  go_enter Try.func112, Try.ntmps112
  go_wp2_with fail
  refine KE2.out.mono ?_
  rintro e w1 ⟨rfl, rfl⟩
  go_wp2_with fail
  refine KG.out.mono ?_
  rintro e w2 ⟨a, c, rfl, hb, hb2⟩
  have HR : Hid (Bs (Sb lo w2) b (.slice a b.length c) w2) := hb
  have HZ : Hid (Below w.heap.size w w2) := HBB.out.trans (hb2.mono HBB.out.size)
  clear hb hb2
  go_wp2_with fail
  go_ret
  exact ⟨a, c, rfl, HR.out, HZ.out⟩
inductive GFI (W0 : World) (lo : Nat) (b : By) (g gq oq nq cq cN ty : Nat) (yy : Value) (d : Nat → Bool) (x : Act) (wx : World) : Prop where
  | mk (u4 u12 u13 u14 u15 u16 u17 u18 u19 u20 u21 u22 u23 u24 : Value) (hx : x = { tmps := #[.pointer (some ⟨g, 0, none⟩), .slice (some ⟨gq, oq, none⟩) nq cq, undef, undef, u4, .slice (some ⟨gq, oq, none⟩) nq cq, .int .i64 (nq : Int), .bool false, undef, undef, undef, undef, u12, u13, u14, u15, u16, u17, u18, u19, u20, u21, u22, u23, u24], defers := [] }) (hw : Below W0.heap.size W0 wx) (p0 : d 0 = true → u12 = .pointer (some ⟨g, 0, none⟩)) (p1 : d 1 = true → u13 = .slice (some ⟨gq, oq, none⟩) nq cq) (p2 : d 2 = true → u14 = .pointer (some ⟨gq, oq, none⟩)) (p3 : d 3 = true → u15 = .int .u8 (cN : Int)) (p4 : d 4 = true → u16 = .pointer (some ⟨g, 0, none⟩)) (p5 : d 5 = true → u17 = .pointer (some ⟨g, 1, none⟩)) (p6 : d 6 = true → u18 = .pointer (some ⟨g, 1 + cN, none⟩)) (p7 : d 7 = true → u19 = .iface ty yy) (p8 : d 8 = true → u20 = .slice (some ⟨gq, oq, none⟩) nq cq) (p9 : d 9 = true → u21 = sfrom (some ⟨gq, oq, none⟩) nq cq 1) (p10 : d 10 = true → u22 = .iface ty yy) (p11 : d 11 = true → u23 = .iface ty yy) (z12 : d 12 = true → ∃ a c, u24 = .slice a b.length c ∧ Bs (Sb lo wx) b (.slice a b.length c) wx) (z13 : d 13 = true → ∃ a c, u4 = .slice a b.length c ∧ Bs (Sb lo wx) b (.slice a b.length c) wx) : GFI W0 lo b g gq oq nq cq cN ty yy d x wx
set_option maxHeartbeats 2000000 in
set_option maxRecDepth 100000 in
theorem get_fork_cons (lo : Nat) (b : By) (g gq oq nq cq cN ty : Nat) (yy : Value) (w : World) (h0 : 0 < nq) (hc16 : cN < 16) (hgq : gq < w.heap.size) (hg : g < w.heap.size) (q0 : w.cell? ⟨gq, oq, none⟩ = some (.int .u8 (cN : Int))) (q1 : w.cell? ⟨g, 1 + cN, none⟩ = some (.iface ty yy))
    (KI : Hid (∀ wx : World, Below w.heap.size w wx → Inv "lampbearer/tree.get" (.iface ty yy) #[sfrom (some ⟨gq, oq, none⟩) nq cq 1] wx (GV2 lo wx b))) :
    Calls Try.prog 109 #[.pointer (some ⟨g, 0, none⟩), .slice (some ⟨gq, oq, none⟩) nq cq] w (GV2 lo w b) := by
  have e0 : ((nq : Int) == 0) = false := beq_eq_false_iff_ne.2 (by omega)
  have e0' : (nq == 0) = false := beq_eq_false_iff_ne.2 (by omega)
  have HN1 : Hid (1 ≤ nq) := h0
  have HI0 : Hid ((0 : Int) < (nq : Int)) := by show _ < _; omega
  have HI1 : Hid (0 < nq) := h0
  have HC0 : Hid ((0 : Int) ≤ (cN : Int)) := by show _ ≤ _; omega
  have HC1 : Hid ((cN : Int) < 16) := by show _ < _; omega
  have HGQ : Hid (gq < w.heap.size) := hgq
  have HGG : Hid (g < w.heap.size) := hg
  have Q0 : Hid (w.cell? ⟨gq, oq, none⟩ = some (.int .u8 (cN : Int))) := q0
  have Q1 : Hid (w.cell? ⟨g, 1 + cN, none⟩ = some (.iface ty yy)) := q1
  have hw0 : Below w.heap.size w w.drew := (Below.refl _ _).drew
  clear h0 hc16 hgq hg q0 q1
  unfold GV2
  go_enter Try.func109, Try.ntmps109
  go_upto_region 3 with fail
  refine RI.wp_region_inv (GFI w lo b g gq oq nq cq cN ty yy) (by kernel_rfl) (by kernel_rfl) ?_ ?_ ?_
  · exact ⟨.slice none 0 0, undef, undef, undef, undef, undef, undef, undef, undef, undef, undef, undef, undef, undef, rfl, hw0, nofun, nofun, nofun, nofun, nofun, nofun, nofun, nofun, nofun, nofun, nofun, nofun, nofun, nofun⟩
  · skip
    intro d x wx i hI hi hm
    obtain ⟨u4, u12, u13, u14, u15, u16, u17, u18, u19, u20, u21, u22, u23, u24, rfl, hw, p0, p1, p2, p3, p4, p5, p6, p7, p8, p9, p10, p11, z12, z13⟩ := hI
    have hi' : i = 0 ∨ i = 1 ∨ i = 2 ∨ i = 3 ∨ i = 4 ∨ i = 5 ∨ i = 6 ∨ i = 7 ∨ i = 8 ∨ i = 9 ∨ i = 10 ∨ i = 11 ∨ i = 12 ∨ i = 13 := by simp at hi; omega
    have hd := hm.2
    have hf := hm.1
    clear hm hi
    rcases hi' with rfl | rfl | rfl | rfl | rfl | rfl | rfl | rfl | rfl | rfl | rfl | rfl | rfl | rfl
    · refine RI.wpOp_plain rfl rfl ?_
      go_simp
      exact ⟨u4, _, u13, u14, u15, u16, u17, u18, u19, u20, u21, u22, u23, u24, rfl, hw, fun _ => rfl, p1, p2, p3, p4, p5, p6, p7, p8, p9, p10, p11, z12, z13⟩
    · refine RI.wpOp_plain rfl rfl ?_
      go_simp
      exact ⟨u4, u12, _, u14, u15, u16, u17, u18, u19, u20, u21, u22, u23, u24, rfl, hw, p0, fun _ => rfl, p2, p3, p4, p5, p6, p7, p8, p9, p10, p11, z12, z13⟩
    · have hd := hd _ rfl
      simp [Region.binds] at hd
      obtain rfl := p1 (by simp [hd])
      refine RI.wpOp_plain rfl rfl ?_
      have e1 := HI0.out
      have e2 := HI1.out
      go_simp
      exact ⟨u4, u12, _, _, u15, u16, u17, u18, u19, u20, u21, u22, u23, u24, rfl, hw, p0, p1, fun _ => rfl, p3, p4, p5, p6, p7, p8, p9, p10, p11, z12, z13⟩
    · have hd := hd _ rfl
      simp [Region.binds] at hd
      obtain rfl := p2 (by simp [hd])
      refine RI.wpOp_plain rfl rfl ?_
      have x0 := (hw.cell (p := ⟨gq, oq, none⟩) HGQ.out).trans Q0.out
      go_simp
      exact ⟨u4, u12, u13, _, _, u16, u17, u18, u19, u20, u21, u22, u23, u24, rfl, hw, p0, p1, p2, fun _ => rfl, p4, p5, p6, p7, p8, p9, p10, p11, z12, z13⟩
    · have hd := hd _ rfl
      simp [Region.binds] at hd
      obtain rfl := p0 (by simp [hd])
      refine RI.wpOp_plain rfl rfl ?_
      go_simp
      exact ⟨u4, _, u13, u14, u15, _, u17, u18, u19, u20, u21, u22, u23, u24, rfl, hw, p0, p1, p2, p3, fun _ => rfl, p5, p6, p7, p8, p9, p10, p11, z12, z13⟩
    · have hd := hd _ rfl
      simp [Region.binds] at hd
      obtain rfl := p4 (by simp [hd])
      refine RI.wpOp_plain rfl rfl ?_
      go_simp
      exact ⟨u4, u12, u13, u14, u15, _, _, u18, u19, u20, u21, u22, u23, u24, rfl, hw, p0, p1, p2, p3, p4, fun _ => rfl, p6, p7, p8, p9, p10, p11, z12, z13⟩
    · have hd := hd _ rfl
      simp [Region.binds] at hd
      obtain rfl := p3 (by simp [hd])
      obtain rfl := p5 (by simp [hd])
      refine RI.wpOp_plain rfl rfl ?_
      have e1 := HC0.out
      have e2 := HC1.out
      go_simp
      exact ⟨u4, u12, u13, u14, _, u16, _, _, u19, u20, u21, u22, u23, u24, rfl, hw, p0, p1, p2, p3, p4, p5, fun _ => rfl, p7, p8, p9, p10, p11, z12, z13⟩
    · have hd := hd _ rfl
      simp [Region.binds] at hd
      obtain rfl := p6 (by simp [hd])
      refine RI.wpOp_plain rfl rfl ?_
      have x0 := (hw.cell (p := ⟨g, 1 + cN, none⟩) HGG.out).trans Q1.out
      go_simp
      exact ⟨u4, u12, u13, u14, u15, u16, u17, _, _, u20, u21, u22, u23, u24, rfl, hw, p0, p1, p2, p3, p4, p5, p6, fun _ => rfl, p8, p9, p10, p11, z12, z13⟩
    · refine RI.wpOp_plain rfl rfl ?_
      go_simp
      exact ⟨u4, u12, u13, u14, u15, u16, u17, u18, u19, _, u21, u22, u23, u24, rfl, hw, p0, p1, p2, p3, p4, p5, p6, p7, fun _ => rfl, p9, p10, p11, z12, z13⟩
    · have hd := hd _ rfl
      simp [Region.binds] at hd
      obtain rfl := p8 (by simp [hd])
      refine RI.wpOp_plain rfl rfl ?_
      refine wp_sl rfl rfl rfl rfl (run_from (some ⟨gq, oq, none⟩) nq cq 1 HN1.out _) ?_
      simp only [Act.put]
      exact ⟨u4, u12, u13, u14, u15, u16, u17, u18, u19, _, _, u22, u23, u24, rfl, hw, p0, p1, p2, p3, p4, p5, p6, p7, p8, fun _ => rfl, p10, p11, z12, z13⟩
    · have hd := hd _ rfl
      simp [Region.binds] at hd
      obtain rfl := p7 (by simp [hd])
      refine RI.wpOp_plain rfl rfl ?_
      go_simp
      exact ⟨u4, u12, u13, u14, u15, u16, u17, u18, _, u20, u21, _, u23, u24, rfl, hw, p0, p1, p2, p3, p4, p5, p6, p7, p8, p9, fun _ => rfl, p11, z12, z13⟩
    · have hd := hd _ rfl
      simp [Region.binds] at hd
      obtain rfl := p7 (by simp [hd])
      obtain rfl := p10 (by simp [hd])
      refine RI.wpOp_plain rfl rfl ?_
      go_simp
      exact ⟨u4, u12, u13, u14, u15, u16, u17, u18, _, u20, u21, _, _, u24, rfl, hw, p0, p1, p2, p3, p4, p5, p6, p7, p8, p9, p10, fun _ => rfl, z12, z13⟩
    · have hd := hd _ rfl
      simp [Region.binds] at hd
      obtain rfl := p9 (by simp [hd])
      obtain rfl := p11 (by simp [hd])
      refine RI.wpOp_plain rfl rfl ?_
      refine wp_inv (xv := .iface ty yy) (vs := #[sfrom (some ⟨gq, oq, none⟩) nq cq 1]) rfl rfl (by simp only [List.map_toArray, List.map_cons, List.map_nil]; rfl) ((KI.out _ hw).mono ?_)
      rintro e w1 ⟨xa, xc, rfl, hx, hb1⟩
      refine ⟨_, rfl, ?_⟩
      simp only [Act.put]
      exact ⟨u4, u12, u13, u14, u15, u16, u17, u18, u19, u20, _, u22, _, _, rfl, hw.trans (hb1.mono hw.size), p0, p1, p2, p3, p4, p5, p6, p7, p8, p9, p10, p11, fun _ => ⟨_, _, rfl, hx⟩, (fun h => (z13 h).imp fun a ha => ha.imp fun c hc => ⟨hc.1, Bs_ch hc.2 (ch_below (G := fun _ => False) hb1)⟩)⟩
    · have hd := hd _ rfl
      simp [Region.binds] at hd
      obtain rfl := p0 (by simp [hd])
      obtain rfl := p1 (by simp [hd])
      obtain rfl := p2 (by simp [hd])
      obtain rfl := p3 (by simp [hd])
      obtain rfl := p4 (by simp [hd])
      obtain rfl := p5 (by simp [hd])
      obtain rfl := p6 (by simp [hd])
      obtain rfl := p7 (by simp [hd])
      obtain rfl := p8 (by simp [hd])
      obtain rfl := p9 (by simp [hd])
      obtain rfl := p10 (by simp [hd])
      obtain rfl := p11 (by simp [hd])
      refine RI.wpOp_plain rfl rfl ?_
      obtain ⟨xa, xc, rfl, hx⟩ := z12 (by simp [hd])
      go_simp
      exact ⟨_, _, _, _, _, _, _, _, _, _, _, _, _, _, rfl, hw, p0, p1, p2, p3, p4, p5, p6, p7, p8, p9, p10, p11, z12, fun _ => ⟨_, _, rfl, hx⟩⟩
  · skip
    intro d x wx hI hd
    obtain ⟨u4, u12, u13, u14, u15, u16, u17, u18, u19, u20, u21, u22, u23, u24, rfl, hw, p0, p1, p2, p3, p4, p5, p6, p7, p8, p9, p10, p11, z12, z13⟩ := hI
    obtain ⟨xa, xc, rfl, hx⟩ := z13 (hd 13 (by decide))
    have HR : Hid (Bs (Sb lo wx) b (.slice xa b.length xc) wx) := hx
    have HZ : Hid (Below w.heap.size w wx) := hw
    clear hw hx p0 p1 p2 p3 p4 p5 p6 p7 p8 p9 p10 p11 z12 z13
    go_wp2_with fail
    go_ret
    exact ⟨xa, xc, rfl, HR.out, HZ.out⟩
set_option maxHeartbeats 1000000 in
set_option maxRecDepth 100000 in
theorem get_fork_nil (lo : Nat) (v : By) (g cv c3 : Nat) (av a3 : Option Addr) (w : World) (q0 : w.cell? ⟨g, 0, none⟩ = some (.slice av v.length cv)) (hv : Bs (Sb lo w) v (.slice av v.length cv) w) :
    Calls Try.prog 109 #[.pointer (some ⟨g, 0, none⟩), .slice a3 0 c3] w (GV2 lo w v) := by
  have HV : Hid (Bs (Sb lo w) v (.slice av v.length cv) w) := hv
  clear hv
  unfold GV2
  go_enter Try.func109, Try.ntmps109
  go_wp2_with fail
  go_ret
  exact ⟨av, cv, rfl, HV.out, Below.refl _ _⟩
theorem get_all (lo : Nat) : ∀ (n : Nat) (t : Nd) (q : By) (x qv : Value) (F : Nat → Prop) (w : World), q.length ≤ n → In lo w t x F → Rs t → Bs (Sb lo w) q qv w → Pt q → Inv "lampbearer/tree.get" x #[qv] w (GV2 lo w (gt t q)) := by
  intro n
  induction n with
  | zero =>
    intro t q x qv F w hn ht hs hq hpt
    have hq0 : q = [] := List.length_eq_zero_iff.1 (by omega)
    cases ht with
    | none p v ks F =>
      rw [gt_zero 0 p v ks q (by decide) (by decide) (by decide)]
      exact ⟨_, _, fun W => ge_none _ _ W, get_none lo qv w⟩
    | leaf p v ks pv vv F hp hv =>
      obtain ⟨a1, c1, rfl, _⟩ := Bs_form hp
      obtain ⟨a2, c2, rfl, _⟩ := Bs_form hv
      obtain ⟨a3, c3, rfl, _⟩ := Bs_form hq
      rw [gt_leaf]
      exact ⟨_, _, fun W => ge_leaf _ _ W, get_leaf lo p v q a1 a2 a3 c1 c2 c3 w hp hv hq⟩
    | road p v t pv g F hp hk =>
      cases hs with
      | road _ _ _ hpp hp0 hk3 hst =>
        have hnp : ¬ p <+: q := fun h => by
          have := h.length_le
          have := List.length_pos_iff.2 hp0
          omega
        obtain ⟨a1, c1, rfl, _⟩ := Bs_form hp
        obtain ⟨a3, c3, rfl, _⟩ := Bs_form hq
        rw [gt_road, if_neg (fun h => hnp (List.isPrefixOf_iff_prefix.1 h))]
        exact ⟨_, _, fun W => ge_road _ _ W, get_road_no lo a1 a3 _ c1 _ c3 g w (fun W hW => cut_no (Bs_ch hq (ch_below (G := fun _ => False) hW)) (Bs_ch hp (ch_below (G := fun _ => False) hW)) hnp)⟩
    | fork p v ks g c F D hl16 hlo hb hc hFg hv hi hg hD hs' =>
      obtain ⟨a3, c3, rfl, _⟩ := Bs_form hq
      obtain ⟨av, cv, ev, _⟩ := Bs_form hv
      subst hq0
      rw [gt_fork_nil]
      rw [ev] at hv
      exact ⟨_, _, fun W => ge_fork _ _ W, get_fork_nil lo v g cv c3 av a3 w (by rw [cell_fork hb 0 (by omega), ev]) hv⟩
  | succ n IH =>
    intro t q x qv F w hn ht hs hq hpt
    cases ht with
    | none p v ks F =>
      rw [gt_zero 0 p v ks q (by decide) (by decide) (by decide)]
      exact ⟨_, _, fun W => ge_none _ _ W, get_none lo qv w⟩
    | leaf p v ks pv vv F hp hv =>
      obtain ⟨a1, c1, rfl, _⟩ := Bs_form hp
      obtain ⟨a2, c2, rfl, _⟩ := Bs_form hv
      obtain ⟨a3, c3, rfl, _⟩ := Bs_form hq
      rw [gt_leaf]
      exact ⟨_, _, fun W => ge_leaf _ _ W, get_leaf lo p v q a1 a2 a3 c1 c2 c3 w hp hv hq⟩
    | road p v t pv g F hp hk =>
      cases hs with
      | road _ _ _ hpp hp0 hk3 hst =>
        obtain ⟨a1, c1, rfl, _⟩ := Bs_form hp
        obtain ⟨a3, c3, rfl, _⟩ := Bs_form hq
        by_cases hpre : p <+: q
        · obtain ⟨r, hr⟩ := hpre
          have hdr : q.drop p.length = r := by rw [← hr, List.drop_left]
          have hlq : q.length = p.length + r.length := by rw [← hr, List.length_append]
          have hp1 := List.length_pos_iff.2 hp0
          rw [← hr, gt_road_at]
          refine ⟨_, _, fun W => ge_road _ _ W, ?_⟩
          rw [hr]
          refine get_road_yes lo (gt t r) a1 a3 _ _ c1 _ c3 _ _ g w (fun W hW => cut_yes (Bs_ch hq (ch_below (G := fun _ => False) hW)) (Bs_ch hp (ch_below (G := fun _ => False) hW)) hp0 ⟨r, hr⟩) (fun W hW => ?_)
          have hbs := Bs_from (c := p.length) (Bs_ch hq (ch_below (G := fun _ => False) hW)) (by omega)
          rw [hdr] at hbs
          obtain ⟨f, vs, j1, j2⟩ := IH t r _ _ F W (by omega) (In_below hk hW) hst hbs (fun c hc => hpt c (by rw [← hr]; exact List.mem_append_right _ hc))
          have j3 := (j1 W).symm.trans (ge_fork (some ⟨g, 0, none⟩) _ W)
          injection j3 with j3 _
          injection j3 with j4 j5
          subst j4 j5
          exact j2
        · rw [gt_road, if_neg (fun h => hpre (List.isPrefixOf_iff_prefix.1 h))]
          exact ⟨_, _, fun W => ge_road _ _ W, get_road_no lo a1 a3 _ c1 _ c3 g w (fun W hW => cut_no (Bs_ch hq (ch_below (G := fun _ => False) hW)) (Bs_ch hp (ch_below (G := fun _ => False) hW)) hpre)⟩
    | fork p v ks g c F D hl16 hlo hb hc hFg hv hi hg hD hs' =>
      cases hs with
      | fork _ _ _ _ hks h2 =>
        obtain ⟨a3, c3, rfl, _⟩ := Bs_form hq
        cases hqq : q with
        | nil =>
          obtain ⟨av, cv, ev, _⟩ := Bs_form hv
          rw [gt_fork_nil]
          rw [ev] at hv
          exact ⟨_, _, fun W => ge_fork _ _ W, get_fork_nil lo v g cv c3 av a3 w (by rw [cell_fork hb 0 (by omega), ev]) hv⟩
        | cons cb r =>
          have hlen : q.length = r.length + 1 := by rw [hqq]; rfl
          have hc16 : cb.toNat < 16 := hpt cb (by rw [hqq]; exact List.mem_cons_self ..)
          rw [gt_fork_cons, ← hqq]
          have hk := hi cb.toNat hc16
          obtain ⟨ty, yy, ey⟩ := In_form hk
          rw [ey] at hk
          have hq' := hq
          obtain ⟨ax, cx, ex, _, h3⟩ := hq
          injection ex with e1 _ _
          subst e1
          obtain ⟨gq, oq, rfl, _, hlt, hcell⟩ := h3 (by omega)
          have hx0 := hcell 0 (by omega)
          have hbz : Sp.bz q 0 = (cb.toNat : Int) := by rw [hqq]; rfl
          rw [Nat.add_zero, hbz] at hx0
          have hdr : q.drop 1 = r := by rw [hqq]; rfl
          refine ⟨_, _, fun W => ge_fork _ _ W, get_fork_cons lo (gt (ks.getD cb.toNat Nd.no) r) g gq oq q.length c3 cb.toNat ty yy w (by omega) hc16 hlt (Pk.lt_of_heap hb) hx0 (by rw [cell_fork hb (1 + cb.toNat) (by omega), Nat.add_comm, ey]) (fun W hW => ?_)⟩
          have hbs := Bs_from (c := 1) (Bs_ch hq' (ch_below (G := fun _ => False) hW)) (by omega)
          rw [hdr] at hbs
          exact IH _ r _ _ (D cb.toNat) W (by omega) (In_below hk hW) (hks _ hc16) hbs (fun c hc => hpt c (by rw [hqq]; exact List.mem_cons_of_mem _ hc))
end Tr
end Go.Proofs.Ythlgneadcagleaa
namespace Go.Proofs.Ythlgneadcagleaa
namespace Tr
open Nb Go.RowKit
def RP (lo h : Nat) (t : Nd) (w : World) (e : Ending) (w' : World) : Prop := ∃ x, e = .returned (.tuple #[x, .bool (rd h t)]) ∧ (rd h t = true → In lo w' t x (fun y => w.heap.size ≤ y)) ∧ Below w.heap.size w w'
def FP (lo h : Nat) (t : Nd) (w : World) (e : Ending) (w' : World) : Prop := ∃ x, e = .returned (.tuple #[.pointer x, .bool (rd h t)]) ∧ (rd h t = true → ∃ g, x = some ⟨g, 0, none⟩ ∧ In lo w' t (.iface 73 (.pointer (some ⟨g, 0, none⟩))) (fun y => w.heap.size ≤ y)) ∧ Below w.heap.size w w'
theorem rda_range (ks : List Nd) (h : Nat) (hl : ks.length = 16) : rda h ks = (List.range 16).all (fun j => rd h (ks.getD j Nd.no)) := by
  rw [Bool.eq_iff_iff, rda_iff, List.all_eq_true, hl]
  constructor
  · intro hh j hj; exact hh j (List.mem_range.1 hj)
  · intro hh j hj; exact hh j (List.mem_range.2 hj)
theorem rd_three (h : Nat) (p v : By) (ks : List Nd) : rd h (.mk 3 p v ks) = (decide (h ≤ 64) && decide (ks.length = 16) && (decide (v = []) || may v h) && rda (h + 1) ks && decide (2 ≤ pts v ks)) := by
  rw [rd, if_neg (by decide), if_neg (by decide), if_neg (by decide), if_pos rfl]
theorem rd_two (h : Nat) (p v : By) (ks : List Nd) : rd h (.mk 2 p v ks) = (decide (p ≠ []) && ptb p && decide (ks.length = 1) && rd1 (h + p.length) ks) := by
  rw [rd, if_neg (by decide), if_neg (by decide), if_pos rfl]
theorem rd_one (h : Nat) (p v : By) (ks : List Nd) : rd h (.mk 1 p v ks) = (ptb p && may v (h + p.length)) := by
  rw [rd, if_neg (by decide), if_pos rfl]
theorem rd_zero (h : Nat) (p v : By) (ks : List Nd) : rd h (.mk 0 p v ks) = true := by
  rw [rd, if_pos rfl]
theorem rd_else (h : Nat) (k : Int) (p v : By) (ks : List Nd) (h0 : k ≠ 0) (h1 : k ≠ 1) (h2 : k ≠ 2) (h3 : k ≠ 3) : rd h (.mk k p v ks) = false := by
  rw [rd, if_neg h0, if_neg h1, if_neg h2, if_neg h3]
theorem fp_bad {lo h : Nat} {t : Nd} {w : World} (hr : rd h t = false) {f : FuncId} {a : Array Value} (hc : Calls Try.prog f a w fun e w' => e = .returned (.tuple #[.pointer none, .bool false]) ∧ Below w.heap.size w w') : Calls Try.prog f a w (FP lo h t w) :=
  hc.mono fun e w' he => ⟨none, by rw [hr]; exact he.1, fun hh => absurd (hr.symm.trans hh) (by decide), he.2⟩
theorem rp_bad {lo h : Nat} {t : Nd} {w : World} (hr : rd h t = false) {f : FuncId} {a : Array Value} (hc : Calls Try.prog f a w fun e w' => (∃ x, e = .returned (.tuple #[x, .bool false])) ∧ Below w.heap.size w w') : Calls Try.prog f a w (RP lo h t w) :=
  hc.mono fun e w' ⟨⟨x, h1⟩, h2⟩ => ⟨x, by rw [hr]; exact h1, fun hh => absurd (hr.symm.trans hh) (by decide), h2⟩
theorem wn_kid {k : Int} {p v : By} {ks : List Nd} {j N : Nat} (h : wn (.mk k p v ks) ≤ N) (hj : j < ks.length) : wn (ks.getD j Nd.no) ≤ N := by
  have := wnk_one ks j hj
  unfold wn at h
  omega
theorem rfork_all (lo h : Nat) (p v : By) (ks : List Nd) (u : V4) (w : World) (hu : Nv (· < lo) w (.mk 3 p v ks) u) (hlo : lo ≤ w.heap.size)
    (KR : ∀ j, j < ks.length → h ≤ 64 → ∀ (x : V4) (wx : World), Nv (· < lo) wx (ks.getD j Nd.no) x → lo ≤ wx.heap.size → Calls Try.prog 22 #[v4 x, .int .i64 ((h + 1 : Nat) : Int)] wx (RP lo (h + 1) (ks.getD j Nd.no) wx)) :
    Calls Try.prog 42 #[v4 u, .int .i64 (h : Int)] w (FP lo h (.mk 3 p v ks) w) := by
  cases hu with
  | mk _ _ _ _ pv vv kv vs hp hv hl hk hi =>
    have hv' := hv
    obtain ⟨a1, c1, rfl, -, -⟩ := hp
    obtain ⟨a2, c2, rfl, -, -⟩ := hv
    obtain ⟨a3, c3, rfl, -, hq⟩ := hk
    show Calls Try.prog _ #[.agg #[.int .i64 3, _, _, _], _] w _
    by_cases h64 : h ≤ 64
    case neg =>
      exact fp_bad (by rw [rd_three, decide_eq_false h64]; simp) (rfork_deep a1 a2 a3 _ c1 _ c2 _ c3 h w (by omega))
    by_cases h16 : ks.length = 16
    case neg =>
      exact fp_bad (by rw [rd_three, decide_eq_false h16]; simp) (rfork_kids a1 a2 a3 _ c1 _ c2 _ c3 h w h64 (by omega))
    by_cases hmv : v = [] ∨ may v h = true
    case neg =>
      have h1 : v ≠ [] := fun e => hmv (.inl e)
      have h2 : may v h = false := by cases e : may v h with | false => rfl | true => exact absurd (.inr e) hmv
      exact fp_bad (by rw [rd_three, decide_eq_false h1, h2]; simp) (rfork_value a1 a2 a3 _ c1 _ c2 _ c3 h w h64 (by omega) v rfl h1 h2)
    obtain ⟨gk, off, rfl, hgl, hgk, hc⟩ := hq (by omega)
    have er : rd h (.mk 3 p v ks) = ((List.range 16).all (fun j => rd (h + 1) (ks.getD j Nd.no)) && decide (2 ≤ pts v ks)) := by
      rw [rd_three, decide_eq_true h64, decide_eq_true h16, ← rda_range ks _ h16]
      have : (decide (v = []) || may v h) = true := by
        rcases hmv with e | e
        · rw [decide_eq_true e]; rfl
        · rw [e]; simp
      rw [this]
      simp
    have el : vs.length = 16 := by omega
    rw [el]
    refine (rfork_ok a1 a2 _ c1 _ c2 c3 h gk off w lo hlo ks vs p v h16 h64 rfl hmv hv' hgk (fun j hj => hc j (by omega)) (fun j => rd (h + 1) (ks.getD j Nd.no)) (fun j hj => Nv_form (hi j (by omega))) ?_).mono fun e w' he => ?_
    · intro j hj wx hb
      refine (KR j (by omega) h64 _ wx (Nv_below (hi j (by omega)) hb) (Nat.le_trans hlo hb.size)).mono fun e w' he => ?_
      exact he
    · unfold FP
      rw [er]
      exact he
theorem read_all (lo : Nat) {t : Nd} (ht : Wf t) :
    (∀ (h : Nat) (u : V4) (w : World), h ≤ 65 → Nv (· < lo) w t u → lo ≤ w.heap.size → wn t ≤ 4194304 → Calls Try.prog 22 #[v4 u, .int .i64 (h : Int)] w (RP lo h t w)) ∧
    (t.kind = 3 → ∀ (h : Nat) (u : V4) (w : World), Nv (· < lo) w t u → lo ≤ w.heap.size → wn t ≤ 4194304 → Calls Try.prog 42 #[v4 u, .int .i64 (h : Int)] w (FP lo h t w)) := by
  induction ht with
  | mk k p v ks _ ih =>
    have HF : k = 3 → ∀ (h : Nat) (u : V4) (w : World), Nv (· < lo) w (.mk k p v ks) u → lo ≤ w.heap.size → wn (.mk k p v ks) ≤ 4194304 → Calls Try.prog 42 #[v4 u, .int .i64 (h : Int)] w (FP lo h (.mk k p v ks) w) := by
      intro hk h u w hu hlo hw
      subst hk
      exact rfork_all lo h p v ks u w hu hlo (fun j hj h64 x wx hx hl => (ih j hj).1 (h + 1) x wx (by omega) hx hl (wn_kid hw hj))
    refine ⟨fun h u w h65 hu hlo hw => ?_, HF⟩
    have hu' := hu
    cases hu with
    | mk _ _ _ _ pv vv kv vs hp hv hl hk hi =>
      have hp' := hp
      have hv' := hv
      have sp := Bs_sl hp
      obtain ⟨a1, c1, rfl, -, -⟩ := hp
      obtain ⟨a2, c2, rfl, -, -⟩ := hv
      obtain ⟨a3, c3, rfl, -, hq⟩ := hk
      have hz : p.length ≤ 4194304 := by unfold wn at hw; omega
      obtain ⟨ax, cx, ex, -, vw⟩ := sp
      injection ex with e1 e2 e3
      subst e1
      by_cases k0 : k = 0
      · subst k0
        refine (read_none a1 a2 a3 _ c1 _ c2 _ c3 h w).mono fun e w' he => ⟨_, by rw [rd_zero]; exact he.1, fun _ => .none p v ks _, he.2⟩
      by_cases k1 : k = 1
      · subst k1
        cases hpt : ptb p with
        | true =>
          refine (read_leaf_ok a1 a2 a3 _ c1 _ c2 _ c3 h w p v rfl hz rfl (by omega) vw hpt).mono fun e w' he => ⟨_, by rw [rd_one, hpt, Bool.true_and]; exact he.1, fun _ => ?_, he.2⟩
          exact .leaf p v ks _ _ _ (Bs_lo (Bs_below hp' he.2)) (Bs_lo (Bs_below hv' he.2))
        | false => exact rp_bad (by rw [rd_one, hpt]; rfl) ((read_leaf_no a1 a2 a3 _ c1 _ c2 _ c3 h w p v rfl hz rfl (by omega) vw hpt).mono fun e w' he => ⟨⟨_, he.1⟩, he.2⟩)
      by_cases k2 : k = 2
      · subst k2
        show Calls Try.prog _ #[.agg #[.int .i64 2, _, _, _], _] w _
        refine read_road a1 a2 a3 _ c1 _ c2 _ c3 h w (rd h (.mk 2 p v ks)) (fun x w' => rd h (.mk 2 p v ks) = true → In lo w' (.mk 2 p v ks) x (fun y => w.heap.size ≤ y)) ?_
        intro wx hbx
        have vwx := Sp.Vw_below vw hbx
        have key : Calls Try.prog 41 #[.agg #[.int .i64 2, .slice a1 p.length c1, .slice a2 v.length c2, .slice a3 vs.length c3], .int .i64 (h : Int)] wx (RP lo h (.mk 2 p v ks) wx) := by
          by_cases p0 : p = []
          · subst p0
            exact rp_bad (by rw [rd_two]; simp) (rroad_empty a1 a2 a3 c1 _ c2 _ c3 h wx)
          have hp0 : 0 < p.length := List.length_pos_iff.2 p0
          cases hpt : ptb p with
          | false => exact rp_bad (by rw [rd_two, hpt]; simp) (rroad_path a1 a2 a3 _ c1 _ c2 _ c3 h wx p rfl hz hp0 vwx hpt)
          | true =>
            by_cases hk1 : ks.length = 1
            case neg => exact rp_bad (by rw [rd_two, decide_eq_false hk1]; simp) (rroad_kids a1 a2 a3 _ c1 _ c2 _ c3 h wx p rfl hz hp0 vwx hpt (by omega))
            obtain ⟨t, rfl⟩ := List.length_eq_one_iff.1 hk1
            have el : vs.length = 1 := hl
            obtain ⟨gk, off, rfl, hgl, hgk, hc⟩ := hq (by omega)
            obtain ⟨y0, y1, y2, y3⟩ := hc 0 (by omega)
            have hn := hi 0 (by simp)
            rw [List.getD_cons_zero] at hn
            obtain ⟨kk, b1, m1, d1, b2, m2, d2, b3, m3, d3, eF⟩ := Nv_form hn
            rw [eF] at y0 y1 y2 y3
            simp only [Nat.mul_zero, Nat.add_zero] at y0 y1 y2 y3
            have z0 := (hbx.cell (p := ⟨gk, off, none⟩) hgk).trans y0
            have z1 := (hbx.cell (p := ⟨gk, off + 1, none⟩) hgk).trans y1
            have z2 := (hbx.cell (p := ⟨gk, off + 2, none⟩) hgk).trans y2
            have z3 := (hbx.cell (p := ⟨gk, off + 3, none⟩) hgk).trans y3
            have hgx : gk < wx.heap.size := Nat.lt_of_lt_of_le hgk hbx.size
            have ekk : t.kind = kk := by
              rw [eF] at hn
              cases hn
              rfl
            rw [el]
            by_cases hkk : kk = 3
            case neg => exact rp_bad (by rw [rd_two, rd1, decide_eq_false (show ¬ t.kind = 3 by rw [ekk]; exact hkk)]; simp) (rroad_kind a1 a2 _ c1 _ c2 c3 h gk off wx p rfl hz hp0 vwx hpt kk hgx z0 hkk)
            subst hkk
            have er : rd h (.mk 2 p v [t]) = rd (h + p.length) t := by
              rw [rd_two, rd1, hpt, decide_eq_true (show p ≠ [] from p0), decide_eq_true ekk]
              simp
            have GBt : ∀ (x : Option Addr) (w1 w2 : World), (rd (h + p.length) t = true → ∃ g, x = some ⟨g, 0, none⟩ ∧ In lo w1 t (.iface 73 (.pointer (some ⟨g, 0, none⟩))) (fun y => wx.heap.size ≤ y)) → Below w1.heap.size w1 w2 → rd (h + p.length) t = true → ∃ g, x = some ⟨g, 0, none⟩ ∧ In lo w2 t (.iface 73 (.pointer (some ⟨g, 0, none⟩))) (fun y => wx.heap.size ≤ y) := fun x w1 w2 hx hb hr => by
              obtain ⟨g, h1, h2⟩ := hx hr
              exact ⟨g, h1, In_below h2 hb⟩
            have KF := (ih 0 (by simp)).2
            rw [List.getD_cons_zero] at KF
            refine (rroad_fork a1 a2 _ c1 _ c2 c3 h gk off wx p rfl hz hp0 vwx hpt (by omega) b1 b2 b3 m1 d1 m2 d2 m3 d3 hgx z0 z1 z2 z3 (rd (h + p.length) t) _ GBt ?_).mono fun e w' he => ?_
            · intro wy hby
              have hn2 : Nv (· < lo) wy t (.int .i64 3, .slice b1 m1 d1, .slice b2 m2 d2, .slice b3 m3 d3) := by
                rw [eF] at hn
                exact Nv_below (Nv_below hn hbx) hby
              refine (KF ekk (h + p.length) _ wy hn2 (Nat.le_trans hlo (Nat.le_trans hbx.size hby.size)) (by have := wn_kid (j := 0) hw (by simp); rwa [List.getD_cons_zero] at this)).mono fun e w' he => ?_
              obtain ⟨x, h1, h2, h3⟩ := he
              refine ⟨x, h1, fun hr => ?_, h3⟩
              obtain ⟨g, h4, h5⟩ := h2 hr
              exact ⟨g, h4, In_mono h5 (fun y hy => Nat.le_trans hby.size hy)⟩
            · obtain ⟨x, h1, h2, h3⟩ := he
              refine ⟨_, by rw [er]; exact h1, fun hr => ?_, h3⟩
              rw [er] at hr
              obtain ⟨g, rfl, h5⟩ := h2 hr
              exact .road p v t _ g _ (Bs_lo (Bs_below (Bs_below hp' hbx) h3)) h5
        refine key.mono fun e w' he => ?_
        obtain ⟨x, h1, h2, h3⟩ := he
        exact ⟨x, h1, fun hr => In_mono (h2 hr) (fun y hy => Nat.le_trans hbx.size hy), h3⟩
      by_cases k3 : k = 3
      · subst k3
        show Calls Try.prog _ #[.agg #[.int .i64 3, _, _, _], _] w _
        refine (read_fork a1 a2 a3 _ c1 _ c2 _ c3 h w (rd h (.mk 3 p v ks)) (fun x w' => rd h (.mk 3 p v ks) = true → ∃ g, x = some ⟨g, 0, none⟩ ∧ In lo w' (.mk 3 p v ks) (.iface 73 (.pointer (some ⟨g, 0, none⟩))) (fun y => w.heap.size ≤ y)) ?_).mono fun e w' he => ?_
        · intro wx hbx
          refine (HF rfl h _ wx (Nv_below hu' hbx) (Nat.le_trans hlo hbx.size) hw).mono fun e w' he => ?_
          obtain ⟨x, h1, h2, h3⟩ := he
          refine ⟨x, h1, fun hr => ?_, h3⟩
          obtain ⟨g, h4, h5⟩ := h2 hr
          exact ⟨g, h4, In_mono h5 (fun y hy => Nat.le_trans hbx.size hy)⟩
        · obtain ⟨x, h1, h2, h3⟩ := he
          refine ⟨_, h1, fun hr => ?_, h3⟩
          obtain ⟨g, rfl, h5⟩ := h2 hr
          exact h5
      · exact rp_bad (rd_else h k p v ks k0 k1 k2 k3) ((read_other k a1 a2 a3 _ c1 _ c2 _ c3 h w k0 k1 k2 k3).mono fun e w' he => ⟨⟨_, he.1⟩, he.2⟩)
end Tr
end Go.Proofs.Ythlgneadcagleaa
namespace Go.Proofs.Ythlgneadcagleaa
namespace Nb
open Go.RowKit
theorem and15 : ∀ x : Fin 256, bits .and .u8 ((x.val : Nat) : Int) 15 = ((x.val % 16 : Nat) : Int) := by decide +kernel
theorem hv_take (b : List UInt8) (k : Nat) (h : k < b.length) : hv (b.take (k + 1)) = hv (b.take k) ++ [UInt8.ofNat ((b.getD k 0).toNat / 16), UInt8.ofNat ((b.getD k 0).toNat % 16)] := by
  induction b generalizing k with
  | nil => simp at h
  | cons c r ih =>
    cases k with
    | zero => simp [hv]
    | succ k =>
      rw [List.take_succ_cons, List.take_succ_cons, hv, hv, ih k (by simp only [List.length_cons] at h; omega)]
      simp
theorem bcs_hv (b : List UInt8) (k : Nat) (h : k < b.length) : Pk.bcs (hv (b.take k)) ++ [.int .u8 (Sp.bz b k / 16), .int .u8 (Sp.bz b k % 16)] = Pk.bcs (hv (b.take (k + 1))) := by
  have hl := UInt8.toNat_lt (b.getD k 0)
  rw [hv_take b k h, Pk.bcs_app]
  congr 1
  simp only [Pk.bcs, List.map_cons, List.map_nil]
  rw [of_lt _ (by omega), of_lt _ (by omega)]
  simp only [Sp.bz]
  congr 2
theorem room2 (k n : Nat) (h : k < n) (hn : Hid (n ≤ 2097152)) : 2 * k + 2 ≤ maxLen ∧ (2 * k + 2) * 1 ≤ 140737488355328 := by
  have := hn.out
  unfold maxLen
  omega
set_option maxHeartbeats 1000000 in
set_option maxRecDepth 100000 in
theorem halves_any (b : List UInt8) (ao : Option Addr) (cap : Nat) (w : World) (hn : Hid (b.length ≤ 2097152)) (vw : Sp.Vw b ao w) :
    Calls Try.prog 27 #[.slice ao b.length cap] w fun e w' => ∃ v, e = .returned v ∧ w'.ownsRow w.heap.size 5 1 v (hv b).length (Pk.bcs (hv b)) ∧ Below w.heap.size w w' := by
  obtain ⟨i0, hi, hz0, hz1, hz2⟩ := info_parts Pk.Try.infoU8'
  have hmk : ∃ w', (Instr.makeSlice 22 (.int .i64 0) (.int .i64 (2 * (b.length : Int)))).run Try.prog w = .ok (.slice (some ⟨w.heap.size, 0, none⟩) 0 (2 * b.length)) w' ∧ w'.ownsRow w.heap.size 5 1 (.slice (some ⟨w.heap.size, 0, none⟩) 0 (2 * b.length)) 0 [] ∧ w.grownBy w' none := by
    have hn' := hn.out
    have h := run_make_own (P := Try.prog) w w.heap.size 22 5 i0 (.int .u8 0) 1 Try.underlying22 hi hz0 hz1 .i64 .i64 (2 * b.length) (by rw [hz2]; omega) (by unfold maxLen; omega) (Nat.le_refl _)
    rwa [show ((2 * b.length : Nat) : Int) = 2 * (b.length : Int) by omega] at h
  have hw2 : Hid (wrap64 (2 * (b.length : Int)) = 2 * (b.length : Int)) := by
    have hn' := hn.out
    show _ = _
    unfold wrap64; omega
  obtain ⟨w1, hr, o1, hgr⟩ := hmk
  have b1 : Below w.heap.size w w1 := (Below.refl _ _).grown hgr (Nat.le_refl _) (fun k hk => by cases hk)
  have HV : Hid (Sp.Vw b ao w) := vw
  clear vw
  go_enter Try.func27, Try.ntmps27
  have hw := hw2.out
  go_wp2_with fail
  clear hw hw2 hr hgr
  go_loopw [3, 12] (fun v i wr => ∃ k : Nat, k ≤ b.length ∧ i = .int .i64 (k : Int) ∧ wr.ownsRow w.heap.size 5 1 v (2 * k) (Pk.bcs (hv (b.take k))) ∧ Below w.heap.size w wr) (fun _ i _ => ((b.length : Int) - intOf i).toNat)
  case atStart => exact ⟨0, Nat.zero_le _, rfl, o1, b1⟩
  case round =>
    clear o1 b1
    obtain ⟨k, hk, rfl, o2, b2⟩ := hrel
    by_cases h1 : k < b.length
    · have d1 : decide ((k : Int) < (b.length : Int)) = true := decide_eq_true (by omega)
      obtain ⟨g, off, rfl, hg, hc⟩ := HV.out (by omega)
      have c0 := (b2.cell (p := ⟨g, off + k, none⟩) hg).trans (hc k h1)
      have hw := stp k (by have := hn.out; show _ ≤ _; omega)
      have hand : bits .and .u8 (Sp.bz b k) 15 = Sp.bz b k % 16 := by
        have h := and15 ⟨(Sp.bz b k).toNat, by have := Sp.bz_lt b k; omega⟩
        dsimp only at h
        rw [Int.toNat_of_nonneg (Sp.bz_nn b k)] at h
        rw [h]
        have := Sp.bz_nn b k
        omega
      have HE : Hid (Pk.bcs (hv (b.take k)) ++ [.int .u8 (Sp.bz b k / 16), .int .u8 (Sp.bz b k % 16)] = Pk.bcs (hv (b.take (k + 1)))) := bcs_hv b k h1
      have HR := room2 k b.length h1 hn
      have HR1 : Hid (2 * k + 2 ≤ maxLen) := HR.1
      have HR2 : Hid ((2 * k + 2) * 1 ≤ 140737488355328) := HR.2
      have HX : Hid (0 ≤ Sp.bz b k ∧ Sp.bz b k < 256) := ⟨Sp.bz_nn b k, Sp.bz_lt b k⟩
      clear HR hc
      generalize Sp.bz b k = X at *
      generalize Pk.bcs (hv (b.take k)) = L1 at *
      go_wp2_with (at_builtin; refine wpList_append_own _ rfl _ _ 22 rfl w.heap.size 5 i0 (.int .u8 0) 1 1 Try.underlying22 hi hz0 hz1 hz2 rfl (by decide) _ (2 * k) _ rfl (o2.alloc _) ⟨wr.heap.size, 0, none⟩ 2 2 [.int .u8 (X / 16), .int .u8 (X % 16)] rfl rfl ?c1 ?c2 HR1.out HR2.out ?c5 ?_)
      case c1 =>
        intro j u hj
        match j, hj with
        | 0, hj => cases hj; simp [go_sem]
        | 1, hj => cases hj; simp [go_sem]
      case c2 =>
        intro u hu
        simp only [List.mem_cons, List.not_mem_nil, or_false] at hu
        rcases hu with rfl | rfl <;> rfl
      case c5 => have := b2.size; simp; omega
      intro v' w4 hown' hgrow _
      have b4 : Below w.heap.size w w4 := (b2.alloc b2.size _).grown hgrow (by have := b2.size; simp; omega) (fun k hk => (o2.lt k hk).1)
      have R : Hid (w4.ownsRow w.heap.size 5 1 v' (2 * (k + 1)) (Pk.bcs (hv (b.take (k + 1))))) := by
        have e := hown'
        rw [HE.out] at e
        exact e
      clear hown' hgrow o2 b2
      go_wp2_with fail
      have hw := hw.out
      go_roundw
      case rel => exact ⟨k + 1, h1, step_v k _ hw, R.out, b4⟩
      case measure => exact msr k b.length h1 _ hw
    · have hkl : k = b.length := by omega
      subst hkl
      rw [List.take_length] at o2
      go_wp2_with fail
      go_ret
      exact ⟨_, rfl, by rw [hv_len]; exact o2, b2⟩
end Nb
end Go.Proofs.Ythlgneadcagleaa
namespace Go.Proofs.Ythlgneadcagleaa
namespace Tr
open Nb Go.RowKit
theorem na_none (v : Value) (W : World) : (nilAhead (Try.prog.types.size + Made.depth) 69 v "lampbearer/tree.get").run Try.prog W = .ok (some false) W := by kernel_rfl
theorem na_leaf (v : Value) (W : World) : (nilAhead (Try.prog.types.size + Made.depth) 71 v "lampbearer/tree.get").run Try.prog W = .ok (some false) W := by kernel_rfl
theorem na_road (v : Value) (W : World) : (nilAhead (Try.prog.types.size + Made.depth) 82 v "lampbearer/tree.get").run Try.prog W = .ok (some false) W := by kernel_rfl
theorem na_fork (a : Addr) (W : World) : (nilAhead (Try.prog.types.size + Made.depth) 73 (.pointer (some a)) "lampbearer/tree.get").run Try.prog W = .ok (some false) W := by kernel_rfl
theorem na_in {lo : Nat} {w : World} {t : Nd} {ty : TypeId} {yy : Value} {F : Nat → Prop} (h : In lo w t (.iface ty yy) F) (W : World) : (nilAhead (Try.prog.types.size + Made.depth) ty yy "lampbearer/tree.get").run Try.prog W = .ok (some false) W := by
  cases h with
  | none p v ks F => exact na_none _ W
  | leaf p v ks pv vv F hp hv => exact na_leaf _ W
  | road p v t pv g F hp hk => exact na_road _ W
  | fork p v ks g c F D hl hlo hb hc hFg hv hi hg hD hs => exact na_fork _ W
set_option maxRecDepth 100000 in
theorem wp_nilm {o : Oper} {a : Act} {w : World} {K : Act → World → Prop} {Q : Exit → Act → World → Prop} {x : Operand} {ty : TypeId} {yy : Value} (ho : o.op = .nilCheck x) (hx : a.eval x = .func (.method "lampbearer/tree.get") #[.iface ty yy] #[]) (hn : (nilAhead (Try.prog.types.size + Made.depth) ty yy "lampbearer/tree.get").run Try.prog w = .ok (some false) w)
    (h : K (a.put o.dst (.func (.method "lampbearer/tree.get") #[.iface ty yy] #[])) w) : o.wp Try.prog a w K Q := by
  have he : (execOp a.eval o).run Try.prog w = .ok (.value (.func (.method "lampbearer/tree.get") #[.iface ty yy] #[])) w := by
    unfold execOp
    simp only [ho, hx]
    have h0 : (#[Value.iface ty yy] : Array Value)[0]? = some (.iface ty yy) := rfl
    have hn2 : (nilAhead (Try.prog.types.size + 100) ty yy "lampbearer/tree.get").run Try.prog w = .ok (some false) w := hn
    simp only [h0, go_sem, Sem.run_bind, Result.andThen_ok, run_program, hn2]
    rfl
  unfold Oper.wp
  rw [he]
  exact h
set_option maxHeartbeats 1000000 in
set_option maxRecDepth 100000 in
theorem iskey_any (ak : Option Addr) (nk ck : Nat) (w : World) : Calls Try.prog 25 #[.slice ak nk ck] w fun e w' => e = .returned (.bool (decide (nk ≤ 32))) ∧ w' = w := by
  have e : decide (nk ≤ 32) = decide ((nk : Int) ≤ 32) := by rw [decide_eq_decide]; omega
  rw [e]
  clear e
  go_enter Try.func25, Try.ntmps25
  go_wp2_with fail
  go_ret
  exact ⟨rfl, rfl⟩
theorem halves_bs {S : Nat → Prop} {lo : Nat} {b : By} {v : Value} {w : World} (hb : Bs S b v w) (hl : b.length ≤ 2097152) : Calls Try.prog 27 #[v] w fun e w' => ∃ a n c, e = .returned (.slice a n c) ∧ Bs (Sb lo w') (hv b) (.slice a n c) w' ∧ Below w.heap.size w w' := by
  obtain ⟨ao, cap, h1, _, vw⟩ := Bs_sl hb
  subst h1
  refine (halves_any b ao cap w hl vw).mono fun e w' he => ?_
  obtain ⟨v, h1, h2, h3⟩ := he
  have h4 := own_bs h2
  obtain ⟨a, c, rfl, _⟩ := Bs_form h4
  exact ⟨a, _, c, h1, Bs_mono h4 (fun k hk _ => .inr hk.2), h3⟩
set_option maxHeartbeats 2000000 in
set_option maxRecDepth 100000 in
theorem get_form (k : Int) (a1 a2 a3 ak : Option Addr) (n1 c1 m2 c2 n3 c3 nk ck : Nat) (w : World) (KR0 : ∀ wx : World, Below w.heap.size w wx → Calls Try.prog 22 #[.agg #[.int .i64 k, .slice a1 n1 c1, .slice a2 m2 c2, .slice a3 n3 c3], .int .i64 0] wx fun e w' => ∃ y, e = .returned (.tuple #[y, .bool false]) ∧ Below wx.heap.size wx w') :
    Calls Try.prog 11 #[.agg #[.int .i64 k, .slice a1 n1 c1, .slice a2 m2 c2, .slice a3 n3 c3], .slice ak nk ck] w fun e w' => e = .returned (.tuple #[.slice none 0 0, .int .i64 1]) ∧ Below w.heap.size w w' := by
  have HB : Below w.heap.size w (w.alloc (.cells #[.int .i64 k, .slice a1 n1 c1, .slice a2 m2 c2, .slice a3 n3 c3] 25)) := (Below.refl _ _).alloc (Nat.le_refl _) _
  obtain ⟨_, q0, q1, q2, q3⟩ := Bx_new w (.int .i64 k, .slice a1 n1 c1, .slice a2 m2 c2, .slice a3 n3 c3)
  dsimp only at q0 q1 q2 q3
  have KR : Hid (Calls Try.prog 22 #[.agg #[.int .i64 k, .slice a1 n1 c1, .slice a2 m2 c2, .slice a3 n3 c3], .int .i64 0] (w.alloc (.cells #[.int .i64 k, .slice a1 n1 c1, .slice a2 m2 c2, .slice a3 n3 c3] 25)) fun e w' => ∃ y, e = .returned (.tuple #[y, .bool false]) ∧ Below (w.alloc (.cells #[.int .i64 k, .slice a1 n1 c1, .slice a2 m2 c2, .slice a3 n3 c3] 25)).heap.size (w.alloc (.cells #[.int .i64 k, .slice a1 n1 c1, .slice a2 m2 c2, .slice a3 n3 c3] 25)) w') := KR0 _ HB
  have HBB : Hid (Below w.heap.size w (w.alloc (.cells #[.int .i64 k, .slice a1 n1 c1, .slice a2 m2 c2, .slice a3 n3 c3] 25))) := HB
  clear KR0 HB
  go_enter Try.func11, Try.ntmps11
  go_wp2_with fail
  refine KR.out.mono ?_
  rintro e w1 ⟨y, rfl, hb1⟩
  have HZ : Hid (Below w.heap.size w w1) := HBB.out.trans (hb1.mono HBB.out.size)
  clear hb1
  go_wp2_with fail
  go_ret2
  exact ⟨rfl, HZ.out⟩
set_option maxHeartbeats 2000000 in
set_option maxRecDepth 100000 in
theorem get_key (k : Int) (a1 a2 a3 ak : Option Addr) (n1 c1 m2 c2 n3 c3 nk ck : Nat) (w : World) (KR0 : ∀ wx : World, Below w.heap.size w wx → Calls Try.prog 22 #[.agg #[.int .i64 k, .slice a1 n1 c1, .slice a2 m2 c2, .slice a3 n3 c3], .int .i64 0] wx fun e w' => ∃ y, e = .returned (.tuple #[y, .bool true]) ∧ Below wx.heap.size wx w') (hk : ¬ nk ≤ 32) :
    Calls Try.prog 11 #[.agg #[.int .i64 k, .slice a1 n1 c1, .slice a2 m2 c2, .slice a3 n3 c3], .slice ak nk ck] w fun e w' => e = .returned (.tuple #[.slice none 0 0, .int .i64 3]) ∧ Below w.heap.size w w' := by
  have HB : Below w.heap.size w (w.alloc (.cells #[.int .i64 k, .slice a1 n1 c1, .slice a2 m2 c2, .slice a3 n3 c3] 25)) := (Below.refl _ _).alloc (Nat.le_refl _) _
  obtain ⟨_, q0, q1, q2, q3⟩ := Bx_new w (.int .i64 k, .slice a1 n1 c1, .slice a2 m2 c2, .slice a3 n3 c3)
  dsimp only at q0 q1 q2 q3
  have KR : Hid (Calls Try.prog 22 #[.agg #[.int .i64 k, .slice a1 n1 c1, .slice a2 m2 c2, .slice a3 n3 c3], .int .i64 0] (w.alloc (.cells #[.int .i64 k, .slice a1 n1 c1, .slice a2 m2 c2, .slice a3 n3 c3] 25)) fun e w' => ∃ y, e = .returned (.tuple #[y, .bool true]) ∧ Below (w.alloc (.cells #[.int .i64 k, .slice a1 n1 c1, .slice a2 m2 c2, .slice a3 n3 c3] 25)).heap.size (w.alloc (.cells #[.int .i64 k, .slice a1 n1 c1, .slice a2 m2 c2, .slice a3 n3 c3] 25)) w') := KR0 _ HB
  have HBB : Hid (Below w.heap.size w (w.alloc (.cells #[.int .i64 k, .slice a1 n1 c1, .slice a2 m2 c2, .slice a3 n3 c3] 25))) := HB
  have KK : Hid (∀ wx : World, Calls Try.prog 25 #[.slice ak nk ck] wx fun e w' => e = .returned (.bool false) ∧ w' = wx) := fun wx => by
    have := iskey_any ak nk ck wx
    rwa [decide_eq_false hk] at this
  clear KR0 HB hk
  go_enter Try.func11, Try.ntmps11
  go_wp2_with fail
  refine KR.out.mono ?_
  rintro e w1 ⟨y, rfl, hb1⟩
  have HZ : Hid (Below w.heap.size w w1) := HBB.out.trans (hb1.mono HBB.out.size)
  clear hb1
  go_wp2_with fail
  refine (KK.out _).mono ?_
  rintro e w2 ⟨rfl, rfl⟩
  go_wp2_with fail
  go_ret2
  exact ⟨rfl, HZ.out⟩
inductive GGI (W0 : World) (lo : Nat) (b kh : By) (ty : Nat) (yy : Value) (k : Int) (a1 a2 a3 ak : Option Addr) (n1 c1 m2 c2 n3 c3 nk ck g2 : Nat) (d : Nat → Bool) (x : Act) (wx : World) : Prop where
  | mk (u4 u5 u18 u19 u20 u21 u22 u23 u24 u25 : Value) (hx : x = { tmps := #[.agg #[.int .i64 k, .slice a1 n1 c1, .slice a2 m2 c2, .slice a3 n3 c3], .slice ak nk ck, .pointer (some ⟨g2, 0, none⟩), undef, u4, u5, .iface ty yy, .bool true, .tuple #[.iface ty yy, .bool true], .agg #[.int .i64 k, .slice a1 n1 c1, .slice a2 m2 c2, .slice a3 n3 c3], .tuple #[.iface ty yy, .bool true], .iface ty yy, .bool true, .bool true, .bool false, .slice ak nk ck, .bool true, .bool false, u18, u19, u20, u21, u22, u23, u24, u25], defers := [] }) (hw : Below W0.heap.size W0 wx) (p0 : d 0 = true → u18 = .iface ty yy) (p1 : d 1 = true → u19 = .slice ak nk ck) (p3 : d 3 = true → u21 = .func (.method "lampbearer/tree.get") #[.iface ty yy] #[]) (p4 : d 4 = true → u22 = .func (.method "lampbearer/tree.get") #[.iface ty yy] #[]) (p5 : d 5 = true → u23 = .iface ty yy) (p9 : d 9 = true → u5 = .int .i64 0) (z2 : d 2 = true → ∃ a n c, u20 = .slice a n c ∧ Bs (Sb lo wx) kh (.slice a n c) wx) (z6 : d 6 = true → ∃ a c, u24 = .slice a b.length c ∧ Bs (Sb lo wx) b (.slice a b.length c) wx) (z7 : d 7 = true → ∃ a c, u25 = .slice a b.length c ∧ Bs (Sb lo wx) b (.slice a b.length c) wx) (z8 : d 8 = true → ∃ a c, u4 = .slice a b.length c ∧ Bs (Sb lo wx) b (.slice a b.length c) wx) : GGI W0 lo b kh ty yy k a1 a2 a3 ak n1 c1 m2 c2 n3 c3 nk ck g2 d x wx
set_option maxHeartbeats 2000000 in
set_option maxRecDepth 100000 in
theorem get_value (k : Int) (a1 a2 a3 ak : Option Addr) (n1 c1 m2 c2 n3 c3 nk ck : Nat) (w : World) (lo : Nat) (b kh : By) (t : Nd) (F : Nat → Prop) (KR0 : ∀ wx : World, Below w.heap.size w wx → Calls Try.prog 22 #[.agg #[.int .i64 k, .slice a1 n1 c1, .slice a2 m2 c2, .slice a3 n3 c3], .int .i64 0] wx fun e w' => ∃ y, e = .returned (.tuple #[y, .bool true]) ∧ In lo w' t y F ∧ Below wx.heap.size wx w') (hk : nk ≤ 32)
    (KH0 : ∀ wx : World, Below w.heap.size w wx → Calls Try.prog 27 #[.slice ak nk ck] wx fun e w' => ∃ a n c, e = .returned (.slice a n c) ∧ Bs (Sb lo w') kh (.slice a n c) w' ∧ Below wx.heap.size wx w')
    (KI0 : ∀ (ty : Nat) (yy kv : Value) (wx : World), In lo wx t (.iface ty yy) F → Bs (Sb lo wx) kh kv wx → Inv "lampbearer/tree.get" (.iface ty yy) #[kv] wx (GV2 lo wx b))
    (KC : Hid (∀ (v : Value) (wx : World), Bs (Sb lo wx) b v wx → Calls Try.prog 26 #[v] wx fun e w' => ∃ a c, e = .returned (.slice a b.length c) ∧ Bs (Sb lo w') b (.slice a b.length c) w' ∧ Below wx.heap.size wx w')) :
    Calls Try.prog 11 #[.agg #[.int .i64 k, .slice a1 n1 c1, .slice a2 m2 c2, .slice a3 n3 c3], .slice ak nk ck] w fun e w' => (∃ a c, e = .returned (.tuple #[.slice a b.length c, .int .i64 0]) ∧ Bs (Sb lo w') b (.slice a b.length c) w') ∧ Below w.heap.size w w' := by
  have HB : Below w.heap.size w (w.alloc (.cells #[.int .i64 k, .slice a1 n1 c1, .slice a2 m2 c2, .slice a3 n3 c3] 25)) := (Below.refl _ _).alloc (Nat.le_refl _) _
  obtain ⟨_, q0, q1, q2, q3⟩ := Bx_new w (.int .i64 k, .slice a1 n1 c1, .slice a2 m2 c2, .slice a3 n3 c3)
  dsimp only at q0 q1 q2 q3
  have KR : Hid (Calls Try.prog 22 #[.agg #[.int .i64 k, .slice a1 n1 c1, .slice a2 m2 c2, .slice a3 n3 c3], .int .i64 0] (w.alloc (.cells #[.int .i64 k, .slice a1 n1 c1, .slice a2 m2 c2, .slice a3 n3 c3] 25)) fun e w' => ∃ y, e = .returned (.tuple #[y, .bool true]) ∧ In lo w' t y F ∧ Below (w.alloc (.cells #[.int .i64 k, .slice a1 n1 c1, .slice a2 m2 c2, .slice a3 n3 c3] 25)).heap.size (w.alloc (.cells #[.int .i64 k, .slice a1 n1 c1, .slice a2 m2 c2, .slice a3 n3 c3] 25)) w') := KR0 _ HB
  have HBB : Hid (Below w.heap.size w (w.alloc (.cells #[.int .i64 k, .slice a1 n1 c1, .slice a2 m2 c2, .slice a3 n3 c3] 25))) := HB
  have KK : Hid (∀ wx : World, Calls Try.prog 25 #[.slice ak nk ck] wx fun e w' => e = .returned (.bool true) ∧ w' = wx) := fun wx => by
    have := iskey_any ak nk ck wx
    rwa [decide_eq_true hk] at this
  have KH1 : Hid (∀ wx : World, Below w.heap.size w wx → Calls Try.prog 27 #[.slice ak nk ck] wx fun e w' => ∃ a n c, e = .returned (.slice a n c) ∧ Bs (Sb lo w') kh (.slice a n c) w' ∧ Below wx.heap.size wx w') := KH0
  have KI1 : Hid (∀ (ty : Nat) (yy kv : Value) (wx : World), In lo wx t (.iface ty yy) F → Bs (Sb lo wx) kh kv wx → Inv "lampbearer/tree.get" (.iface ty yy) #[kv] wx (GV2 lo wx b)) := KI0
  clear KR0 HB hk KH0 KI0
  go_enter Try.func11, Try.ntmps11
  go_wp2_with fail
  refine KR.out.mono ?_
  rintro e w1 ⟨y, rfl, hin, hb1⟩
  obtain ⟨ty, yy, rfl⟩ := In_form hin
  have HNA : Hid (∀ W : World, (nilAhead (Try.prog.types.size + Made.depth) ty yy "lampbearer/tree.get").run Try.prog W = .ok (some false) W) := fun W => na_in hin W
  have HZ : Hid (Below w.heap.size w w1) := HBB.out.trans (hb1.mono HBB.out.size)
  have KI : Hid (∀ (kv : Value) (wx : World), Below w1.heap.size w1 wx → Bs (Sb lo wx) kh kv wx → Inv "lampbearer/tree.get" (.iface ty yy) #[kv] wx (GV2 lo wx b)) := fun kv wx hb hk => KI1.out ty yy kv wx (In_below hin hb) hk
  have KH : Hid (∀ wx : World, Below w1.heap.size w1 wx → Calls Try.prog 27 #[.slice ak nk ck] wx fun e w' => ∃ a n c, e = .returned (.slice a n c) ∧ Bs (Sb lo w') kh (.slice a n c) w' ∧ Below wx.heap.size wx w') := fun wx hb => KH1.out wx (HZ.out.trans (hb.mono HZ.out.size))
  have hw0 : Below w1.heap.size w1 w1.drew := (Below.refl _ _).drew
  clear hb1 hin KI1 KH1
  go_wp2_with fail
  refine (KK.out _).mono ?_
  rintro e w2 ⟨rfl, rfl⟩
  go_upto_region 6 with fail
  generalize hg2 : w.heap.size = g2 at *
  refine RI.wp_region_inv (GGI w2 lo b kh ty yy k a1 a2 a3 ak n1 c1 m2 c2 n3 c3 nk ck g2) (by kernel_rfl) (by kernel_rfl) ?_ ?_ ?_
  · exact ⟨.slice none 0 0, .int .i64 0, undef, undef, undef, undef, undef, undef, undef, undef, rfl, hw0, nofun, nofun, nofun, nofun, nofun, nofun, nofun, nofun, nofun, nofun⟩
  · skip
    intro d x wx i hI hi hm
    obtain ⟨u4, u5, u18, u19, u20, u21, u22, u23, u24, u25, rfl, hw, p0, p1, p3, p4, p5, p9, z2, z6, z7, z8⟩ := hI
    have hi' : i = 0 ∨ i = 1 ∨ i = 2 ∨ i = 3 ∨ i = 4 ∨ i = 5 ∨ i = 6 ∨ i = 7 ∨ i = 8 ∨ i = 9 := by simp at hi; omega
    have hd := hm.2
    have hf := hm.1
    clear hm hi
    rcases hi' with rfl | rfl | rfl | rfl | rfl | rfl | rfl | rfl | rfl | rfl
    · refine RI.wpOp_plain rfl rfl ?_
      go_simp
      exact ⟨u4, u5, _, u19, u20, u21, u22, u23, u24, u25, rfl, hw, fun _ => rfl, p1, p3, p4, p5, p9, z2, z6, z7, z8⟩
    · refine RI.wpOp_plain rfl rfl ?_
      go_simp
      exact ⟨u4, u5, u18, _, u20, u21, u22, u23, u24, u25, rfl, hw, p0, fun _ => rfl, p3, p4, p5, p9, z2, z6, z7, z8⟩
    · have hd := hd _ rfl
      simp [Region.binds] at hd
      obtain rfl := p1 (by simp [hd])
      refine RI.wpOp_plain rfl rfl ?_
      go_simp
      refine (KH.out _ hw).mono ?_
      rintro e w1 ⟨ha, hn, hc, rfl, hkh, hb1⟩
      exact ⟨u4, u5, u18, _, _, u21, u22, u23, u24, u25, rfl, hw.trans (hb1.mono hw.size), p0, p1, p3, p4, p5, p9, fun _ => ⟨_, _, _, rfl, hkh⟩, (fun h => (z6 h).imp fun a ha => ha.imp fun c hc => ⟨hc.1, Bs_ch hc.2 (ch_below (G := fun _ => False) hb1)⟩), (fun h => (z7 h).imp fun a ha => ha.imp fun c hc => ⟨hc.1, Bs_ch hc.2 (ch_below (G := fun _ => False) hb1)⟩), (fun h => (z8 h).imp fun a ha => ha.imp fun c hc => ⟨hc.1, Bs_ch hc.2 (ch_below (G := fun _ => False) hb1)⟩)⟩
    · have hd := hd _ rfl
      simp [Region.binds] at hd
      obtain rfl := p0 (by simp [hd])
      refine RI.wpOp_plain rfl rfl ?_
      go_simp
      exact ⟨u4, u5, _, u19, u20, _, u22, u23, u24, u25, rfl, hw, p0, p1, fun _ => rfl, p4, p5, p9, z2, z6, z7, z8⟩
    · have hd := hd _ rfl
      simp [Region.binds] at hd
      obtain rfl := p3 (by simp [hd])
      refine RI.wpOp_plain rfl rfl ?_
      refine wp_nilm rfl rfl (HNA.out _) ?_
      simp only [Act.put]
      exact ⟨u4, u5, u18, u19, u20, _, _, u23, u24, u25, rfl, hw, p0, p1, p3, fun _ => rfl, p5, p9, z2, z6, z7, z8⟩
    · have hd := hd _ rfl
      simp [Region.binds] at hd
      obtain rfl := p0 (by simp [hd])
      obtain rfl := p3 (by simp [hd])
      obtain rfl := p4 (by simp [hd])
      refine RI.wpOp_plain rfl rfl ?_
      go_simp
      exact ⟨u4, u5, _, u19, u20, _, _, _, u24, u25, rfl, hw, p0, p1, p3, p4, fun _ => rfl, p9, z2, z6, z7, z8⟩
    · have hd := hd _ rfl
      simp [Region.binds] at hd
      obtain rfl := p5 (by simp [hd])
      refine RI.wpOp_plain rfl rfl ?_
      obtain ⟨ha, hn, hc, rfl, hkh⟩ := z2 (by simp [hd])
      refine wp_inv (xv := .iface ty yy) (vs := #[.slice ha hn hc]) rfl rfl (by simp only [List.map_toArray, List.map_cons, List.map_nil]; rfl) ((KI.out _ _ hw hkh).mono ?_)
      rintro e w1 ⟨xa, xc, rfl, hx, hb1⟩
      refine ⟨_, rfl, ?_⟩
      simp only [Act.put]
      exact ⟨u4, u5, u18, u19, _, u21, u22, _, _, u25, rfl, hw.trans (hb1.mono hw.size), p0, p1, p3, p4, p5, p9, (fun h => (z2 h).imp fun a ha => ha.imp fun n hn => hn.imp fun c hc => ⟨hc.1, Bs_ch hc.2 (ch_below (G := fun _ => False) hb1)⟩), fun _ => ⟨_, _, rfl, hx⟩, (fun h => (z7 h).imp fun a ha => ha.imp fun c hc => ⟨hc.1, Bs_ch hc.2 (ch_below (G := fun _ => False) hb1)⟩), (fun h => (z8 h).imp fun a ha => ha.imp fun c hc => ⟨hc.1, Bs_ch hc.2 (ch_below (G := fun _ => False) hb1)⟩)⟩
    · have hd := hd _ rfl
      simp [Region.binds] at hd
      refine RI.wpOp_plain rfl rfl ?_
      obtain ⟨xa, xc, rfl, hx⟩ := z6 (by simp [hd])
      go_simp
      refine (KC.out _ _ hx).mono ?_
      rintro e w1 ⟨xa, xc, rfl, hx, hb1⟩
      exact ⟨u4, u5, u18, u19, u20, u21, u22, u23, _, _, rfl, hw.trans (hb1.mono hw.size), p0, p1, p3, p4, p5, p9, (fun h => (z2 h).imp fun a ha => ha.imp fun n hn => hn.imp fun c hc => ⟨hc.1, Bs_ch hc.2 (ch_below (G := fun _ => False) hb1)⟩), (fun h => (z6 h).imp fun a ha => ha.imp fun c hc => ⟨hc.1, Bs_ch hc.2 (ch_below (G := fun _ => False) hb1)⟩), fun _ => ⟨_, _, rfl, hx⟩, (fun h => (z8 h).imp fun a ha => ha.imp fun c hc => ⟨hc.1, Bs_ch hc.2 (ch_below (G := fun _ => False) hb1)⟩)⟩
    · have hd := hd _ rfl
      simp [Region.binds] at hd
      obtain rfl := p0 (by simp [hd])
      obtain rfl := p1 (by simp [hd])
      obtain rfl := p3 (by simp [hd])
      obtain rfl := p4 (by simp [hd])
      obtain rfl := p5 (by simp [hd])
      refine RI.wpOp_plain rfl rfl ?_
      obtain ⟨xa, xc, rfl, hx⟩ := z7 (by simp [hd])
      go_simp
      exact ⟨_, u5, _, _, u20, _, _, _, u24, _, rfl, hw, p0, p1, p3, p4, p5, p9, z2, z6, z7, fun _ => ⟨_, _, rfl, hx⟩⟩
    · have hd := hd _ rfl
      simp [Region.binds] at hd
      obtain rfl := p0 (by simp [hd])
      obtain rfl := p1 (by simp [hd])
      obtain rfl := p3 (by simp [hd])
      obtain rfl := p4 (by simp [hd])
      obtain rfl := p5 (by simp [hd])
      refine RI.wpOp_plain rfl rfl ?_
      go_simp
      exact ⟨u4, _, _, _, u20, _, _, _, u24, u25, rfl, hw, p0, p1, p3, p4, p5, fun _ => rfl, z2, z6, z7, z8⟩
  · skip
    intro d x wx hI hd
    obtain ⟨u4, u5, u18, u19, u20, u21, u22, u23, u24, u25, rfl, hw, p0, p1, p3, p4, p5, p9, z2, z6, z7, z8⟩ := hI
    obtain ⟨xa, xc, rfl, hx⟩ := z8 (hd 8 (by decide))
    obtain rfl := p9 (hd 9 (by decide))
    have HR : Hid (Bs (Sb lo wx) b (.slice xa b.length xc) wx) := hx
    have HZ2 : Hid (Below g2 w wx) := by show Below _ _ _; exact HZ.out.trans (hw.mono (by have := HZ.out.size; omega))
    clear hw hx p0 p1 p3 p4 p5 z2 z6 z7 z8
    go_wp2_with fail
    go_ret2
    exact ⟨⟨xa, xc, rfl, HR.out⟩, HZ2.out⟩
end Tr
end Go.Proofs.Ythlgneadcagleaa
namespace Go.Proofs.Ythlgneadcagleaa
namespace Tr
open Nb Go.RowKit
end Tr
end Go.Proofs.Ythlgneadcagleaa
