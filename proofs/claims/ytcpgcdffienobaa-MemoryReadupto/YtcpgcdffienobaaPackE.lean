/- Pairs in memory; pairs that came in. -/
import Derived.Test.YtcpgcdffienobaaPackD
import Derived.Test.YtcpgcdffienobaaPackC
import Derived.Test.YtcpgcdffienobaaPackA
import Derived.ProofKit
import Derived.OpenShut
import Derived.ShutString
import Derived.ChangeOld
import Derived.Laws.IdiomArrays
import Derived.Lib.SmallJoins
namespace Go.Proofs.Ytcpgcdffienobaa
namespace Tr
open Nb Go.ChangeShapes Go.WideShapes Go.ChangeAt Go.RowKit
abbrev V2 := Value × Value
def m2 : V2 := (undef, undef)
/-- A slice of two values each, in a block of S. -/
def Pc (S : Nat → Prop) (vs : List V2) (v : Value) (w : World) : Prop := ∃ (ao : Option Addr) (cap : Nat), v = .slice ao vs.length cap ∧ vs.length ≤ cap ∧ (0 < vs.length → ∃ h off, ao = some ⟨h, off, none⟩ ∧ S h ∧ h < w.heap.size ∧ ∀ j, j < vs.length → w.cell? ⟨h, off + 2 * j, none⟩ = some (vs.getD j m2).1 ∧ w.cell? ⟨h, off + 2 * j + 1, none⟩ = some (vs.getD j m2).2)
/-- A slice of pairs, in blocks of S. -/
def Pv (S : Nat → Prop) (l : Rt) (v : Value) (w : World) : Prop := ∃ vs : List V2, vs.length = l.length ∧ Pc S vs v w ∧ ∀ j, j < l.length → Bs S (l.getD j n2).1 (vs.getD j m2).1 w ∧ Bs S (l.getD j n2).2 (vs.getD j m2).2 w
theorem Pc_gb {S : Nat → Prop} {vs : List V2} {v : Value} {w w' : World} {r : Option Nat} (h : Pc S vs v w) (hb : w.grownBy w' r) (hr : ∀ k, S k → some k ≠ r) : Pc S vs v w' := by
  obtain ⟨ao, cap, h1, h2, h4⟩ := h
  refine ⟨ao, cap, h1, h2, fun h0 => ?_⟩
  obtain ⟨k, off, e, hne, hlt, hc⟩ := h4 h0
  have hbk : w'.heap[k]? = w.heap[k]? := hb.block k hlt (hr k hne)
  exact ⟨k, off, e, hne, Nat.lt_of_lt_of_le hlt hb.size, fun j hj => ⟨(World.cell?_of_block (a := ⟨k, off + 2 * j, none⟩) hbk).trans (hc j hj).1, (World.cell?_of_block (a := ⟨k, off + 2 * j + 1, none⟩) hbk).trans (hc j hj).2⟩⟩
theorem Pv_gb {S : Nat → Prop} {l : Rt} {v : Value} {w w' : World} {r : Option Nat} (h : Pv S l v w) (hb : w.grownBy w' r) (hr : ∀ k, S k → some k ≠ r) : Pv S l v w' := by
  obtain ⟨vs, h1, h2, h3⟩ := h
  exact ⟨vs, h1, Pc_gb h2 hb hr, fun j hj => ⟨Bs_gb (h3 j hj).1 hb hr, Bs_gb (h3 j hj).2 hb hr⟩⟩
theorem Pv_below {S : Nat → Prop} {l : Rt} {v : Value} {w w' : World} (h : Pv S l v w) (hb : Below w.heap.size w w') : Pv S l v w' := Pv_gb (r := none) h (gb_below hb) (fun k _ e => by cases e)
theorem Pv_mono {S S' : Nat → Prop} {l : Rt} {v : Value} {w : World} (h : Pv S l v w) (hs : ∀ k, S k → k < w.heap.size → S' k) : Pv S' l v w := by
  obtain ⟨vs, h1, ⟨ao, cap, g1, g2, g4⟩, h3⟩ := h
  refine ⟨vs, h1, ⟨ao, cap, g1, g2, fun h0 => ?_⟩, fun j hj => ⟨Bs_mono (h3 j hj).1 hs, Bs_mono (h3 j hj).2 hs⟩⟩
  obtain ⟨k, off, e, hne, hlt, hc⟩ := g4 h0
  exact ⟨k, off, e, hs k hne hlt, hlt, hc⟩
theorem Pv_nil (S : Nat → Prop) (w : World) : Pv S [] (.slice none 0 0) w := ⟨[], rfl, ⟨none, 0, rfl, Nat.le_refl _, fun h => absurd h (by simp)⟩, fun j hj => absurd hj (by simp)⟩
theorem Pv_form {S : Nat → Prop} {l : Rt} {v : Value} {w : World} (h : Pv S l v w) : ∃ ao cap, v = .slice ao l.length cap ∧ l.length ≤ cap := by
  obtain ⟨vs, h1, ⟨ao, cap, g1, g2, _⟩, _⟩ := h
  rw [h1] at g1 g2
  exact ⟨ao, cap, g1, g2⟩
/-- One of them. -/
theorem Pv_at {S : Nat → Prop} {l : Rt} {ao : Option Addr} {n cap : Nat} {w : World} (h : Pv S l (.slice ao n cap) w) {j : Nat} (hj : j < l.length) : ∃ (g off : Nat) (kv vv : Value), ao = some ⟨g, off, none⟩ ∧ S g ∧ g < w.heap.size ∧ w.cell? ⟨g, off + 2 * j, none⟩ = some kv ∧ w.cell? ⟨g, off + 2 * j + 1, none⟩ = some vv ∧ Bs S (l.getD j n2).1 kv w ∧ Bs S (l.getD j n2).2 vv w := by
  obtain ⟨vs, h1, ⟨ao', cap', g1, g2, g4⟩, h3⟩ := h
  injection g1 with e1 e2 e3
  subst e1
  obtain ⟨k, off, e, hne, hlt, hc⟩ := g4 (by omega)
  exact ⟨k, off, _, _, e, hne, hlt, (hc j (by omega)).1, (hc j (by omega)).2, (h3 j hj).1, (h3 j hj).2⟩
theorem sum_blk {H : Type} (G : Nat → Nat) (D : Nat → DataW H) : ∀ l : List Nat, (∀ i, i ∈ l → G i ≤ Rows.uptoBulk (D i)) → (l.map G).sum ≤ Rows.uptoBulkAll (l.map D)
  | [], _ => Nat.zero_le _
  | i :: r, h => by
    have h1 := h i (List.mem_cons_self ..)
    have h2 := sum_blk G D r (fun j hj => h j (List.mem_cons_of_mem _ hj))
    rw [List.map_cons, List.map_cons, Rows.uptoBulkAll, List.sum_cons]
    omega
end Tr
end Go.Proofs.Ytcpgcdffienobaa
/- A word that came in: its four parts make a number below 2^256. -/
namespace Go.Proofs.Ytcpgcdffienobaa
open Go.ChangeShapes Go.WideShapes Go.ChangeAt Go.RowKit Go.Joins
theorem Try.own : ownKnob Try.prog.godebug = none := by kernel_rfl
theorem Try.laidOut : laidOutB Try.prog = true := by kernel_rfl
theorem Try.cellsWord : Try.prog.cellsOf 32 = 4 := by kernel_rfl
theorem wd_parts (p q r s : Int) (hp : 0 ≤ p ∧ p < 18446744073709551616) (hq : 0 ≤ q ∧ q < 18446744073709551616) (hr : 0 ≤ r ∧ r < 18446744073709551616) (hs : 0 ≤ s ∧ s < 18446744073709551616) : ∃ n : Nat, n < 2 ^ 256 ∧ Value.agg #[.int .u64 p, .int .u64 q, .int .u64 r, .int .u64 s] = Wd n := by
  refine ⟨(p + q * 18446744073709551616 + r * 340282366920938463463374607431768211456 + s * 6277101735386680763835789423207666416102355444464034512896).toNat, by omega, wd_of ?_ ?_ ?_ ?_⟩
  · rw [dg0]; omega
  · rw [dg1]; omega
  · rw [dg2]; omega
  · rw [dg3]; omega
theorem okWide_array {P : Program} {w : World} {r : Reach} {base : Nat} {t e : TypeId} {n : Nat} {v : Value} (ht : P.underlying t = some (.array n e)) (h : Value.okWide P w r base t v) : ∃ cs, v = .agg cs ∧ cs.size = P.cellsOf t := by
  simp only [Value.okWide, ht] at h
  obtain ⟨cs, h1, h2, _⟩ := h
  exact ⟨cs, h1, h2⟩
theorem open_word {H : Type} {enc : TypeId × Value → H} {W : World} {r : Reach} {b0 base : Nat} {spare : Nat → Bool} {held : Bool} {v : Value} {d : DataW H} {p : List MemPlace}
    (hv : Value.okWide Try.prog W r b0 32 v) (h : DataW.Trod enc Try.prog W base spare held 32 v d p) : ∃ n : Nat, n < 2 ^ 256 ∧ v = Wd n := by
  obtain ⟨cs, rfl, hsz⟩ := okWide_array Try.underlying32 hv
  obtain ⟨c0, c1, c2, c3, rfl⟩ := array4 (hsz.trans Try.cellsWord)
  obtain ⟨fuel, hf⟩ := h
  obtain ⟨y0, y1, y2, y3, n, hx, h0, h1, h2, h3⟩ := trod_array4 Try.underlying32 Try.cellsU64 (by simpa [Value.cells] using hf)
  obtain ⟨a, e0, _, wa⟩ := DataW.trod_int Try.underlying27 h0
  obtain ⟨b, e1, _, wb⟩ := DataW.trod_int Try.underlying27 h1
  obtain ⟨c, e2, _, wc⟩ := DataW.trod_int Try.underlying27 h2
  obtain ⟨e, e3, _, we⟩ := DataW.trod_int Try.underlying27 h3
  simp at e0 e1 e2 e3
  subst e0 e1 e2 e3
  have ba := bounds_u64 wa
  have bb := bounds_u64 wb
  have bc := bounds_u64 wc
  have be := bounds_u64 we
  exact wd_parts a b c e (by omega) (by omega) (by omega) (by omega)
end Go.Proofs.Ytcpgcdffienobaa
/- Operations on memory that came in. -/
namespace Go.Proofs.Ytcpgcdffienobaa
namespace Mm
open Go.ChangeShapes Go.WideShapes Go.ChangeAt Go.RowKit Go.Joins
theorem cellsOp : Try.prog.cellsOf 38 = 18 := by kernel_rfl
theorem cellsI : Try.prog.cellsOf 3 = 1 := by kernel_rfl
theorem cellsBs : Try.prog.cellsOf 24 = 1 := by kernel_rfl
theorem word_of {H : Type} {enc : TypeId × Value → H} {W : World} {fuel : Nat} {c0 c1 c2 c3 : Value} {x : DataW H × List MemPlace} (h : DataW.trod enc Try.prog W 0 (fun _ => true) true fuel 32 [c0, c1, c2, c3] = some x) :
    ∃ n : Nat, n < 2 ^ 256 ∧ c0 = .int .u64 (dg n 0) ∧ c1 = .int .u64 (dg n 1) ∧ c2 = .int .u64 (dg n 2) ∧ c3 = .int .u64 (dg n 3) := by
  obtain ⟨y0, y1, y2, y3, n, hx, h0, h1, h2, h3⟩ := trod_array4 Try.underlying32 Try.cellsU64 h
  obtain ⟨a, e0, _, wa⟩ := DataW.trod_int Try.underlying27 h0
  obtain ⟨b, e1, _, wb⟩ := DataW.trod_int Try.underlying27 h1
  obtain ⟨c, e2, _, wc⟩ := DataW.trod_int Try.underlying27 h2
  obtain ⟨e, e3, _, we⟩ := DataW.trod_int Try.underlying27 h3
  simp at e0 e1 e2 e3
  subst e0 e1 e2 e3
  have ba := bounds_u64 wa
  have bb := bounds_u64 wb
  have bc := bounds_u64 wc
  have be := bounds_u64 we
  obtain ⟨n, hn, e⟩ := wd_parts a b c e (by omega) (by omega) (by omega) (by omega)
  unfold Wd at e
  injection e with e
  have f0 := congrArg (fun a : Array Value => a.getD 0 undef) e
  have f1 := congrArg (fun a : Array Value => a.getD 1 undef) e
  have f2 := congrArg (fun a : Array Value => a.getD 2 undef) e
  have f3 := congrArg (fun a : Array Value => a.getD 3 undef) e
  exact ⟨n, hn, f0, f1, f2, f3⟩
/-- All numbers of an operation are words. -/
def Wl (o : Mo) : Prop := o.a < 2 ^ 256 ∧ o.f < 2 ^ 256 ∧ o.l < 2 ^ 256 ∧ o.w < 2 ^ 256
def ocl (o : Mo) (v : Value) : List Value := [.int .i64 o.k, .int .u64 (dg o.a 0), .int .u64 (dg o.a 1), .int .u64 (dg o.a 2), .int .u64 (dg o.a 3), .int .u64 (dg o.f 0), .int .u64 (dg o.f 1), .int .u64 (dg o.f 2), .int .u64 (dg o.f 3), .int .u64 (dg o.l 0), .int .u64 (dg o.l 1), .int .u64 (dg o.l 2), .int .u64 (dg o.l 3), .int .u64 (dg o.w 0), .int .u64 (dg o.w 1), .int .u64 (dg o.w 2), .int .u64 (dg o.w 3), v]
theorem ocl_get (o : Mo) (v : Value) (j : Nat) (h : j < 18) : (ocl o v)[j]? = some (oc o.k o.a o.f o.l o.w v j) := by
  have := oc_of o.k o.a o.f o.l o.w v j h
  rw [List.getElem?_toArray] at this
  exact this
set_option maxRecDepth 100000 in
theorem op_of {H : Type} {enc : TypeId × Value → H} {W : World} {fuel : Nat} {cs : List Value} {x : DataW H × List MemPlace} (h : DataW.trod enc Try.prog W 0 (fun _ => true) true fuel 38 cs = some x) :
    ∃ (o : Mo) (v : Value), cs = ocl o v ∧ Tr.Bs (· < W.heap.size) o.d v W ∧ Wl o ∧ o.d.length + 1 ≤ Rows.uptoBulk x.1 := by
  obtain ⟨xs, n, rfl, rfl, hl, hlen, hf⟩ := DataW.trod_struct Try.underlying38 h
  match xs, hlen with
  | [y0, y1, y2, y3, y4, y5], _ =>
    have f0 := hf 0 _ rfl
    have f1 := hf 1 _ rfl
    have f2 := hf 2 _ rfl
    have f3 := hf 3 _ rfl
    have f4 := hf 4 _ rfl
    have f5 := hf 5 _ rfl
    rw [cellsOp] at hl
    match cs, hl with
    | [c0, c1, c2, c3, c4, c5, c6, c7, c8, c9, c10, c11, c12, c13, c14, c15, c16, c17], _ =>
      simp only [List.getElem?_cons_zero, List.getElem?_cons_succ] at f0 f1 f2 f3 f4 f5
      obtain ⟨k, e0, _, _⟩ := DataW.trod_int Try.underlying3 f0
      obtain ⟨a, ha, a0, a1, a2, a3⟩ := word_of f1
      obtain ⟨b, hb, b0, b1, b2, b3⟩ := word_of f2
      obtain ⟨c, hc, g0, g1, g2, g3⟩ := word_of f3
      obtain ⟨e, he, d0, d1, d2, d3⟩ := word_of f4
      obtain ⟨d, v, e5, ht, hd⟩ := Tr.text_of f5
      injection e0 with e0 _
      injection e5 with e5 _
      subst e0 e5 a0 a1 a2 a3 b0 b1 b2 b3 g0 g1 g2 g3 d0 d1 d2 d3
      have hB : Rows.uptoBulk (DataW.agg ([y0, y1, y2, y3, y4, y5].map (·.1))) = Rows.uptoBulk y0.1 + (Rows.uptoBulk y1.1 + (Rows.uptoBulk y2.1 + (Rows.uptoBulk y3.1 + (Rows.uptoBulk y4.1 + (Rows.uptoBulk y5.1 + 0))))) + 1 := by
        rw [Rows.uptoBulk]
        rfl
      refine ⟨⟨k, a, b, c, e, d⟩, _, rfl, ht, ⟨ha, hb, hc, he⟩, ?_⟩
      rw [hB]
      show d.length + 1 ≤ _
      omega
theorem bulk_at {H : Type} : ∀ (l : List (DataW H)) (j : Nat) (x : DataW H), l[j]? = some x → Rows.uptoBulk x ≤ Rows.uptoBulkAll l
  | [], j, x, h => by simp at h
  | y :: r, 0, x, h => by
    simp at h
    subst h
    rw [Rows.uptoBulkAll]
    omega
  | y :: r, j + 1, x, h => by
    have := bulk_at r j x (by simpa using h)
    rw [Rows.uptoBulkAll]
    omega
theorem Mr_nil (S : Nat → Prop) (w : World) : Mr S [] (.slice none 0 0) w := ⟨[], none, 0, rfl, rfl, Nat.le_refl _, fun h => absurd h (by simp)⟩
set_option maxRecDepth 100000 in
theorem open_ops {H : Type} {enc : TypeId × Value → H} {W : World} {r : Reach} {b0 : Nat} {v : Value} {d : DataW H} {p : List MemPlace}
    (hv : Value.okWide Try.prog W r b0 22 v) (h : DataW.Trod enc Try.prog W 0 (fun _ => true) true 22 v d p) :
    ∃ l : List Mo, Mr (· < W.heap.size) l v W ∧ l.length + 1 ≤ Rows.uptoBulk d ∧ ∀ j, j < l.length → Wl (l.getD j no) ∧ (l.getD j no).d.length ≤ Rows.uptoBulk d := by
  obtain ⟨a0, len, cap, rfl⟩ := okWide_slice Try.underlying22 hv
  obtain ⟨fuel, hf⟩ := h
  rcases DataW.trod_slice Try.underlying22 hf with ⟨hcs, hx⟩ | ⟨a, len', cap', elems, rest, m, rfl, hcs, hx, _, hle, _, hel, hat, _, _⟩
  · simp [Value.cells] at hcs
    obtain ⟨rfl, rfl, rfl⟩ := hcs
    exact ⟨[], Mr_nil _ _, Tr.blk1 _, fun j hj => absurd hj (by simp)⟩
  · simp [Value.cells] at hcs
    obtain ⟨rfl, rfl, rfl⟩ := hcs
    have hd : Rows.uptoBulk d = Rows.uptoBulkAll (elems.map (·.1)) + Rows.uptoBulkAll (rest.map (·.1)) + 1 := by
      have : d = _ := congrArg Prod.fst hx
      rw [this, Rows.uptoBulk]
    have HI : ∀ i, ∃ p : Mo × Value, i < len → (∃ cs', W.cells? 0 (a.add (i * 18)) 18 = some cs' ∧ cs' = ocl p.1 p.2) ∧ Tr.Bs (· < W.heap.size) p.1.d p.2 W ∧ Wl p.1 ∧ p.1.d.length ≤ Rows.uptoBulk d := fun i => by
      by_cases hi : i < len
      · have k := hat i hi
        rw [cellsOp] at k
        rw [List.getElem?_eq_getElem (by omega)] at k
        cases hc : W.cells? 0 (a.add (i * 18)) 18 with
        | none => rw [hc] at k; cases k
        | some cs' =>
          rw [hc] at k
          obtain ⟨o, u, e1, e2, e3, e4⟩ := op_of k
          have hb := bulk_at (elems.map (·.1)) i (elems[i]'(by omega)).1 (by simp [List.getElem?_eq_getElem (show i < elems.length by omega)])
          exact ⟨(o, u), fun _ => ⟨⟨cs', rfl, e1⟩, e2, e3, by show o.d.length ≤ _; omega⟩⟩
      · exact ⟨(no, undef), fun h => absurd h hi⟩
    obtain ⟨F, hF⟩ := Classical.axiomOfChoice HI
    have hks : ((List.range len).map fun i => (F i).1).length = len := by simp
    have hvs : ((List.range len).map fun i => (F i).2).length = len := by simp
    refine ⟨(List.range len).map fun i => (F i).1, ⟨(List.range len).map fun i => (F i).2, some a, cap, by rw [hvs, hks], by rw [hks], by rw [hks]; exact hle, fun hp => ?_⟩, ?_, fun j hj => ?_⟩
    · rw [hks] at hp
      obtain ⟨bl, off, spot⟩ := a
      obtain ⟨cs', k1, k2⟩ := (hF 0 hp).1
      obtain ⟨_, _, k3⟩ := World.cells?_some k1
      have k4 := k3 0 (by decide)
      rw [k2, ocl_get _ _ 0 (by decide)] at k4
      have hspot : spot = none := by simpa [Addr.add] using World.cell?_spot k4
      subst hspot
      have hbw : bl < W.heap.size := World.block_lt_of_cell? W _ (by simpa [Go.WideShapes.add_plain] using k4)
      refine ⟨bl, off, rfl, hbw, hbw, fun j hj => ?_⟩
      rw [hks] at hj
      rw [Tr.getD_range _ _ _ _ hj, Tr.getD_range _ _ _ _ hj]
      obtain ⟨cs2, k5, k6⟩ := (hF j hj).1
      obtain ⟨_, _, k7⟩ := World.cells?_some k5
      rw [Go.WideShapes.add_plain] at k7
      refine ⟨fun o ho => ?_, (hF j hj).2.1⟩
      have g0 := k7 o ho
      rw [Go.WideShapes.add_plain, k6, ocl_get _ _ o ho] at g0
      rw [Nat.mul_comm 18 j]
      exact g0
    · have hN := Tr.blkN (elems.map (·.1))
      rw [List.length_map, hel] at hN
      rw [hd, hks]
      omega
    · rw [hks] at hj
      rw [Tr.getD_range _ _ _ _ hj]
      exact (hF j hj).2.2
theorem Mr_gb {S : Nat → Prop} {l : List Mo} {v : Value} {w w' : World} {r : Option Nat} (h : Mr S l v w) (hb : w.grownBy w' r) (hr : ∀ k, S k → some k ≠ r) : Mr S l v w' := by
  obtain ⟨ds, ao, cap, h1, h2, h3, h4⟩ := h
  refine ⟨ds, ao, cap, h1, h2, h3, fun h0 => ?_⟩
  obtain ⟨k, off, e, hne, hlt, hc⟩ := h4 h0
  have hbk : w'.heap[k]? = w.heap[k]? := hb.block k hlt (hr k hne)
  exact ⟨k, off, e, hne, Nat.lt_of_lt_of_le hlt hb.size, fun j hj => ⟨fun o ho => (World.cell?_of_block (a := ⟨k, off + 18 * j + o, none⟩) hbk).trans ((hc j hj).1 o ho), Tr.Bs_gb (hc j hj).2 hb hr⟩⟩
theorem Mr_mono {S S' : Nat → Prop} {l : List Mo} {v : Value} {w : World} (h : Mr S l v w) (hs : ∀ k, S k → k < w.heap.size → S' k) : Mr S' l v w := by
  obtain ⟨ds, ao, cap, h1, h2, h3, h4⟩ := h
  refine ⟨ds, ao, cap, h1, h2, h3, fun h0 => ?_⟩
  obtain ⟨k, off, e, hne, hlt, hc⟩ := h4 h0
  exact ⟨k, off, e, hs k hne hlt, hlt, fun j hj => ⟨(hc j hj).1, Tr.Bs_mono (hc j hj).2 hs⟩⟩
theorem Mr_below {l : List Mo} {v : Value} {w w' : World} (h : Mr (· < w.heap.size) l v w) (hb : Below w.heap.size w w') : Mr (· < w'.heap.size) l v w' :=
  Mr_mono (Mr_gb (r := none) h (Tr.gb_below hb) (fun k _ e => by cases e)) (fun k h1 h2 => h2)
theorem wf_of {o : Mo} {n : Nat} (h : Wl o) (h2 : o.d.length ≤ n) (hn : n ≤ 1048576) : Wf o := ⟨h.1, h.2.1, h.2.2.1, by omega⟩
end Mm
end Go.Proofs.Ytcpgcdffienobaa
/- Operations in rows of one's own: slices.Clone, append. -/
namespace Go.Proofs.Ytcpgcdffienobaa
namespace Mm
open Go.RowKit Pk
abbrev OV := Mo × Value
def OC (xs : List OV) : List Value := xs.flatMap fun x => ocl x.1 x.2
theorem ocl_len (o : Mo) (v : Value) : (ocl o v).length = 18 := rfl
theorem OC_len (xs : List OV) : (OC xs).length = xs.length * 18 := by
  induction xs with
  | nil => rfl
  | cons x r ih =>
    show ((ocl x.1 x.2) ++ OC r).length = _
    rw [List.length_append, ocl_len, ih, List.length_cons]
    omega
theorem OC_app (xs ys : List OV) : OC (xs ++ ys) = OC xs ++ OC ys := by simp [OC]
theorem OC_get : ∀ (xs : List OV) (i o : Nat), i < xs.length → o < 18 → (OC xs)[18 * i + o]? = some (oc (xs.getD i (no, undef)).1.k (xs.getD i (no, undef)).1.a (xs.getD i (no, undef)).1.f (xs.getD i (no, undef)).1.l (xs.getD i (no, undef)).1.w (xs.getD i (no, undef)).2 o)
  | [], i, o, h, _ => absurd h (by simp)
  | x :: r, 0, o, _, ho => by
    show (ocl x.1 x.2 ++ OC r)[18 * 0 + o]? = _
    rw [show 18 * 0 + o = o by omega, List.getElem?_append_left (by rw [ocl_len]; exact ho), ocl_get _ _ o ho]
    rfl
  | x :: r, i + 1, o, h, ho => by
    show (ocl x.1 x.2 ++ OC r)[18 * (i + 1) + o]? = _
    rw [List.getElem?_append_right (by rw [ocl_len]; omega), ocl_len, show 18 * (i + 1) + o - 18 = 18 * i + o by omega, OC_get r i o (by simpa using h) ho]
    rfl
def isSl (v : Value) : Prop := ∃ a n c, v = .slice a n c
theorem Bs_isSl {S : Nat → Prop} {b : By} {v : Value} {w : World} (h : Tr.Bs S b v w) : isSl v := by
  obtain ⟨ao, cap, e, _⟩ := h
  exact ⟨_, _, _, e⟩
theorem OC_one (xs : List OV) (h : ∀ x, x ∈ xs → isSl x.2) : ∀ u ∈ OC xs, u.oneCell' = true := fun u hu => by
  unfold OC at hu
  obtain ⟨x, hx, h2⟩ := List.mem_flatMap.1 hu
  obtain ⟨a, n, c, e⟩ := h x hx
  unfold ocl at h2
  rw [e] at h2
  simp only [List.mem_cons, List.not_mem_nil, or_false] at h2
  rcases h2 with rfl | rfl | rfl | rfl | rfl | rfl | rfl | rfl | rfl | rfl | rfl | rfl | rfl | rfl | rfl | rfl | rfl | rfl <;> rfl
/-- A slice of operations whose cells are those of xs. -/
def VO (xs : List OV) (v : Value) (w : World) : Prop := ∃ (ao : Option Addr) (cap : Nat), v = .slice ao xs.length cap ∧ (0 < xs.length → ∃ g off, ao = some ⟨g, off, none⟩ ∧ g < w.heap.size ∧ ∀ j, j < xs.length * 18 → w.cell? ⟨g, off + j, none⟩ = (OC xs)[j]?)
theorem VO_below {xs : List OV} {v : Value} {w w' : World} (h : VO xs v w) (hb : Below w.heap.size w w') : VO xs v w' := by
  obtain ⟨ao, cap, h1, h3⟩ := h
  refine ⟨ao, cap, h1, fun h0 => ?_⟩
  obtain ⟨g, off, h4, h5, h6⟩ := h3 h0
  exact ⟨g, off, h4, Nat.lt_of_lt_of_le h5 hb.size, fun j hj => (hb.cell (p := ⟨g, off + j, none⟩) h5).trans (h6 j hj)⟩
theorem getD_zip (l : List Mo) (ds : List Value) (j : Nat) (h : j < l.length) (h2 : ds.length = l.length) : (l.zip ds).getD j (no, undef) = (l.getD j no, ds.getD j undef) := by
  simp [List.getD_eq_getElem?_getD, List.getElem?_eq_getElem h, List.getElem?_eq_getElem (show j < ds.length by omega), List.getElem?_eq_getElem (show j < (l.zip ds).length by simp; omega)]
theorem getD_mem {α : Type} (l : List α) (d : α) (j : Nat) (h : j < l.length) : l.getD j d ∈ l := by
  simp [List.getD_eq_getElem?_getD, List.getElem?_eq_getElem h]
theorem mem_getD {α : Type} (l : List α) (d x : α) (h : x ∈ l) : ∃ j, j < l.length ∧ l.getD j d = x := by
  obtain ⟨j, hj, e⟩ := List.getElem_of_mem h
  exact ⟨j, hj, by simp [List.getD_eq_getElem?_getD, List.getElem?_eq_getElem hj, e]⟩
/-- What came in, by cells. -/
theorem Mr_VO {S : Nat → Prop} {l : List Mo} {v : Value} {w : World} (h : Mr S l v w) : ∃ xs : List OV, xs.map (·.1) = l ∧ VO xs v w ∧ ∀ x, x ∈ xs → Tr.Bs S x.1.d x.2 w := by
  obtain ⟨ds, ao, cap, h1, h2, h3, h4⟩ := h
  have hz : (l.zip ds).length = l.length := by simp; omega
  refine ⟨l.zip ds, List.map_fst_zip (by omega), ⟨ao, cap, by rw [hz]; exact h2, fun h0 => ?_⟩, fun x hx => ?_⟩
  · rw [hz] at h0
    obtain ⟨g, off, e, _, hlt, hc⟩ := h4 h0
    refine ⟨g, off, e, hlt, fun j hj => ?_⟩
    rw [hz] at hj
    have hg := OC_get (l.zip ds) (j / 18) (j % 18) (by rw [hz]; omega) (by omega)
    rw [show 18 * (j / 18) + j % 18 = j by omega, getD_zip l ds _ (by omega) h1] at hg
    have hk := (hc (j / 18) (by omega)).1 (j % 18) (by omega)
    rw [show off + 18 * (j / 18) + j % 18 = off + j by omega] at hk
    rw [hk, hg]
  · obtain ⟨j, hj, e⟩ := mem_getD _ (no, undef) x hx
    rw [hz] at hj
    rw [getD_zip l ds _ hj h1] at e
    subst e
    obtain ⟨g, off, _, _, _, hc⟩ := h4 (by omega)
    exact (hc j hj).2
theorem getD_fst (xs : List OV) (j : Nat) (h : j < xs.length) : (xs.map (·.1)).getD j no = (xs.getD j (no, undef)).1 := by
  simp [List.getD_eq_getElem?_getD, List.getElem?_eq_getElem h]
theorem getD_snd (xs : List OV) (j : Nat) (h : j < xs.length) : (xs.map (·.2)).getD j undef = (xs.getD j (no, undef)).2 := by
  simp [List.getD_eq_getElem?_getD, List.getElem?_eq_getElem h]
def Oo (B : Nat) (xs : List OV) (v : Value) (w : World) : Prop := w.ownsRow B 38 18 v xs.length (OC xs)
/-- A row of one's own, as it is handed to Play. -/
theorem Oo_Mr {B : Nat} {S : Nat → Prop} {xs : List OV} {v : Value} {w : World} (h : Oo B xs v w) (hd : ∀ x, x ∈ xs → Tr.Bs S x.1.d x.2 w) (hS : ∀ k, B ≤ k → k < w.heap.size → S k) : Mr S (xs.map (·.1)) v w := by
  have hl : (xs.map (·.1)).length = xs.length := by simp
  rcases h.2 with ⟨h3, h4⟩ | ⟨g, cap, cur, h3, h5⟩
  · have e : xs = [] := List.length_eq_zero_iff.1 h4
    subst e h3
    exact Mr_nil _ _
  · subst h3
    refine ⟨xs.map (·.2), some ⟨g, 0, none⟩, cap, by simp, by rw [hl], by rw [hl]; exact h5.2.2.1, fun h0 => ⟨g, 0, rfl, hS g h5.1 (lt_of_heap h5.2.1), lt_of_heap h5.2.1, fun j hj => ?_⟩⟩
    rw [hl] at hj
    rw [getD_fst xs j hj, getD_snd xs j hj]
    refine ⟨fun o ho => ?_, hd _ (getD_mem xs _ j hj)⟩
    rw [Nat.zero_add, h.cellAt (18 * j + o) (by omega), OC_get xs j o hj ho]
theorem infoO : (Try.prog.info? 38).map (fun i => (i.zero, i.size, i.bytes)) = some (some (.agg #[.int .i64 0, .int .u64 0, .int .u64 0, .int .u64 0, .int .u64 0, .int .u64 0, .int .u64 0, .int .u64 0, .int .u64 0, .int .u64 0, .int .u64 0, .int .u64 0, .int .u64 0, .int .u64 0, .int .u64 0, .int .u64 0, .int .u64 0, .slice none 0 0]), 18, 160) := by kernel_rfl
theorem app_op {base : Nat} {xs ys : List OV} {v vb : Value} {w : World} (ty : TypeId) (h : Oo base xs v w) (hb : VO ys vb w) (hy : ∀ x, x ∈ ys → isSl x.2) (hbase : base ≤ w.heap.size) (hlen : xs.length + ys.length ≤ 4194304) :
    ∃ v' w', (Builtin.append_ #[22, 22] ty #[v, vb]).run Try.prog w = .ok v' w' ∧ Oo base (xs ++ ys) v' w' ∧ w.grownBy w' v.ownBlock := by
  obtain ⟨i0, hi, hz0, hz1, hz2⟩ := info_parts infoO
  obtain ⟨ao, cap, rfl, vw⟩ := hb
  by_cases h0 : 0 < ys.length
  · obtain ⟨g, off, rfl, hg, hc⟩ := vw h0
    obtain ⟨v', w', hr, ho, hgr, _⟩ := run_append_own (P := Try.prog) w base 22 ty 38 i0 _ 18 160 Try.underlying22 hi hz0 hz1 hz2 rfl (by decide) v xs.length (OC xs) h ⟨g, off, none⟩ ys.length cap (OC ys) (OC_len ys)
      (fun j u hj => by
        have hj' : j < ys.length * 18 := by have := (List.getElem?_eq_some_iff.1 hj).1; rwa [OC_len] at this
        rw [Sp.add_lit, hc j hj', hj]) (OC_one ys hy) (by unfold maxLen; omega) (by omega) hbase
    refine ⟨v', w', hr, by unfold Oo; rw [List.length_append, OC_app]; exact ho, hgr⟩
  · have e : ys = [] := List.length_eq_zero_iff.1 (by omega)
    subst e
    rw [List.append_nil]
    refine ⟨v, w, ?_, h, gb_refl w _⟩
    have hs : Src Try.prog i0.size 22 (.slice ao 0 cap) 0 [] w := by
      cases ao with
      | none => exact Src.ofNil w Try.underlying22 cap
      | some ad => exact Src.ofSlice w Try.underlying22 ad 0 cap [] (by simp) (fun j u hj => by simp at hj) (fun u hu => by cases hu)
    rcases h.2 with ⟨h3, h4⟩ | ⟨g', cap', cur, h3, h5⟩
    · subst h3
      exact run_append_nothing w 22 22 ty 38 i0 Try.underlying22 hi none 0 0 (Nat.le_refl _) _ hs
    · subst h3
      exact run_append_nothing w 22 22 ty 38 i0 Try.underlying22 hi _ _ _ h5.2.2.1 _ hs
theorem Oo_below {B : Nat} {xs : List OV} {v : Value} {w w' : World} (h : Oo B xs v w) (hb : Below w.heap.size w w') : Oo B xs v w' := h.kept (Tr.gb_below hb) ((Classical.em (v.ownBlock = none)).elim .inl .inr)
set_option maxHeartbeats 2000000 in
set_option maxRecDepth 100000 in
theorem clone_op (xs : List OV) (v : Value) (w : World) (hv : VO xs v w) (hs : ∀ x, x ∈ xs → isSl x.2) (hl : xs.length ≤ 4194304) :
    Calls Try.prog 15 #[v] w fun e w' => ∃ z, e = .returned z ∧ Oo w.heap.size xs z w' ∧ Below w.heap.size w w' := by
  have hv0 := hv
  obtain ⟨ao, cap, rfl, hq⟩ := hv
  cases ao with
  | none =>
    have h0 : xs.length = 0 := by
      apply Classical.byContradiction
      intro h
      obtain ⟨g, off, e, _⟩ := hq (by omega)
      cases e
    have h1 : xs = [] := List.length_eq_zero_iff.1 h0
    subst h1
    have x1 := Lib.run_eql_slice_nil w 22 38 none 0 cap 0 0 Try.underlying22
    clear hv0 hq h0 hl hs
    show Calls Try.prog _ #[.slice none 0 cap] w _
    go_enter Try.func15, Try.ntmps15
    go_wp2_with fail
    go_ret
    exact ⟨_, rfl, World.ownsRow_nil _ _ _ _, Below.refl _ _⟩
  | some ad =>
    have x1 := Lib.run_eql_slice_nil w 22 38 (some ad) xs.length cap 0 0 Try.underlying22
    have ba : Below w.heap.size w (w.alloc (.cells #[] 38)) := (Below.refl _ _).alloc (Nat.le_refl _) _
    have ow : Oo w.heap.size [] (.slice (some ⟨w.heap.size, 0, none⟩) 0 0) (w.alloc (.cells #[] 38)) := World.ownsRow_lit w #[] 0 (Nat.le_refl _) (Nat.zero_le _) rfl
    obtain ⟨z, w2, hap, ho, hb⟩ := app_op 22 ow (VO_below hv0 ba) hs ba.size (by simpa using hl)
    have HO : Hid (Oo w.heap.size xs z w2) := by show Oo _ _ _ _; simpa using ho
    have HB : Hid (Below w.heap.size w w2) := ba.trans ((Below.refl _ _).grown hb ba.size (fun k hk => (Sp.own_lo ow k hk).1))
    clear hv0 hq hl ow ho hb ba hs
    go_enter Try.func15, Try.ntmps15
    go_wp2_with (at_builtin; refine Tr.wpList_apw rfl rfl rfl rfl hap ?_)
    go_ret
    exact ⟨_, rfl, HO.out, HB.out⟩
end Mm
end Go.Proofs.Ytcpgcdffienobaa
/- What grows is paid for once: as numbers. -/
namespace Go.Proofs.Ytcpgcdffienobaa
namespace Mm
open Go.RowKit
theorem gco_paid (m : By) (e : Nat) (h : m.length % 32 = 0) : cst ((m.length / 32 : Nat) : Int) + gco m e = cst (((grw m e).length / 32 : Nat) : Int) := by
  unfold gco grw
  rw [List.length_append, List.length_replicate]
  by_cases h0 : (e + 31) / 32 ≤ m.length / 32
  · rw [if_pos h0, show (e + 31) / 32 - m.length / 32 = 0 by omega]
    simp
  · rw [if_neg h0, show (m.length + ((e + 31) / 32 - m.length / 32) * 32) / 32 = (e + 31) / 32 by omega]
    omega
theorem grw_mod (m : By) (e : Nat) (h : m.length % 32 = 0) : (grw m e).length % 32 = 0 := by
  unfold grw
  rw [List.length_append, List.length_replicate]
  omega
theorem grw_le (m : By) (e : Nat) (h0 : m.length % 32 = 0) (h : m.length ≤ 4096) (he : e ≤ 4096) : (grw m e).length ≤ 4096 := by
  unfold grw
  rw [List.length_append, List.length_replicate]
  omega
theorem grw_len (m : By) (e : Nat) (h : m.length % 32 = 0) : (grw m e).length = max m.length ((e + 31) / 32 * 32) := by
  unfold grw
  rw [List.length_append, List.length_replicate]
  omega
/-- A memory: whole words, and not too many. -/
def Mw (m : By) : Prop := m.length % 32 = 0 ∧ m.length ≤ 4096
theorem cut_len2 (m : By) (f t : Nat) (h : t ≤ m.length) : (cut m f t).length = t - f := cut_len m f t h
theorem dn_paid (m : By) (o : Mo) (h : Mw m) : cst ((m.length / 32 : Nat) : Int) + (dn m o).1.2.2 = cst (((dn m o).2.length / 32 : Nat) : Int) ∧ Mw (dn m o).2 ∧ m.length ≤ (dn m o).2.length := by
  obtain ⟨h1, h2⟩ := h
  have one : ∀ e f (b : By), e ≤ 4096 → f + b.length ≤ e → (cst ((m.length / 32 : Nat) : Int) + gco m e = cst (((lay (grw m e) f b).length / 32 : Nat) : Int) ∧ Mw (lay (grw m e) f b)) ∧ m.length ≤ (lay (grw m e) f b).length := fun e f b he hf => by
    have hg := grw_ge m e h1
    unfold Mw
    rw [lay_len _ _ _ (by omega)]
    exact ⟨⟨gco_paid m e h1, grw_mod m e h1, grw_le m e h1 h2 he⟩, by rw [grw_len m e h1]; omega⟩
  unfold dn
  by_cases h0 : (spans o).2.2 ≠ 0
  · rw [if_pos h0]
    exact ⟨by simp, ⟨h1, h2⟩, Nat.le_refl _⟩
  rw [if_neg h0]
  have h0 : (spans o).2.2 = 0 := by simpa using h0
  by_cases k1 : o.k = 1
  · rw [if_pos k1]
    obtain ⟨_, e2⟩ := spans_1 h0 32 (by omega) (by unfold tch; rw [if_pos (.inl k1)]) (by decide)
    exact ⟨gco_paid m _ h1, ⟨grw_mod m _ h1, grw_le m _ h1 h2 e2⟩, by show _ ≤ (grw m _).length; rw [grw_len m _ h1]; omega⟩
  rw [if_neg k1]
  by_cases k2 : o.k = 2
  · rw [if_pos k2]
    obtain ⟨_, e2⟩ := spans_1 h0 32 (by omega) (by unfold tch; rw [if_pos (.inr k2)]) (by decide)
    have := one (o.a + 32) o.a (Pk.wb o.w) e2 (by rw [Pk.wb_len]; omega)
    exact ⟨this.1.1, this.1.2, this.2⟩
  rw [if_neg k2]
  by_cases k3 : o.k = 3
  · rw [if_pos k3]
    obtain ⟨_, e2⟩ := spans_1 h0 1 (by omega) (by unfold tch; rw [if_neg (by omega), if_pos k3]) (by decide)
    have := one (o.a + 1) o.a [UInt8.ofNat o.w] e2 (by simp)
    exact ⟨this.1.1, this.1.2, this.2⟩
  rw [if_neg k3]
  by_cases k4 : o.k = 4
  · rw [if_pos k4]
    by_cases h5 : o.l = 0
    · rw [if_pos h5]
      exact ⟨by simp, ⟨h1, h2⟩, Nat.le_refl _⟩
    rw [if_neg h5]
    obtain ⟨_, e2, e3⟩ := spans_4 h0 k4 h5
    have hg := grw_ge m (max (o.a + o.l) (o.f + o.l)) h1
    have := one (max (o.a + o.l) (o.f + o.l)) o.a (cut (grw m (max (o.a + o.l) (o.f + o.l))) o.f (o.f + o.l)) (by omega) (by rw [cut_len _ _ _ (by omega)]; omega)
    exact ⟨this.1.1, this.1.2, this.2⟩
  rw [if_neg k4]
  by_cases h5 : o.d.length = 0
  · rw [if_pos h5]
    exact ⟨by simp, ⟨h1, h2⟩, Nat.le_refl _⟩
  rw [if_neg h5]
  have hk5 : tch o = (o.d.length, 0) := by
    have h9 : (tch o).2 = 0 := by
      unfold spans at h0
      by_cases h9 : (tch o).2 ≠ 0
      · rw [if_pos h9] at h0; exact h0
      · simpa using h9
    unfold tch at h9 ⊢
    rw [if_neg (by omega), if_neg k3, if_neg k4] at h9 ⊢
    by_cases h5 : o.k = 5
    · rw [if_pos h5]
    · rw [if_neg h5] at h9; simp at h9
  obtain ⟨_, e2⟩ := spans_1 h0 o.d.length k4 hk5 h5
  have := one (o.a + o.d.length) o.a o.d e2 (Nat.le_refl _)
  exact ⟨this.1.1, this.1.2, this.2⟩
/-- What was paid for the first i operations. -/
def pd (l : List Mo) : Nat → Int
  | 0 => 0
  | i + 1 => pd l i + (an l i).2.2
theorem pd_mi (l : List Mo) : ∀ i, pd l i = cst (((mi l i).length / 32 : Nat) : Int) ∧ Mw (mi l i)
  | 0 => ⟨by kernel_rfl, rfl, by simp [mi]⟩
  | i + 1 => by
    obtain ⟨h1, h2⟩ := pd_mi l i
    obtain ⟨h3, h4, _⟩ := dn_paid (mi l i) (l.getD i no) h2
    refine ⟨?_, h4⟩
    show pd l i + (dn (mi l i) (l.getD i no)).1.2.2 = cst (((dn (mi l i) (l.getD i no)).2.length / 32 : Nat) : Int)
    rw [h1, h3]
theorem cst_in (m : By) (h : Mw m) : 0 ≤ cst ((m.length / 32 : Nat) : Int) ∧ cst ((m.length / 32 : Nat) : Int) ≤ 640 := by
  have := cst_mono (m.length / 32) (m.length / 32) (Nat.le_refl _) (by have := h.2; omega)
  exact ⟨this.1, this.2.2⟩
end Mm
end Go.Proofs.Ytcpgcdffienobaa
/- What operations come to, one behind the other: as lists. -/
namespace Go.Proofs.Ytcpgcdffienobaa
namespace Mm
open Go.RowKit
theorem mi_app (l r : List Mo) : ∀ i, i ≤ l.length → mi (l ++ r) i = mi l i
  | 0, _ => rfl
  | i + 1, h => by
    have e : (l ++ r).getD i no = l.getD i no := by
      simp [List.getD_eq_getElem?_getD, List.getElem?_append_left (show i < l.length by omega)]
    show (dn (mi (l ++ r) i) ((l ++ r).getD i no)).2 = (dn (mi l i) (l.getD i no)).2
    rw [mi_app l r i (by omega), e]
theorem getD_app (l r : List Mo) (j : Nat) : (l ++ r).getD (l.length + j) no = r.getD j no := by
  simp only [List.getD_eq_getElem?_getD]
  rw [List.getElem?_append_right (by omega), Nat.add_sub_cancel_left]
theorem mi_one (l r : List Mo) (j : Nat) : mi (l ++ r) (l.length + j + 1) = (dn (mi (l ++ r) (l.length + j)) (r.getD j no)).2 := by
  show (dn (mi (l ++ r) (l.length + j)) ((l ++ r).getD (l.length + j) no)).2 = _
  rw [getD_app]
theorem an_one (l r : List Mo) (j : Nat) : an (l ++ r) (l.length + j) = (dn (mi (l ++ r) (l.length + j)) (r.getD j no)).1 := by
  show (dn (mi (l ++ r) (l.length + j)) ((l ++ r).getD (l.length + j) no)).1 = _
  rw [getD_app]
theorem ext_at (x y : By) (hl : x.length = y.length) (h : ∀ i, x.getD i 0 = y.getD i 0) : x = y := by
  apply List.ext_getElem hl
  intro i h1 h2
  have := h i
  simpa [List.getD_eq_getElem?_getD, List.getElem?_eq_getElem h1, List.getElem?_eq_getElem h2] using this
theorem lay_at (m : By) (f : Nat) (b : By) (h : f + b.length ≤ m.length) (i : Nat) : (lay m f b).getD i 0 = if f ≤ i ∧ i < f + b.length then b.getD (i - f) 0 else m.getD i 0 := by
  unfold lay
  simp only [List.getD_eq_getElem?_getD]
  by_cases h1 : i < f
  · rw [if_neg (by omega), List.getElem?_append_left (by rw [List.length_take]; omega), List.getElem?_take_of_lt h1]
  · rw [List.getElem?_append_right (by rw [List.length_take]; omega), List.length_take, show min f m.length = f by omega]
    by_cases h2 : i < f + b.length
    · rw [if_pos (by omega), List.getElem?_append_left (by omega)]
    · rw [if_neg (by omega), List.getElem?_append_right (by omega), List.getElem?_drop]
      congr 2
      omega
theorem grw_at (m : By) (e i : Nat) : (grw m e).getD i 0 = m.getD i 0 := by
  unfold grw
  simp only [List.getD_eq_getElem?_getD]
  by_cases h1 : i < m.length
  · rw [List.getElem?_append_left h1]
  · rw [List.getElem?_append_right (by omega), List.getElem?_replicate, List.getElem?_eq_none (by omega)]
    split <;> rfl
theorem cut_at (m : By) (f t j : Nat) (h : j < t - f) : (cut m f t).getD j 0 = m.getD (f + j) 0 := by
  unfold cut
  simp only [List.getD_eq_getElem?_getD]
  rw [List.getElem?_take_of_lt h, List.getElem?_drop]
theorem app_at (a b : By) (i : Nat) : (a ++ b).getD i 0 = if i < a.length then a.getD i 0 else b.getD (i - a.length) 0 := by
  simp only [List.getD_eq_getElem?_getD]
  by_cases h1 : i < a.length
  · rw [if_pos h1, List.getElem?_append_left h1]
  · rw [if_neg h1, List.getElem?_append_right (by omega)]
/-- Bytes are put. -/
def put (m : By) (a : Nat) (d : By) : By := if d.length = 0 then m else lay (grw m (a + d.length)) a d
theorem dn_put (m : By) (a : Nat) (d : By) (h : a + d.length ≤ 4096) : (dn m ⟨5, a, 0, 0, 0, d⟩).2 = put m a d := by
  have e : (spans ⟨5, a, 0, 0, 0, d⟩).2.2 = 0 := by
    simp only [spans, tch, spn]
    by_cases h0 : d.length = 0
    · simp [h0]
    · simp [h0, h]
  unfold dn put
  rw [if_neg (by rw [e]; simp)]
  simp only [show ¬ (5 : Int) = 1 by decide, show ¬ (5 : Int) = 2 by decide, show ¬ (5 : Int) = 3 by decide, show ¬ (5 : Int) = 4 by decide, if_false]
  split <;> rfl
theorem put_len (m : By) (a : Nat) (d : By) (h : Mw m) (hd : d.length ≠ 0) : (put m a d).length = max m.length ((a + d.length + 31) / 32 * 32) := by
  unfold put
  rw [if_neg hd, lay_len _ _ _ (grw_ge m _ h.1), grw_len m _ h.1]
theorem put_at (m : By) (a : Nat) (d : By) (h : Mw m) (i : Nat) : (put m a d).getD i 0 = if a ≤ i ∧ i < a + d.length then d.getD (i - a) 0 else m.getD i 0 := by
  unfold put
  by_cases hd : d.length = 0
  · rw [if_pos hd, if_neg (by omega)]
  · rw [if_neg hd, lay_at _ _ _ (grw_ge m _ h.1), grw_at]
theorem put_mw (m : By) (a : Nat) (d : By) (h : Mw m) (ha : a + d.length ≤ 4096) : Mw (put m a d) ∧ m.length ≤ (put m a d).length := by
  have := (dn_paid m ⟨5, a, 0, 0, 0, d⟩ h).2
  rw [dn_put m a d ha] at this
  exact this
theorem put_two (m : By) (at_ : Nat) (a b : By) (h : Mw m) (hx : at_ + a.length + b.length ≤ 4096) : put (put m at_ a) (at_ + a.length) b = put m at_ (a ++ b) := by
  obtain ⟨h1, h2⟩ := put_mw m at_ a h (by omega)
  apply ext_at
  · by_cases ha : a.length = 0
    · have e : a = [] := List.length_eq_zero_iff.1 ha
      subst e
      simp [put]
    by_cases hb : b.length = 0
    · have e : b = [] := List.length_eq_zero_iff.1 hb
      subst e
      simp [put]
    rw [put_len _ _ _ h1 hb, put_len _ _ _ h ha, put_len _ _ _ h (by rw [List.length_append]; omega), List.length_append]
    omega
  · intro i
    rw [put_at _ _ _ h1, put_at _ _ _ h, put_at _ _ _ h, app_at, List.length_append]
    by_cases c1 : at_ + a.length ≤ i ∧ i < at_ + a.length + b.length
    · rw [if_pos c1, if_pos (by omega), if_neg (by omega)]
      congr 1
      omega
    · rw [if_neg c1]
      by_cases c2 : at_ ≤ i ∧ i < at_ + a.length
      · rw [if_pos c2, if_pos (by omega), if_pos (by omega)]
      · rw [if_neg c2, if_neg (by omega)]
/-- Bytes are copied. -/
def cpy (m : By) (a f n : Nat) : By := if n = 0 then m else lay (grw m (max (a + n) (f + n))) a (cut (grw m (max (a + n) (f + n))) f (f + n))
theorem dn_cpy (m : By) (a f n : Nat) (h : a + n ≤ 4096) (h2 : f + n ≤ 4096) : (dn m ⟨4, a, f, n, 0, []⟩).2 = cpy m a f n := by
  have e : (spans ⟨4, a, f, n, 0, []⟩).2.2 = 0 := by
    simp only [spans, tch, spn]
    by_cases h0 : n = 0
    · simp [h0]
    · simp [h0, h, h2]
  unfold dn cpy
  rw [if_neg (by rw [e]; simp)]
  simp only [show ¬ (4 : Int) = 1 by decide, show ¬ (4 : Int) = 2 by decide, show ¬ (4 : Int) = 3 by decide, if_false, if_true]
  split <;> rfl
theorem cpy_at (m : By) (a f n : Nat) (h : Mw m) (i : Nat) : (cpy m a f n).getD i 0 = if a ≤ i ∧ i < a + n then m.getD (f + i - a) 0 else m.getD i 0 := by
  unfold cpy
  by_cases hd : n = 0
  · rw [if_pos hd, if_neg (by omega)]
  · have hg := grw_ge m (max (a + n) (f + n)) h.1
    have hc : (cut (grw m (max (a + n) (f + n))) f (f + n)).length = n := by rw [cut_len _ _ _ (by omega)]; omega
    rw [if_neg hd, lay_at _ _ _ (by rw [hc]; omega), hc]
    by_cases c1 : a ≤ i ∧ i < a + n
    · rw [if_pos c1, if_pos c1, cut_at _ _ _ _ (by omega), grw_at]
      congr 1
      omega
    · rw [if_neg c1, if_neg c1, grw_at]
theorem cpy_len (m : By) (a f n : Nat) (h : Mw m) : m.length ≤ (cpy m a f n).length ∧ (n ≠ 0 → a + n ≤ (cpy m a f n).length ∧ f + n ≤ (cpy m a f n).length) := by
  unfold cpy
  by_cases hd : n = 0
  · rw [if_pos hd]
    exact ⟨Nat.le_refl _, fun h => absurd hd h⟩
  · have hg := grw_ge m (max (a + n) (f + n)) h.1
    have hc : (cut (grw m (max (a + n) (f + n))) f (f + n)).length = n := by rw [cut_len _ _ _ (by omega)]; omega
    rw [if_neg hd, lay_len _ _ _ (by rw [hc]; omega)]
    refine ⟨by rw [grw_len m _ h.1]; omega, fun _ => by omega⟩
/-- A word is loaded, and stored. -/
def rdw (m : By) (a : Nat) : By := cut (grw m (a + 32)) a (a + 32)
theorem rdw_len (m : By) (a : Nat) (h : Mw m) : (rdw m a).length = 32 := by
  unfold rdw
  rw [cut_len _ _ _ (grw_ge m _ h.1)]
  omega
theorem rdw_at (m : By) (a j : Nat) (h : j < 32) : (rdw m a).getD j 0 = m.getD (a + j) 0 := by
  unfold rdw
  rw [cut_at _ _ _ _ (by omega), grw_at]
theorem rdw_eq (m m' : By) (a : Nat) (h : Mw m) (h' : Mw m') (he : ∀ j, j < 32 → m.getD (a + j) 0 = m'.getD (a + j) 0) : rdw m a = rdw m' a := by
  apply ext_at
  · rw [rdw_len m a h, rdw_len m' a h']
  · intro j
    by_cases hj : j < 32
    · rw [rdw_at m a j hj, rdw_at m' a j hj, he j hj]
    · simp only [List.getD_eq_getElem?_getD]
      rw [List.getElem?_eq_none (by rw [rdw_len m a h]; omega), List.getElem?_eq_none (by rw [rdw_len m' a h']; omega)]
theorem dn_load (m : By) (a : Nat) : dn m ⟨1, a, 0, 0, 0, []⟩ = if a + 32 ≤ 4096 then ((0, Pk.vb 0 (rdw m a), gco m (a + 32)), grw m (a + 32)) else ((6, 0, 0), m) := by
  by_cases h : a + 32 ≤ 4096
  · have e : (spans ⟨1, a, 0, 0, 0, []⟩).2.2 = 0 := by simp [spans, tch, spn, h]
    rw [if_pos h]
    unfold dn
    rw [if_neg (by rw [e]; simp), if_pos rfl]
    rfl
  · have e : (spans ⟨1, a, 0, 0, 0, []⟩).2.2 = 6 := by simp [spans, tch, spn, h]
    rw [if_neg h]
    unfold dn
    rw [if_pos (by rw [e]; simp), e]
theorem dn_store (m : By) (a x : Nat) : dn m ⟨2, a, 0, 0, x, []⟩ = if a + 32 ≤ 4096 then ((0, 0, gco m (a + 32)), lay (grw m (a + 32)) a (Pk.wb x)) else ((6, 0, 0), m) := by
  by_cases h : a + 32 ≤ 4096
  · have e : (spans ⟨2, a, 0, 0, x, []⟩).2.2 = 0 := by simp [spans, tch, spn, h]
    rw [if_pos h]
    unfold dn
    rw [if_neg (by rw [e]; simp), if_neg (by show ¬ (2 : Int) = 1; decide), if_pos rfl]
  · have e : (spans ⟨2, a, 0, 0, x, []⟩).2.2 = 6 := by simp [spans, tch, spn, h]
    rw [if_neg h]
    unfold dn
    rw [if_pos (by rw [e]; simp), e]
theorem gco_no (m : By) (e : Nat) (h : e ≤ m.length) (hm : m.length % 32 = 0) : gco m e = 0 ∧ grw m e = m := by
  unfold gco grw
  rw [if_pos (by omega), show (e + 31) / 32 - m.length / 32 = 0 by omega]
  exact ⟨rfl, by simp⟩
end Mm
end Go.Proofs.Ytcpgcdffienobaa
/- lampbearerkeep.alive11. -/
namespace Go.Proofs.Ytcpgcdffienobaa
namespace Mm
open Go.RowKit Pk
def lA : List Mo := [⟨2, 3, 0, 0, 7, []⟩, ⟨1, 3, 0, 0, 0, []⟩]
theorem lA_0 : an lA 0 = (0, 0, 6) := by kernel_rfl
theorem lA_1 : an lA 1 = (0, 7, 0) := by kernel_rfl
theorem lA_m : mi lA 2 = List.replicate 34 0 ++ [7] ++ List.replicate 29 0 := by kernel_rfl
theorem lA_wf : ∀ j, j < lA.length → Wf (lA.getD j no) := fun j hj => by
  have : j = 0 ∨ j = 1 := by
    have : j < 2 := hj
    omega
  unfold Wf
  rcases this with rfl | rfl <;> simp [lA]
structure Sa (ga h off : Nat) (w : World) : Prop where
  h1 : ga < w.heap.size
  h2 : h < w.heap.size
  c0 : ∀ o, o < 6 → w.cell? ⟨ga, 0 + o, none⟩ = some (s6 0 0 6 o)
  c1 : ∀ o, o < 6 → w.cell? ⟨ga, 6 + o, none⟩ = some (s6 0 7 0 o)
  c2 : w.cell? ⟨h, off + 34, none⟩ = some (.int .u8 7)
theorem Sa_below {ga h off : Nat} {w w' : World} (s : Sa ga h off w) (hb : Below w.heap.size w w') : Sa ga h off w' :=
  ⟨Nat.lt_of_lt_of_le s.h1 hb.size, Nat.lt_of_lt_of_le s.h2 hb.size, fun o ho => (hb.cell (p := ⟨ga, 0 + o, none⟩) s.h1).trans (s.c0 o ho), fun o ho => (hb.cell (p := ⟨ga, 6 + o, none⟩) s.h1).trans (s.c1 o ho), (hb.cell (p := ⟨h, off + 34, none⟩) s.h2).trans s.c2⟩
theorem play_two (v : Value) (w : World) (hm : Mr (· < w.heap.size) lA v w) : Calls Try.prog 9 #[v] w fun e w' => ∃ ga h off cap, e = .returned (.tuple #[.slice (some ⟨ga, 0, none⟩) 2 2, .slice (some ⟨h, off, none⟩) 64 cap]) ∧ Sa ga h off w' ∧ Below w.heap.size w w' := by
  refine (play_any lA lA_wf (by decide) v w hm).mono ?_
  rintro e w' ⟨ga, u, rfl, hr, hb⟩
  obtain ⟨ao, cap, rfl, hc, hx⟩ := hr.b
  have em : mi lA lA.length = List.replicate 34 0 ++ [7] ++ List.replicate 29 0 := lA_m
  rw [em] at hc hx ⊢
  obtain ⟨h, off, rfl, _, hlt, hcc⟩ := hx (by decide)
  refine ⟨ga, h, off, cap, rfl, ⟨hr.hi, hlt, fun o ho => ?_, fun o ho => ?_, ?_⟩, hb⟩
  · have := hr.c 0 (by decide) o ho
    rw [lA_0] at this
    exact this
  · have := hr.c 1 (by decide) o ho
    rw [lA_1] at this
    exact this
  · exact hcc 34 (by decide)
/-- The two operations, as they are laid. -/
theorem two_mr (w : World) : Mr (· < (w.alloc (.cells #[.int .i64 2, .int .u64 3, .int .u64 0, .int .u64 0, .int .u64 0, .int .u64 0, .int .u64 0, .int .u64 0, .int .u64 0, .int .u64 0, .int .u64 0, .int .u64 0, .int .u64 0, .int .u64 7, .int .u64 0, .int .u64 0, .int .u64 0, .slice none 0 0, .int .i64 1, .int .u64 3, .int .u64 0, .int .u64 0, .int .u64 0, .int .u64 0, .int .u64 0, .int .u64 0, .int .u64 0, .int .u64 0, .int .u64 0, .int .u64 0, .int .u64 0, .int .u64 0, .int .u64 0, .int .u64 0, .int .u64 0, .slice none 0 0] 38 (0, 0))).heap.size) lA (.slice (some ⟨w.heap.size, 0, none⟩) 2 2) (w.alloc (.cells #[.int .i64 2, .int .u64 3, .int .u64 0, .int .u64 0, .int .u64 0, .int .u64 0, .int .u64 0, .int .u64 0, .int .u64 0, .int .u64 0, .int .u64 0, .int .u64 0, .int .u64 0, .int .u64 7, .int .u64 0, .int .u64 0, .int .u64 0, .slice none 0 0, .int .i64 1, .int .u64 3, .int .u64 0, .int .u64 0, .int .u64 0, .int .u64 0, .int .u64 0, .int .u64 0, .int .u64 0, .int .u64 0, .int .u64 0, .int .u64 0, .int .u64 0, .int .u64 0, .int .u64 0, .int .u64 0, .int .u64 0, .slice none 0 0] 38 (0, 0))) := by
  refine ⟨[.slice none 0 0, .slice none 0 0], some ⟨w.heap.size, 0, none⟩, 2, rfl, rfl, Nat.le_refl _, fun _ => ⟨w.heap.size, 0, rfl, by simp, by simp, fun j hj => ?_⟩⟩
  have hj2 : j = 0 ∨ j = 1 := by
    have : j < 2 := hj
    omega
  have h := heap_alloc_new w (.cells #[.int .i64 2, .int .u64 3, .int .u64 0, .int .u64 0, .int .u64 0, .int .u64 0, .int .u64 0, .int .u64 0, .int .u64 0, .int .u64 0, .int .u64 0, .int .u64 0, .int .u64 0, .int .u64 7, .int .u64 0, .int .u64 0, .int .u64 0, .slice none 0 0, .int .i64 1, .int .u64 3, .int .u64 0, .int .u64 0, .int .u64 0, .int .u64 0, .int .u64 0, .int .u64 0, .int .u64 0, .int .u64 0, .int .u64 0, .int .u64 0, .int .u64 0, .int .u64 0, .int .u64 0, .int .u64 0, .int .u64 0, .slice none 0 0] 38 (0, 0))
  rcases hj2 with rfl | rfl
  · refine ⟨fun o ho => ?_, Tr.Bs_nil _ _⟩
    have : o = 0 ∨ o = 1 ∨ o = 2 ∨ o = 3 ∨ o = 4 ∨ o = 5 ∨ o = 6 ∨ o = 7 ∨ o = 8 ∨ o = 9 ∨ o = 10 ∨ o = 11 ∨ o = 12 ∨ o = 13 ∨ o = 14 ∨ o = 15 ∨ o = 16 ∨ o = 17 := by omega
    simp only [World.cell?, h]
    rcases this with rfl | rfl | rfl | rfl | rfl | rfl | rfl | rfl | rfl | rfl | rfl | rfl | rfl | rfl | rfl | rfl | rfl | rfl <;> rfl
  · refine ⟨fun o ho => ?_, Tr.Bs_nil _ _⟩
    have : o = 0 ∨ o = 1 ∨ o = 2 ∨ o = 3 ∨ o = 4 ∨ o = 5 ∨ o = 6 ∨ o = 7 ∨ o = 8 ∨ o = 9 ∨ o = 10 ∨ o = 11 ∨ o = 12 ∨ o = 13 ∨ o = 14 ∨ o = 15 ∨ o = 16 ∨ o = 17 := by omega
    simp only [World.cell?, h]
    rcases this with rfl | rfl | rfl | rfl | rfl | rfl | rfl | rfl | rfl | rfl | rfl | rfl | rfl | rfl | rfl | rfl | rfl | rfl <;> rfl
set_option maxHeartbeats 2000000 in
set_option maxRecDepth 100000 in
theorem alive_any (w : World) : Calls Try.prog 14 #[] w fun e w' => e = .returned (.bool true) ∧ Below w.heap.size w w' := by
  have KI : ∀ n : Nat, n < 2 ^ 64 → Hid (∀ W : World, Calls Try.prog 18 #[.int .u64 (n : Int)] W fun e w' => e = .returned (.agg #[.int .u64 (n : Int), .int .u64 0, .int .u64 0, .int .u64 0]) ∧ Below W.heap.size W w') := fun n hn W => by
    have := int_any n hn W
    rw [← wd_small n hn] at this
    exact this
  have K3 := KI 3 (by decide)
  have K7 := KI 7 (by decide)
  have KW : Hid (∀ W : World, Calls Try.prog 18 #[.int .u64 7] W fun e w' => e = .returned (Wd 7) ∧ Below W.heap.size W w') := fun W => int_any 7 (by decide) W
  clear KI
  go_enter Try.func14, Try.ntmps14
  go_wp2_with fail
  refine (K3.out w).mono ?_
  rintro e w1 ⟨rfl, b1⟩
  have B1 : Hid _ := b1
  clear b1
  go_wp2_with fail
  refine (K7.out w1).mono ?_
  rintro e w2 ⟨rfl, b2⟩
  have B2 : Hid (Below w.heap.size w w2) := B1.out.trans (b2.mono B1.out.size)
  clear b2 B1
  go_wp2_with fail
  refine (K3.out w2).mono ?_
  rintro e w3 ⟨rfl, b3⟩
  have B3 : Hid (Below w.heap.size w w3) := B2.out.trans (b3.mono B2.out.size)
  clear b3 B2 K3 K7
  go_wp2_with fail
  have M3 := two_mr w3
  have B4 : Hid (Below w.heap.size w (w3.alloc (.cells #[.int .i64 2, .int .u64 3, .int .u64 0, .int .u64 0, .int .u64 0, .int .u64 0, .int .u64 0, .int .u64 0, .int .u64 0, .int .u64 0, .int .u64 0, .int .u64 0, .int .u64 0, .int .u64 7, .int .u64 0, .int .u64 0, .int .u64 0, .slice none 0 0, .int .i64 1, .int .u64 3, .int .u64 0, .int .u64 0, .int .u64 0, .int .u64 0, .int .u64 0, .int .u64 0, .int .u64 0, .int .u64 0, .int .u64 0, .int .u64 0, .int .u64 0, .int .u64 0, .int .u64 0, .int .u64 0, .int .u64 0, .slice none 0 0] 38 (0, 0)))) := B3.out.alloc B3.out.size _
  clear B3
  generalize w3.alloc (.cells #[.int .i64 2, .int .u64 3, .int .u64 0, .int .u64 0, .int .u64 0, .int .u64 0, .int .u64 0, .int .u64 0, .int .u64 0, .int .u64 0, .int .u64 0, .int .u64 0, .int .u64 0, .int .u64 7, .int .u64 0, .int .u64 0, .int .u64 0, .slice none 0 0, .int .i64 1, .int .u64 3, .int .u64 0, .int .u64 0, .int .u64 0, .int .u64 0, .int .u64 0, .int .u64 0, .int .u64 0, .int .u64 0, .int .u64 0, .int .u64 0, .int .u64 0, .int .u64 0, .int .u64 0, .int .u64 0, .int .u64 0, .slice none 0 0] 38 (0, 0)) = w4 at M3 B4 ⊢
  refine (play_two _ w4 M3).mono ?_
  rintro e w5 ⟨ga, h, off, cap, rfl, sa5, b5⟩
  have B5 : Hid (Below w.heap.size w w5) := B4.out.trans (b5.mono B4.out.size)
  have S5 : Hid (Sa ga h off w5 ∧ Below w.heap.size w w5) := ⟨sa5, B5.out⟩
  clear b5 B4 B5 sa5 M3
  go_wp2_with fail
  refine RS.wp_region_one (fun wx => Sa ga h off wx ∧ Below w.heap.size w wx) (by kernel_rfl) (by kernel_rfl) (⟨Sa_below S5.out.1 (Below.refl _ _).drew, S5.out.2.trans ((Below.refl _ _).drew.mono S5.out.2.size)⟩) ?_
  dsimp only [List.toList_toArray]
  refine RS.go1 (v := ?_) (a' := ?_) rfl ?_ ?_ ?_
  rotate_left 2
  · intro K wx hS hK
    go_simp
    exact hK _ hS
  · simp only [Act.put, List.setIfInBounds_toArray, List.set_cons_succ, List.set_cons_zero]
    rfl
  refine RS.go1 (v := ?_) (a' := ?_) rfl ?_ ?_ ?_
  rotate_left 2
  · intro K wx hS hK
    go_simp
    exact hK _ hS
  · simp only [Act.put, List.setIfInBounds_toArray, List.set_cons_succ, List.set_cons_zero]
    rfl
  refine RS.go1 (v := ?_) (a' := ?_) rfl ?_ ?_ ?_
  rotate_left 2
  · intro K wx hS hK
    go_simp
    exact hK _ hS
  · simp only [Act.put, List.setIfInBounds_toArray, List.set_cons_succ, List.set_cons_zero]
    rfl
  refine RS.go1 (v := ?_) (a' := ?_) rfl ?_ ?_ ?_
  rotate_left 2
  · intro K wx hS hK
    go_simp
    exact hK _ hS
  · simp only [Act.put, List.setIfInBounds_toArray, List.set_cons_succ, List.set_cons_zero]
    rfl
  refine RS.go1g (v := ?_) (a' := ?_) (by kernel_rfl) ?_ ?_ ?_
  rotate_left 2
  · intro K wx hS hK
    go_simp
    exact hK _ hS
  · simp only [Act.put, List.setIfInBounds_toArray, List.set_cons_succ, List.set_cons_zero]
    rfl
  refine RS.go1g (v := ?_) (a' := ?_) (by kernel_rfl) ?_ ?_ ?_
  rotate_left 2
  · intro K wx hS hK
    go_simp
    exact hK _ hS
  · simp only [Act.put, List.setIfInBounds_toArray, List.set_cons_succ, List.set_cons_zero]
    rfl
  refine RS.go1g (v := ?_) (a' := ?_) (by kernel_rfl) ?_ ?_ ?_
  rotate_left 2
  · intro K wx hS hK
    refine ldA (x := (0, 0, 6)) (b := 0) rfl rfl hS.1.c0 ?_
    exact hK _ hS
  · simp only [Act.put, List.setIfInBounds_toArray, List.set_cons_succ, List.set_cons_zero]
    rfl
  refine RS.go1g (v := ?_) (a' := ?_) (by kernel_rfl) ?_ ?_ ?_
  rotate_left 2
  · intro K wx hS hK
    go_simp
    exact hK _ hS
  · simp only [Act.put, List.setIfInBounds_toArray, List.set_cons_succ, List.set_cons_zero]
    rfl
  refine RS.go1g (v := ?_) (a' := ?_) (by kernel_rfl) ?_ ?_ ?_
  rotate_left 2
  · intro K wx hS hK
    refine eqAo (x := (0, 0, 6)) (y := (0, 0, 6)) (b := true) rfl rfl rfl (by decide) ?_
    exact hK _ hS
  · simp only [Act.put, List.setIfInBounds_toArray, List.set_cons_succ, List.set_cons_zero]
    rfl
  refine RS.go1 (v := ?_) (a' := ?_) rfl ?_ ?_ ?_
  rotate_left 2
  · intro K wx hS hK
    go_simp
    exact hK _ hS
  · simp only [Act.put, List.setIfInBounds_toArray, List.set_cons_succ, List.set_cons_zero]
    rfl
  refine RS.go1 (v := ?_) (a' := ?_) rfl ?_ ?_ ?_
  rotate_left 2
  · intro K wx hS hK
    go_simp
    exact hK _ hS
  · simp only [Act.put, List.setIfInBounds_toArray, List.set_cons_succ, List.set_cons_zero]
    rfl
  refine RS.go1g (v := ?_) (a' := ?_) (by kernel_rfl) ?_ ?_ ?_
  rotate_left 2
  · intro K wx hS hK
    go_simp
    exact hK _ hS
  · simp only [Act.put, List.setIfInBounds_toArray, List.set_cons_succ, List.set_cons_zero]
    rfl
  refine RS.go1g (v := ?_) (a' := ?_) (by kernel_rfl) ?_ ?_ ?_
  rotate_left 2
  · intro K wx hS hK
    go_simp
    exact hK _ hS
  · simp only [Act.put, List.setIfInBounds_toArray, List.set_cons_succ, List.set_cons_zero]
    rfl
  refine RS.go1g (v := ?_) (a' := ?_) (by kernel_rfl) ?_ ?_ ?_
  rotate_left 2
  · intro K wx hS hK
    go_simp
    exact hK _ hS
  · simp only [Act.put, List.setIfInBounds_toArray, List.set_cons_succ, List.set_cons_zero]
    rfl
  refine RS.go1g (v := ?_) (a' := ?_) (by kernel_rfl) ?_ ?_ ?_
  rotate_left 2
  · intro K wx hS hK
    refine ldAw (x := (0, 7, 0)) (b := 6) rfl rfl hS.1.c1 ?_
    exact hK _ hS
  · simp only [Act.put, List.setIfInBounds_toArray, List.set_cons_succ, List.set_cons_zero]
    rfl
  refine RS.go1g (v := ?_) (a' := ?_) (by kernel_rfl) ?_ ?_ ?_
  rotate_left 2
  · intro K wx hS hK
    go_simp
    refine (KW.out wx).mono (fun e w2 he => ?_)
    refine ⟨_, he.1, ?_⟩
    exact hK _ (⟨Sa_below hS.1 he.2, hS.2.trans (he.2.mono hS.2.size)⟩)
  · simp only [Act.put, List.setIfInBounds_toArray, List.set_cons_succ, List.set_cons_zero]
    rfl
  refine RS.go1g (v := ?_) (a' := ?_) (by kernel_rfl) ?_ ?_ ?_
  rotate_left 2
  · intro K wx hS hK
    refine RW.eq (x := 7) (y := 7) (b := true) rfl rfl rfl (by decide) ?_
    exact hK _ hS
  · simp only [Act.put, List.setIfInBounds_toArray, List.set_cons_succ, List.set_cons_zero]
    rfl
  refine RS.go1 (v := ?_) (a' := ?_) rfl ?_ ?_ ?_
  rotate_left 2
  · intro K wx hS hK
    go_simp
    exact hK _ hS
  · simp only [Act.put, List.setIfInBounds_toArray, List.set_cons_succ, List.set_cons_zero]
    rfl
  refine RS.go1 (v := ?_) (a' := ?_) rfl ?_ ?_ ?_
  rotate_left 2
  · intro K wx hS hK
    go_simp
    exact hK _ hS
  · simp only [Act.put, List.setIfInBounds_toArray, List.set_cons_succ, List.set_cons_zero]
    rfl
  refine RS.go1g (v := ?_) (a' := ?_) (by kernel_rfl) ?_ ?_ ?_
  rotate_left 2
  · intro K wx hS hK
    go_simp
    exact hK _ hS
  · simp only [Act.put, List.setIfInBounds_toArray, List.set_cons_succ, List.set_cons_zero]
    rfl
  refine RS.go1g (v := ?_) (a' := ?_) (by kernel_rfl) ?_ ?_ ?_
  rotate_left 2
  · intro K wx hS hK
    go_simp
    exact hK _ hS
  · simp only [Act.put, List.setIfInBounds_toArray, List.set_cons_succ, List.set_cons_zero]
    rfl
  refine RS.go1g (v := ?_) (a' := ?_) (by kernel_rfl) ?_ ?_ ?_
  rotate_left 2
  · intro K wx hS hK
    go_simp
    exact hK _ hS
  · simp only [Act.put, List.setIfInBounds_toArray, List.set_cons_succ, List.set_cons_zero]
    rfl
  refine RS.go1 (v := ?_) (a' := ?_) rfl ?_ ?_ ?_
  rotate_left 2
  · intro K wx hS hK
    go_simp
    exact hK _ hS
  · simp only [Act.put, List.setIfInBounds_toArray, List.set_cons_succ, List.set_cons_zero]
    rfl
  refine RS.go1 (v := ?_) (a' := ?_) rfl ?_ ?_ ?_
  rotate_left 2
  · intro K wx hS hK
    go_simp
    exact hK _ hS
  · simp only [Act.put, List.setIfInBounds_toArray, List.set_cons_succ, List.set_cons_zero]
    rfl
  refine RS.go1g (v := ?_) (a' := ?_) (by kernel_rfl) ?_ ?_ ?_
  rotate_left 2
  · intro K wx hS hK
    go_simp
    exact hK _ hS
  · simp only [Act.put, List.setIfInBounds_toArray, List.set_cons_succ, List.set_cons_zero]
    rfl
  refine RS.go1g (v := ?_) (a' := ?_) (by kernel_rfl) ?_ ?_ ?_
  rotate_left 2
  · intro K wx hS hK
    go_simp
    exact hK _ hS
  · simp only [Act.put, List.setIfInBounds_toArray, List.set_cons_succ, List.set_cons_zero]
    rfl
  refine RS.go1g (v := ?_) (a' := ?_) (by kernel_rfl) ?_ ?_ ?_
  rotate_left 2
  · intro K wx hS hK
    have c2 := hS.1.c2
    go_simp
    exact hK _ hS
  · simp only [Act.put, List.setIfInBounds_toArray, List.set_cons_succ, List.set_cons_zero]
    rfl
  refine RS.go1g (v := ?_) (a' := ?_) (by kernel_rfl) ?_ ?_ ?_
  rotate_left 2
  · intro K wx hS hK
    go_simp
    exact hK _ hS
  · simp only [Act.put, List.setIfInBounds_toArray, List.set_cons_succ, List.set_cons_zero]
    rfl
  refine RS.go1 (v := ?_) (a' := ?_) rfl ?_ ?_ ?_
  rotate_left 2
  · intro K wx hS hK
    go_simp
    exact hK _ hS
  · simp only [Act.put, List.setIfInBounds_toArray, List.set_cons_succ, List.set_cons_zero]
    rfl
  refine RS.go1 (v := ?_) (a' := ?_) rfl ?_ ?_ ?_
  rotate_left 2
  · intro K wx hS hK
    go_simp
    exact hK _ hS
  · simp only [Act.put, List.setIfInBounds_toArray, List.set_cons_zero]
    rfl
  refine RS.go_end ?_
  intro w9 h9
  have H9 : Hid _ := h9.2
  clear h9
  go_wp2
  go_ret
  exact ⟨rfl, H9.out⟩
end Mm
end Go.Proofs.Ytcpgcdffienobaa
/- memory.Play upon rows of one's own; what the laws of memory walk over. -/
namespace Go.Proofs.Ytcpgcdffienobaa
namespace Mm
open Go.RowKit Pk
theorem vw_bs2 {b : By} {ao : Option Addr} {cap : Nat} {w : World} (hc : b.length ≤ cap) (h : Sp.Vw b ao w) : Tr.Bs (· < w.heap.size) b (.slice ao b.length cap) w :=
  ⟨ao, cap, rfl, hc, fun h0 => by
    obtain ⟨g, off, e, hg, hx⟩ := h h0
    exact ⟨g, off, e, hg, hg, hx⟩⟩
/-- Data that came in is where it was. -/
theorem Bs_in {b : By} {v : Value} {w w' : World} (h : Tr.Bs (· < w.heap.size) b v w) (hb : Below w.heap.size w w') : Tr.Bs (· < w'.heap.size) b v w' :=
  Tr.Bs_mono (Bs_below h hb) (fun _ _ h2 => h2)
theorem Oo_in {B : Nat} {zs : List OV} {v : Value} {W : World} (h : Oo B zs v W) (hd : ∀ x, x ∈ zs → Tr.Bs (· < W.heap.size) x.1.d x.2 W) : Mr (· < W.heap.size) (zs.map (·.1)) v W :=
  Oo_Mr h hd (fun _ _ h => h)
/-- What Play answers, of which the bytes alone are asked. -/
def PB (m : By) (n : Nat) (w : World) (e : Ending) (w' : World) : Prop := ∃ (ga : Nat) (ua : Option Addr) (uc : Nat), e = .returned (.tuple #[.slice (some ⟨ga, 0, none⟩) n n, .slice ua m.length uc]) ∧ Tr.Bs (fun _ => True) m (.slice ua m.length uc) w' ∧ Below w.heap.size w w'
theorem play_pb (l : List Mo) (hl : ∀ j, j < l.length → Wf (l.getD j no)) (hz : l.length ≤ 1048576) (v : Value) (w : World) (hm : Mr (· < w.heap.size) l v w) (m : By) (he : m = mi l l.length) (n : Nat) (hn : n = l.length) :
    Calls Try.prog 9 #[v] w (PB m n w) := by
  subst he hn
  refine (play_any l hl hz v w hm).mono ?_
  rintro e w' ⟨ga, u, rfl, hr, hb⟩
  have hq : Tr.Bs (fun _ => True) (mi l l.length) u w' := Tr.Bs_mono hr.b (fun _ _ _ => trivial)
  obtain ⟨ua, uc, rfl, h1, h2⟩ := hq
  exact ⟨ga, ua, uc, rfl, ⟨ua, uc, rfl, h1, h2⟩, hb⟩
theorem wf_in (l : List Mo) (h : ∀ x, x ∈ l → Wf x) : ∀ j, j < l.length → Wf (l.getD j no) := fun j hj => h _ (getD_mem l no j hj)
theorem wf_mem {l : List Mo} (h : ∀ j, j < l.length → Wf (l.getD j no)) : ∀ x, x ∈ l → Wf x := fun x hx => by
  obtain ⟨j, hj, rfl⟩ := mem_getD l no x hx
  exact h j hj
/-- Operations that are laid in a row at once. -/
theorem lit_VO (ys : List OV) (cs : Array Value) (hcs : cs = (OC ys).toArray) (T : TypeId) (x : Nat × Nat) (w : World) (n : Nat) (hn : n = ys.length) : VO ys (.slice (some ⟨w.heap.size, 0, none⟩) n n) (w.alloc (.cells cs T x)) := by
  subst hcs hn
  refine ⟨some ⟨w.heap.size, 0, none⟩, ys.length, rfl, fun _ => ⟨w.heap.size, 0, rfl, by simp, fun j hj => ?_⟩⟩
  have h := heap_alloc_new w (.cells (OC ys).toArray T x)
  simp only [World.cell?, h, Nat.zero_add]
  have hj2 : j < (OC ys).length := by rw [OC_len]; exact hj
  simp [List.getElem?_eq_getElem hj2]
theorem bs_vl {S : Nat → Prop} {b : By} {v : Value} {w : World} (h : Tr.Bs S b v w) : Sp.Vl (bcs b) v w := by
  obtain ⟨ao, cap, e, _, hr⟩ := h
  have hl : (bcs b).length = b.length := by simp [bcs]
  refine ⟨ao, cap, by rw [hl]; exact e, fun h0 => ?_⟩
  rw [hl] at h0
  obtain ⟨g, off, e2, _, hlt, hc⟩ := hr h0
  refine ⟨g, off, e2, hlt, fun j hj => ?_⟩
  rw [hl] at hj
  rw [hc j hj]
  simp [bcs, hj, Sp.bz]
/-- slices.Concat of two texts. -/
theorem cat_two {S : Nat → Prop} {a b : By} {x y : Value} {W : World} (T : TypeId) (ex : Nat × Nat) (ha : Tr.Bs S a x W) (hb : Tr.Bs S b y W) (hz : a.length + b.length ≤ 1048576) :
    Calls Try.prog 20 #[.slice (some ⟨W.heap.size, 0, none⟩) 2 2] (W.alloc (.cells #[x, y] T ex)) fun e w' => ∃ c, e = .returned c ∧ w'.ownsRow (W.heap.size + 1) 5 1 c (a ++ b).length (bcs (a ++ b)) ∧ Below (W.heap.size + 1) (W.alloc (.cells #[x, y] T ex)) w' := by
  have hs : (W.alloc (.cells #[x, y] T ex)).heap.size = W.heap.size + 1 := by simp
  have bl : Below W.heap.size W (W.alloc (.cells #[x, y] T ex)) := (Below.refl _ _).alloc (Nat.le_refl _) _
  have hf : [bcs a, bcs b].flatten = bcs (a ++ b) := by simp [bcs]
  have hfl : (bcs (a ++ b)).length = (a ++ b).length := by simp [bcs]
  have hN := heap_alloc_new W (.cells #[x, y] T ex)
  have k := Sp.concat_b [bcs a, bcs b] (.slice (some ⟨W.heap.size, 0, none⟩) 2 2) (W.alloc (.cells #[x, y] T ex)) (by show _ ≤ _; rw [hf, hfl, List.length_append]; exact hz) (by show 2 ≤ _; decide)
    (by
      intro xs hxs u hu
      simp only [List.mem_cons, List.not_mem_nil, or_false] at hxs
      rcases hxs with rfl | rfl <;> (unfold bcs at hu; obtain ⟨c, _, rfl⟩ := List.mem_map.1 hu; rfl))
    ⟨some ⟨W.heap.size, 0, none⟩, 2, rfl, fun _ => ⟨W.heap.size, 0, rfl, by simp, fun i hi => by
      have : i = 0 ∨ i = 1 := by
        have : i < 2 := hi
        omega
      rcases this with rfl | rfl
      · exact ⟨x, by simp only [World.cell?, hN]; rfl, Sp.Vl_below (bs_vl ha) bl⟩
      · exact ⟨y, by simp only [World.cell?, hN]; rfl, Sp.Vl_below (bs_vl hb) bl⟩⟩⟩
  rw [hf, hfl, hs] at k
  exact k
end Mm
end Go.Proofs.Ytcpgcdffienobaa
/- What is stored is loaded: as lists. -/
namespace Go.Proofs.Ytcpgcdffienobaa
namespace Mm
open Go.RowKit
def oL (y : Nat) : Mo := ⟨1, y, 0, 0, 0, []⟩
def oS (a x : Nat) : Mo := ⟨2, a, 0, 0, x, []⟩
theorem load_of (m : By) (y : Nat) (h : Mw m) : Mw (dn m (oL y)).2 ∧ ∀ i, (dn m (oL y)).2.getD i 0 = m.getD i 0 := by
  refine ⟨(dn_paid m (oL y) h).2.1, fun i => ?_⟩
  unfold oL
  rw [dn_load]
  split
  · exact grw_at m _ i
  · rfl
theorem word_of2 (m m' : By) (y : Nat) (h : Mw m) (h' : Mw m') (he : ∀ i, y ≤ i → i < y + 32 → m.getD i 0 = m'.getD i 0) : (dn m (oL y)).1.2.1 = (dn m' (oL y)).1.2.1 := by
  unfold oL
  rw [dn_load, dn_load]
  split
  · show Pk.vb 0 (rdw m y) = Pk.vb 0 (rdw m' y)
    rw [rdw_eq m m' y h h' (fun j hj => he (y + j) (by omega) (by omega))]
  · rfl
def Lr (l : List Mo) (a x y : Nat) : List Mo := l ++ [oL y, oS a x, oL a, oL y]
theorem read_far (l : List Mo) (a x y : Nat) (h : ¬ a + 32 ≤ 4096) : (an (Lr l a x y) (l.length + 1)).1 = 6 ∧ (an (Lr l a x y) (l.length + 3)).2.1 = (an (Lr l a x y) l.length).2.1 := by
  obtain ⟨_, hw⟩ := pd_mi l l.length
  have a0 : an (Lr l a x y) l.length = (dn (mi l l.length) (oL y)).1 := by
    have : an (Lr l a x y) l.length = (dn (mi (l ++ [oL y, oS a x, oL a, oL y]) l.length) (oL y)).1 := an_one l [oL y, oS a x, oL a, oL y] 0
    rw [mi_app _ _ _ (Nat.le_refl _)] at this
    exact this
  have m1 : mi (Lr l a x y) (l.length + 1) = (dn (mi l l.length) (oL y)).2 := by
    have : mi (Lr l a x y) (l.length + 1) = (dn (mi (l ++ [oL y, oS a x, oL a, oL y]) l.length) (oL y)).2 := mi_one l [oL y, oS a x, oL a, oL y] 0
    rw [mi_app _ _ _ (Nat.le_refl _)] at this
    exact this
  have a1 : an (Lr l a x y) (l.length + 1) = (dn (mi (Lr l a x y) (l.length + 1)) (oS a x)).1 := an_one l [oL y, oS a x, oL a, oL y] 1
  have m2 : mi (Lr l a x y) (l.length + 2) = (dn (mi (Lr l a x y) (l.length + 1)) (oS a x)).2 := mi_one l [oL y, oS a x, oL a, oL y] 1
  have m3 : mi (Lr l a x y) (l.length + 3) = (dn (mi (Lr l a x y) (l.length + 2)) (oL a)).2 := mi_one l [oL y, oS a x, oL a, oL y] 2
  have a3 : an (Lr l a x y) (l.length + 3) = (dn (mi (Lr l a x y) (l.length + 3)) (oL y)).1 := an_one l [oL y, oS a x, oL a, oL y] 3
  have es : ∀ m, dn m (oS a x) = ((6, 0, 0), m) := fun m => by unfold oS; rw [dn_store, if_neg h]
  have el : ∀ m, dn m (oL a) = ((6, 0, 0), m) := fun m => by unfold oL; rw [dn_load, if_neg h]
  rw [a1, es, a3, m3, el, m2, es, a0, m1]
  obtain ⟨w1, e1⟩ := load_of (mi l l.length) y hw
  exact ⟨rfl, word_of2 _ _ y w1 hw (fun i _ _ => e1 i)⟩
theorem read_in (l : List Mo) (a x y : Nat) (hx : x < 2 ^ 256) (h : a + 32 ≤ 4096) : (an (Lr l a x y) (l.length + 1)).1 = 0 ∧ an (Lr l a x y) (l.length + 2) = (0, x, 0) ∧ ((y + 32 ≤ a ∨ a + 32 ≤ y) → (an (Lr l a x y) (l.length + 3)).2.1 = (an (Lr l a x y) l.length).2.1) := by
  obtain ⟨_, hw⟩ := pd_mi l l.length
  have a0 : an (Lr l a x y) l.length = (dn (mi l l.length) (oL y)).1 := by
    have : an (Lr l a x y) l.length = (dn (mi (l ++ [oL y, oS a x, oL a, oL y]) l.length) (oL y)).1 := an_one l [oL y, oS a x, oL a, oL y] 0
    rw [mi_app _ _ _ (Nat.le_refl _)] at this
    exact this
  have m1 : mi (Lr l a x y) (l.length + 1) = (dn (mi l l.length) (oL y)).2 := by
    have : mi (Lr l a x y) (l.length + 1) = (dn (mi (l ++ [oL y, oS a x, oL a, oL y]) l.length) (oL y)).2 := mi_one l [oL y, oS a x, oL a, oL y] 0
    rw [mi_app _ _ _ (Nat.le_refl _)] at this
    exact this
  have a1 : an (Lr l a x y) (l.length + 1) = (dn (mi (Lr l a x y) (l.length + 1)) (oS a x)).1 := an_one l [oL y, oS a x, oL a, oL y] 1
  have m2 : mi (Lr l a x y) (l.length + 2) = (dn (mi (Lr l a x y) (l.length + 1)) (oS a x)).2 := mi_one l [oL y, oS a x, oL a, oL y] 1
  have a2 : an (Lr l a x y) (l.length + 2) = (dn (mi (Lr l a x y) (l.length + 2)) (oL a)).1 := an_one l [oL y, oS a x, oL a, oL y] 2
  have m3 : mi (Lr l a x y) (l.length + 3) = (dn (mi (Lr l a x y) (l.length + 2)) (oL a)).2 := mi_one l [oL y, oS a x, oL a, oL y] 2
  have a3 : an (Lr l a x y) (l.length + 3) = (dn (mi (Lr l a x y) (l.length + 3)) (oL y)).1 := an_one l [oL y, oS a x, oL a, oL y] 3
  obtain ⟨w1, e1⟩ := load_of (mi l l.length) y hw
  rw [← m1] at w1 e1
  have es : ∀ m, dn m (oS a x) = ((0, 0, gco m (a + 32)), lay (grw m (a + 32)) a (Pk.wb x)) := fun m => by unfold oS; rw [dn_store, if_pos h]
  have el : ∀ m, dn m (oL a) = ((0, Pk.vb 0 (rdw m a), gco m (a + 32)), grw m (a + 32)) := fun m => by unfold oL; rw [dn_load, if_pos h]
  have w2 := (dn_paid _ (oS a x) w1).2.1
  rw [← m2] at w2
  have hg := grw_ge (mi (Lr l a x y) (l.length + 1)) (a + 32) w1.1
  have hb : a + (Pk.wb x).length ≤ (grw (mi (Lr l a x y) (l.length + 1)) (a + 32)).length := by rw [Pk.wb_len]; exact hg
  have e2 : ∀ i, (mi (Lr l a x y) (l.length + 2)).getD i 0 = if a ≤ i ∧ i < a + 32 then (Pk.wb x).getD (i - a) 0 else (mi l l.length).getD i 0 := fun i => by
    rw [m2, es]
    show (lay _ _ _).getD i 0 = _
    rw [lay_at _ _ _ hb, Pk.wb_len, grw_at, e1]
  have l2 : a + 32 ≤ (mi (Lr l a x y) (l.length + 2)).length := by
    rw [m2, es]
    show _ ≤ (lay _ _ _).length
    rw [lay_len _ _ _ hb]
    exact hg
  have r2 : rdw (mi (Lr l a x y) (l.length + 2)) a = Pk.wb x := by
    apply ext_at
    · rw [rdw_len _ _ w2, Pk.wb_len]
    · intro j
      by_cases hj : j < 32
      · rw [rdw_at _ _ _ hj, e2, if_pos (by omega), Nat.add_sub_cancel_left]
      · simp only [List.getD_eq_getElem?_getD]
        rw [List.getElem?_eq_none (by rw [rdw_len _ _ w2]; omega), List.getElem?_eq_none (by rw [Pk.wb_len]; omega)]
  obtain ⟨c2, g2⟩ := gco_no _ (a + 32) l2 w2.1
  refine ⟨by rw [a1, es], by rw [a2, el, r2, c2, Pk.vb_wb x hx], fun ha => ?_⟩
  rw [a3, m3, el, a0]
  show (dn (grw _ _) (oL y)).1.2.1 = _
  rw [g2]
  exact word_of2 _ _ y w2 hw (fun i h1 h2 => by rw [e2, if_neg (by omega)])
end Mm
end Go.Proofs.Ytcpgcdffienobaa
/- An operation on memory in a variable of its own: made, stored, loaded. -/
namespace Go.Proofs.Ytcpgcdffienobaa
namespace Mm
open Go.RowKit Pk
def zO : Array Value := #[.int .i64 0, .int .u64 0, .int .u64 0, .int .u64 0, .int .u64 0, .int .u64 0, .int .u64 0, .int .u64 0, .int .u64 0, .int .u64 0, .int .u64 0, .int .u64 0, .int .u64 0, .int .u64 0, .int .u64 0, .int .u64 0, .int .u64 0, .slice none 0 0]
theorem dgz3 : dg 0 0 = 0 ∧ dg 0 1 = 0 ∧ dg 0 2 = 0 ∧ dg 0 3 = 0 := by decide
/-- It is made. -/
theorem alO {K : Value → World → Prop} {ρ : Operand → Value} {o : Oper} {w : World} (ho : o.op = .alloc 38) (hK : K (.pointer (some ⟨w.heap.size, 0, none⟩)) (w.alloc (.cells zO 38))) : RS.upv Try.prog K ((execOp ρ o).run Try.prog w) := by
  obtain ⟨dst, op, ty, pos, after, guard⟩ := o
  simp only at ho
  subst ho
  unfold zO at hK
  go_simp
  exact hK
theorem newZ {w : World} {L : List Hm.Bk} {w1 : World} (h : Hm.Hd w L w1) : Hm.Hd w (⟨w1.heap.size, 18, oc 0 0 0 0 0 (.slice none 0 0)⟩ :: L) (w1.alloc (.cells zO 38)) := by
  have q := newO (T := 38) 0 0 0 0 0 (.slice none 0 0) h (rfl : w1.heap.size = _)
  rw [dgz3.1, dgz3.2.1, dgz3.2.2.1, dgz3.2.2.2] at q
  exact q
theorem setO {w : World} {g : Nat} {F : Nat → Value} {L : List Hm.Bk} {W : World} (o : Mo) (v : Value) (h : Hm.Hd w (⟨g, 18, F⟩ :: L) W) (hne : ∀ b, b ∈ L → g ≠ b.g) : Hm.Hd w (⟨g, 18, oc o.k o.a o.f o.l o.w v⟩ :: L) (W.setCells g 0 (ocl o v)) := by
  have hg := h.ok _ (List.mem_cons_self ..)
  have hlo : w.heap.size ≤ g := hg.lo
  have hhi : g < W.heap.size := hg.hi
  have gb := gbs g (ocl o v) 0 W
  refine ⟨bes hlo _ _ _ h.bel.size h.bel, fun k hk => ?_⟩
  rcases List.mem_cons.1 hk with rfl | hk
  · refine ⟨hlo, by rw [szs]; exact hhi, fun j hj => ?_, fzs hg.f _ _⟩
    have hj : j < 18 := hj
    have hin := World.cell?_setCells_in g (ocl o v) 0 W (fun i hi => by
      have hi : i < 18 := hi
      rw [Nat.zero_add, hg.c i hi]
      rfl) j hj
    rw [Nat.zero_add] at hin
    have e := ocl_get o v j hj
    rw [List.getElem?_eq_getElem (show j < (ocl o v).length from hj)] at e
    exact hin.trans e
  · have hb := h.ok k (List.mem_cons_of_mem _ hk)
    have hbk := gb.block k.g hb.hi (fun e => hne k hk (by injection e with e; exact e.symm))
    exact ⟨hb.lo, by rw [szs]; exact hb.hi, fun j hj => (World.cell?_of_block (a := ⟨k.g, j, none⟩) hbk).trans (hb.c j hj), fun j => (World.frozen?_of_block (a := ⟨k.g, j, none⟩) hbk).trans (hb.f j)⟩
theorem infoO18 (o : Mo) (v : Value) : (Try.prog.info? 38).map (·.size) = some (ocl o v).toArray.size := info18
theorem oneO (o : Mo) (a : Option Addr) (n c : Nat) : (ocl o (.slice a n c)).toArray.all (·.oneCell') = true := all_oneCell_toArray (fun u hu => OC_one [(o, .slice a n c)] (fun x hx => by
  simp only [List.mem_cons, List.not_mem_nil, or_false] at hx
  subst hx
  exact ⟨_, _, _, rfl⟩) u (by simp only [OC, List.flatMap_cons, List.flatMap_nil, List.append_nil]; exact hu))
theorem thereO {w : World} {g : Nat} {F : Nat → Value} {L : List Hm.Bk} {W : World} (o : Mo) (v : Value) (h : Hm.Hd w (⟨g, 18, F⟩ :: L) W) : W.there g 0 (ocl o v).toArray.size := fun j hj => by
  have hj : j < 18 := hj
  have hg := h.ok _ (List.mem_cons_self ..)
  rw [Nat.zero_add]
  exact ⟨by rw [hg.c j hj]; rfl, hg.f j⟩
/-- It is stored, behind which the world is a letter. -/
theorem stO {ops : Array Oper} {rest : List Oper} {op : Oper} {ac : Act} {Q : Exit → Act → World → Prop} {w : World} {g : Nat} {F : Nat → Value} {L : List Hm.Bk} {W : World} {s : Nat} {V : Operand} (o : Mo) (a : Option Addr) (n c : Nat) (hgd : op.guard = none) (ho : op.op = .store 38 (.tmp s) V)
    (hx : ac.eval (.tmp s) = .pointer (some ⟨g, 0, none⟩)) (hy : ac.eval V = .agg (ocl o (.slice a n c)).toArray) (h : Hm.Hd w (⟨g, 18, F⟩ :: L) W) (hne : ∀ b, b ∈ L → g ≠ b.g)
    (hK : ∀ W', Hm.Hd w (⟨g, 18, oc o.k o.a o.f o.l o.w (.slice a n c)⟩ :: L) W' → wpList Try.prog ops Q rest (ac.put op.dst undef) W') : wpList Try.prog ops Q (op :: rest) ac W :=
  wpList_store_mid hgd 38 (.tmp s) V ho g 0 (ocl o (.slice a n c)).toArray hx hy (thereO o _ h) (infoO18 o _) (oneO o a n c) (hK _ (setO o (.slice a n c) h hne))
/-- It is loaded. -/
theorem ldOu {K : Value → World → Prop} {ac : Act} {op : Oper} {s g : Nat} {k : Int} {a f l x : Nat} {v : Value} {w : World} (ho : op.op = .load 38 (.tmp s)) (ha : ac.eval (.tmp s) = .pointer (some ⟨g, 0, none⟩))
    (hc : ∀ o, o < 18 → w.cell? ⟨g, o, none⟩ = some (oc k a f l x v o)) (hK : K (od k a f l x v) w) : RS.upv Try.prog K ((execOp ac.eval op).run Try.prog w) := by
  have h := run_loadVar_mid (P := Try.prog) w g 0 38 [.int .i64 k, .int .u64 (dg a 0), .int .u64 (dg a 1), .int .u64 (dg a 2), .int .u64 (dg a 3), .int .u64 (dg f 0), .int .u64 (dg f 1), .int .u64 (dg f 2), .int .u64 (dg f 3), .int .u64 (dg l 0), .int .u64 (dg l 1), .int .u64 (dg l 2), .int .u64 (dg l 3), .int .u64 (dg x 0), .int .u64 (dg x 1), .int .u64 (dg x 2), .int .u64 (dg x 3), v] _ (range_op (oc0 hc)) Try.underlying38 rfl info18
  unfold execOp
  simp only [ho, ha, Instr.loadAt, Instr.sureAddr, Sem.run_bind, Sem.run_pure, Result.andThen_ok, h]
  exact hK
end Mm
end Go.Proofs.Ytcpgcdffienobaa
/- The same, where those of class 1 may look at others of class 1 that they are bound to. A region that draws its order: some values stand fast whatever the order (class 0), some hang on when they come (class 1: new blocks), and the rest come behind all these, one behind the other (class 2). -/
namespace Go.Proofs.Ytcpgcdffienobaa
namespace RH
open RI RS RN Go.RowKit
variable {P : Program} {ops : Array Oper} {Q : Exit → Act → World → Prop}
def cls (ks : List Nat) (j : Nat) : Nat := ks.getD j 2
def updU (U : Nat → Value) (i : Nat) (v : Value) : Nat → Value := fun j => if j = i then v else U j
/-- A step of class 0. -/
def DStep (P : Program) (ops : Array Oper) (I : (Nat → Bool) → (Nat → Value) → World → Prop) (i : Nat) (o : Oper) (v : Value) (U : Nat → Value) (a : Act) : Prop :=
  (Region.wanted o (yielded ops a.tmps) = true ∧ ∀ (K : Value → World → Prop) d w, I d U w → may ops d i → (∀ w', I (don d i) U w' → K v w') → upv P K ((execOp a.eval o).run P w)) ∨
  (Region.wanted o (yielded ops a.tmps) = false ∧ v = undef ∧ ∀ d w, I d U w → may ops d i → I (don d i) U w)
/-- A step of class 1. -/
def NStep (P : Program) (ops : Array Oper) (I : (Nat → Bool) → (Nat → Value) → World → Prop) (j : Nat) (o : Oper) (U : Nat → Value) (a : Act) : Prop :=
  ∀ (K : Value → World → Prop) d w, I d U w → may ops d j → (∀ v w', I (don d j) (updU U j v) w' → K v w') → upv P K ((execOp a.eval o).run P w)
/-- The walk in the text's order: class 0 by its value, class 1 by its fact. -/
def Walk (P : Program) (ops : Array Oper) (I : (Nat → Bool) → (Nat → Value) → World → Prop) (E : ((Nat → Value) → Act) → Prop) : Nat → List Oper → List Nat → ((Nat → Value) → Act) → Prop
  | j, o :: r, k :: ks, f =>
    if k = 0 then ∃ v, (∀ U, DStep P ops I j o v U (f U)) ∧ Walk P ops I E (j + 1) r ks (fun U => (f U).put o.dst v)
    else if k = 1 then o.guard = none ∧ (∀ U, NStep P ops I j o U (f U)) ∧ Walk P ops I E (j + 1) r ks (fun U => (f U).put o.dst (U j))
    else Walk P ops I E (j + 1) r ks f
  | _, _, _, f => E f
def tl : List Oper → List Nat → List Oper
  | o :: r, k :: ks => if k = 2 then o :: tl r ks else tl r ks
  | _, _ => []
/-- What each operation is bound to, through others too, as bits. -/
def mask1 (ms : List Nat) (o : Oper) : Nat := o.after.toList.foldl (fun m e => if Region.binds .any e then m ||| (1 <<< e.on) ||| ms.getD e.on 0 else m) 0
def masks (ops : Array Oper) : Nat → List Nat
  | 0 => []
  | k + 1 => masks ops k ++ [((ops[k]?).map (mask1 (masks ops k))).getD 0]
def pairC (ops : Array Oper) (ks : List Nat) (i j : Nat) : Bool :=
  match ops[i]?, ops[j]? with
  | some x, some y =>
    match y.dst with
    | none => true
    | some t =>
      if cls ks i = 2 then true
      else if cls ks j = 2 then true
      else (x.dst != some t || i == j) && (if cls ks j = 1 ∧ cls ks i = 0 then !(x.looksAt ops).contains t else (!(x.looksAt ops).contains t || (decide (j < i) && bindsOn x j) || (decide (i < j) && bindsOn y i)))
  | _, _ => true
def okC (ops : Array Oper) (ks : List Nat) : Bool :=
  RI.early ops && decide (ks.length = ops.size) && (List.range ops.size).all fun i =>
    (((ops[i]?).map fun o => !isSel o.op).getD true && decide (cls ks i ≤ 2)) && (List.range ops.size).all (fun j => pairC ops ks i j) &&
    (if cls ks i = 2 then (List.range ops.size).all fun j => (decide (cls ks j = 2) && decide (i ≤ j)) || ((masks ops ops.size).getD i 0).testBit j else true)
theorem masks_len (ops : Array Oper) : ∀ k, (masks ops k).length = k
  | 0 => rfl
  | k + 1 => by rw [masks, List.length_append, masks_len ops k]; rfl
theorem masks_get (ops : Array Oper) : ∀ n k, k < n → (masks ops n).getD k 0 = ((ops[k]?).map (mask1 (masks ops k))).getD 0
  | 0, k, h => absurd h (by omega)
  | n + 1, k, h => by
    rw [masks]
    by_cases e : k = n
    · subst e
      rw [List.getD_eq_getElem?_getD, List.getElem?_append_right (by rw [masks_len]; omega), masks_len]
      simp
    · rw [List.getD_eq_getElem?_getD, List.getElem?_append_left (by rw [masks_len]; omega), ← List.getD_eq_getElem?_getD]
      exact masks_get ops n k (by omega)
def Closed (ops : Array Oper) (d : Nat → Bool) : Prop := ∀ (j : Nat) (o : Oper), ops[j]? = some o → d j = true → ∀ e, e ∈ o.after → Region.binds .any e = true → d e.on = true
theorem mask1_bit (ms : List Nat) (o : Oper) (i : Nat) (h : (mask1 ms o).testBit i = true) : ∃ e, e ∈ o.after ∧ Region.binds .any e = true ∧ (e.on = i ∨ (ms.getD e.on 0).testBit i = true) := by
  unfold mask1 at h
  have key : ∀ (l : List Edge) (m : Nat), (l.foldl (fun m e => if Region.binds .any e then m ||| (1 <<< e.on) ||| ms.getD e.on 0 else m) m).testBit i = true → m.testBit i = true ∨ ∃ e, e ∈ l ∧ Region.binds .any e = true ∧ (e.on = i ∨ (ms.getD e.on 0).testBit i = true) := by
    intro l
    induction l with
    | nil => intro m h; exact .inl h
    | cons e r ih =>
      intro m h
      rw [List.foldl_cons] at h
      rcases ih _ h with h1 | ⟨e', h1, h2⟩
      · by_cases hb : Region.binds .any e = true
        · rw [if_pos hb, Nat.testBit_or, Nat.testBit_or, Bool.or_eq_true, Bool.or_eq_true] at h1
          rcases h1 with (h1 | h1) | h1
          · exact .inl h1
          · refine .inr ⟨e, List.mem_cons_self .., hb, .inl ?_⟩
            rw [Nat.one_shiftLeft, Nat.testBit_two_pow] at h1
            simpa using h1
          · exact .inr ⟨e, List.mem_cons_self .., hb, .inr h1⟩
        · rw [if_neg hb] at h1; exact .inl h1
      · exact .inr ⟨e', List.mem_cons_of_mem _ h1, h2⟩
  rcases key _ 0 h with h1 | ⟨e, h1, h2⟩
  · rw [Nat.zero_testBit] at h1; cases h1
  · exact ⟨e, by simpa using h1, h2⟩
theorem mask_done (he : RI.early ops = true) (d : Nat → Bool) (hcl : Closed ops d) : ∀ (n j : Nat), j < n → n ≤ ops.size → (∀ o, ops[j]? = some o → ∀ e, e ∈ o.after → Region.binds .any e = true → d e.on = true) → ∀ i, (((ops[j]?).map (mask1 (masks ops j))).getD 0).testBit i = true → d i = true
  | 0, j, h, _, _, _, _ => absurd h (by omega)
  | n + 1, j, hj, hn, hd, i, h => by
    have hjs : j < ops.size := by omega
    rw [Array.getElem?_eq_getElem hjs] at h
    simp only [Option.map_some, Option.getD_some] at h
    obtain ⟨e, h1, h2, h3⟩ := mask1_bit _ _ _ h
    have h4 := hd _ (Array.getElem?_eq_getElem hjs) e h1 h2
    rcases h3 with rfl | h3
    · exact h4
    · have hlt : e.on < j := by
        have h5 := List.all_eq_true.1 he j (List.mem_range.2 hjs)
        rw [Array.getElem?_eq_getElem hjs] at h5
        simp only [Option.map_some, Option.getD_some, Array.all_eq_true_iff_forall_mem] at h5
        have := h5 e h1
        rw [h2] at this
        simpa using this
      rw [masks_get ops j e.on hlt] at h3
      exact mask_done he d hcl n e.on (by omega) (by omega) (fun o ho => hcl e.on o ho h4) i h3
theorem fr_get2 (V : Nat → Value) (a : Act) (d c : Nat → Bool) (i t : Nat) : ∀ k, (∀ j, j < k → (ops[j]?).bind (·.dst) = some t → (j < i ∧ d j = true ∧ c j = true) ∨ (d j = false ∧ (c j = false ∨ i ≤ j))) → (fr ops V d a k).tmps[t]? = (fr ops V c a (min k i)).tmps[t]?
  | 0, _ => by simp [fr]
  | k + 1, h => by
    have ih := fr_get2 V a d c i t k (fun j hj => h j (by omega))
    have hk := h k (by omega)
    by_cases hi : k < i
    · rw [show min (k + 1) i = k + 1 by omega, fr, fr]
      rw [show min k i = k by omega] at ih
      by_cases e : (ops[k]?).bind (·.dst) = some t
      · rcases hk e with ⟨_, h2, h3⟩ | ⟨h1, h2 | h2⟩
        · rw [h2, h3]; simp only [if_true]; rw [put_get, put_get]; simp only [get_size ih, ih]
        · rw [h1, h2]; exact ih
        · omega
      · have q : ∀ (x : Act) (b : Bool), (if b then x.put ((ops[k]?).bind (·.dst)) (V k) else x).tmps[t]? = x.tmps[t]? := by
          intro x b; cases b
          · rfl
          · simp only [if_true]; rw [put_get, if_neg e]
        rw [q, q, ih]
    · rw [show min (k + 1) i = i by omega, fr]
      rw [show min k i = i by omega] at ih
      by_cases e : (ops[k]?).bind (·.dst) = some t
      · rcases hk e with ⟨h1, _⟩ | ⟨h2, _⟩
        · omega
        · rw [h2]; exact ih
      · cases d k
        · exact ih
        · simp only [if_true]; rw [put_get, if_neg e]; exact ih
theorem fr_put2 (V : Nat → Value) (a : Act) (d : Nat → Bool) (i : Nat) (hd : d i = false) : ∀ k, (∀ j, j < k → d j = true → ∀ t, (ops[i]?).bind (·.dst) = some t → (ops[j]?).bind (·.dst) ≠ some t) →
    fr ops V (don d i) a k = if i < k then (fr ops V d a k).put ((ops[i]?).bind (·.dst)) (V i) else fr ops V d a k
  | 0, _ => by simp [fr]
  | k + 1, h => by
    have ih := fr_put2 V a d i hd k (fun j hj => h j (by omega))
    rw [fr, fr]
    by_cases e : k = i
    · subst e
      rw [don_same, hd, ih, if_neg (show ¬ k < k by omega), if_pos (show k < k + 1 by omega)]
      simp
    · rw [don_other _ _ _ e, ih]
      by_cases h1 : i < k
      · rw [if_pos h1, if_pos (show i < k + 1 by omega)]
        cases hk : d k with
        | false => simp
        | true =>
          simp only [if_true]
          exact Act.put_comm _ _ _ (fun t ht => h k (by omega) hk t ht)
      · rw [if_neg h1, if_neg (show ¬ i < k + 1 by omega)]
def isDN (ks : List Nat) (j : Nat) : Bool := cls ks j == 0 || cls ks j == 1
/-- The value of each that is not of class 2. -/
def VU (ks : List Nat) (V U : Nat → Value) (j : Nat) : Value := if cls ks j = 1 then U j else V j
theorem walk_vals {I : (Nat → Bool) → (Nat → Value) → World → Prop} {E : ((Nat → Value) → Act) → Prop} (ks : List Nat) (a : Act) : ∀ (l : List Oper) (k : List Nat) (m : Nat) (V : Nat → Value), l.length = k.length → (∀ j o, l[j]? = some o → ops[m + j]? = some o) → (∀ j c, k[j]? = some c → cls ks (m + j) = c) → (∀ j, j < k.length → cls ks (m + j) ≤ 2) → Walk P ops I E m l k (fun U => fr ops (VU ks V U) (isDN ks) a m) →
    ∃ V', (∀ j, j < m → V' j = V j) ∧ (∀ j o U, l[j]? = some o → cls ks (m + j) = 0 → DStep P ops I (m + j) o (V' (m + j)) U (fr ops (VU ks V' U) (isDN ks) a (m + j))) ∧ (∀ j o U, l[j]? = some o → cls ks (m + j) = 1 → o.guard = none ∧ NStep P ops I (m + j) o U (fr ops (VU ks V' U) (isDN ks) a (m + j))) ∧ E (fun U => fr ops (VU ks V' U) (isDN ks) a (m + l.length))
  | [], k, m, V, _, _, _, _, h => ⟨V, fun _ _ => rfl, fun j o _ hj => by simp at hj, fun j o _ hj => by simp at hj, by cases k <;> simpa [Walk] using h⟩
  | o :: r, [], m, V, hl, _, _, _, h => absurd hl (by simp)
  | o :: r, c :: k, m, V, hlen, hl, hc, h3, h => by
    have hkm : ops[m]? = some o := by simpa using hl 0 o rfl
    have hcm : cls ks m = c := by simpa using hc 0 c rfl
    have frV : ∀ (V1 V2 U : Nat → Value) (n : Nat), (∀ j, j < n → V1 j = V2 j) → fr ops (VU ks V1 U) (isDN ks) a n = fr ops (VU ks V2 U) (isDN ks) a n := fun V1 V2 U n hv => fr_V a (isDN ks) _ _ n (fun j hj _ => by unfold VU; rw [hv j hj])
    have hl' : ∀ j o', r[j]? = some o' → ops[m + 1 + j]? = some o' := fun j o' hj => by have := hl (j + 1) o' (by simpa using hj); rwa [show m + (j + 1) = m + 1 + j by omega] at this
    have hc' : ∀ j c', k[j]? = some c' → cls ks (m + 1 + j) = c' := fun j c' hj => by have := hc (j + 1) c' (by simpa using hj); rwa [show m + (j + 1) = m + 1 + j by omega] at this
    have h3' : ∀ j, j < k.length → cls ks (m + 1 + j) ≤ 2 := fun j hj => by have := h3 (j + 1) (by simpa using hj); rwa [show m + (j + 1) = m + 1 + j by omega] at this
    unfold Walk at h
    by_cases h0 : c = 0
    · rw [if_pos h0] at h
      obtain ⟨v, h1, h2⟩ := h
      let W : Nat → Value := fun j => if j = m then v else V j
      have hW : (fun U => fr ops (VU ks W U) (isDN ks) a (m + 1)) = fun U => (fr ops (VU ks V U) (isDN ks) a m).put o.dst v := by
        funext U
        rw [fr, frV W V U m (fun j hj => by simp only [W]; rw [if_neg (by omega)])]
        simp [isDN, hcm, h0, hkm, W, VU]
      rw [← hW] at h2
      obtain ⟨V', e1, e2, e3, e4⟩ := walk_vals ks a r k (m + 1) W (by simpa using hlen) hl' hc' h3' h2
      have eV : ∀ U, fr ops (VU ks V' U) (isDN ks) a m = fr ops (VU ks V U) (isDN ks) a m := fun U => frV V' V U m (fun j hj => by rw [e1 j (by omega)]; simp only [W]; rw [if_neg (by omega)])
      refine ⟨V', fun j hj => ?_, fun j o' U hj hcj => ?_, fun j o' U hj hcj => ?_, ?_⟩
      · rw [e1 j (by omega)]; simp only [W]; rw [if_neg (by omega)]
      · cases j with
        | zero =>
          have : o' = o := by simpa using hj.symm
          subst this
          rw [Nat.add_zero, e1 m (by omega), eV]
          simpa [W] using h1 U
        | succ j => rw [show m + (j + 1) = m + 1 + j by omega] at hcj ⊢; exact e2 j o' U (by simpa using hj) hcj
      · cases j with
        | zero => rw [Nat.add_zero, hcm, h0] at hcj; exact absurd hcj (by decide)
        | succ j => rw [show m + (j + 1) = m + 1 + j by omega] at hcj ⊢; exact e3 j o' U (by simpa using hj) hcj
      · rw [show m + (o :: r).length = m + 1 + r.length by simp; omega]; exact e4
    · rw [if_neg h0] at h
      by_cases h1 : c = 1
      · rw [if_pos h1] at h
        obtain ⟨hg, hn, h2⟩ := h
        have hW : (fun U => fr ops (VU ks V U) (isDN ks) a (m + 1)) = fun U => (fr ops (VU ks V U) (isDN ks) a m).put o.dst (U m) := by
          funext U
          rw [fr]
          simp [isDN, hcm, h1, hkm, VU]
        rw [← hW] at h2
        obtain ⟨V', e1, e2, e3, e4⟩ := walk_vals ks a r k (m + 1) V (by simpa using hlen) hl' hc' h3' h2
        have eV : ∀ U, fr ops (VU ks V' U) (isDN ks) a m = fr ops (VU ks V U) (isDN ks) a m := fun U => frV V' V U m (fun j hj => e1 j (by omega))
        refine ⟨V', fun j hj => e1 j (by omega), fun j o' U hj hcj => ?_, fun j o' U hj hcj => ?_, ?_⟩
        · cases j with
          | zero => rw [Nat.add_zero, hcm] at hcj; exact absurd hcj h0
          | succ j => rw [show m + (j + 1) = m + 1 + j by omega] at hcj ⊢; exact e2 j o' U (by simpa using hj) hcj
        · cases j with
          | zero =>
            have : o' = o := by simpa using hj.symm
            subst this
            rw [Nat.add_zero, eV]
            exact ⟨hg, hn U⟩
          | succ j => rw [show m + (j + 1) = m + 1 + j by omega] at hcj ⊢; exact e3 j o' U (by simpa using hj) hcj
        · rw [show m + (o :: r).length = m + 1 + r.length by simp; omega]; exact e4
      · rw [if_neg h1] at h
        have hskip : (fun U => fr ops (VU ks V U) (isDN ks) a (m + 1)) = fun U => fr ops (VU ks V U) (isDN ks) a m := by
          funext U
          rw [fr]; simp [isDN, hcm, h0, h1]
        rw [← hskip] at h
        obtain ⟨V', e1, e2, e3, e4⟩ := walk_vals ks a r k (m + 1) V (by simpa using hlen) hl' hc' h3' h
        refine ⟨V', fun j hj => e1 j (by omega), fun j o' U hj hcj => ?_, fun j o' U hj hcj => ?_, ?_⟩
        · cases j with
          | zero => rw [Nat.add_zero, hcm] at hcj; exact absurd hcj h0
          | succ j => rw [show m + (j + 1) = m + 1 + j by omega] at hcj ⊢; exact e2 j o' U (by simpa using hj) hcj
        · cases j with
          | zero => rw [Nat.add_zero, hcm] at hcj; exact absurd hcj h1
          | succ j => rw [show m + (j + 1) = m + 1 + j by omega] at hcj ⊢; exact e3 j o' U (by simpa using hj) hcj
        · rw [show m + (o :: r).length = m + 1 + r.length by simp; omega]; exact e4
theorem tl_skip : ∀ (l : List Oper) (ks : List Nat) (m n : Nat), m ≤ n → (∀ j, m ≤ j → j < n → ks.getD j 2 ≠ 2) → n ≤ ks.length → l.length = ks.length → tl (l.drop m) (ks.drop m) = tl (l.drop n) (ks.drop n) := by
  intro l ks m n hmn h hn hl
  induction n with
  | zero => have : m = 0 := by omega
            subst this; rfl
  | succ n ih =>
    by_cases e : m = n + 1
    · subst e; rfl
    · rw [ih (by omega) (fun j h1 h2 => h j h1 (by omega)) (by omega)]
      have hk : n < ks.length := by omega
      have hl' : n < l.length := by omega
      rw [List.drop_eq_getElem_cons hl', List.drop_eq_getElem_cons hk, tl, if_neg]
      have := h n (by omega) (by omega)
      rwa [List.getD_eq_getElem?_getD, List.getElem?_eq_getElem hk] at this
theorem tl_here (l : List Oper) (ks : List Nat) (n : Nat) (hl : n < l.length) (hk : n < ks.length) (h : ks.getD n 2 = 2) : tl (l.drop n) (ks.drop n) = l[n] :: tl (l.drop (n + 1)) (ks.drop (n + 1)) := by
  rw [List.drop_eq_getElem_cons hl, List.drop_eq_getElem_cons hk, tl, if_pos]
  rwa [List.getD_eq_getElem?_getD, List.getElem?_eq_getElem hk] at h
theorem wp_region_genI {id : Nat} {a : Act} {w : World} (I : (Nat → Bool) → (Nat → Value) → World → Prop) (ks : List Nat)
    (hm : P.follows .mixedOrders = true) (hok : okC ops ks = true) (h0 : I (fun _ => false) (fun _ => undef) w.drew)
    (hs : Walk P ops I (fun f => ∀ d (U : Nat → Value) w', I d U w' → (∀ j, j < ops.size → d j = decide (cls ks j ≠ 2)) → wpList P ops Q (tl ops.toList ks) (f U) w') 0 ops.toList ks (fun _ => a)) : (Code.region id ops true).wp P Q a w := by
  have hok' := hok
  unfold okC at hok'
  rw [Bool.and_eq_true, Bool.and_eq_true] at hok'
  obtain ⟨⟨he, hlen0⟩, hp⟩ := hok'
  have hlen : ks.length = ops.size := by simpa using hlen0
  have hcget : ∀ j c, ks[j]? = some c → cls ks j = c := fun j c h => by unfold cls; rw [List.getD_eq_getElem?_getD, h]; rfl
  have hgetc : ∀ j c, j < ops.size → cls ks j = c → ks[j]? = some c := fun j c hj h => by
    unfold cls at h
    rw [List.getD_eq_getElem?_getD, List.getElem?_eq_getElem (by omega)] at h
    rw [List.getElem?_eq_getElem (by omega)]
    simpa using h
  have hrow : ∀ i, i < ops.size → ((ops[i]?).map fun o => !isSel o.op).getD true = true ∧ (∀ j, j < ops.size → pairC ops ks i j = true) ∧ (cls ks i = 2 → ∀ j, j < ops.size → (cls ks j = 2 ∧ i ≤ j) ∨ ((masks ops ops.size).getD i 0).testBit j = true) := by
    intro i hi
    have h1 := List.all_eq_true.1 hp i (List.mem_range.2 hi)
    rw [Bool.and_eq_true, Bool.and_eq_true, Bool.and_eq_true] at h1
    refine ⟨h1.1.1.1, fun j hj => List.all_eq_true.1 h1.1.2 j (List.mem_range.2 hj), fun hc j hj => ?_⟩
    have h2 := h1.2
    rw [if_pos hc] at h2
    have h3 := List.all_eq_true.1 h2 j (List.mem_range.2 hj)
    rw [Bool.or_eq_true, Bool.and_eq_true, decide_eq_true_eq, decide_eq_true_eq] at h3
    exact h3
  have hthree : ∀ i, i < ops.size → cls ks i ≤ 2 := by
    intro i hi
    have h1 := List.all_eq_true.1 hp i (List.mem_range.2 hi)
    rw [Bool.and_eq_true, Bool.and_eq_true, Bool.and_eq_true] at h1
    simpa using h1.1.1.2
  obtain ⟨V, _, hstD, hstN, hE⟩ := walk_vals (P := P) (ops := ops) ks a ops.toList ks 0 (fun _ => undef) (by simp [hlen]) (fun j o hj => by simpa using hj) (fun j c hj => by rw [Nat.zero_add]; exact hcget j c hj) (fun j hj => by rw [Nat.zero_add]; exact hthree j (by omega)) hs
  simp only [Nat.zero_add] at hstD hstN hE
  rw [show ops.toList.length = ops.size by simp] at hE
  have pair : ∀ (i j : Nat) (x y : Oper) (t : Nat), ops[i]? = some x → ops[j]? = some y → cls ks i ≠ 2 → cls ks j ≠ 2 → y.dst = some t → (x.dst = some t → i = j) ∧ (t ∈ x.looksAt ops → (j < i ∧ bindsOn x j = true) ∨ (i < j ∧ bindsOn y i = true)) := by
    intro i j x y t hx hy hci hcj ht
    have hi : i < ops.size := (Array.getElem?_eq_some_iff.1 hx).1
    have hj : j < ops.size := (Array.getElem?_eq_some_iff.1 hy).1
    have h2 := (hrow i hi).2.1 j hj
    unfold pairC at h2
    simp only [hx, hy, ht, if_neg hci, if_neg hcj] at h2
    rw [Bool.and_eq_true] at h2
    refine ⟨fun e => ?_, fun hm => ?_⟩
    · have := h2.1
      rw [e] at this
      simpa using this
    · have h3 := h2.2
      by_cases hc1 : cls ks j = 1 ∧ cls ks i = 0
      · rw [if_pos hc1] at h3
        simp at h3
        exact absurd hm h3
      · rw [if_neg hc1] at h3
        simp at h3
        rcases h3 with (h | h) | h
        · exact absurd hm h
        · exact .inl h
        · exact .inr h
  have nosel : ∀ (i : Nat) (x : Oper) cs b, ops[i]? = some x → x.op ≠ .select cs b := by
    intro i x cs b hx hc
    have hi : i < ops.size := (Array.getElem?_eq_some_iff.1 hx).1
    have h1 := (hrow i hi).1
    rw [hx] at h1
    simp [hc, isSel] at h1
  have deps : ∀ (d : Nat → Bool) (i : Nat) (o : Oper), may ops d i → ops[i]? = some o → ∀ e, e ∈ o.after → Region.binds .any e = true → d e.on = true := by
    intro d i o hmay ho e h1 h2
    have := hmay.2 o ho
    rw [Array.all_eq_true_iff_forall_mem] at this
    have := this e h1
    rw [h2] at this
    simpa using this
  have tailb : ∀ (d : Nat → Bool) (i : Nat), Closed ops d → cls ks i = 2 → i < ops.size → may ops d i → ∀ j, j < ops.size → (cls ks j ≠ 2 ∨ j < i) → d j = true := by
    intro d i hcl hc hi hmay j hj hor
    rcases (hrow i hi).2.2 hc j hj with ⟨h1, h2⟩ | h
    · rcases hor with h3 | h3
      · exact absurd h1 h3
      · omega
    · rw [masks_get ops ops.size i hi] at h
      exact mask_done he d hcl ops.size i hi (Nat.le_refl _) (fun o ho => deps d i o hmay ho) j h
  let J1 : (Nat → Bool) → Act → World → Prop := fun d x wx => ∃ U : Nat → Value, x = fr ops (VU ks V U) d a ops.size ∧ I d U wx ∧ Closed ops d ∧ (∀ j, cls ks j = 2 → d j = false) ∧ ∃ j, j < ops.size ∧ cls ks j ≠ 2 ∧ d j = false
  let J2 : (Nat → Bool) → Act → World → Prop := fun d x wx => ∃ m, m ≤ ops.size ∧ Closed ops d ∧ (∀ j, j < ops.size → d j = (decide (cls ks j ≠ 2) || decide (j < m))) ∧ wpList P ops Q (tl (ops.toList.drop m) (ks.drop m)) x wx
  have enter : ∀ d x wx (U : Nat → Value), x = fr ops (VU ks V U) d a ops.size → I d U wx → Closed ops d → (∀ j, cls ks j = 2 → d j = false) → (∀ j, j < ops.size → cls ks j ≠ 2 → d j = true) → J2 d x wx := by
    intro d x wx U hx hIw hcl hf htr
    have hdd : ∀ j, j < ops.size → d j = decide (cls ks j ≠ 2) := fun j hj => by
      by_cases hc : cls ks j = 2
      · rw [hf j hc, hc]; simp
      · rw [htr j hj hc]; simp [hc]
    refine ⟨0, Nat.zero_le _, hcl, fun j hj => ?_, ?_⟩
    · by_cases hc : cls ks j = 2
      · rw [hf j hc, hc]; simp
      · rw [htr j hj hc]; simp [hc]
    · have h1 := hE d U wx hIw hdd
      rw [List.drop_zero, List.drop_zero, hx, fr_congr (VU ks V U) a d (isDN ks) ops.size (fun j hj => ?_)]
      · exact h1
      · by_cases hc : cls ks j = 2
        · rw [hf j hc]; simp [isDN, hc]
        · rw [htr j hj hc]
          unfold isDN
          have h3c := hthree j hj
          by_cases h0c : cls ks j = 0
          · simp [h0c]
          · by_cases h1c : cls ks j = 1
            · simp [h1c]
            · omega
  refine wp_region_inv (fun d x wx => J1 d x wx ∨ J2 d x wx) hm he ?_ ?_ ?_
  · have hz : ∀ V', fr ops V' (fun _ => false) a ops.size = a := by
      intro V'
      have : ∀ k, fr ops V' (fun _ => false) a k = a := by
        intro k
        induction k with
        | zero => rfl
        | succ k ih => rw [fr, ih]; simp
      exact this _
    have hcl0 : Closed ops (fun _ => false) := fun _ _ _ h => by cases h
    by_cases hall : ∀ j, j < ops.size → cls ks j = 2
    · exact .inr (enter _ _ _ (fun _ => undef) (hz _).symm h0 hcl0 (fun _ _ => rfl) (fun j hj h => absurd (hall j hj) h))
    · rw [Classical.not_forall] at hall
      obtain ⟨j, hj⟩ := hall
      rw [Classical.not_imp] at hj
      exact .inl ⟨fun _ => undef, (hz _).symm, h0, hcl0, (fun _ _ => rfl), j, hj.1, hj.2, rfl⟩
  · rintro d x wx i (⟨U, rfl, hI, hcl, hfz, j0, hj0, hcj0, hdj0⟩ | ⟨m, hm', hcl, hd, hw⟩) hi hmay
    · have hci : cls ks i ≠ 2 := by
        intro h
        have := tailb d i hcl h hi hmay j0 hj0 (.inl hcj0)
        rw [hdj0] at this; cases this
      obtain ⟨o, ho⟩ : ∃ o, ops[i]? = some o := ⟨ops[i], Array.getElem?_eq_getElem hi⟩
      have hdeps := deps d i o hmay ho
      have hput : ∀ (V' : Nat → Value) v, v = V' i → (fr ops V' d a ops.size).put o.dst v = fr ops V' (don d i) a ops.size := by
        rintro V' v rfl
        rw [fr_put2 V' a d i hmay.1 ops.size (fun j hj hdj t ht => fun hjt => ?_), if_pos hi, ho]
        · rfl
        · obtain ⟨y, hy⟩ : ∃ y, ops[j]? = some y := ⟨ops[j], Array.getElem?_eq_getElem hj⟩
          rw [hy] at hjt
          rw [ho] at ht
          have hcj : cls ks j ≠ 2 := by intro h; rw [hfz j h] at hdj; cases hdj
          have := (pair i j o y t ho hy hci hcj hjt).1 ht
          subst this
          rw [hmay.1] at hdj; cases hdj
      have hclo : Closed ops (don d i) := by
        intro j o' hj hdj e e1 e2
        have : d e.on = true := by
          by_cases hji : j = i
          · subst hji
            rw [ho] at hj
            cases hj
            exact hdeps e e1 e2
          · rw [don_other _ _ _ hji] at hdj
            exact hcl j o' hj hdj e e1 e2
        unfold don; split
        · rfl
        · exact this
      have hnext : ∀ (U' : Nat → Value) x w', x = fr ops (VU ks V U') (don d i) a ops.size → I (don d i) U' w' → J1 (don d i) x w' ∨ J2 (don d i) x w' := by
        intro U' x w' hx hI'
        have hf' : ∀ j, cls ks j = 2 → don d i j = false := fun j hj => by
          have hji : j ≠ i := by intro e; subst e; exact hci hj
          rw [don_other _ _ _ hji]; exact hfz j hj
        by_cases hall : ∀ j, j < ops.size → cls ks j ≠ 2 → don d i j = true
        · exact .inr (enter _ _ _ U' hx hI' hclo hf' hall)
        · refine .inl ⟨U', hx, hI', hclo, hf', ?_⟩
          rw [Classical.not_forall] at hall
          obtain ⟨j, hj⟩ := hall
          rw [Classical.not_imp, Classical.not_imp] at hj
          exact ⟨j, hj.1, hj.2.1, by simpa using hj.2.2⟩
      have hsame : ∀ t, t ∈ o.looksAt ops → (fr ops (VU ks V U) d a ops.size).tmps[t]? = (fr ops (VU ks V U) (isDN ks) a i).tmps[t]? := by
        intro t ht
        have := fr_get2 (ops := ops) (VU ks V U) a d (isDN ks) i t ops.size (fun j hj hjt => by
          obtain ⟨y, hy⟩ : ∃ y, ops[j]? = some y := ⟨ops[j], Array.getElem?_eq_getElem hj⟩
          rw [hy] at hjt
          by_cases hc2 : cls ks j = 2
          · exact .inr ⟨hfz j hc2, .inl (by simp [isDN, hc2])⟩
          · have hdn : isDN ks j = true := by
              have := hthree j hj
              unfold isDN
              by_cases h0c : cls ks j = 0
              · simp [h0c]
              · have : cls ks j = 1 := by omega
                simp [this]
            rcases (pair i j o y t ho hy hci hc2 hjt).2 ht with ⟨h1, h2⟩ | ⟨h1, h2⟩
            · obtain ⟨e, e1, e2, e3⟩ := bindsOn_spec h2
              exact .inl ⟨h1, e3 ▸ hdeps e e1 e2, hdn⟩
            · refine .inr ⟨?_, .inr (by omega)⟩
              cases hdj : d j with
              | false => rfl
              | true =>
                obtain ⟨e, e1, e2, e3⟩ := bindsOn_spec h2
                have := hcl j y hy hdj e e1 e2
                rw [e3, hmay.1] at this; cases this)
        rw [this, show min ops.size i = i by omega]
      have hex : execOp (fr ops (VU ks V U) d a ops.size).eval o = execOp (fr ops (VU ks V U) (isDN ks) a i).eval o := by
        refine execOp_congr o (fun cs b => nosel i o cs b ho) (fun x hx => ?_)
        cases x with
        | tmp t => exact eval_get (hsame t (mem_looks hx))
        | _ => rfl
      have hwa := wanted_get hsame
      by_cases hc0 : cls ks i = 0
      · have hVi : V i = VU ks V U i := by unfold VU; rw [if_neg (by omega)]
        unfold wpOp
        rw [ho]
        simp only
        rcases hstD i o U (by simpa using ho) hc0 with ⟨h1, h2⟩ | ⟨h1, h2, h3⟩
        · rw [hwa, h1, if_pos rfl]
          refine .inl ?_
          unfold Oper.wp
          rw [hex]
          exact upv_upon (h2 _ d wx hI hmay (fun w' hI' => hnext U _ _ (hput _ _ hVi) hI'))
        · rw [hwa, h1]
          simp only [Bool.false_eq_true, if_false]
          exact hnext U _ _ (hput _ _ (h2.symm.trans hVi)) (h3 d wx hI hmay)
      · have hc1 : cls ks i = 1 := by have := hthree i hi; omega
        obtain ⟨hg, hrun⟩ := hstN i o U (by simpa using ho) hc1
        unfold wpOp
        rw [ho]
        simp only
        rw [if_pos (show Region.wanted o (yielded ops (fr ops (VU ks V U) d a ops.size).tmps) = true by simp [Region.wanted, hg])]
        refine .inl ?_
        unfold Oper.wp
        rw [hex]
        refine upv_upon (hrun _ d wx hI hmay (fun v w' hI' => ?_))
        have hU : ∀ j, j ≠ i → updU U i v j = U j := fun j hj => by unfold updU; rw [if_neg hj]
        have hUi : updU U i v i = v := by simp [updU]
        have hfr : fr ops (VU ks V U) d a ops.size = fr ops (VU ks V (updU U i v)) d a ops.size := fr_V a d _ _ _ (fun j _ hdj => by
          have hji : j ≠ i := by intro e; subst e; rw [hmay.1] at hdj; cases hdj
          unfold VU; rw [hU j hji])
        have hval : v = VU ks V (updU U i v) i := by unfold VU; rw [if_pos hc1, hUi]
        exact hnext (updU U i v) _ _ (by rw [hfr]; exact hput _ _ hval) hI'
    · have hci : cls ks i = 2 := by
        have h1 := hd i hi
        rw [hmay.1] at h1
        by_cases hc : cls ks i = 2
        · exact hc
        · simp [hc] at h1
      have him : ¬ i < m := by
        intro h
        have h1 := hd i hi
        rw [hmay.1, decide_eq_true h] at h1
        simp at h1
      have hbefore := tailb d i hcl hci hi hmay
      have hnone : ∀ j, m ≤ j → j < i → ks.getD j 2 ≠ 2 := by
        intro j h1 h2 h3
        have h4 := hbefore j (by omega) (.inr h2)
        rw [hd j (by omega)] at h4
        have : cls ks j = 2 := h3
        rw [this, decide_eq_false (show ¬ j < m by omega)] at h4
        simp at h4
      have hlo : ops.toList.length = ks.length := by simp [hlen]
      rw [tl_skip ops.toList ks m i (by omega) hnone (by omega) hlo, tl_here ops.toList ks i (by simpa using hi) (by omega) hci] at hw
      have hcloD : Closed ops (don d i) := by
        obtain ⟨o, ho⟩ : ∃ o, ops[i]? = some o := ⟨ops[i], Array.getElem?_eq_getElem hi⟩
        intro j o' hj hdj e e1 e2
        have : d e.on = true := by
          by_cases hji : j = i
          · subst hji; exact deps d j o' hmay hj e e1 e2
          · rw [don_other _ _ _ hji] at hdj
            exact hcl j o' hj hdj e e1 e2
        unfold don; split
        · rfl
        · exact this
      have key : ∀ x' w', wpList P ops Q (tl (ops.toList.drop (i + 1)) (ks.drop (i + 1))) x' w' → J1 (don d i) x' w' ∨ J2 (don d i) x' w' := fun x' w' h => .inr ⟨i + 1, by omega, hcloD, fun j hj => by
        by_cases hji : j = i
        · subst hji; rw [don_same]; simp
        · rw [don_other _ _ _ hji, hd j hj]
          by_cases hc : cls ks j = 2
          · have e : decide (j < m) = decide (j < i + 1) := by
              rw [decide_eq_decide]
              constructor
              · intro _; omega
              · intro h1
                rcases Nat.lt_or_ge j m with h2 | h2
                · exact h2
                · exact absurd hc (hnone j h2 (by omega))
            rw [e]
          · simp [hc], h⟩
      refine wpOp_mono key ?_
      unfold wpOp
      rw [Array.getElem?_eq_getElem hi]
      rw [show ops.toList[i] = ops[i] by simp] at hw
      exact hw
  · rintro d x wx (⟨_, _, _, _, _, j, hj, _, hdj⟩ | ⟨m, hm', hcl, hd, hw⟩) hall
    · have := hall j hj
      rw [hdj] at this; cases this
    · have hlo : ops.toList.length = ks.length := by simp [hlen]
      rw [tl_skip ops.toList ks m ops.size hm' (fun j h1 h2 h3 => by
        have h4 := hall j h2
        rw [hd j h2] at h4
        have : cls ks j = 2 := h3
        rw [this, decide_eq_false (show ¬ j < m by omega)] at h4
        simp at h4) (by omega) hlo, List.drop_eq_nil_of_le (by simp)] at hw
      unfold tl at hw
      exact hw
section
variable {I : (Nat → Bool) → (Nat → Value) → World → Prop} {E : ((Nat → Value) → Act) → Prop} {j : Nat} {o : Oper} {r : List Oper} {k : List Nat} {f f' : (Nat → Value) → Act} {v : Value}
theorem goD (hg : o.guard = none) (h : ∀ U (K : Value → World → Prop) d w, I d U w → may ops d j → (∀ w', I (don d j) U w' → K v w') → upv P K ((execOp (f U).eval o).run P w)) (he : ∀ U, (f U).put o.dst v = f' U)
    (hr : Walk P ops I E (j + 1) r k f') : Walk P ops I E j (o :: r) (0 :: k) f := by
  unfold Walk
  rw [if_pos rfl]
  have e : (fun U => (f U).put o.dst v) = f' := funext he
  exact ⟨v, fun U => .inl ⟨by simp [Region.wanted, hg], h U⟩, e ▸ hr⟩
theorem goDg (hg : ∀ U, Region.wanted o (yielded ops (f U).tmps) = true) (h : ∀ U (K : Value → World → Prop) d w, I d U w → may ops d j → (∀ w', I (don d j) U w' → K v w') → upv P K ((execOp (f U).eval o).run P w)) (he : ∀ U, (f U).put o.dst v = f' U)
    (hr : Walk P ops I E (j + 1) r k f') : Walk P ops I E j (o :: r) (0 :: k) f := by
  unfold Walk
  rw [if_pos rfl]
  have e : (fun U => (f U).put o.dst v) = f' := funext he
  exact ⟨v, fun U => .inl ⟨hg U, h U⟩, e ▸ hr⟩
theorem goD0 (hg : ∀ U, Region.wanted o (yielded ops (f U).tmps) = false) (h : ∀ U d w, I d U w → may ops d j → I (don d j) U w) (he : ∀ U, (f U).put o.dst undef = f' U)
    (hr : Walk P ops I E (j + 1) r k f') : Walk P ops I E j (o :: r) (0 :: k) f := by
  unfold Walk
  rw [if_pos rfl]
  have e : (fun U => (f U).put o.dst undef) = f' := funext he
  exact ⟨undef, fun U => .inr ⟨hg U, rfl, h U⟩, e ▸ hr⟩
theorem goN (hg : o.guard = none) (h : ∀ U (K : Value → World → Prop) d w, I d U w → may ops d j → (∀ v w', I (don d j) (updU U j v) w' → K v w') → upv P K ((execOp (f U).eval o).run P w)) (he : ∀ U, (f U).put o.dst (U j) = f' U)
    (hr : Walk P ops I E (j + 1) r k f') : Walk P ops I E j (o :: r) (1 :: k) f := by
  unfold Walk
  rw [if_neg (by decide), if_pos rfl]
  have e : (fun U => (f U).put o.dst (U j)) = f' := funext he
  exact ⟨hg, h, e ▸ hr⟩
theorem goT (hr : Walk P ops I E (j + 1) r k f) : Walk P ops I E j (o :: r) (2 :: k) f := by
  unfold Walk
  rw [if_neg (by decide), if_neg (by decide)]
  exact hr
theorem go_end (h : E f) : Walk P ops I E j [] [] f := by
  unfold Walk; exact h
end
end RH
end Go.Proofs.Ytcpgcdffienobaa
/- lampbearerkeep.MemoryRead. -/
namespace Go.Proofs.Ytcpgcdffienobaa
namespace Mm
open Go.RowKit Pk
theorem litR (a x y : Nat) : (OC [(oL y, .slice none 0 0), (oS a x, .slice none 0 0), (oL a, .slice none 0 0), (oL y, .slice none 0 0)]).toArray = #[.int .i64 1, .int .u64 (dg y 0), .int .u64 (dg y 1), .int .u64 (dg y 2), .int .u64 (dg y 3), .int .u64 0, .int .u64 0, .int .u64 0, .int .u64 0, .int .u64 0, .int .u64 0, .int .u64 0, .int .u64 0, .int .u64 0, .int .u64 0, .int .u64 0, .int .u64 0, .slice none 0 0, .int .i64 2, .int .u64 (dg a 0), .int .u64 (dg a 1), .int .u64 (dg a 2), .int .u64 (dg a 3), .int .u64 0, .int .u64 0, .int .u64 0, .int .u64 0, .int .u64 0, .int .u64 0, .int .u64 0, .int .u64 0, .int .u64 (dg x 0), .int .u64 (dg x 1), .int .u64 (dg x 2), .int .u64 (dg x 3), .slice none 0 0, .int .i64 1, .int .u64 (dg a 0), .int .u64 (dg a 1), .int .u64 (dg a 2), .int .u64 (dg a 3), .int .u64 0, .int .u64 0, .int .u64 0, .int .u64 0, .int .u64 0, .int .u64 0, .int .u64 0, .int .u64 0, .int .u64 0, .int .u64 0, .int .u64 0, .int .u64 0, .slice none 0 0, .int .i64 1, .int .u64 (dg y 0), .int .u64 (dg y 1), .int .u64 (dg y 2), .int .u64 (dg y 3), .int .u64 0, .int .u64 0, .int .u64 0, .int .u64 0, .int .u64 0, .int .u64 0, .int .u64 0, .int .u64 0, .int .u64 0, .int .u64 0, .int .u64 0, .int .u64 0, .slice none 0 0] := by
  show (ocl _ _ ++ (ocl _ _ ++ (ocl _ _ ++ (ocl _ _ ++ [])))).toArray = _
  unfold ocl oL oS
  rw [dgz3.1, dgz3.2.1, dgz3.2.2.1, dgz3.2.2.2]
  rfl
theorem eS (a x : Nat) : Value.agg #[.int .i64 2, .int .u64 (dg a 0), .int .u64 (dg a 1), .int .u64 (dg a 2), .int .u64 (dg a 3), .int .u64 0, .int .u64 0, .int .u64 0, .int .u64 0, .int .u64 0, .int .u64 0, .int .u64 0, .int .u64 0, .int .u64 (dg x 0), .int .u64 (dg x 1), .int .u64 (dg x 2), .int .u64 (dg x 3), .slice none 0 0] = .agg (ocl ⟨2, a, 0, 0, x, []⟩ (.slice none 0 0)).toArray := by
  unfold ocl
  rw [dgz3.1, dgz3.2.1, dgz3.2.2.1, dgz3.2.2.2]
theorem eL (y : Nat) : Value.agg #[.int .i64 1, .int .u64 (dg y 0), .int .u64 (dg y 1), .int .u64 (dg y 2), .int .u64 (dg y 3), .int .u64 0, .int .u64 0, .int .u64 0, .int .u64 0, .int .u64 0, .int .u64 0, .int .u64 0, .int .u64 0, .int .u64 0, .int .u64 0, .int .u64 0, .int .u64 0, .slice none 0 0] = .agg (ocl ⟨1, y, 0, 0, 0, []⟩ (.slice none 0 0)).toArray := by
  unfold ocl
  rw [dgz3.1, dgz3.2.1, dgz3.2.2.1, dgz3.2.2.2]
structure I6 (w5 : World) (xs ys : List OV) (R : Nat → Value → World → Prop) (N : Nat) (d : Nat → Bool) (U : Nat → Value) (wx : World) : Prop where
  b : Below w5.heap.size w5 wx
  c : d 1 = true → d 7 = false → ∃ B, w5.heap.size ≤ B ∧ B ≤ wx.heap.size ∧ Oo B xs (U 1) wx
  e : d 6 = true → d 7 = false → VO ys (U 6) wx
  a : d 7 = true → d 8 = false → ∃ B, Oo B (xs ++ ys) (U 7) wx
  p : d 8 = true → ∃ ga u, U 8 = .tuple #[.slice (some ⟨ga, 0, none⟩) N N, u] ∧ R ga u wx ∧ (d 9 = true → U 9 = .tuple #[.slice (some ⟨ga, 0, none⟩) N N, u]) ∧ (d 10 = true → U 10 = .slice (some ⟨ga, 0, none⟩) N N) ∧ (d 11 = true → U 11 = u) ∧ (d 12 = true → U 12 = .slice (some ⟨ga, 0, none⟩) N N)
  q7 : d 7 = true → d 1 = true ∧ d 6 = true
  q8 : d 8 = true → d 7 = true
  q9 : d 9 = true → d 8 = true
  q10 : d 10 = true → d 9 = true
  q11 : d 11 = true → d 9 = true
  q12 : d 12 = true → d 10 = true
section
variable {w5 : World} {xs ys : List OV} {R : Nat → Value → World → Prop} {N : Nat} {d : Nat → Bool} {U : Nat → Value} {wx w2 : World} {z : Value}
theorem I6.i6s : I6 w5 xs ys R N (fun _ => false) (fun _ => undef) w5.drew := ⟨(Below.refl _ _).drew, nofun, nofun, nofun, nofun, nofun, nofun, nofun, nofun, nofun, nofun⟩
theorem I6.i6k0 (h : I6 w5 xs ys R N d U wx) : I6 w5 xs ys R N (RI.don d 0) U wx := ⟨h.b, h.c, h.e, h.a, h.p, h.q7, h.q8, h.q9, h.q10, h.q11, h.q12⟩
theorem I6.i6k2 (h : I6 w5 xs ys R N d U wx) : I6 w5 xs ys R N (RI.don d 2) U wx := ⟨h.b, h.c, h.e, h.a, h.p, h.q7, h.q8, h.q9, h.q10, h.q11, h.q12⟩
theorem I6.i6k3 (h : I6 w5 xs ys R N d U wx) : I6 w5 xs ys R N (RI.don d 3) U wx := ⟨h.b, h.c, h.e, h.a, h.p, h.q7, h.q8, h.q9, h.q10, h.q11, h.q12⟩
theorem I6.i6k4 (h : I6 w5 xs ys R N d U wx) : I6 w5 xs ys R N (RI.don d 4) U wx := ⟨h.b, h.c, h.e, h.a, h.p, h.q7, h.q8, h.q9, h.q10, h.q11, h.q12⟩
theorem I6.i6k5 (h : I6 w5 xs ys R N d U wx) : I6 w5 xs ys R N (RI.don d 5) U wx := ⟨h.b, h.c, h.e, h.a, h.p, h.q7, h.q8, h.q9, h.q10, h.q11, h.q12⟩
theorem no_tt {b : Bool} {Q : Prop} (h : b = false) (h2 : b = true) : Q := by rw [h] at h2; cases h2
theorem I6.i6c (h : I6 w5 xs ys R N d U wx) (h1 : d 1 = false) (ho : Oo wx.heap.size xs z w2) (hb : Below wx.heap.size wx w2) : I6 w5 xs ys R N (RI.don d 1) (RH.updU U 1 z) w2 :=
  ⟨h.b.trans (hb.mono h.b.size), fun _ _ => ⟨_, h.b.size, hb.size, ho⟩, fun q q7 => VO_below (h.e q q7) hb, fun q => no_tt h1 (h.q7 q).1, fun q => no_tt h1 (h.q7 (h.q8 q)).1, fun q => no_tt h1 (h.q7 q).1, h.q8, h.q9, h.q10, h.q11, h.q12⟩
theorem I6.i6l (h : I6 w5 xs ys R N d U wx) (h1 : d 6 = false) (ho : VO ys z w2) (hb : Below wx.heap.size wx w2) : I6 w5 xs ys R N (RI.don d 6) (RH.updU U 6 z) w2 :=
  ⟨h.b.trans (hb.mono h.b.size), fun q q7 => by
    obtain ⟨B, q1, q2, q3⟩ := h.c q q7
    exact ⟨B, q1, Nat.le_trans q2 hb.size, Oo_below q3 hb⟩, fun _ _ => ho, fun q => no_tt h1 (h.q7 q).2, fun q => no_tt h1 (h.q7 (h.q8 q)).2, fun q => no_tt h1 (h.q7 q).2, h.q8, h.q9, h.q10, h.q11, h.q12⟩
theorem I6.i6a (h : I6 w5 xs ys R N d U wx) (h7 : d 7 = false) (h1 : d 1 = true) (h6 : d 6 = true) {B : Nat} (ho : Oo B (xs ++ ys) z w2) (hb : Below w5.heap.size w5 w2) : I6 w5 xs ys R N (RI.don d 7) (RH.updU U 7 z) w2 :=
  ⟨hb, fun _ q => no_tt q rfl, fun _ q => no_tt q rfl, fun _ _ => ⟨B, ho⟩, fun q => no_tt h7 (h.q8 q), fun _ => ⟨h1, h6⟩, fun q => no_tt h7 (h.q8 q), h.q9, h.q10, h.q11, h.q12⟩
theorem I6.i6p (h : I6 w5 xs ys R N d U wx) (h8 : d 8 = false) (h7 : d 7 = true) {ga : Nat} {u : Value} (hz : z = .tuple #[.slice (some ⟨ga, 0, none⟩) N N, u]) (hr : R ga u w2) (hb : Below wx.heap.size wx w2) : I6 w5 xs ys R N (RI.don d 8) (RH.updU U 8 z) w2 :=
  ⟨h.b.trans (hb.mono h.b.size), fun _ q => no_tt q h7, fun _ q => no_tt q h7, fun _ q => no_tt q rfl, fun _ => ⟨ga, u, hz, hr, fun q => no_tt h8 (h.q9 q), fun q => no_tt h8 (h.q9 (h.q10 q)), fun q => no_tt h8 (h.q9 (h.q11 q)), fun q => no_tt h8 (h.q9 (h.q10 (h.q12 q)))⟩, h.q7, fun _ => h7, fun _ => rfl, h.q10, h.q11, h.q12⟩
theorem I6.i6m (h : I6 w5 xs ys R N d U wx) (h8 : d 8 = true) : I6 w5 xs ys R N (RI.don d 9) (RH.updU U 9 (U 8)) wx := by
  obtain ⟨ga, u, e1, e2, e3, e4, e5⟩ := h.p h8
  exact ⟨h.b, h.c, h.e, h.a, fun _ => ⟨ga, u, e1, e2, fun _ => e1, e4, e5⟩, h.q7, h.q8, fun _ => h8, fun _ => rfl, fun _ => rfl, h.q12⟩
theorem I6.i6x (h : I6 w5 xs ys R N d U wx) (h9 : d 9 = true) {ga : Nat} {u : Value} (e9 : U 9 = .tuple #[.slice (some ⟨ga, 0, none⟩) N N, u]) : I6 w5 xs ys R N (RI.don d 10) (RH.updU U 10 (.slice (some ⟨ga, 0, none⟩) N N)) wx := by
  obtain ⟨ga', u', e1, e2, e3, e4, e5⟩ := h.p (h.q9 h9)
  have e := (e3 h9).symm.trans e9
  injection e with e
  have f0 := congrArg (fun a : Array Value => a.getD 0 undef) e
  have f0 : Value.slice (some ⟨ga', 0, none⟩) N N = .slice (some ⟨ga, 0, none⟩) N N := f0
  exact ⟨h.b, h.c, h.e, h.a, fun _ => ⟨ga', u', e1, e2, e3, fun _ => f0.symm, e5⟩, h.q7, h.q8, h.q9, fun _ => h9, h.q11, fun _ => rfl⟩
theorem I6.i6y (h : I6 w5 xs ys R N d U wx) (h9 : d 9 = true) {ga : Nat} {u : Value} (e9 : U 9 = .tuple #[.slice (some ⟨ga, 0, none⟩) N N, u]) : I6 w5 xs ys R N (RI.don d 11) (RH.updU U 11 u) wx := by
  obtain ⟨ga', u', e1, e2, e3, e4, e5⟩ := h.p (h.q9 h9)
  have e := (e3 h9).symm.trans e9
  injection e with e
  have f0 := congrArg (fun a : Array Value => a.getD 1 undef) e
  have f0 : u' = u := f0
  exact ⟨h.b, h.c, h.e, h.a, fun _ => ⟨ga', u', e1, e2, e3, e4, fun _ => f0.symm, e5.2⟩, h.q7, h.q8, h.q9, h.q10, fun _ => h9, h.q12⟩
theorem I6.i6z (h : I6 w5 xs ys R N d U wx) (h10 : d 10 = true) : I6 w5 xs ys R N (RI.don d 12) (RH.updU U 12 (U 10)) wx := by
  obtain ⟨ga', u', e1, e2, e3, e4, e5⟩ := h.p (h.q9 (h.q10 h10))
  exact ⟨h.b, h.c, h.e, h.a, fun _ => ⟨ga', u', e1, e2, e3, e4, e5.1, fun _ => e4 h10⟩, h.q7, h.q8, h.q9, h.q10, h.q11, fun _ => h10⟩
end
theorem ap_upv {K : Value → World → Prop} {a : Act} {o : Oper} {s x : Operand} {t : TypeId} {v v2 v' : Value} {w w' : World} (ho : o.op = .call { callee := .builtin .append, args := #[s, x], argTypes := #[t, t] }) (hs : a.eval s = v) (hx : a.eval x = v2)
    (hr : (Builtin.append_ #[t, t] o.type #[v, v2]).run Try.prog w = .ok v' w') (hK : K v' w') : RS.upv Try.prog K ((execOp a.eval o).run Try.prog w) := by
  unfold execOp
  simp only [ho, resolve, invoke, builtin, Sem.run_bind, Sem.run_pure, Result.andThen_ok, List.map_toArray, List.map_cons, List.map_nil, hs, hx, hr]
  exact hK
theorem fxR (n k1 k2 k3 k4 m : Nat) (h : n = m ∧ k1 = n + 1 ∧ k2 = n + 2 ∧ k3 = n + 3 ∧ k4 = n + 4 ∧ k4 ≤ 1048576) : wrap64 ((n : Int) + 4) = (k4 : Int) ∧ wrap64 ((n : Int) + 1) = (k1 : Int) ∧ (k1 : Int) < (k4 : Int) ∧ (0 : Int) ≤ (k1 : Int) ∧ IntKind.i64.wrap ((n : Int) + 1) = (k1 : Int) ∧ IntKind.i64.wrap ((n : Int) + 2) = (k2 : Int) ∧ IntKind.i64.wrap ((n : Int) + 3) = (k3 : Int) ∧ wrap64 ((n : Int) + 2) = (k2 : Int) ∧ wrap64 ((n : Int) + 3) = (k3 : Int) ∧ (n : Int) < (k4 : Int) ∧ (0 : Int) ≤ (n : Int) ∧ (k2 : Int) < (k4 : Int) ∧ (0 : Int) ≤ (k2 : Int) ∧ (k3 : Int) < (k4 : Int) ∧ (0 : Int) ≤ (k3 : Int) :=
  ⟨by unfold wrap64; omega, by unfold wrap64; omega, by omega, by omega, by rw [IntKind.wrap_i64]; omega, by rw [IntKind.wrap_i64]; omega, by rw [IntKind.wrap_i64]; omega, by unfold wrap64; omega, by unfold wrap64; omega, by omega, by omega, by omega, by omega, by omega, by omega⟩
/-- What holds behind Play: the words' boxes, the answers. -/
structure Sr (w : World) (L : List Hm.Bk) (ga k0 k1 k2 k3 : Nat) (A0 A1 A2 A3 : An) (wx : World) : Prop where
  hd : Hm.Hd w L wx
  hi : ga < wx.heap.size
  c0 : ∀ o, o < 6 → wx.cell? ⟨ga, k0 * 6 + o, none⟩ = some (s6 A0.1 A0.2.1 A0.2.2 o)
  c1 : ∀ o, o < 6 → wx.cell? ⟨ga, k1 * 6 + o, none⟩ = some (s6 A1.1 A1.2.1 A1.2.2 o)
  c2 : ∀ o, o < 6 → wx.cell? ⟨ga, k2 * 6 + o, none⟩ = some (s6 A2.1 A2.2.1 A2.2.2 o)
  c3 : ∀ o, o < 6 → wx.cell? ⟨ga, k3 * 6 + o, none⟩ = some (s6 A3.1 A3.2.1 A3.2.2 o)
theorem Sr_below {w : World} {L : List Hm.Bk} {ga k0 k1 k2 k3 : Nat} {A0 A1 A2 A3 : An} {wx wy : World} (h : Sr w L ga k0 k1 k2 k3 A0 A1 A2 A3 wx) (hb : Below wx.heap.size wx wy) : Sr w L ga k0 k1 k2 k3 A0 A1 A2 A3 wy :=
  ⟨Hm.below h.hd hb, Nat.lt_of_lt_of_le h.hi hb.size, fun o ho => (hb.cell (p := ⟨ga, k0 * 6 + o, none⟩) h.hi).trans (h.c0 o ho), fun o ho => (hb.cell (p := ⟨ga, k1 * 6 + o, none⟩) h.hi).trans (h.c1 o ho), fun o ho => (hb.cell (p := ⟨ga, k2 * 6 + o, none⟩) h.hi).trans (h.c2 o ho), fun o ho => (hb.cell (p := ⟨ga, k3 * 6 + o, none⟩) h.hi).trans (h.c3 o ho)⟩
set_option maxHeartbeats 4000000 in
set_option maxRecDepth 100000 in
theorem read_e (l : List Mo) (xs : List OV) (n k1 k2 k3 k4 a x y : Nat) (hxs : Hid (xs.map (·.1) = l)) (hl : Hid (∀ x, x ∈ l → Wf x)) (hn : Hid (n = l.length ∧ k1 = n + 1 ∧ k2 = n + 2 ∧ k3 = n + 3 ∧ k4 = n + 4 ∧ k4 ≤ 1048576)) (hw : Hid (a < 2 ^ 256 ∧ x < 2 ^ 256 ∧ y < 2 ^ 256)) (e0 e2 e3 c0 c1 c2 c3 : Int) (V V1 V2 : Nat) (hA : Hid (an (Lr l a x y) n = (e0, V, c0) ∧ an (Lr l a x y) k1 = (6, V1, c1) ∧ an (Lr l a x y) k2 = (e2, V2, c2) ∧ an (Lr l a x y) k3 = (e3, V, c3)))
    (ao : Option Addr) (cap : Nat) (w : World) (hv : Hid (VO xs (.slice ao n cap) w ∧ ∀ x, x ∈ xs → Tr.Bs (· < w.heap.size) x.1.d x.2 w)) :
    Calls Try.prog 4 #[.slice ao n cap, Wd a, Wd x, Wd y] w fun e w' => e = .returned (.bool true) ∧ Below w.heap.size w w' := by
  have HX : Hid (xs.length = n) := by
    show _ = _
    rw [hn.out.1, ← hxs.out, List.length_map]
  have KC : Hid (∀ W : World, Below w.heap.size w W → Calls Try.prog 15 #[.slice ao n cap] W fun e w' => ∃ z, e = .returned z ∧ Oo W.heap.size xs z w' ∧ Below W.heap.size W w') := fun W hb => clone_op xs _ W (VO_below hv.out.1 hb) (fun x hx => Bs_isSl (hv.out.2 x hx)) (by have := hn.out; have := HX.out; omega)
  have KP : Hid (∀ (W : World) (Bs : Nat) (v : Value), Below w.heap.size w W → Oo Bs (xs ++ [(oL y, .slice none 0 0), (oS a x, .slice none 0 0), (oL a, .slice none 0 0), (oL y, .slice none 0 0)]) v W → Calls Try.prog 9 #[v] W fun e w' => ∃ ga u, e = .returned (.tuple #[.slice (some ⟨ga, 0, none⟩) k4 k4, u]) ∧ Rp W.heap.size ga (Lr l a x y) u w' ∧ Below W.heap.size W w') := fun W Bs v hb1 ho => by
    have hM := Oo_in ho (fun z hz => by
      rcases List.mem_append.1 hz with h | h
      · exact Bs_in (hv.out.2 z h) hb1
      · simp only [List.mem_cons, List.not_mem_nil, or_false] at h
        rcases h with rfl | rfl | rfl | rfl <;> exact Tr.Bs_nil _ _)
    rw [List.map_append, hxs.out] at hM
    have hM : Mr (· < W.heap.size) (Lr l a x y) v W := hM
    have hlen : (Lr l a x y).length = k4 := by unfold Lr; rw [List.length_append, ← hn.out.1, hn.out.2.2.2.2.1]; rfl
    have wf1 : ∀ q, q < 2 ^ 256 → Wf (oL q) := fun q hq => ⟨hq, by show 0 < 2 ^ 256; decide, by show 0 < 2 ^ 256; decide, by show 0 ≤ _; omega⟩
    have wf2 : Wf (oS a x) := ⟨hw.out.1, by show 0 < 2 ^ 256; decide, by show 0 < 2 ^ 256; decide, by show 0 ≤ _; omega⟩
    have k := play_any (Lr l a x y) (wf_in _ (fun q hq => by
      rcases List.mem_append.1 hq with h | h
      · exact hl.out q h
      · simp only [List.mem_cons, List.not_mem_nil, or_false] at h
        rcases h with rfl | rfl | rfl | rfl
        · exact wf1 y hw.out.2.2
        · exact wf2
        · exact wf1 a hw.out.1
        · exact wf1 y hw.out.2.2)) (by rw [hlen]; exact hn.out.2.2.2.2.2) v W hM
    rw [hlen] at k
    exact k
  conv => arg 3; unfold Wd
  go_enter Try.func4, Try.ntmps4
  go_upto_region 1 with fail
  have m0 : Hm.Hd w [Hm.W4 (w.heap.size + 1 + 1) y, Hm.W4 (w.heap.size + 1) x, Hm.W4 w.heap.size a] (((w.alloc (.cells #[.int .u64 (dg a 0), .int .u64 (dg a 1), .int .u64 (dg a 2), .int .u64 (dg a 3)] 32)).alloc (.cells #[.int .u64 (dg x 0), .int .u64 (dg x 1), .int .u64 (dg x 2), .int .u64 (dg x 3)] 32)).alloc (.cells #[.int .u64 (dg y 0), .int .u64 (dg y 1), .int .u64 (dg y 2), .int .u64 (dg y 3)] 32)) := by
    have q1 := Hm.new4 (n := a) (T := 32) (Hm.start w) rfl
    have q2 := Hm.new4 (n := x) (T := 32) (g := w.heap.size + 1) q1 (by simp)
    exact Hm.new4 (n := y) (T := 32) (g := w.heap.size + 1 + 1) q2 (by simp)
  generalize ((w.alloc (.cells #[.int .u64 (dg a 0), .int .u64 (dg a 1), .int .u64 (dg a 2), .int .u64 (dg a 3)] 32)).alloc (.cells #[.int .u64 (dg x 0), .int .u64 (dg x 1), .int .u64 (dg x 2), .int .u64 (dg x 3)] 32)).alloc (.cells #[.int .u64 (dg y 0), .int .u64 (dg y 1), .int .u64 (dg y 2), .int .u64 (dg y 3)] 32) = w0 at m0 ⊢
  have M0 : Hid _ := m0
  clear m0
  go_wp2_with fail
  refine (alive_any w0).mono ?_
  rintro e w1 ⟨rfl, b1⟩
  have M1 : Hid (Hm.Hd w [Hm.W4 (w.heap.size + 1 + 1) y, Hm.W4 (w.heap.size + 1) x, Hm.W4 w.heap.size a] w1) := Hm.below M0.out b1
  clear b1 M0
  go_upto_region 3 with fail
  refine RS.wp_region_flat (Hm.Hd w [Hm.W4 (w.heap.size + 1 + 1) y, Hm.W4 (w.heap.size + 1) x, Hm.W4 w.heap.size a]) 3 (by kernel_rfl) (M1.out) ?_
  simp only [List.take_succ_cons, List.take_zero, List.drop_succ_cons, List.drop_zero]
  refine RS.go1 (v := ?_) (a' := ?_) rfl ?_ ?_ ?_
  rotate_left 2
  · intro K wx hS hK
    refine RW.ld rfl rfl (hS.ok (Hm.W4 (w.heap.size) (a)) (by simp)).c ?_
    exact hK _ hS
  · simp only [Act.put, List.setIfInBounds_toArray, List.set_cons_succ, List.set_cons_zero]
    rfl
  refine RS.go1 (v := ?_) (a' := ?_) rfl ?_ ?_ ?_
  rotate_left 2
  · intro K wx hS hK
    refine RW.ld rfl rfl (hS.ok (Hm.W4 (w.heap.size + 1) (x)) (by simp)).c ?_
    exact hK _ hS
  · simp only [Act.put, List.setIfInBounds_toArray, List.set_cons_succ, List.set_cons_zero]
    rfl
  refine RS.go1 (v := ?_) (a' := ?_) rfl ?_ ?_ ?_
  rotate_left 2
  · intro K wx hS hK
    unfold Wd
    go_simp
    exact hK _ hS
  · simp only [Act.put, List.setIfInBounds_toArray, List.set_cons_succ, List.set_cons_zero]
    rfl
  refine RS.go_end ?_
  intro wq h9
  have Nq : Hid _ := h9
  clear h9 M1
  refine RF.go (by kernel_rfl) ?_
  refine alO rfl ?_
  have Nz : Hid _ := newZ Nq.out
  have ne : Hid (∀ b, b ∈ [Hm.W4 (w.heap.size + 1 + 1) y, Hm.W4 (w.heap.size + 1) x, Hm.W4 w.heap.size a] → wq.heap.size ≠ b.g) := fun b hb => Nat.ne_of_gt (Nq.out.ok b hb).hi
  clear Nq
  generalize wq.alloc (.cells zO 38) = wz at Nz ⊢
  generalize wq.heap.size = g1 at Nz ne ⊢
  simp only [Act.put, List.setIfInBounds_toArray, List.set_cons_succ, List.set_cons_zero]
  refine stO ⟨2, a, 0, 0, x, []⟩ none 0 0 rfl rfl rfl (eS a x) Nz.out ne.out (fun w3 h9 => ?_)
  have Mw3 : Hid _ := h9
  clear h9 Nz ne
  refine wpList_nil ?_
  dsimp only [Act.put]
  generalize (Value.agg #[.int .i64 2, .int .u64 (dg a 0), .int .u64 (dg a 1), .int .u64 (dg a 2), .int .u64 (dg a 3), .int .u64 0, .int .u64 0, .int .u64 0, .int .u64 0, .int .u64 0, .int .u64 0, .int .u64 0, .int .u64 0, .int .u64 (dg x 0), .int .u64 (dg x 1), .int .u64 (dg x 2), .int .u64 (dg x 3), .slice none 0 0]) = Jg1
  go_upto_region 4 with fail
  refine RS.wp_region_flat (Hm.Hd w (⟨g1, 18, oc 2 a 0 0 x (.slice none 0 0)⟩ :: [Hm.W4 (w.heap.size + 1 + 1) y, Hm.W4 (w.heap.size + 1) x, Hm.W4 w.heap.size a])) 2 (by kernel_rfl) (Mw3.out) ?_
  simp only [List.take_succ_cons, List.take_zero, List.drop_succ_cons, List.drop_zero]
  refine RS.go1 (v := ?_) (a' := ?_) rfl ?_ ?_ ?_
  rotate_left 2
  · intro K wx hS hK
    refine RW.ld rfl rfl (hS.ok (Hm.W4 (w.heap.size) (a)) (by simp)).c ?_
    exact hK _ hS
  · simp only [Act.put, List.setIfInBounds_toArray, List.set_cons_succ, List.set_cons_zero]
    rfl
  refine RS.go1 (v := ?_) (a' := ?_) rfl ?_ ?_ ?_
  rotate_left 2
  · intro K wx hS hK
    unfold Wd
    go_simp
    exact hK _ hS
  · simp only [Act.put, List.setIfInBounds_toArray, List.set_cons_succ, List.set_cons_zero]
    rfl
  refine RS.go_end ?_
  intro wq h9
  have Nq : Hid _ := h9
  clear h9 Mw3
  refine RF.go (by kernel_rfl) ?_
  refine alO rfl ?_
  have Nz : Hid _ := newZ Nq.out
  have ne : Hid (∀ b, b ∈ (⟨g1, 18, oc 2 a 0 0 x (.slice none 0 0)⟩ :: [Hm.W4 (w.heap.size + 1 + 1) y, Hm.W4 (w.heap.size + 1) x, Hm.W4 w.heap.size a]) → wq.heap.size ≠ b.g) := fun b hb => Nat.ne_of_gt (Nq.out.ok b hb).hi
  clear Nq
  generalize wq.alloc (.cells zO 38) = wz at Nz ⊢
  generalize wq.heap.size = g2 at Nz ne ⊢
  simp only [Act.put, List.setIfInBounds_toArray, List.set_cons_succ, List.set_cons_zero]
  refine stO ⟨1, a, 0, 0, 0, []⟩ none 0 0 rfl rfl rfl (eL a) Nz.out ne.out (fun w4 h9 => ?_)
  have Mw4 : Hid _ := h9
  clear h9 Nz ne
  refine wpList_nil ?_
  dsimp only [Act.put]
  generalize (Value.agg #[.int .i64 1, .int .u64 (dg a 0), .int .u64 (dg a 1), .int .u64 (dg a 2), .int .u64 (dg a 3), .int .u64 0, .int .u64 0, .int .u64 0, .int .u64 0, .int .u64 0, .int .u64 0, .int .u64 0, .int .u64 0, .int .u64 0, .int .u64 0, .int .u64 0, .int .u64 0, .slice none 0 0]) = Jg2
  go_upto_region 5 with fail
  refine RS.wp_region_flat (Hm.Hd w (⟨g2, 18, oc 1 a 0 0 0 (.slice none 0 0)⟩ :: (⟨g1, 18, oc 2 a 0 0 x (.slice none 0 0)⟩ :: [Hm.W4 (w.heap.size + 1 + 1) y, Hm.W4 (w.heap.size + 1) x, Hm.W4 w.heap.size a]))) 2 (by kernel_rfl) (Mw4.out) ?_
  simp only [List.take_succ_cons, List.take_zero, List.drop_succ_cons, List.drop_zero]
  refine RS.go1 (v := ?_) (a' := ?_) rfl ?_ ?_ ?_
  rotate_left 2
  · intro K wx hS hK
    refine RW.ld rfl rfl (hS.ok (Hm.W4 (w.heap.size + 1 + 1) (y)) (by simp)).c ?_
    exact hK _ hS
  · simp only [Act.put, List.setIfInBounds_toArray, List.set_cons_succ, List.set_cons_zero]
    rfl
  refine RS.go1 (v := ?_) (a' := ?_) rfl ?_ ?_ ?_
  rotate_left 2
  · intro K wx hS hK
    unfold Wd
    go_simp
    exact hK _ hS
  · simp only [Act.put, List.setIfInBounds_toArray, List.set_cons_succ, List.set_cons_zero]
    rfl
  refine RS.go_end ?_
  intro wq h9
  have Nq : Hid _ := h9
  clear h9 Mw4
  refine RF.go (by kernel_rfl) ?_
  refine alO rfl ?_
  have Nz : Hid _ := newZ Nq.out
  have ne : Hid (∀ b, b ∈ (⟨g2, 18, oc 1 a 0 0 0 (.slice none 0 0)⟩ :: (⟨g1, 18, oc 2 a 0 0 x (.slice none 0 0)⟩ :: [Hm.W4 (w.heap.size + 1 + 1) y, Hm.W4 (w.heap.size + 1) x, Hm.W4 w.heap.size a])) → wq.heap.size ≠ b.g) := fun b hb => Nat.ne_of_gt (Nq.out.ok b hb).hi
  clear Nq
  generalize wq.alloc (.cells zO 38) = wz at Nz ⊢
  generalize wq.heap.size = g3 at Nz ne ⊢
  simp only [Act.put, List.setIfInBounds_toArray, List.set_cons_succ, List.set_cons_zero]
  refine stO ⟨1, y, 0, 0, 0, []⟩ none 0 0 rfl rfl rfl (eL y) Nz.out ne.out (fun w5 h9 => ?_)
  have Mw5 : Hid _ := h9
  clear h9 Nz ne
  refine wpList_nil ?_
  dsimp only [Act.put]
  generalize (Value.agg #[.int .i64 1, .int .u64 (dg y 0), .int .u64 (dg y 1), .int .u64 (dg y 2), .int .u64 (dg y 3), .int .u64 0, .int .u64 0, .int .u64 0, .int .u64 0, .int .u64 0, .int .u64 0, .int .u64 0, .int .u64 0, .int .u64 0, .int .u64 0, .int .u64 0, .int .u64 0, .slice none 0 0]) = Jg3
  go_upto_region 6 with fail
  generalize (Value.agg #[.int .u64 (dg a 0), .int .u64 (dg a 1), .int .u64 (dg a 2), .int .u64 (dg a 3)]) = Ja
  generalize (Value.agg #[.int .u64 (dg x 0), .int .u64 (dg x 1), .int .u64 (dg x 2), .int .u64 (dg x 3)]) = Jx
  generalize (Value.agg #[.int .u64 (dg y 0), .int .u64 (dg y 1), .int .u64 (dg y 2), .int .u64 (dg y 3)]) = Jy
  generalize Wd a = Ja2
  generalize Wd x = Jx2
  generalize Wd y = Jy2
  have G5 : Hid (∀ b, b ∈ (⟨g3, 18, oc 1 y 0 0 0 (.slice none 0 0)⟩ :: (⟨g2, 18, oc 1 a 0 0 0 (.slice none 0 0)⟩ :: (⟨g1, 18, oc 2 a 0 0 x (.slice none 0 0)⟩ :: [Hm.W4 (w.heap.size + 1 + 1) y, Hm.W4 (w.heap.size + 1) x, Hm.W4 w.heap.size a]))) → b.g < w5.heap.size ∧ ∀ o, o < b.n → w5.cell? ⟨b.g, o, none⟩ = some (b.F o)) := fun b hb => ⟨(Mw5.out.ok b hb).hi, (Mw5.out.ok b hb).c⟩
  have g3mem : (⟨g3, 18, oc 1 y 0 0 0 (.slice none 0 0)⟩ : Hm.Bk) ∈ (⟨g3, 18, oc 1 y 0 0 0 (.slice none 0 0)⟩ :: (⟨g2, 18, oc 1 a 0 0 0 (.slice none 0 0)⟩ :: (⟨g1, 18, oc 2 a 0 0 x (.slice none 0 0)⟩ :: [Hm.W4 (w.heap.size + 1 + 1) y, Hm.W4 (w.heap.size + 1) x, Hm.W4 w.heap.size a]))) := by simp
  have g2mem : (⟨g2, 18, oc 1 a 0 0 0 (.slice none 0 0)⟩ : Hm.Bk) ∈ (⟨g3, 18, oc 1 y 0 0 0 (.slice none 0 0)⟩ :: (⟨g2, 18, oc 1 a 0 0 0 (.slice none 0 0)⟩ :: (⟨g1, 18, oc 2 a 0 0 x (.slice none 0 0)⟩ :: [Hm.W4 (w.heap.size + 1 + 1) y, Hm.W4 (w.heap.size + 1) x, Hm.W4 w.heap.size a]))) := by simp
  have g1mem : (⟨g1, 18, oc 2 a 0 0 x (.slice none 0 0)⟩ : Hm.Bk) ∈ (⟨g3, 18, oc 1 y 0 0 0 (.slice none 0 0)⟩ :: (⟨g2, 18, oc 1 a 0 0 0 (.slice none 0 0)⟩ :: (⟨g1, 18, oc 2 a 0 0 x (.slice none 0 0)⟩ :: [Hm.W4 (w.heap.size + 1 + 1) y, Hm.W4 (w.heap.size + 1) x, Hm.W4 w.heap.size a]))) := by simp
  have KC5 : Hid (∀ W : World, Below w5.heap.size w5 W → Calls Try.prog 15 #[.slice ao n cap] W fun e w' => ∃ z, e = .returned z ∧ Oo W.heap.size xs z w' ∧ Below W.heap.size W w') := fun W hb => KC.out W (Mw5.out.bel.trans (hb.mono Mw5.out.bel.size))
  have LR : Hid _ := litR a x y
  have M5b : Hid (Below w.heap.size w w5) := Mw5.out.bel
  refine RH.wp_region_genI (I6 w5 xs [(oL y, .slice none 0 0), (oS a x, .slice none 0 0), (oL a, .slice none 0 0), (oL y, .slice none 0 0)] (fun ga u wx => ∃ B, Rp B ga (Lr l a x y) u wx) k4) [0, 1, 0, 0, 0, 0, 1, 1, 1, 1, 1, 1, 1, 2] (by kernel_rfl) (by kernel_rfl) (I6.i6s) ?_
  dsimp only [List.toList_toArray]
  refine RH.goD (v := ?_) (f' := ?_) rfl ?_ ?_ ?_
  rotate_left 2
  · intro U K d wx hI hmay hK
    go_simp
    exact hK _ hI.i6k0
  · intro U
    simp only [Act.put, List.setIfInBounds_toArray, List.set_cons_succ, List.set_cons_zero]
    rfl
  refine RH.goN (f' := ?_) rfl ?_ ?_ ?_
  rotate_left 1
  · intro U K d wx hI hmay hK
    have h1 := hmay.1
    go_simp
    refine (KC5.out _ hI.b).mono (fun e w2 he => ?_)
    obtain ⟨z, rfl, q1, q2⟩ := he
    refine ⟨_, rfl, ?_⟩
    exact hK _ _ (hI.i6c h1 q1 q2)
  · intro U
    simp only [Act.put, List.setIfInBounds_toArray, List.set_cons_succ, List.set_cons_zero]
    rfl
  refine RH.goD (v := ?_) (f' := ?_) rfl ?_ ?_ ?_
  rotate_left 2
  · intro U K d wx hI hmay hK
    refine ldOu (k := 1) (a := y) (f := 0) (l := 0) (x := 0) (v := .slice none 0 0) rfl rfl (fun o ho => (hI.b.cell (p := ⟨g3, o, none⟩) (G5.out _ (g3mem)).1).trans ((G5.out _ (g3mem)).2 o ho)) ?_
    exact hK _ hI.i6k2
  · intro U
    simp only [Act.put, List.setIfInBounds_toArray, List.set_cons_succ, List.set_cons_zero]
    rfl
  refine RH.goD (v := ?_) (f' := ?_) rfl ?_ ?_ ?_
  rotate_left 2
  · intro U K d wx hI hmay hK
    refine ldOu (k := 2) (a := a) (f := 0) (l := 0) (x := x) (v := .slice none 0 0) rfl rfl (fun o ho => (hI.b.cell (p := ⟨g1, o, none⟩) (G5.out _ (g1mem)).1).trans ((G5.out _ (g1mem)).2 o ho)) ?_
    exact hK _ hI.i6k3
  · intro U
    simp only [Act.put, List.setIfInBounds_toArray, List.set_cons_succ, List.set_cons_zero]
    rfl
  refine RH.goD (v := ?_) (f' := ?_) rfl ?_ ?_ ?_
  rotate_left 2
  · intro U K d wx hI hmay hK
    refine ldOu (k := 1) (a := a) (f := 0) (l := 0) (x := 0) (v := .slice none 0 0) rfl rfl (fun o ho => (hI.b.cell (p := ⟨g2, o, none⟩) (G5.out _ (g2mem)).1).trans ((G5.out _ (g2mem)).2 o ho)) ?_
    exact hK _ hI.i6k4
  · intro U
    simp only [Act.put, List.setIfInBounds_toArray, List.set_cons_succ, List.set_cons_zero]
    rfl
  refine RH.goD (v := ?_) (f' := ?_) rfl ?_ ?_ ?_
  rotate_left 2
  · intro U K d wx hI hmay hK
    refine ldOu (k := 1) (a := y) (f := 0) (l := 0) (x := 0) (v := .slice none 0 0) rfl rfl (fun o ho => (hI.b.cell (p := ⟨g3, o, none⟩) (G5.out _ (g3mem)).1).trans ((G5.out _ (g3mem)).2 o ho)) ?_
    exact hK _ hI.i6k5
  · intro U
    simp only [Act.put, List.setIfInBounds_toArray, List.set_cons_succ, List.set_cons_zero]
    rfl
  refine RH.goN (f' := ?_) rfl ?_ ?_ ?_
  rotate_left 1
  · intro U K d wx hI hmay hK
    have h1 := hmay.1
    unfold od
    rw [dgz3.1, dgz3.2.1, dgz3.2.2.1, dgz3.2.2.2]
    go_simp
    exact hK _ _ (hI.i6l h1 (lit_VO _ _ LR.out.symm _ _ wx 4 rfl) ((Below.refl _ _).alloc (Nat.le_refl _) _))
  · intro U
    simp only [Act.put, List.setIfInBounds_toArray, List.set_cons_succ, List.set_cons_zero]
    rfl
  refine RH.goN (f' := ?_) rfl ?_ ?_ ?_
  rotate_left 1
  · intro U K d wx hI hmay hK
    have h7 := hmay.1
    have hd := hmay.2 _ rfl
    simp [Region.binds] at hd
    obtain ⟨B6, hB1, hB2, O6⟩ := hI.c (by simp [hd]) h7
    have V6 := hI.e (by simp [hd]) h7
    obtain ⟨v7, w7, hap, o7, g7⟩ := app_op 22 O6 V6 (fun z hz => by
      simp only [List.mem_cons, List.not_mem_nil, or_false] at hz
      rcases hz with rfl | rfl | rfl | rfl <;> exact ⟨_, _, _, rfl⟩) hB2 (by have := hn.out; have := HX.out; show xs.length + 4 ≤ _; omega)
    have r7 : Below w5.heap.size w5 w7 := hI.b.trans ((Below.refl _ _).grown g7 hI.b.size (fun k hk => Nat.le_trans hB1 (Sp.own_lo O6 k hk).1))
    refine ap_upv rfl rfl rfl hap ?_
    exact hK _ _ (hI.i6a h7 (by simp [hd]) (by simp [hd]) o7 r7)
  · intro U
    simp only [Act.put, List.setIfInBounds_toArray, List.set_cons_succ, List.set_cons_zero]
    rfl
  refine RH.goN (f' := ?_) rfl ?_ ?_ ?_
  rotate_left 1
  · intro U K d wx hI hmay hK
    have h8 := hmay.1
    have hd := hmay.2 _ rfl
    simp [Region.binds] at hd
    obtain ⟨B7, O7⟩ := hI.a (by simp [hd]) h8
    go_simp
    refine (KP.out wx B7 _ (M5b.out.trans (hI.b.mono M5b.out.size)) O7).mono (fun e w2 he => ?_)
    obtain ⟨ga, u, rfl, q1, q2⟩ := he
    refine ⟨_, rfl, ?_⟩
    exact hK _ _ (hI.i6p h8 (by simp [hd]) rfl ⟨_, q1⟩ q2)
  · intro U
    simp only [Act.put, List.setIfInBounds_toArray, List.set_cons_succ, List.set_cons_zero]
    rfl
  refine RH.goN (f' := ?_) rfl ?_ ?_ ?_
  rotate_left 1
  · intro U K d wx hI hmay hK
    have hd := hmay.2 _ rfl
    simp [Region.binds] at hd
    have hK2 := hK _ _ (hI.i6m (by simp [hd]))
    go_simp
    exact hK2
  · intro U
    simp only [Act.put, List.setIfInBounds_toArray, List.set_cons_succ, List.set_cons_zero]
    rfl
  refine RH.goN (f' := ?_) rfl ?_ ?_ ?_
  rotate_left 1
  · intro U K d wx hI hmay hK
    have hd := hmay.2 _ rfl
    simp [Region.binds] at hd
    obtain ⟨ga, u, e1, e2, e3, e4, e5⟩ := hI.p (hI.q9 (by simp [hd]))
    have e9 := e3 (by simp [hd])
    have hK2 := hK _ _ (hI.i6x (by simp [hd]) e9)
    clear e1 e2 e3 e4 e5
    go_simp
    exact hK2
  · intro U
    simp only [Act.put, List.setIfInBounds_toArray, List.set_cons_succ, List.set_cons_zero]
    rfl
  refine RH.goN (f' := ?_) rfl ?_ ?_ ?_
  rotate_left 1
  · intro U K d wx hI hmay hK
    have hd := hmay.2 _ rfl
    simp [Region.binds] at hd
    obtain ⟨ga, u, e1, e2, e3, e4, e5⟩ := hI.p (hI.q9 (by simp [hd]))
    have e9 := e3 (by simp [hd])
    have hK2 := hK _ _ (hI.i6y (by simp [hd]) e9)
    clear e1 e2 e3 e4 e5
    go_simp
    exact hK2
  · intro U
    simp only [Act.put, List.setIfInBounds_toArray, List.set_cons_succ, List.set_cons_zero]
    rfl
  refine RH.goN (f' := ?_) rfl ?_ ?_ ?_
  rotate_left 1
  · intro U K d wx hI hmay hK
    have hd := hmay.2 _ rfl
    simp [Region.binds] at hd
    have hK2 := hK _ _ (hI.i6z (by simp [hd]))
    go_simp
    exact hK2
  · intro U
    simp only [Act.put, List.setIfInBounds_toArray, List.set_cons_succ, List.set_cons_zero]
    rfl
  refine RH.goT ?_
  refine RH.go_end ?_
  intro d6 U w8 h6 hall
  simp +decide only [RH.tl, if_true, if_false]
  obtain ⟨ga, u, e8, ⟨B8, r8⟩, e9, e10, e11, e12⟩ := h6.p (hall 8 (by decide))
  have e10 := e10 (hall 10 (by decide))
  have e11 := e11 (hall 11 (by decide))
  have e12 := e12 (hall 12 (by decide))
  have R8 : Below w5.heap.size w5 w8 := h6.b
  rw [e10, e11, e12]
  clear e8 e9 e10 e11 e12 hall h6 KC5 LR g1mem g2mem g3mem G5 KC KP M5b
  generalize U 1 = U1
  generalize U 6 = U6
  generalize U 7 = U7
  generalize U 8 = U8
  generalize U 9 = U9
  have S8 : Hid (Sr w [Hm.W4 (w.heap.size + 1 + 1) y, Hm.W4 (w.heap.size + 1) x, Hm.W4 w.heap.size a] ga n k1 k2 k3 (e0, V, c0) (6, V1, c1) (e2, V2, c2) (e3, V, c3) w8) := by
    have hlen : (Lr l a x y).length = k4 := by unfold Lr; rw [List.length_append, ← hn.out.1, hn.out.2.2.2.2.1]; rfl
    obtain ⟨e0, e1, e2, e3⟩ := hA.out
    have hh := hn.out
    refine ⟨Hm.below (Hm.sub Mw5.out (fun b hb => List.mem_cons_of_mem _ (List.mem_cons_of_mem _ (List.mem_cons_of_mem _ hb)))) R8, r8.hi, fun o ho => ?_, fun o ho => ?_, fun o ho => ?_, fun o ho => ?_⟩
    · rw [r8.c n (by omega) o ho, e0]
    · rw [r8.c k1 (by omega) o ho, e1]
    · rw [r8.c k2 (by omega) o ho, e2]
    · rw [r8.c k3 (by omega) o ho, e3]
  clear r8 R8 Mw5 hA
  obtain ⟨wn4, wn1, i1, j1, -⟩ := fxR n k1 k2 k3 k4 _ hn.out
  have x1 : w8.cell? ⟨ga, k1 * 6, none⟩ = some (.int .i64 6) := S8.out.c1 0 (by decide)
  obtain ⟨-, -, -, -, wi1, wi2, wi3, wn2, wn3, i0, j0, i2, j2, i3, j3⟩ := fxR n k1 k2 k3 k4 _ hn.out
  go_wp2_with fail
  refine RS.wp_region_one (Sr w [Hm.W4 (w.heap.size + 1 + 1) y, Hm.W4 (w.heap.size + 1) x, Hm.W4 w.heap.size a] ga n k1 k2 k3 (e0, V, c0) (6, V1, c1) (e2, V2, c2) (e3, V, c3)) (by kernel_rfl) (by kernel_rfl) (Sr_below S8.out (Below.refl _ _).drew) ?_
  dsimp only [List.toList_toArray]
  refine RS.go1 (v := ?_) (a' := ?_) rfl ?_ ?_ ?_
  rotate_left 2
  · intro K wx hS hK
    go_simp
    exact hK _ hS
  · simp only [Act.put, List.setIfInBounds_toArray, List.set_cons_succ, List.set_cons_zero]
    rfl
  refine RS.go1 (v := ?_) (a' := ?_) rfl ?_ ?_ ?_
  rotate_left 2
  · intro K wx hS hK
    go_simp
    exact hK _ hS
  · simp only [Act.put, List.setIfInBounds_toArray, List.set_cons_succ, List.set_cons_zero]
    rfl
  refine RS.go1 (v := ?_) (a' := ?_) rfl ?_ ?_ ?_
  rotate_left 2
  · intro K wx hS hK
    go_simp
    exact hK _ hS
  · simp only [Act.put, List.setIfInBounds_toArray, List.set_cons_succ, List.set_cons_zero]
    rfl
  refine RS.go1 (v := ?_) (a' := ?_) rfl ?_ ?_ ?_
  rotate_left 2
  · intro K wx hS hK
    go_simp
    exact hK _ hS
  · simp only [Act.put, List.setIfInBounds_toArray, List.set_cons_succ, List.set_cons_zero]
    rfl
  refine RS.go1 (v := ?_) (a' := ?_) rfl ?_ ?_ ?_
  rotate_left 2
  · intro K wx hS hK
    go_simp
    exact hK _ hS
  · simp only [Act.put, List.setIfInBounds_toArray, List.set_cons_succ, List.set_cons_zero]
    rfl
  refine RS.go1 (v := ?_) (a' := ?_) rfl ?_ ?_ ?_
  rotate_left 2
  · intro K wx hS hK
    have z : wx.cell? ⟨ga, k1 * 6, none⟩ = some (.int .i64 6) := hS.c1 0 (by decide)
    go_simp
    exact hK _ hS
  · simp only [Act.put, List.setIfInBounds_toArray, List.set_cons_succ, List.set_cons_zero]
    rfl
  refine RS.go1 (v := ?_) (a' := ?_) rfl ?_ ?_ ?_
  rotate_left 2
  · intro K wx hS hK
    go_simp
    exact hK _ hS
  · simp only [Act.put, List.setIfInBounds_toArray, List.set_cons_succ, List.set_cons_zero]
    rfl
  refine RS.go1 (v := ?_) (a' := ?_) rfl ?_ ?_ ?_
  rotate_left 2
  · intro K wx hS hK
    go_simp
    exact hK _ hS
  · simp only [Act.put, List.setIfInBounds_toArray, List.set_cons_succ, List.set_cons_zero]
    rfl
  refine RS.go1g (v := ?_) (a' := ?_) (by kernel_rfl) ?_ ?_ ?_
  rotate_left 2
  · intro K wx hS hK
    go_simp
    exact hK _ hS
  · simp only [Act.put, List.setIfInBounds_toArray, List.set_cons_succ, List.set_cons_zero]
    rfl
  refine RS.go1g (v := ?_) (a' := ?_) (by kernel_rfl) ?_ ?_ ?_
  rotate_left 2
  · intro K wx hS hK
    go_simp
    exact hK _ hS
  · simp only [Act.put, List.setIfInBounds_toArray, List.set_cons_succ, List.set_cons_zero]
    rfl
  refine RS.go1g (v := ?_) (a' := ?_) (by kernel_rfl) ?_ ?_ ?_
  rotate_left 2
  · intro K wx hS hK
    go_simp
    exact hK _ hS
  · simp only [Act.put, List.setIfInBounds_toArray, List.set_cons_succ, List.set_cons_zero]
    rfl
  refine RS.go1g (v := ?_) (a' := ?_) (by kernel_rfl) ?_ ?_ ?_
  rotate_left 2
  · intro K wx hS hK
    go_simp
    exact hK _ hS
  · simp only [Act.put, List.setIfInBounds_toArray, List.set_cons_succ, List.set_cons_zero]
    rfl
  refine RS.go1g (v := ?_) (a' := ?_) (by kernel_rfl) ?_ ?_ ?_
  rotate_left 2
  · intro K wx hS hK
    go_simp
    exact hK _ hS
  · simp only [Act.put, List.setIfInBounds_toArray, List.set_cons_succ, List.set_cons_zero]
    rfl
  refine RS.go1g (v := ?_) (a' := ?_) (by kernel_rfl) ?_ ?_ ?_
  rotate_left 2
  · intro K wx hS hK
    refine ldAw (x := (e3, V, c3)) (b := k3 * 6) rfl rfl hS.c3 ?_
    exact hK _ hS
  · simp only [Act.put, List.setIfInBounds_toArray, List.set_cons_succ, List.set_cons_zero]
    rfl
  refine RS.go1g (v := ?_) (a' := ?_) (by kernel_rfl) ?_ ?_ ?_
  rotate_left 2
  · intro K wx hS hK
    go_simp
    exact hK _ hS
  · simp only [Act.put, List.setIfInBounds_toArray, List.set_cons_succ, List.set_cons_zero]
    rfl
  refine RS.go1g (v := ?_) (a' := ?_) (by kernel_rfl) ?_ ?_ ?_
  rotate_left 2
  · intro K wx hS hK
    go_simp
    exact hK _ hS
  · simp only [Act.put, List.setIfInBounds_toArray, List.set_cons_succ, List.set_cons_zero]
    rfl
  refine RS.go1g (v := ?_) (a' := ?_) (by kernel_rfl) ?_ ?_ ?_
  rotate_left 2
  · intro K wx hS hK
    go_simp
    exact hK _ hS
  · simp only [Act.put, List.setIfInBounds_toArray, List.set_cons_succ, List.set_cons_zero]
    rfl
  refine RS.go1g (v := ?_) (a' := ?_) (by kernel_rfl) ?_ ?_ ?_
  rotate_left 2
  · intro K wx hS hK
    go_simp
    exact hK _ hS
  · simp only [Act.put, List.setIfInBounds_toArray, List.set_cons_succ, List.set_cons_zero]
    rfl
  refine RS.go1g (v := ?_) (a' := ?_) (by kernel_rfl) ?_ ?_ ?_
  rotate_left 2
  · intro K wx hS hK
    refine ldAw (x := (e0, V, c0)) (b := n * 6) rfl rfl hS.c0 ?_
    exact hK _ hS
  · simp only [Act.put, List.setIfInBounds_toArray, List.set_cons_succ, List.set_cons_zero]
    rfl
  refine RS.go1g (v := ?_) (a' := ?_) (by kernel_rfl) ?_ ?_ ?_
  rotate_left 2
  · intro K wx hS hK
    refine RW.eq (x := V) (y := V) (b := true) rfl rfl rfl (by simp) ?_
    exact hK _ hS
  · simp only [Act.put, List.setIfInBounds_toArray, List.set_cons_succ, List.set_cons_zero]
    rfl
  refine RS.go1 (v := ?_) (a' := ?_) rfl ?_ ?_ ?_
  rotate_left 2
  · intro K wx hS hK
    go_simp
    exact hK _ hS
  · simp only [Act.put, List.setIfInBounds_toArray, List.set_cons_succ, List.set_cons_zero]
    rfl
  refine RS.go1 (v := ?_) (a' := ?_) rfl ?_ ?_ ?_
  rotate_left 2
  · intro K wx hS hK
    go_simp
    exact hK _ hS
  · simp only [Act.put, List.setIfInBounds_toArray, List.set_cons_succ, List.set_cons_zero]
    rfl
  refine RS.go_end ?_
  intro w9 h9
  have H9 : Hid (Below w.heap.size w w9) := h9.hd.bel
  clear h9
  go_wp2
  go_ret
  exact ⟨rfl, H9.out⟩
end Mm
end Go.Proofs.Ytcpgcdffienobaa
/- lampbearerkeep.MemoryRead: read_1a. -/
namespace Go.Proofs.Ytcpgcdffienobaa
namespace Mm
open Go.RowKit Pk
set_option maxHeartbeats 4000000 in
set_option maxRecDepth 100000 in
theorem read_1a (l : List Mo) (xs : List OV) (n k1 k2 k3 k4 a x y : Nat) (hxs : Hid (xs.map (·.1) = l)) (hl : Hid (∀ x, x ∈ l → Wf x)) (hn : Hid (n = l.length ∧ k1 = n + 1 ∧ k2 = n + 2 ∧ k3 = n + 3 ∧ k4 = n + 4 ∧ k4 ≤ 1048576)) (hw : Hid (a < 2 ^ 256 ∧ x < 2 ^ 256 ∧ y < 2 ^ 256)) (e0 e3 c0 c1 c3 : Int) (V V1 : Nat) (q1 q2 : Int) (D : Nat) (KC1 : Hid (∀ W : World, Calls Try.prog 16 #[Wd a, Wd y] W fun e w' => e = .returned (.int .i64 q1) ∧ Below W.heap.size W w')) (KS1 : Hid (∀ W : World, Calls Try.prog 17 #[Wd a, Wd y] W fun e w' => e = .returned (Wd D) ∧ Below W.heap.size W w')) (KI : Hid (∀ W : World, Calls Try.prog 18 #[.int .u64 32] W fun e w' => e = .returned (Wd 32) ∧ Below W.heap.size W w')) (KC2 : Hid (∀ W : World, Calls Try.prog 16 #[Wd D, Wd 32] W fun e w' => e = .returned (.int .i64 q2) ∧ Below W.heap.size W w')) (t1 : (0 : Int) < q1) (t2 : (0 : Int) ≤ q2) (hA : Hid (an (Lr l a x y) n = (e0, V, c0) ∧ an (Lr l a x y) k1 = (0, V1, c1) ∧ an (Lr l a x y) k2 = (0, x, 0) ∧ an (Lr l a x y) k3 = (e3, V, c3)))
    (ao : Option Addr) (cap : Nat) (w : World) (hv : Hid (VO xs (.slice ao n cap) w ∧ ∀ x, x ∈ xs → Tr.Bs (· < w.heap.size) x.1.d x.2 w)) :
    Calls Try.prog 4 #[.slice ao n cap, Wd a, Wd x, Wd y] w fun e w' => e = .returned (.bool true) ∧ Below w.heap.size w w' := by
  have HX : Hid (xs.length = n) := by
    show _ = _
    rw [hn.out.1, ← hxs.out, List.length_map]
  have KC : Hid (∀ W : World, Below w.heap.size w W → Calls Try.prog 15 #[.slice ao n cap] W fun e w' => ∃ z, e = .returned z ∧ Oo W.heap.size xs z w' ∧ Below W.heap.size W w') := fun W hb => clone_op xs _ W (VO_below hv.out.1 hb) (fun x hx => Bs_isSl (hv.out.2 x hx)) (by have := hn.out; have := HX.out; omega)
  have KP : Hid (∀ (W : World) (Bs : Nat) (v : Value), Below w.heap.size w W → Oo Bs (xs ++ [(oL y, .slice none 0 0), (oS a x, .slice none 0 0), (oL a, .slice none 0 0), (oL y, .slice none 0 0)]) v W → Calls Try.prog 9 #[v] W fun e w' => ∃ ga u, e = .returned (.tuple #[.slice (some ⟨ga, 0, none⟩) k4 k4, u]) ∧ Rp W.heap.size ga (Lr l a x y) u w' ∧ Below W.heap.size W w') := fun W Bs v hb1 ho => by
    have hM := Oo_in ho (fun z hz => by
      rcases List.mem_append.1 hz with h | h
      · exact Bs_in (hv.out.2 z h) hb1
      · simp only [List.mem_cons, List.not_mem_nil, or_false] at h
        rcases h with rfl | rfl | rfl | rfl <;> exact Tr.Bs_nil _ _)
    rw [List.map_append, hxs.out] at hM
    have hM : Mr (· < W.heap.size) (Lr l a x y) v W := hM
    have hlen : (Lr l a x y).length = k4 := by unfold Lr; rw [List.length_append, ← hn.out.1, hn.out.2.2.2.2.1]; rfl
    have wf1 : ∀ q, q < 2 ^ 256 → Wf (oL q) := fun q hq => ⟨hq, by show 0 < 2 ^ 256; decide, by show 0 < 2 ^ 256; decide, by show 0 ≤ _; omega⟩
    have wf2 : Wf (oS a x) := ⟨hw.out.1, by show 0 < 2 ^ 256; decide, by show 0 < 2 ^ 256; decide, by show 0 ≤ _; omega⟩
    have k := play_any (Lr l a x y) (wf_in _ (fun q hq => by
      rcases List.mem_append.1 hq with h | h
      · exact hl.out q h
      · simp only [List.mem_cons, List.not_mem_nil, or_false] at h
        rcases h with rfl | rfl | rfl | rfl
        · exact wf1 y hw.out.2.2
        · exact wf2
        · exact wf1 a hw.out.1
        · exact wf1 y hw.out.2.2)) (by rw [hlen]; exact hn.out.2.2.2.2.2) v W hM
    rw [hlen] at k
    exact k
  conv => arg 3; unfold Wd
  go_enter Try.func4, Try.ntmps4
  go_upto_region 1 with fail
  have m0 : Hm.Hd w [Hm.W4 (w.heap.size + 1 + 1) y, Hm.W4 (w.heap.size + 1) x, Hm.W4 w.heap.size a] (((w.alloc (.cells #[.int .u64 (dg a 0), .int .u64 (dg a 1), .int .u64 (dg a 2), .int .u64 (dg a 3)] 32)).alloc (.cells #[.int .u64 (dg x 0), .int .u64 (dg x 1), .int .u64 (dg x 2), .int .u64 (dg x 3)] 32)).alloc (.cells #[.int .u64 (dg y 0), .int .u64 (dg y 1), .int .u64 (dg y 2), .int .u64 (dg y 3)] 32)) := by
    have q1 := Hm.new4 (n := a) (T := 32) (Hm.start w) rfl
    have q2 := Hm.new4 (n := x) (T := 32) (g := w.heap.size + 1) q1 (by simp)
    exact Hm.new4 (n := y) (T := 32) (g := w.heap.size + 1 + 1) q2 (by simp)
  generalize ((w.alloc (.cells #[.int .u64 (dg a 0), .int .u64 (dg a 1), .int .u64 (dg a 2), .int .u64 (dg a 3)] 32)).alloc (.cells #[.int .u64 (dg x 0), .int .u64 (dg x 1), .int .u64 (dg x 2), .int .u64 (dg x 3)] 32)).alloc (.cells #[.int .u64 (dg y 0), .int .u64 (dg y 1), .int .u64 (dg y 2), .int .u64 (dg y 3)] 32) = w0 at m0 ⊢
  have M0 : Hid _ := m0
  clear m0
  go_wp2_with fail
  refine (alive_any w0).mono ?_
  rintro e w1 ⟨rfl, b1⟩
  have M1 : Hid (Hm.Hd w [Hm.W4 (w.heap.size + 1 + 1) y, Hm.W4 (w.heap.size + 1) x, Hm.W4 w.heap.size a] w1) := Hm.below M0.out b1
  clear b1 M0
  go_upto_region 3 with fail
  refine RS.wp_region_flat (Hm.Hd w [Hm.W4 (w.heap.size + 1 + 1) y, Hm.W4 (w.heap.size + 1) x, Hm.W4 w.heap.size a]) 3 (by kernel_rfl) (M1.out) ?_
  simp only [List.take_succ_cons, List.take_zero, List.drop_succ_cons, List.drop_zero]
  refine RS.go1 (v := ?_) (a' := ?_) rfl ?_ ?_ ?_
  rotate_left 2
  · intro K wx hS hK
    refine RW.ld rfl rfl (hS.ok (Hm.W4 (w.heap.size) (a)) (by simp)).c ?_
    exact hK _ hS
  · simp only [Act.put, List.setIfInBounds_toArray, List.set_cons_succ, List.set_cons_zero]
    rfl
  refine RS.go1 (v := ?_) (a' := ?_) rfl ?_ ?_ ?_
  rotate_left 2
  · intro K wx hS hK
    refine RW.ld rfl rfl (hS.ok (Hm.W4 (w.heap.size + 1) (x)) (by simp)).c ?_
    exact hK _ hS
  · simp only [Act.put, List.setIfInBounds_toArray, List.set_cons_succ, List.set_cons_zero]
    rfl
  refine RS.go1 (v := ?_) (a' := ?_) rfl ?_ ?_ ?_
  rotate_left 2
  · intro K wx hS hK
    unfold Wd
    go_simp
    exact hK _ hS
  · simp only [Act.put, List.setIfInBounds_toArray, List.set_cons_succ, List.set_cons_zero]
    rfl
  refine RS.go_end ?_
  intro wq h9
  have Nq : Hid _ := h9
  clear h9 M1
  refine RF.go (by kernel_rfl) ?_
  refine alO rfl ?_
  have Nz : Hid _ := newZ Nq.out
  have ne : Hid (∀ b, b ∈ [Hm.W4 (w.heap.size + 1 + 1) y, Hm.W4 (w.heap.size + 1) x, Hm.W4 w.heap.size a] → wq.heap.size ≠ b.g) := fun b hb => Nat.ne_of_gt (Nq.out.ok b hb).hi
  clear Nq
  generalize wq.alloc (.cells zO 38) = wz at Nz ⊢
  generalize wq.heap.size = g1 at Nz ne ⊢
  simp only [Act.put, List.setIfInBounds_toArray, List.set_cons_succ, List.set_cons_zero]
  refine stO ⟨2, a, 0, 0, x, []⟩ none 0 0 rfl rfl rfl (eS a x) Nz.out ne.out (fun w3 h9 => ?_)
  have Mw3 : Hid _ := h9
  clear h9 Nz ne
  refine wpList_nil ?_
  dsimp only [Act.put]
  generalize (Value.agg #[.int .i64 2, .int .u64 (dg a 0), .int .u64 (dg a 1), .int .u64 (dg a 2), .int .u64 (dg a 3), .int .u64 0, .int .u64 0, .int .u64 0, .int .u64 0, .int .u64 0, .int .u64 0, .int .u64 0, .int .u64 0, .int .u64 (dg x 0), .int .u64 (dg x 1), .int .u64 (dg x 2), .int .u64 (dg x 3), .slice none 0 0]) = Jg1
  go_upto_region 4 with fail
  refine RS.wp_region_flat (Hm.Hd w (⟨g1, 18, oc 2 a 0 0 x (.slice none 0 0)⟩ :: [Hm.W4 (w.heap.size + 1 + 1) y, Hm.W4 (w.heap.size + 1) x, Hm.W4 w.heap.size a])) 2 (by kernel_rfl) (Mw3.out) ?_
  simp only [List.take_succ_cons, List.take_zero, List.drop_succ_cons, List.drop_zero]
  refine RS.go1 (v := ?_) (a' := ?_) rfl ?_ ?_ ?_
  rotate_left 2
  · intro K wx hS hK
    refine RW.ld rfl rfl (hS.ok (Hm.W4 (w.heap.size) (a)) (by simp)).c ?_
    exact hK _ hS
  · simp only [Act.put, List.setIfInBounds_toArray, List.set_cons_succ, List.set_cons_zero]
    rfl
  refine RS.go1 (v := ?_) (a' := ?_) rfl ?_ ?_ ?_
  rotate_left 2
  · intro K wx hS hK
    unfold Wd
    go_simp
    exact hK _ hS
  · simp only [Act.put, List.setIfInBounds_toArray, List.set_cons_succ, List.set_cons_zero]
    rfl
  refine RS.go_end ?_
  intro wq h9
  have Nq : Hid _ := h9
  clear h9 Mw3
  refine RF.go (by kernel_rfl) ?_
  refine alO rfl ?_
  have Nz : Hid _ := newZ Nq.out
  have ne : Hid (∀ b, b ∈ (⟨g1, 18, oc 2 a 0 0 x (.slice none 0 0)⟩ :: [Hm.W4 (w.heap.size + 1 + 1) y, Hm.W4 (w.heap.size + 1) x, Hm.W4 w.heap.size a]) → wq.heap.size ≠ b.g) := fun b hb => Nat.ne_of_gt (Nq.out.ok b hb).hi
  clear Nq
  generalize wq.alloc (.cells zO 38) = wz at Nz ⊢
  generalize wq.heap.size = g2 at Nz ne ⊢
  simp only [Act.put, List.setIfInBounds_toArray, List.set_cons_succ, List.set_cons_zero]
  refine stO ⟨1, a, 0, 0, 0, []⟩ none 0 0 rfl rfl rfl (eL a) Nz.out ne.out (fun w4 h9 => ?_)
  have Mw4 : Hid _ := h9
  clear h9 Nz ne
  refine wpList_nil ?_
  dsimp only [Act.put]
  generalize (Value.agg #[.int .i64 1, .int .u64 (dg a 0), .int .u64 (dg a 1), .int .u64 (dg a 2), .int .u64 (dg a 3), .int .u64 0, .int .u64 0, .int .u64 0, .int .u64 0, .int .u64 0, .int .u64 0, .int .u64 0, .int .u64 0, .int .u64 0, .int .u64 0, .int .u64 0, .int .u64 0, .slice none 0 0]) = Jg2
  go_upto_region 5 with fail
  refine RS.wp_region_flat (Hm.Hd w (⟨g2, 18, oc 1 a 0 0 0 (.slice none 0 0)⟩ :: (⟨g1, 18, oc 2 a 0 0 x (.slice none 0 0)⟩ :: [Hm.W4 (w.heap.size + 1 + 1) y, Hm.W4 (w.heap.size + 1) x, Hm.W4 w.heap.size a]))) 2 (by kernel_rfl) (Mw4.out) ?_
  simp only [List.take_succ_cons, List.take_zero, List.drop_succ_cons, List.drop_zero]
  refine RS.go1 (v := ?_) (a' := ?_) rfl ?_ ?_ ?_
  rotate_left 2
  · intro K wx hS hK
    refine RW.ld rfl rfl (hS.ok (Hm.W4 (w.heap.size + 1 + 1) (y)) (by simp)).c ?_
    exact hK _ hS
  · simp only [Act.put, List.setIfInBounds_toArray, List.set_cons_succ, List.set_cons_zero]
    rfl
  refine RS.go1 (v := ?_) (a' := ?_) rfl ?_ ?_ ?_
  rotate_left 2
  · intro K wx hS hK
    unfold Wd
    go_simp
    exact hK _ hS
  · simp only [Act.put, List.setIfInBounds_toArray, List.set_cons_succ, List.set_cons_zero]
    rfl
  refine RS.go_end ?_
  intro wq h9
  have Nq : Hid _ := h9
  clear h9 Mw4
  refine RF.go (by kernel_rfl) ?_
  refine alO rfl ?_
  have Nz : Hid _ := newZ Nq.out
  have ne : Hid (∀ b, b ∈ (⟨g2, 18, oc 1 a 0 0 0 (.slice none 0 0)⟩ :: (⟨g1, 18, oc 2 a 0 0 x (.slice none 0 0)⟩ :: [Hm.W4 (w.heap.size + 1 + 1) y, Hm.W4 (w.heap.size + 1) x, Hm.W4 w.heap.size a])) → wq.heap.size ≠ b.g) := fun b hb => Nat.ne_of_gt (Nq.out.ok b hb).hi
  clear Nq
  generalize wq.alloc (.cells zO 38) = wz at Nz ⊢
  generalize wq.heap.size = g3 at Nz ne ⊢
  simp only [Act.put, List.setIfInBounds_toArray, List.set_cons_succ, List.set_cons_zero]
  refine stO ⟨1, y, 0, 0, 0, []⟩ none 0 0 rfl rfl rfl (eL y) Nz.out ne.out (fun w5 h9 => ?_)
  have Mw5 : Hid _ := h9
  clear h9 Nz ne
  refine wpList_nil ?_
  dsimp only [Act.put]
  generalize (Value.agg #[.int .i64 1, .int .u64 (dg y 0), .int .u64 (dg y 1), .int .u64 (dg y 2), .int .u64 (dg y 3), .int .u64 0, .int .u64 0, .int .u64 0, .int .u64 0, .int .u64 0, .int .u64 0, .int .u64 0, .int .u64 0, .int .u64 0, .int .u64 0, .int .u64 0, .int .u64 0, .slice none 0 0]) = Jg3
  go_upto_region 6 with fail
  generalize (Value.agg #[.int .u64 (dg a 0), .int .u64 (dg a 1), .int .u64 (dg a 2), .int .u64 (dg a 3)]) = Ja
  generalize (Value.agg #[.int .u64 (dg x 0), .int .u64 (dg x 1), .int .u64 (dg x 2), .int .u64 (dg x 3)]) = Jx
  generalize (Value.agg #[.int .u64 (dg y 0), .int .u64 (dg y 1), .int .u64 (dg y 2), .int .u64 (dg y 3)]) = Jy
  generalize Wd a = Ja2
  generalize Wd x = Jx2
  generalize Wd y = Jy2
  have G5 : Hid (∀ b, b ∈ (⟨g3, 18, oc 1 y 0 0 0 (.slice none 0 0)⟩ :: (⟨g2, 18, oc 1 a 0 0 0 (.slice none 0 0)⟩ :: (⟨g1, 18, oc 2 a 0 0 x (.slice none 0 0)⟩ :: [Hm.W4 (w.heap.size + 1 + 1) y, Hm.W4 (w.heap.size + 1) x, Hm.W4 w.heap.size a]))) → b.g < w5.heap.size ∧ ∀ o, o < b.n → w5.cell? ⟨b.g, o, none⟩ = some (b.F o)) := fun b hb => ⟨(Mw5.out.ok b hb).hi, (Mw5.out.ok b hb).c⟩
  have g3mem : (⟨g3, 18, oc 1 y 0 0 0 (.slice none 0 0)⟩ : Hm.Bk) ∈ (⟨g3, 18, oc 1 y 0 0 0 (.slice none 0 0)⟩ :: (⟨g2, 18, oc 1 a 0 0 0 (.slice none 0 0)⟩ :: (⟨g1, 18, oc 2 a 0 0 x (.slice none 0 0)⟩ :: [Hm.W4 (w.heap.size + 1 + 1) y, Hm.W4 (w.heap.size + 1) x, Hm.W4 w.heap.size a]))) := by simp
  have g2mem : (⟨g2, 18, oc 1 a 0 0 0 (.slice none 0 0)⟩ : Hm.Bk) ∈ (⟨g3, 18, oc 1 y 0 0 0 (.slice none 0 0)⟩ :: (⟨g2, 18, oc 1 a 0 0 0 (.slice none 0 0)⟩ :: (⟨g1, 18, oc 2 a 0 0 x (.slice none 0 0)⟩ :: [Hm.W4 (w.heap.size + 1 + 1) y, Hm.W4 (w.heap.size + 1) x, Hm.W4 w.heap.size a]))) := by simp
  have g1mem : (⟨g1, 18, oc 2 a 0 0 x (.slice none 0 0)⟩ : Hm.Bk) ∈ (⟨g3, 18, oc 1 y 0 0 0 (.slice none 0 0)⟩ :: (⟨g2, 18, oc 1 a 0 0 0 (.slice none 0 0)⟩ :: (⟨g1, 18, oc 2 a 0 0 x (.slice none 0 0)⟩ :: [Hm.W4 (w.heap.size + 1 + 1) y, Hm.W4 (w.heap.size + 1) x, Hm.W4 w.heap.size a]))) := by simp
  have KC5 : Hid (∀ W : World, Below w5.heap.size w5 W → Calls Try.prog 15 #[.slice ao n cap] W fun e w' => ∃ z, e = .returned z ∧ Oo W.heap.size xs z w' ∧ Below W.heap.size W w') := fun W hb => KC.out W (Mw5.out.bel.trans (hb.mono Mw5.out.bel.size))
  have LR : Hid _ := litR a x y
  have M5b : Hid (Below w.heap.size w w5) := Mw5.out.bel
  refine RH.wp_region_genI (I6 w5 xs [(oL y, .slice none 0 0), (oS a x, .slice none 0 0), (oL a, .slice none 0 0), (oL y, .slice none 0 0)] (fun ga u wx => ∃ B, Rp B ga (Lr l a x y) u wx) k4) [0, 1, 0, 0, 0, 0, 1, 1, 1, 1, 1, 1, 1, 2] (by kernel_rfl) (by kernel_rfl) (I6.i6s) ?_
  dsimp only [List.toList_toArray]
  refine RH.goD (v := ?_) (f' := ?_) rfl ?_ ?_ ?_
  rotate_left 2
  · intro U K d wx hI hmay hK
    go_simp
    exact hK _ hI.i6k0
  · intro U
    simp only [Act.put, List.setIfInBounds_toArray, List.set_cons_succ, List.set_cons_zero]
    rfl
  refine RH.goN (f' := ?_) rfl ?_ ?_ ?_
  rotate_left 1
  · intro U K d wx hI hmay hK
    have h1 := hmay.1
    go_simp
    refine (KC5.out _ hI.b).mono (fun e w2 he => ?_)
    obtain ⟨z, rfl, q1, q2⟩ := he
    refine ⟨_, rfl, ?_⟩
    exact hK _ _ (hI.i6c h1 q1 q2)
  · intro U
    simp only [Act.put, List.setIfInBounds_toArray, List.set_cons_succ, List.set_cons_zero]
    rfl
  refine RH.goD (v := ?_) (f' := ?_) rfl ?_ ?_ ?_
  rotate_left 2
  · intro U K d wx hI hmay hK
    refine ldOu (k := 1) (a := y) (f := 0) (l := 0) (x := 0) (v := .slice none 0 0) rfl rfl (fun o ho => (hI.b.cell (p := ⟨g3, o, none⟩) (G5.out _ (g3mem)).1).trans ((G5.out _ (g3mem)).2 o ho)) ?_
    exact hK _ hI.i6k2
  · intro U
    simp only [Act.put, List.setIfInBounds_toArray, List.set_cons_succ, List.set_cons_zero]
    rfl
  refine RH.goD (v := ?_) (f' := ?_) rfl ?_ ?_ ?_
  rotate_left 2
  · intro U K d wx hI hmay hK
    refine ldOu (k := 2) (a := a) (f := 0) (l := 0) (x := x) (v := .slice none 0 0) rfl rfl (fun o ho => (hI.b.cell (p := ⟨g1, o, none⟩) (G5.out _ (g1mem)).1).trans ((G5.out _ (g1mem)).2 o ho)) ?_
    exact hK _ hI.i6k3
  · intro U
    simp only [Act.put, List.setIfInBounds_toArray, List.set_cons_succ, List.set_cons_zero]
    rfl
  refine RH.goD (v := ?_) (f' := ?_) rfl ?_ ?_ ?_
  rotate_left 2
  · intro U K d wx hI hmay hK
    refine ldOu (k := 1) (a := a) (f := 0) (l := 0) (x := 0) (v := .slice none 0 0) rfl rfl (fun o ho => (hI.b.cell (p := ⟨g2, o, none⟩) (G5.out _ (g2mem)).1).trans ((G5.out _ (g2mem)).2 o ho)) ?_
    exact hK _ hI.i6k4
  · intro U
    simp only [Act.put, List.setIfInBounds_toArray, List.set_cons_succ, List.set_cons_zero]
    rfl
  refine RH.goD (v := ?_) (f' := ?_) rfl ?_ ?_ ?_
  rotate_left 2
  · intro U K d wx hI hmay hK
    refine ldOu (k := 1) (a := y) (f := 0) (l := 0) (x := 0) (v := .slice none 0 0) rfl rfl (fun o ho => (hI.b.cell (p := ⟨g3, o, none⟩) (G5.out _ (g3mem)).1).trans ((G5.out _ (g3mem)).2 o ho)) ?_
    exact hK _ hI.i6k5
  · intro U
    simp only [Act.put, List.setIfInBounds_toArray, List.set_cons_succ, List.set_cons_zero]
    rfl
  refine RH.goN (f' := ?_) rfl ?_ ?_ ?_
  rotate_left 1
  · intro U K d wx hI hmay hK
    have h1 := hmay.1
    unfold od
    rw [dgz3.1, dgz3.2.1, dgz3.2.2.1, dgz3.2.2.2]
    go_simp
    exact hK _ _ (hI.i6l h1 (lit_VO _ _ LR.out.symm _ _ wx 4 rfl) ((Below.refl _ _).alloc (Nat.le_refl _) _))
  · intro U
    simp only [Act.put, List.setIfInBounds_toArray, List.set_cons_succ, List.set_cons_zero]
    rfl
  refine RH.goN (f' := ?_) rfl ?_ ?_ ?_
  rotate_left 1
  · intro U K d wx hI hmay hK
    have h7 := hmay.1
    have hd := hmay.2 _ rfl
    simp [Region.binds] at hd
    obtain ⟨B6, hB1, hB2, O6⟩ := hI.c (by simp [hd]) h7
    have V6 := hI.e (by simp [hd]) h7
    obtain ⟨v7, w7, hap, o7, g7⟩ := app_op 22 O6 V6 (fun z hz => by
      simp only [List.mem_cons, List.not_mem_nil, or_false] at hz
      rcases hz with rfl | rfl | rfl | rfl <;> exact ⟨_, _, _, rfl⟩) hB2 (by have := hn.out; have := HX.out; show xs.length + 4 ≤ _; omega)
    have r7 : Below w5.heap.size w5 w7 := hI.b.trans ((Below.refl _ _).grown g7 hI.b.size (fun k hk => Nat.le_trans hB1 (Sp.own_lo O6 k hk).1))
    refine ap_upv rfl rfl rfl hap ?_
    exact hK _ _ (hI.i6a h7 (by simp [hd]) (by simp [hd]) o7 r7)
  · intro U
    simp only [Act.put, List.setIfInBounds_toArray, List.set_cons_succ, List.set_cons_zero]
    rfl
  refine RH.goN (f' := ?_) rfl ?_ ?_ ?_
  rotate_left 1
  · intro U K d wx hI hmay hK
    have h8 := hmay.1
    have hd := hmay.2 _ rfl
    simp [Region.binds] at hd
    obtain ⟨B7, O7⟩ := hI.a (by simp [hd]) h8
    go_simp
    refine (KP.out wx B7 _ (M5b.out.trans (hI.b.mono M5b.out.size)) O7).mono (fun e w2 he => ?_)
    obtain ⟨ga, u, rfl, q1, q2⟩ := he
    refine ⟨_, rfl, ?_⟩
    exact hK _ _ (hI.i6p h8 (by simp [hd]) rfl ⟨_, q1⟩ q2)
  · intro U
    simp only [Act.put, List.setIfInBounds_toArray, List.set_cons_succ, List.set_cons_zero]
    rfl
  refine RH.goN (f' := ?_) rfl ?_ ?_ ?_
  rotate_left 1
  · intro U K d wx hI hmay hK
    have hd := hmay.2 _ rfl
    simp [Region.binds] at hd
    have hK2 := hK _ _ (hI.i6m (by simp [hd]))
    go_simp
    exact hK2
  · intro U
    simp only [Act.put, List.setIfInBounds_toArray, List.set_cons_succ, List.set_cons_zero]
    rfl
  refine RH.goN (f' := ?_) rfl ?_ ?_ ?_
  rotate_left 1
  · intro U K d wx hI hmay hK
    have hd := hmay.2 _ rfl
    simp [Region.binds] at hd
    obtain ⟨ga, u, e1, e2, e3, e4, e5⟩ := hI.p (hI.q9 (by simp [hd]))
    have e9 := e3 (by simp [hd])
    have hK2 := hK _ _ (hI.i6x (by simp [hd]) e9)
    clear e1 e2 e3 e4 e5
    go_simp
    exact hK2
  · intro U
    simp only [Act.put, List.setIfInBounds_toArray, List.set_cons_succ, List.set_cons_zero]
    rfl
  refine RH.goN (f' := ?_) rfl ?_ ?_ ?_
  rotate_left 1
  · intro U K d wx hI hmay hK
    have hd := hmay.2 _ rfl
    simp [Region.binds] at hd
    obtain ⟨ga, u, e1, e2, e3, e4, e5⟩ := hI.p (hI.q9 (by simp [hd]))
    have e9 := e3 (by simp [hd])
    have hK2 := hK _ _ (hI.i6y (by simp [hd]) e9)
    clear e1 e2 e3 e4 e5
    go_simp
    exact hK2
  · intro U
    simp only [Act.put, List.setIfInBounds_toArray, List.set_cons_succ, List.set_cons_zero]
    rfl
  refine RH.goN (f' := ?_) rfl ?_ ?_ ?_
  rotate_left 1
  · intro U K d wx hI hmay hK
    have hd := hmay.2 _ rfl
    simp [Region.binds] at hd
    have hK2 := hK _ _ (hI.i6z (by simp [hd]))
    go_simp
    exact hK2
  · intro U
    simp only [Act.put, List.setIfInBounds_toArray, List.set_cons_succ, List.set_cons_zero]
    rfl
  refine RH.goT ?_
  refine RH.go_end ?_
  intro d6 U w8 h6 hall
  simp +decide only [RH.tl, if_true, if_false]
  obtain ⟨ga, u, e8, ⟨B8, r8⟩, e9, e10, e11, e12⟩ := h6.p (hall 8 (by decide))
  have e10 := e10 (hall 10 (by decide))
  have e11 := e11 (hall 11 (by decide))
  have e12 := e12 (hall 12 (by decide))
  have R8 : Below w5.heap.size w5 w8 := h6.b
  rw [e10, e11, e12]
  clear e8 e9 e10 e11 e12 hall h6 KC5 LR g1mem g2mem g3mem G5 KC KP M5b
  generalize U 1 = U1
  generalize U 6 = U6
  generalize U 7 = U7
  generalize U 8 = U8
  generalize U 9 = U9
  have S8 : Hid (Sr w [Hm.W4 (w.heap.size + 1 + 1) y, Hm.W4 (w.heap.size + 1) x, Hm.W4 w.heap.size a] ga n k1 k2 k3 (e0, V, c0) (0, V1, c1) (0, x, 0) (e3, V, c3) w8) := by
    have hlen : (Lr l a x y).length = k4 := by unfold Lr; rw [List.length_append, ← hn.out.1, hn.out.2.2.2.2.1]; rfl
    obtain ⟨e0, e1, e2, e3⟩ := hA.out
    have hh := hn.out
    refine ⟨Hm.below (Hm.sub Mw5.out (fun b hb => List.mem_cons_of_mem _ (List.mem_cons_of_mem _ (List.mem_cons_of_mem _ hb)))) R8, r8.hi, fun o ho => ?_, fun o ho => ?_, fun o ho => ?_, fun o ho => ?_⟩
    · rw [r8.c n (by omega) o ho, e0]
    · rw [r8.c k1 (by omega) o ho, e1]
    · rw [r8.c k2 (by omega) o ho, e2]
    · rw [r8.c k3 (by omega) o ho, e3]
  clear r8 R8 Mw5 hA
  obtain ⟨wn4, wn1, i1, j1, -⟩ := fxR n k1 k2 k3 k4 _ hn.out
  have x1 : w8.cell? ⟨ga, k1 * 6, none⟩ = some (.int .i64 0) := S8.out.c1 0 (by decide)
  obtain ⟨-, -, -, -, wi1, wi2, wi3, wn2, wn3, i0, j0, i2, j2, i3, j3⟩ := fxR n k1 k2 k3 k4 _ hn.out
  go_upto_region 12 with fail
  refine RS.wp_region_flat (Sr w [Hm.W4 (w.heap.size + 1 + 1) y, Hm.W4 (w.heap.size + 1) x, Hm.W4 w.heap.size a] ga n k1 k2 k3 (e0, V, c0) (0, V1, c1) (0, x, 0) (e3, V, c3)) 27 (by kernel_rfl) (S8.out) ?_
  simp only [List.take_succ_cons, List.take_zero, List.drop_succ_cons, List.drop_zero]
  refine RS.go1 (v := ?_) (a' := ?_) rfl ?_ ?_ ?_
  rotate_left 2
  · intro K wx hS hK
    refine RW.ld rfl rfl (hS.hd.ok (Hm.W4 (w.heap.size) (a)) (by simp)).c ?_
    exact hK _ hS
  · simp only [Act.put, List.setIfInBounds_toArray, List.set_cons_succ, List.set_cons_zero]
    rfl
  refine RS.go1 (v := ?_) (a' := ?_) rfl ?_ ?_ ?_
  rotate_left 2
  · intro K wx hS hK
    refine RW.ld rfl rfl (hS.hd.ok (Hm.W4 (w.heap.size + 1 + 1) (y)) (by simp)).c ?_
    exact hK _ hS
  · simp only [Act.put, List.setIfInBounds_toArray, List.set_cons_succ, List.set_cons_zero]
    rfl
  refine RS.go1 (v := ?_) (a' := ?_) rfl ?_ ?_ ?_
  rotate_left 2
  · intro K wx hS hK
    go_simp
    refine (KC1.out wx).mono (fun e w2 he => ?_)
    refine ⟨_, he.1, ?_⟩
    exact hK _ (Sr_below hS he.2)
  · simp only [Act.put, List.setIfInBounds_toArray, List.set_cons_succ, List.set_cons_zero]
    rfl
  refine RS.go1 (v := ?_) (a' := ?_) rfl ?_ ?_ ?_
  rotate_left 2
  · intro K wx hS hK
    go_simp
    exact hK _ hS
  · simp only [Act.put, List.setIfInBounds_toArray, List.set_cons_succ, List.set_cons_zero]
    rfl
  refine RS.go1 (v := ?_) (a' := ?_) rfl ?_ ?_ ?_
  rotate_left 2
  · intro K wx hS hK
    go_simp
    exact hK _ hS
  · simp only [Act.put, List.setIfInBounds_toArray, List.set_cons_succ, List.set_cons_zero]
    rfl
  refine RS.go1g (v := ?_) (a' := ?_) (by kernel_rfl) ?_ ?_ ?_
  rotate_left 2
  · intro K wx hS hK
    refine RW.ld rfl rfl (hS.hd.ok (Hm.W4 (w.heap.size) (a)) (by simp)).c ?_
    exact hK _ hS
  · simp only [Act.put, List.setIfInBounds_toArray, List.set_cons_succ, List.set_cons_zero]
    rfl
  refine RS.go1g (v := ?_) (a' := ?_) (by kernel_rfl) ?_ ?_ ?_
  rotate_left 2
  · intro K wx hS hK
    refine RW.ld rfl rfl (hS.hd.ok (Hm.W4 (w.heap.size + 1 + 1) (y)) (by simp)).c ?_
    exact hK _ hS
  · simp only [Act.put, List.setIfInBounds_toArray, List.set_cons_succ, List.set_cons_zero]
    rfl
  refine RS.go1g (v := ?_) (a' := ?_) (by kernel_rfl) ?_ ?_ ?_
  rotate_left 2
  · intro K wx hS hK
    go_simp
    refine (KS1.out wx).mono (fun e w2 he => ?_)
    refine ⟨_, he.1, ?_⟩
    exact hK _ (Sr_below hS he.2)
  · simp only [Act.put, List.setIfInBounds_toArray, List.set_cons_succ, List.set_cons_zero]
    rfl
  refine RS.go1g (v := ?_) (a' := ?_) (by kernel_rfl) ?_ ?_ ?_
  rotate_left 2
  · intro K wx hS hK
    go_simp
    refine (KI.out wx).mono (fun e w2 he => ?_)
    refine ⟨_, he.1, ?_⟩
    exact hK _ (Sr_below hS he.2)
  · simp only [Act.put, List.setIfInBounds_toArray, List.set_cons_succ, List.set_cons_zero]
    rfl
  refine RS.go1g (v := ?_) (a' := ?_) (by kernel_rfl) ?_ ?_ ?_
  rotate_left 2
  · intro K wx hS hK
    go_simp
    refine (KC2.out wx).mono (fun e w2 he => ?_)
    refine ⟨_, he.1, ?_⟩
    exact hK _ (Sr_below hS he.2)
  · simp only [Act.put, List.setIfInBounds_toArray, List.set_cons_succ, List.set_cons_zero]
    rfl
  refine RS.go1g (v := ?_) (a' := ?_) (by kernel_rfl) ?_ ?_ ?_
  rotate_left 2
  · intro K wx hS hK
    go_simp
    exact hK _ hS
  · simp only [Act.put, List.setIfInBounds_toArray, List.set_cons_succ, List.set_cons_zero]
    rfl
  refine RS.go1 (v := ?_) (a' := ?_) rfl ?_ ?_ ?_
  rotate_left 2
  · intro K wx hS hK
    go_simp
    exact hK _ hS
  · simp only [Act.put, List.setIfInBounds_toArray, List.set_cons_succ, List.set_cons_zero]
    rfl
  refine RS.go1 (v := ?_) (a' := ?_) rfl ?_ ?_ ?_
  rotate_left 2
  · intro K wx hS hK
    go_simp
    exact hK _ hS
  · simp only [Act.put, List.setIfInBounds_toArray, List.set_cons_succ, List.set_cons_zero]
    rfl
  refine RS.go0 (a' := ?_) (by kernel_rfl) ?_ ?_
  rotate_left 1
  · simp only [Act.put, List.setIfInBounds_toArray, List.set_cons_succ, List.set_cons_zero]
    rfl
  refine RS.go0 (a' := ?_) (by kernel_rfl) ?_ ?_
  rotate_left 1
  · simp only [Act.put, List.setIfInBounds_toArray, List.set_cons_succ, List.set_cons_zero]
    rfl
  refine RS.go0 (a' := ?_) (by kernel_rfl) ?_ ?_
  rotate_left 1
  · simp only [Act.put, List.setIfInBounds_toArray, List.set_cons_succ, List.set_cons_zero]
    rfl
  refine RS.go0 (a' := ?_) (by kernel_rfl) ?_ ?_
  rotate_left 1
  · simp only [Act.put, List.setIfInBounds_toArray, List.set_cons_succ, List.set_cons_zero]
    rfl
  refine RS.go0 (a' := ?_) (by kernel_rfl) ?_ ?_
  rotate_left 1
  · simp only [Act.put, List.setIfInBounds_toArray, List.set_cons_succ, List.set_cons_zero]
    rfl
  refine RS.go0 (a' := ?_) (by kernel_rfl) ?_ ?_
  rotate_left 1
  · simp only [Act.put, List.setIfInBounds_toArray, List.set_cons_succ, List.set_cons_zero]
    rfl
  refine RS.go0 (a' := ?_) (by kernel_rfl) ?_ ?_
  rotate_left 1
  · simp only [Act.put, List.setIfInBounds_toArray, List.set_cons_succ, List.set_cons_zero]
    rfl
  refine RS.go0 (a' := ?_) (by kernel_rfl) ?_ ?_
  rotate_left 1
  · simp only [Act.put, List.setIfInBounds_toArray, List.set_cons_succ, List.set_cons_zero]
    rfl
  refine RS.go0 (a' := ?_) (by kernel_rfl) ?_ ?_
  rotate_left 1
  · simp only [Act.put, List.setIfInBounds_toArray, List.set_cons_succ, List.set_cons_zero]
    rfl
  refine RS.go0 (a' := ?_) (by kernel_rfl) ?_ ?_
  rotate_left 1
  · simp only [Act.put, List.setIfInBounds_toArray, List.set_cons_succ, List.set_cons_zero]
    rfl
  refine RS.go0 (a' := ?_) (by kernel_rfl) ?_ ?_
  rotate_left 1
  · simp only [Act.put, List.setIfInBounds_toArray, List.set_cons_succ, List.set_cons_zero]
    rfl
  refine RS.go0 (a' := ?_) (by kernel_rfl) ?_ ?_
  rotate_left 1
  · simp only [Act.put, List.setIfInBounds_toArray, List.set_cons_succ, List.set_cons_zero]
    rfl
  refine RS.go1 (v := ?_) (a' := ?_) rfl ?_ ?_ ?_
  rotate_left 2
  · intro K wx hS hK
    go_simp
    exact hK _ hS
  · simp only [Act.put, List.setIfInBounds_toArray, List.set_cons_succ, List.set_cons_zero]
    rfl
  refine RS.go1 (v := ?_) (a' := ?_) rfl ?_ ?_ ?_
  rotate_left 2
  · intro K wx hS hK
    go_simp
    exact hK _ hS
  · simp only [Act.put, List.setIfInBounds_toArray, List.set_cons_succ, List.set_cons_zero]
    rfl
  refine RS.go_end ?_
  intro w10 h10
  have S10 : Hid _ := h10
  clear h10 S8
  generalize Wd a = Jb
  generalize Wd y = Jc
  go_upto_region 13 with fail
  refine RS.wp_region_one (Sr w [Hm.W4 (w.heap.size + 1 + 1) y, Hm.W4 (w.heap.size + 1) x, Hm.W4 w.heap.size a] ga n k1 k2 k3 (e0, V, c0) (0, V1, c1) (0, x, 0) (e3, V, c3)) (by kernel_rfl) (by kernel_rfl) (Sr_below S10.out (Below.refl _ _).drew) ?_
  dsimp only [List.toList_toArray]
  refine RS.go1 (v := ?_) (a' := ?_) rfl ?_ ?_ ?_
  rotate_left 2
  · intro K wx hS hK
    go_simp
    exact hK _ hS
  · simp only [Act.put, List.setIfInBounds_toArray, List.set_cons_succ, List.set_cons_zero]
    rfl
  refine RS.go1 (v := ?_) (a' := ?_) rfl ?_ ?_ ?_
  rotate_left 2
  · intro K wx hS hK
    go_simp
    exact hK _ hS
  · simp only [Act.put, List.setIfInBounds_toArray, List.set_cons_succ, List.set_cons_zero]
    rfl
  refine RS.go1 (v := ?_) (a' := ?_) rfl ?_ ?_ ?_
  rotate_left 2
  · intro K wx hS hK
    go_simp
    exact hK _ hS
  · simp only [Act.put, List.setIfInBounds_toArray, List.set_cons_succ, List.set_cons_zero]
    rfl
  refine RS.go1 (v := ?_) (a' := ?_) rfl ?_ ?_ ?_
  rotate_left 2
  · intro K wx hS hK
    go_simp
    exact hK _ hS
  · simp only [Act.put, List.setIfInBounds_toArray, List.set_cons_succ, List.set_cons_zero]
    rfl
  refine RS.go1 (v := ?_) (a' := ?_) rfl ?_ ?_ ?_
  rotate_left 2
  · intro K wx hS hK
    refine ldA (x := (0, x, 0)) (b := k2 * 6) rfl rfl hS.c2 ?_
    exact hK _ hS
  · simp only [Act.put, List.setIfInBounds_toArray, List.set_cons_succ, List.set_cons_zero]
    rfl
  refine RS.go1 (v := ?_) (a' := ?_) rfl ?_ ?_ ?_
  rotate_left 2
  · intro K wx hS hK
    refine RW.ld rfl rfl (hS.hd.ok (Hm.W4 (w.heap.size + 1) (x)) (by simp)).c ?_
    exact hK _ hS
  · simp only [Act.put, List.setIfInBounds_toArray, List.set_cons_succ, List.set_cons_zero]
    rfl
  refine RS.go1 (v := ?_) (a' := ?_) rfl ?_ ?_ ?_
  rotate_left 2
  · intro K wx hS hK
    unfold Wd
    go_simp
    exact hK _ hS
  · simp only [Act.put, List.setIfInBounds_toArray, List.set_cons_succ, List.set_cons_zero]
    rfl
  refine RS.go1 (v := ?_) (a' := ?_) rfl ?_ ?_ ?_
  rotate_left 2
  · intro K wx hS hK
    refine eqAo (x := (0, x, 0)) (y := (0, x, 0)) (b := true) rfl rfl rfl (by simp [sa]) ?_
    exact hK _ hS
  · simp only [Act.put, List.setIfInBounds_toArray, List.set_cons_succ, List.set_cons_zero]
    rfl
  refine RS.go1 (v := ?_) (a' := ?_) rfl ?_ ?_ ?_
  rotate_left 2
  · intro K wx hS hK
    go_simp
    exact hK _ hS
  · simp only [Act.put, List.setIfInBounds_toArray, List.set_cons_succ, List.set_cons_zero]
    rfl
  refine RS.go1g (v := ?_) (a' := ?_) (by kernel_rfl) ?_ ?_ ?_
  rotate_left 2
  · intro K wx hS hK
    go_simp
    exact hK _ hS
  · simp only [Act.put, List.setIfInBounds_toArray, List.set_cons_succ, List.set_cons_zero]
    rfl
  refine RS.go1g (v := ?_) (a' := ?_) (by kernel_rfl) ?_ ?_ ?_
  rotate_left 2
  · intro K wx hS hK
    go_simp
    exact hK _ hS
  · simp only [Act.put, List.setIfInBounds_toArray, List.set_cons_succ, List.set_cons_zero]
    rfl
  refine RS.go1g (v := ?_) (a' := ?_) (by kernel_rfl) ?_ ?_ ?_
  rotate_left 2
  · intro K wx hS hK
    go_simp
    exact hK _ hS
  · simp only [Act.put, List.setIfInBounds_toArray, List.set_cons_succ, List.set_cons_zero]
    rfl
  refine RS.go1g (v := ?_) (a' := ?_) (by kernel_rfl) ?_ ?_ ?_
  rotate_left 2
  · intro K wx hS hK
    go_simp
    exact hK _ hS
  · simp only [Act.put, List.setIfInBounds_toArray, List.set_cons_succ, List.set_cons_zero]
    rfl
  refine RS.go1g (v := ?_) (a' := ?_) (by kernel_rfl) ?_ ?_ ?_
  rotate_left 2
  · intro K wx hS hK
    go_simp
    exact hK _ hS
  · simp only [Act.put, List.setIfInBounds_toArray, List.set_cons_succ, List.set_cons_zero]
    rfl
  refine RS.go1g (v := ?_) (a' := ?_) (by kernel_rfl) ?_ ?_ ?_
  rotate_left 2
  · intro K wx hS hK
    go_simp
    exact hK _ hS
  · simp only [Act.put, List.setIfInBounds_toArray, List.set_cons_succ, List.set_cons_zero]
    rfl
  refine RS.go1g (v := ?_) (a' := ?_) (by kernel_rfl) ?_ ?_ ?_
  rotate_left 2
  · intro K wx hS hK
    go_simp
    exact hK _ hS
  · simp only [Act.put, List.setIfInBounds_toArray, List.set_cons_succ, List.set_cons_zero]
    rfl
  refine RS.go1g (v := ?_) (a' := ?_) (by kernel_rfl) ?_ ?_ ?_
  rotate_left 2
  · intro K wx hS hK
    go_simp
    exact hK _ hS
  · simp only [Act.put, List.setIfInBounds_toArray, List.set_cons_succ, List.set_cons_zero]
    rfl
  refine RS.go1g (v := ?_) (a' := ?_) (by kernel_rfl) ?_ ?_ ?_
  rotate_left 2
  · intro K wx hS hK
    refine ldAw (x := (e3, V, c3)) (b := k3 * 6) rfl rfl hS.c3 ?_
    exact hK _ hS
  · simp only [Act.put, List.setIfInBounds_toArray, List.set_cons_succ, List.set_cons_zero]
    rfl
  refine RS.go1g (v := ?_) (a' := ?_) (by kernel_rfl) ?_ ?_ ?_
  rotate_left 2
  · intro K wx hS hK
    go_simp
    exact hK _ hS
  · simp only [Act.put, List.setIfInBounds_toArray, List.set_cons_succ, List.set_cons_zero]
    rfl
  refine RS.go1g (v := ?_) (a' := ?_) (by kernel_rfl) ?_ ?_ ?_
  rotate_left 2
  · intro K wx hS hK
    go_simp
    exact hK _ hS
  · simp only [Act.put, List.setIfInBounds_toArray, List.set_cons_succ, List.set_cons_zero]
    rfl
  refine RS.go1g (v := ?_) (a' := ?_) (by kernel_rfl) ?_ ?_ ?_
  rotate_left 2
  · intro K wx hS hK
    go_simp
    exact hK _ hS
  · simp only [Act.put, List.setIfInBounds_toArray, List.set_cons_succ, List.set_cons_zero]
    rfl
  refine RS.go1g (v := ?_) (a' := ?_) (by kernel_rfl) ?_ ?_ ?_
  rotate_left 2
  · intro K wx hS hK
    go_simp
    exact hK _ hS
  · simp only [Act.put, List.setIfInBounds_toArray, List.set_cons_succ, List.set_cons_zero]
    rfl
  refine RS.go1g (v := ?_) (a' := ?_) (by kernel_rfl) ?_ ?_ ?_
  rotate_left 2
  · intro K wx hS hK
    refine ldAw (x := (e0, V, c0)) (b := n * 6) rfl rfl hS.c0 ?_
    exact hK _ hS
  · simp only [Act.put, List.setIfInBounds_toArray, List.set_cons_succ, List.set_cons_zero]
    rfl
  refine RS.go1g (v := ?_) (a' := ?_) (by kernel_rfl) ?_ ?_ ?_
  rotate_left 2
  · intro K wx hS hK
    refine RW.eq (x := V) (y := V) (b := true) rfl rfl rfl (by simp) ?_
    exact hK _ hS
  · simp only [Act.put, List.setIfInBounds_toArray, List.set_cons_succ, List.set_cons_zero]
    rfl
  refine RS.go1g (v := ?_) (a' := ?_) (by kernel_rfl) ?_ ?_ ?_
  rotate_left 2
  · intro K wx hS hK
    go_simp
    exact hK _ hS
  · simp only [Act.put, List.setIfInBounds_toArray, List.set_cons_succ, List.set_cons_zero]
    rfl
  refine RS.go1 (v := ?_) (a' := ?_) rfl ?_ ?_ ?_
  rotate_left 2
  · intro K wx hS hK
    go_simp
    exact hK _ hS
  · simp only [Act.put, List.setIfInBounds_toArray, List.set_cons_succ, List.set_cons_zero]
    rfl
  refine RS.go1 (v := ?_) (a' := ?_) rfl ?_ ?_ ?_
  rotate_left 2
  · intro K wx hS hK
    go_simp
    exact hK _ hS
  · simp only [Act.put, List.setIfInBounds_toArray, List.set_cons_succ, List.set_cons_zero]
    rfl
  refine RS.go_end ?_
  intro w9 h9
  have H9 : Hid (Below w.heap.size w w9) := h9.hd.bel
  clear h9
  go_wp2
  go_ret
  exact ⟨rfl, H9.out⟩
end Mm
end Go.Proofs.Ytcpgcdffienobaa
